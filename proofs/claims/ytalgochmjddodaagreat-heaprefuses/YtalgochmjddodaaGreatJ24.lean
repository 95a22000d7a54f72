/- Joined: Mj22, Mj23, Mj24, Mj25, Mk1, Mk2. -/
import Derived.Test.YtalgochmjddodaaGreatJ23
import Derived.Test.YtalgochmjddodaaGreatJ15
import Derived.Test.YtalgochmjddodaaGreatJ12
import Derived.Test.YtalgochmjddodaaGreatJ16
import Derived.Lib.SliceRun
namespace Go.Proofs.YtalgochmjddodaaGreat
open Go.RowKit W Kp Stl
def Jk.slS (s : Js) (t : Jk × Int) (a : Int) : Jk × Int := (t.1.mov (s.f a).toNat a.toNat (1 + (pf (t.1.ld a)).toNat), t.2 + (1 + pf (t.1.ld a)))
def Jk.slL (k : Jk) (s : Js) (l : List Int) : Jk × Int := ejL (fun _ a => s.f a) (Jk.slS s) (k, 0) l
def Jk.cpL (k : Jk) (s : Js) (l : List Int) : Jk := ejL (fun (_ : Jk) a => s.f a) (fun k a => k.cop a) k l
def Jk.cdc (k : Jk) : Jk := { k with s := { k.s with M := [] } }
def Jk.sl1 (k : Jk) (s : Js) : Jk := (k.slL s k.G).1.ar (k.slL s k.G).1.s.y (k.slL s k.G).2.toNat (k.slL s k.G).1.s.ws
def Jk.sl2 (k : Jk) (s : Js) : Jk := (k.sl1 s).cpL s k.Y
def Jk.sl (k : Jk) (s : Js) : Jk := ((k.sl2 s).ar 0 (k.sl2 s).s.g (k.sl2 s).s.ws).cdc
theorem ent_sl1 : Ent 163 := ent_of Tryz.func163 (by kernel_rfl) rfl
theorem ent_sl2 : Ent 166 := ent_of Tryz.func166 (by kernel_rfl) rfl
section
variable {c : Jc} {k0 k : Jk} {vt ve vr : Value} {F : Nat -> Prop} {s : Js} {w : World} {bp bn : Nat}
theorem mt_cutA (h : (mtO c k0 s vt ve).J F k w) (n : Int) (h0 : 0 <= n) (h1 : n <= k0.a.O) : Calls Tryz.prog 165 #[.pointer (some ⟨k0.a.p, 0, none⟩), .int .i64 n] w fun e w' => ∃ F', e = .returned (.tuple #[]) /\ (mtO c k0 s vt ve).J F' (k.ar k.s.y n.toNat k.s.ws) w' /\ Tn F w F' w' := by
 obtain ⟨h, ea, eY, eG⟩ := h
 obtain ⟨hA, hU⟩ := mj_ar h
 have P := cut_any n w hA h0 (by rw [ea]; exact h1)
 rw [<- ea]
 refine P.mono ?_
 rintro e w2 ⟨rfl, hA2, hs2⟩
 obtain ⟨F2, h2, t2⟩ := hU w2 _ _ _ hA2 hs2
 exact ⟨F2, rfl, ⟨h2, ea, eY, eG⟩, t2⟩
theorem mt_clear (h : (mtO c k0 s vt ve).J F k w) : Calls Tryz.prog 67 #[.pointer (some ⟨k0.a.p, 0, none⟩)] w fun e w' => ∃ F', e = .returned (.tuple #[]) /\ (mtO c k0 s vt ve).J F' (k.ar 0 k.s.g k.s.ws) w' /\ Tn F w F' w' := by
 obtain ⟨h, ea, eY, eG⟩ := h
 obtain ⟨hA, hU⟩ := mj_ar h
 have P := clear_any w hA
 rw [<- ea]
 refine P.mono ?_
 rintro e w2 ⟨rfl, hA2, hs2⟩
 obtain ⟨F2, h2, t2⟩ := hU w2 _ _ _ hA2 hs2
 exact ⟨F2, rfl, ⟨h2, ea, eY, eG⟩, t2⟩
theorem mt_cards (h : (mtO c k0 s vt ve).J F k w) : w.cell? ⟨k0.a.pw, 1, none⟩ = some (.pointer (some ⟨k0.a.pc, 0, none⟩)) /\ Calls Tryz.prog 68 #[.pointer (some ⟨k0.a.pc, 0, none⟩)] w fun e w' => ∃ F', e = .returned (.tuple #[]) /\ (mtO c k0 s vt ve).J F' k.cdc w' /\ Tn F w F' w' := by
 obtain ⟨h, ea, eY, eG⟩ := h
 obtain ⟨FW, g1, g2⟩ := mj_turn h
 obtain ⟨_, c1, _⟩ := wod_cells g1
 obtain ⟨pq, hc, hU⟩ := wod_cards g1
 have P := clearC_any w hc.hp
 rw [ea] at c1 P
 refine ⟨c1, P.mono ?_⟩
 rintro e w2 ⟨rfl, hC2, hs2⟩
 rw [<- ea] at hC2 hs2
 obtain ⟨F1, j1, t1⟩ := hU w2 _ _ hC2 ⟨hs2.os, hs2.tape, hs2.output, hs2.size, fun b hb h1 _ => hs2.block b hb h1 h1⟩ (Or.inr (Nat.le_refl _))
 obtain ⟨F2, j2, t2⟩ := g2 _ _ _ j1 t1
 exact ⟨F2, rfl, ⟨j2, ea, eY, eG⟩, t2⟩
theorem mt_lists (h : (mtO c k0 s vt ve).J F k w) : w.cell? ⟨c.pk, 1, none⟩ = some c.yv /\ w.cell? ⟨c.pk, 2, none⟩ = some c.ov /\ w.ownsRow 0 3 1 c.yv k0.Y.length (k0.Y.map (Value.int .i64)) /\ w.ownsRow 0 3 1 c.ov k0.G.length (k0.G.map (Value.int .i64)) := by
 obtain ⟨h, ea, eY, eG⟩ := h
 obtain ⟨_, d1, d2, _⟩ := mj_cells h
 obtain ⟨y, g⟩ := mj_things h
 rw [eY] at y
 rw [eG] at g
 exact ⟨d1, d2, y, g⟩
def SlG (k0 : Jk) (s : Js) (G : Nat -> Jk × Int -> Prop) : Prop :=
 (∀ j t, j < k0.G.length -> G j t -> s.f (k0.G.getD j 0) ≠ -1 -> 0 <= s.f (k0.G.getD j 0) /\ s.f (k0.G.getD j 0) + (1 + pf (t.1.ld (k0.G.getD j 0))) <= k0.a.N + k0.a.O /\ k0.G.getD j 0 + (1 + pf (t.1.ld (k0.G.getD j 0))) <= k0.a.N + k0.a.O /\ 0 <= t.2 /\ t.2 <= 100000) /\
 (∀ j t, j < k0.G.length -> G j t -> G (j + 1) (ejS (fun _ a => s.f a) (Jk.slS s) t (k0.G.getD j 0))) /\ (∀ t, G k0.G.length t -> 0 <= t.2 /\ t.2 <= k0.a.O)
theorem slideE1_any {G : Nat -> Jk × Int -> Prop} (hG : SlG k0 s G) {t : Jk × Int} (h0 : G 0 t) (h : (obN (obX (mtO c k0 s vt ve) bp (boxJ c)) bn).J F t w) (hl : k0.G.length <= 4000) (hp : ∀ a ∈ k0.G, 0 <= a /\ a <= 2000) {ad : Option Addr} {d : Nat} (hv : c.ov = .slice ad k0.G.length d) :
  Calls Tryz.prog 159 #[.pointer (some ⟨c.pk, 0, none⟩), .slice ad k0.G.length d, .func (.func 163) #[] #[.pointer (some ⟨bp, 0, none⟩), .pointer (some ⟨bn, 0, none⟩)]] w fun e w' => ∃ F', e = .returned (.tuple #[]) /\ (obN (obX (mtO c k0 s vt ve) bp (boxJ c)) bn).J F' (ejL (fun _ a => s.f a) (Jk.slS s) t k0.G) w' /\ Tn F w F' w' /\ G k0.G.length (ejL (fun _ a => s.f a) (Jk.slS s) t k0.G) := by
 have hT : ∀ a ∈ k0.G, a ∈ k0.T := fun a ha => List.mem_append.2 (Or.inl ha)
 refine eachJ0_any (obN (obX (mtO c k0 s vt ve) bp (boxJ c)) bn) (fun _ a => s.f a) (fun t a => pf (t.1.ld a)) (Jk.slS s) G k0.T c.pk k0.a.pw k0.a.p c.mq 163 #[.pointer (some ⟨bp, 0, none⟩), .pointer (some ⟨bn, 0, none⟩)] ent_sl1 k0.G ad d F t w
  (by
   rintro F t w9 a h9
   obtain ⟨_, h8, _⟩ := obN_in h9
   obtain ⟨_, h1, _⟩ := obX_in h8
   have ea : t.1.a = k0.a := h1.2.1
   obtain ⟨c0, c3, c5, hM, hA⟩ := mt_cells h1
   refine ⟨c0, c3, c5, hM, (thing_any a w9 hA).mono ?_⟩
   rintro r w' ⟨rfl, hb⟩
   have el : pf (t.1.ld a) = pf (ld k0.a.N t.1.s.y t.1.s.g t.1.s.ws a) := by unfold Jk.ld; rw [ea]
   exact ⟨pk (ld k0.a.N t.1.s.y t.1.s.g t.1.s.ws a), pc (ld k0.a.N t.1.s.y t.1.s.g t.1.s.ws a), by rw [el], hb⟩)
  (fun t a => pf_bd _) (fun a ha => ⟨by have := hp a ha; omega, hT a ha⟩) (by omega)
  (by
   rintro j F t w9 hj hg hJ hf
   have hm : k0.G.getD j 0 ∈ k0.G := by rw [List.getD_eq_getElem?_getD, List.getElem?_eq_getElem hj]; exact List.getElem_mem hj
   have h1 := hp _ hm
   have h2 := pf_bd (t.1.ld (k0.G.getD j 0))
   obtain ⟨a1, a2, a3, a4, a5⟩ := hG.1 j t hj hg hf
   have e1 : ((1 + (pf (t.1.ld (k0.G.getD j 0))).toNat : Nat) : Int) = 1 + pf (t.1.ld (k0.G.getD j 0)) := by omega
   have P := slide1J_any (k := t.1) (u := t.2) hJ (k0.G.getD j 0) (1 + (pf (t.1.ld (k0.G.getD j 0))).toNat) (hT _ hm) h1 a1 (by rw [e1]; exact a2) (by rw [e1]; exact a3) ⟨a4, a5⟩ (by omega)
   rw [e1] at P
   exact P)
  hG.2.1 h0 h (fun F' t' w' hJ _ => ?_)
 obtain ⟨_, h8, _⟩ := obN_in hJ
 obtain ⟨_, h1, _⟩ := obX_in h8
 have hr := (mt_lists h1).2.2.2
 rw [hv] at hr
 exact row_ints hr
theorem slideE2_any (h : (obX (mtO c k0 s vt ve) bp (boxJ c)).J F k w) (hl : k0.Y.length <= 4000) (hp : ∀ a ∈ k0.Y, 0 <= a /\ a <= 2000) {ad : Option Addr} {d : Nat} (hv : c.yv = .slice ad k0.Y.length d) :
  Calls Tryz.prog 159 #[.pointer (some ⟨c.pk, 0, none⟩), .slice ad k0.Y.length d, .func (.func 166) #[] #[.pointer (some ⟨bp, 0, none⟩)]] w fun e w' => ∃ F', e = .returned (.tuple #[]) /\ (obX (mtO c k0 s vt ve) bp (boxJ c)).J F' (k.cpL s k0.Y) w' /\ Tn F w F' w' := by
 have hT : ∀ a ∈ k0.Y, a ∈ k0.T := fun a ha => List.mem_append.2 (Or.inr ha)
 have E := eachJ0_any (obX (mtO c k0 s vt ve) bp (boxJ c)) (fun (_ : Jk) a => s.f a) (fun t a => pf (t.ld a)) (fun k a => k.cop a) (fun _ _ => True) k0.T c.pk k0.a.pw k0.a.p c.mq 166 #[.pointer (some ⟨bp, 0, none⟩)] ent_sl2 k0.Y ad d F k w
  (by
   rintro F t w9 a h9
   obtain ⟨_, h1, _⟩ := obX_in h9
   have ea : t.a = k0.a := h1.2.1
   obtain ⟨c0, c3, c5, hM, hA⟩ := mt_cells h1
   refine ⟨c0, c3, c5, hM, (thing_any a w9 hA).mono ?_⟩
   rintro r w' ⟨rfl, hb⟩
   have el : pf (t.ld a) = pf (ld k0.a.N t.s.y t.s.g t.s.ws a) := by unfold Jk.ld; rw [ea]
   exact ⟨pk (ld k0.a.N t.s.y t.s.g t.s.ws a), pc (ld k0.a.N t.s.y t.s.g t.s.ws a), by rw [el], hb⟩)
  (fun t a => pf_bd _) (fun a ha => ⟨by have := hp a ha; omega, hT a ha⟩) (by omega)
  (fun j F t w9 _ _ hJ _ => slide2J_any hJ _ _)
  (fun _ _ _ _ => trivial) trivial h (fun F' t' w' hJ _ => by
   obtain ⟨_, h1, _⟩ := obX_in hJ
   have hr := (mt_lists h1).2.2.1
   rw [hv] at hr
   exact row_ints hr)
 refine E.mono ?_
 rintro r w' ⟨F', rfl, h1, h2, _⟩
 exact ⟨F', rfl, h1, h2⟩
end
end Go.Proofs.YtalgochmjddodaaGreat

namespace Go.Proofs.YtalgochmjddodaaGreat
set_option maxRecDepth 100000
set_option maxHeartbeats 4000000
open Go.RowKit W Kp Stl
theorem Tn.less {X F F' : Nat -> Prop} {w w' : World} (h : Tn X w F w') (hs : ∀ b, F' b -> F b) : Tn X w F' w' := ⟨h.fr, fun b d => h.sub b (hs b d)⟩
theorem obX_in2 {τ : Type} {o : Ob τ} {bx : Nat} {x : Obj} {F : Nat -> Prop} {w : World} {t : τ} (h : (obX o bx x).J F t w) : ∃ F0, o.J F0 t w /\ w.heap[bx]? = some x /\ bx < w.heap.size /\ (∀ F1 t1 w1, o.J F1 t1 w1 -> Tn F0 w F1 w1 -> (obX o bx x).J (fun b => F1 b \/ b = bx) t1 w1 /\ Tn F w (fun b => F1 b \/ b = bx) w1) /\ ∀ b, F0 b -> F b := by
 obtain ⟨F0, h, g2, g3, g4⟩ := h
 refine ⟨F0, h, g2, lt_of_some g2, fun F1 t1 w1 h1 hT => ⟨⟨F1, h1, (hT.fr.block bx (lt_of_some g2) g3).trans g2, fun d => (hT.sub bx d).elim g3 (fun d => by have := lt_of_some g2; omega), fun b => Iff.rfl⟩, ⟨hT.fr.mono (fun b hb => (g4 b).2 (Or.inl hb)), fun b hb => ?_⟩⟩, fun b hb => (g4 b).2 (Or.inl hb)⟩
 rcases hb with hb | hb
 ·exact (hT.sub b hb).imp (fun d => (g4 b).2 (Or.inl d)) id
 ·exact Or.inl ((g4 b).2 (Or.inr hb))
section
variable {c : Jc} {k : Jk} {vt ve : Value} {F : Nat -> Prop} {s : Js} {w : World}
theorem slideJ_any {G : Nat -> Jk × Int -> Prop} (hG : SlG k s G) (hg0 : G 0 (k, 0)) (h : (mjV c k vt ve).J F s w) (hl : k.T.length <= 4000) (hp : ∀ a ∈ k.T, 0 <= a /\ a <= 2000) :
  Calls Tryz.prog 80 #[.pointer (some ⟨c.pk, 0, none⟩)] w fun e w' => ∃ F', e = .returned (.tuple #[]) /\ (mjV c (k.sl s) vt ve).J F' s w' /\ Tn F w F' w' := by
 have hmf : ∀ (fn : Fn) (first cap : Array Value) (w : World), (Instr.makeFunc fn first cap).run Tryz.prog w = .ok (.func fn first cap) w := fun _ _ _ _ => rfl
 have hlT : k.T.length = k.G.length + k.Y.length := by unfold Jk.T; rw [List.length_append]
 have HG : Hid (SlG k s G /\ G 0 (k, 0) /\ (∀ a ∈ k.G, 0 <= a /\ a <= 2000) /\ (∀ a ∈ k.Y, 0 <= a /\ a <= 2000) /\ k.G.length <= 4000 /\ k.Y.length <= 4000) := ⟨hG, hg0, fun a ha => hp a (List.mem_append.2 (Or.inl ha)), fun a ha => hp a (List.mem_append.2 (Or.inr ha)), by omega, by omega⟩
 have nF : ∀ b, F b -> b < w.heap.size := (mjV c k vt ve).lt h
 obtain ⟨w0, hw0⟩ : ∃ w0, w.alloc (boxJ c) = w0 := ⟨_, rfl⟩
 have hb0 : Below w.heap.size w w0 := by rw [<- hw0]; exact (Below.refl w.heap.size w).alloc (Nat.le_refl _) (boxJ c)
 have hs0 : w0.heap.size = w.heap.size + 1 := by rw [<- hw0]; simp
 have hx0 : w0.heap[w.heap.size]? = some (boxJ c) := by rw [<- hw0]; exact heap_alloc_new _ _
 obtain ⟨w1, hw1⟩ : ∃ w1, w0.alloc (boxI 0) = w1 := ⟨_, rfl⟩
 have hb1 : Below w0.heap.size w0 w1 := by rw [<- hw1]; exact (Below.refl w0.heap.size w0).alloc (Nat.le_refl _) (boxI 0)
 have hx1 : w1.heap[w0.heap.size]? = some (boxI 0) := by rw [<- hw1]; exact heap_alloc_new _ _
 have hbA : Below w.heap.size w w1 := hb0.trans (hb1.mono (by omega))
 have hJ1 : (mtO c k s vt ve).J F k w1 := ⟨(mjV c k vt ve).below h hbA, rfl, rfl, rfl⟩
 have hX1 : (obX (mtO c k s vt ve) w.heap.size (boxJ c)).J (fun b => F b \/ b = w.heap.size) k w1 := ⟨F, hJ1, (hb1.block _ (by omega)).trans hx0, fun d => by have := nF _ d; omega, fun b => Iff.rfl⟩
 have hN1 : (obN (obX (mtO c k s vt ve) w.heap.size (boxJ c)) (w.heap.size + 1)).J (fun b => (F b \/ b = w.heap.size) \/ b = w.heap.size + 1) (k, 0) w1 := ⟨_, hX1, by rw [<- hs0]; exact hx1, fun d => d.elim (fun d => by have := nF _ d; omega) (fun d => by omega), fun b => Iff.rfl⟩
 have e2 : w.cell? ⟨c.pk, 2, none⟩ = some c.ov := (mj_cells h).2.2.1
 have lk : c.pk < w.heap.size := (mj_cells h).2.2.2.2.2.2.2.2
 obtain ⟨_, d2o, yr, gr⟩ := mt_lists hJ1
 obtain ⟨ya, yc, ey⟩ := row_slice yr
 obtain ⟨ga, gc, eg⟩ := row_slice gr
 have d2 : w1.cell? ⟨c.pk, 2, none⟩ = some (.slice ga k.G.length gc) := by rw [d2o, eg]
 clear d2o
 rw [eg] at e2
 have EY : Hid (c.yv = .slice ya k.Y.length yc) := ey
 have EG : Hid (c.ov = .slice ga k.G.length gc) := eg
 have x0 : w1.cell? ⟨w.heap.size, 0, none⟩ = some (.pointer (some ⟨c.pk, 0, none⟩)) := by
  have e : w1.heap[w.heap.size]? = some (boxJ c) := (hb1.block _ (by omega)).trans hx0
  simp [World.cell?, e]
 have hd := (Below.refl w1.heap.size w1).drew
 have HN : Hid (Tn F w (fun b => (F b \/ b = w.heap.size) \/ b = w.heap.size + 1) w1.drew) := ⟨(Fr.of (X := F) hbA).trans (Fr.of (X := F) hd) (fun b d => Or.inl d), fun b d => d.elim (fun d => d.imp id (fun e => by omega)) (fun e => Or.inr (by omega))⟩
 have P1 := slideE1_any HG.out.1 HG.out.2.1 ((obN (obX (mtO c k s vt ve) w.heap.size (boxJ c)) (w.heap.size + 1)).below hN1 hd) HG.out.2.2.2.2.1 HG.out.2.2.1 eg
 obtain ⟨t1, ht1⟩ : ∃ t1, ejL (fun _ a => s.f a) (Jk.slS s) (k, 0) k.G = t1 := ⟨_, rfl⟩
 rw [ht1] at P1
 have HS1 : Hid (k.sl1 s = t1.1.ar t1.1.s.y t1.2.toNat t1.1.s.ws) := by
  show k.sl1 s = _
  unfold Jk.sl1 Jk.slL
  rw [ht1]
 have HE : Hid (k.sl s = ((k.sl2 s).ar 0 (k.sl2 s).s.g (k.sl2 s).s.ws).cdc /\ k.sl2 s = (k.sl1 s).cpL s k.Y) := ⟨rfl, rfl⟩
 generalize k.sl s = k9 at HE ⊢
 generalize k.sl2 s = k3 at HE
 generalize k.sl1 s = k2 at HE HS1
 clear hG hg0 h hb0 hx0 hb1 hx1 hbA hJ1 hX1 hN1 yr gr ey eg hd ht1 nF hp hl hlT hs0
 subst hw1
 subst hw0
 have d2' : ((w.alloc (.cells #[.pointer (some ⟨c.pk, 0, none⟩)] 130 (0, 0))).alloc (.cells #[.int .i64 0] 3 (0, 0))).cell? ⟨c.pk, 2, none⟩ = some (.slice ga k.G.length gc) := d2
 go_enter Tryz.func80, Tryz.ntmps80
 go_wp2_with fail
 go_region_held3 (fun w' => w'.cell? ⟨w.heap.size, 0, none⟩ = some (.pointer (some ⟨c.pk, 0, none⟩)) /\ w'.cell? ⟨c.pk, 2, none⟩ = some (.slice ga k.G.length gc)) (go_keep)
  (first
   | (go_at_call 159; refine P1.mono ?_; clear P1; rintro e w3 ⟨F3, rfl, j3, t3, g3⟩; have H3 : Hid ((obN (obX (mtO c k s vt ve) w.heap.size (boxJ c)) (w.heap.size + 1)).J F3 t1 w3 /\ Tn F w F3 w3 /\ 0 <= t1.2 /\ t1.2 <= k.a.O) := ⟨j3, HN.out.trans t3, HG.out.1.2.2 _ g3⟩; obtain ⟨_, q1, _⟩ := obN_in j3; obtain ⟨_, q2, q3, _⟩ := obX_in q1; obtain ⟨_, y2o, _⟩ := mt_lists q2; have y0 : w3.cell? ⟨w.heap.size, 0, none⟩ = some (.pointer (some ⟨c.pk, 0, none⟩)) := (by simp [World.cell?, q3]); have y2 : w3.cell? ⟨c.pk, 2, none⟩ = some (.slice ga k.G.length gc) := (by rw [y2o, EG.out]); clear y2o j3 t3 g3 q1 q2 q3))
 all_goals
  have HP : Hid (∃ F4, (obX (mtO c k s vt ve) w.heap.size (boxJ c)).J F4 t1.1 w3.drew /\ Tn F w F4 w3.drew /\ ¬ F4 (w.heap.size + 1) /\ w.heap.size + 1 < w3.heap.size) := by
   obtain ⟨F4, j4, j5, j6, j7⟩ := H3.out.1
   exact ⟨F4, (obX (mtO c k s vt ve) w.heap.size (boxJ c)).below j4 (Below.refl _ w3).drew, (H3.out.2.1.less (fun b d => (j7 b).2 (Or.inl d))).below (Below.refl _ w3).drew, j6, lt_of_some j5⟩
  obtain ⟨F4, j4, t4, n4, l4⟩ := HP.out
  obtain ⟨F5, j5, hx5, lb5, U5, i5⟩ := obX_in2 j4
  obtain ⟨v0o, _, v5o, _, _⟩ := mt_cells j5
  have v6 := (obN_cell H3.out.1).1
  have PC := mt_cutA j5 t1.2 H3.out.2.2.1 H3.out.2.2.2
  rw [<- HS1.out] at PC
  have v0 : w3.cell? ⟨c.pk, 0, none⟩ = some (.pointer (some ⟨k.a.pw, 0, none⟩)) := v0o
  have v5 : w3.cell? ⟨k.a.pw, 0, none⟩ = some (.pointer (some ⟨k.a.p, 0, none⟩)) := v5o
  clear v0o v5o
  have HU5 : Hid (∀ F1 t1 w1, (mtO c k s vt ve).J F1 t1 w1 -> Tn F5 w3.drew F1 w1 -> (obX (mtO c k s vt ve) w.heap.size (boxJ c)).J (fun b => F1 b \/ b = w.heap.size) t1 w1 /\ Tn F w (fun b => F1 b \/ b = w.heap.size) w1) := fun F1 t1 w1 h1 h2 => ⟨(U5 F1 t1 w1 h1 h2).1, t4.trans (U5 F1 t1 w1 h1 h2).2⟩
  have l6 : w.heap.size + 1 < w3.heap.size /\ ¬ F5 (w.heap.size + 1) := ⟨l4, fun d => n4 (i5 _ d)⟩
  clear j4 t4 j5 hx5 lb5 U5 HP n4 l4 i5
  go_wp2_with fail
  go_region_held3 (fun w' => w'.cell? ⟨w.heap.size, 0, none⟩ = some (.pointer (some ⟨c.pk, 0, none⟩)) /\ w'.cell? ⟨c.pk, 0, none⟩ = some (.pointer (some ⟨k.a.pw, 0, none⟩)) /\ w'.cell? ⟨k.a.pw, 0, none⟩ = some (.pointer (some ⟨k.a.p, 0, none⟩)) /\ w'.cell? ⟨w.heap.size + 1, 0, none⟩ = some (.int .i64 t1.2)) (go_keep)
   (first
    | (go_at_call 165; refine PC.mono ?_; clear PC; rintro e w4 ⟨F6, rfl, j6, t6⟩; obtain ⟨r0, _, r5, _, _⟩ := mt_cells j6; obtain ⟨j7, t7⟩ := HU5.out F6 _ w4 j6 t6; obtain ⟨_, _, e7, _⟩ := obX_in j7; have r1 : w4.cell? ⟨w.heap.size, 0, none⟩ = some (.pointer (some ⟨c.pk, 0, none⟩)) := (by simp [World.cell?, e7]); have r2 : w4.cell? ⟨w.heap.size + 1, 0, none⟩ = some (.int .i64 t1.2) := (World.cell?_of_block (a := ⟨w.heap.size + 1, 0, none⟩) (t6.fr.block _ (by simpa using l6.1) l6.2)).trans v6; have H7 : Hid ((obX (mtO c k s vt ve) w.heap.size (boxJ c)).J (fun b => F6 b \/ b = w.heap.size) k2 w4 /\ Tn F w (fun b => F6 b \/ b = w.heap.size) w4) := ⟨j7, t7⟩; clear j6 t6 j7 t7 e7))
  all_goals
   clear r5 r2 v0 v5 v6 y0 y2 l6 HU5 H3
   have HP : Hid ((obX (mtO c k s vt ve) w.heap.size (boxJ c)).J (fun b => F6 b \/ b = w.heap.size) k2 w4.drew /\ Tn F w (fun b => F6 b \/ b = w.heap.size) w4.drew) := ⟨(obX (mtO c k s vt ve) w.heap.size (boxJ c)).below H7.out.1 (Below.refl _ w4).drew, H7.out.2.below (Below.refl _ w4).drew⟩
   have PE := slideE2_any HP.out.1 HG.out.2.2.2.2.2 HG.out.2.2.2.1 EY.out
   rw [<- HE.out.2] at PE
   have f1 : w4.cell? ⟨c.pk, 1, none⟩ = some (.slice ya k.Y.length yc) := by
    obtain ⟨_, q2, _⟩ := obX_in H7.out.1
    exact (mt_lists q2).1.trans (by rw [EY.out])
   clear H7 r0
   go_wp2_with fail
   go_region_held3 (fun w' => w'.cell? ⟨w.heap.size, 0, none⟩ = some (.pointer (some ⟨c.pk, 0, none⟩)) /\ w'.cell? ⟨c.pk, 1, none⟩ = some (.slice ya k.Y.length yc)) (go_keep)
    (first
     | (go_at_call 159; refine PE.mono ?_; clear PE; rintro e w5 ⟨F8, rfl, j8, t8⟩; obtain ⟨_, q2, q3, _⟩ := obX_in j8; have m0 : w5.cell? ⟨w.heap.size, 0, none⟩ = some (.pointer (some ⟨c.pk, 0, none⟩)) := (by simp [World.cell?, q3]); have m1 : w5.cell? ⟨c.pk, 1, none⟩ = some (.slice ya k.Y.length yc) := (mt_lists q2).1.trans (by rw [EY.out]); have H8 : Hid ((obX (mtO c k s vt ve) w.heap.size (boxJ c)).J F8 k3 w5 /\ Tn F w F8 w5) := ⟨j8, HP.out.2.trans t8⟩; clear j8 t8 q2 q3))
   all_goals
    clear f1 r1 m1 HP
    obtain ⟨F9, j9, hx9, lb9, U9⟩ := obX_in H8.out.1
    obtain ⟨v0, _, v5, _, _⟩ := mt_cells j9
    have PC := mt_clear j9
    have HU9 : Hid (∀ F1 t1 w1, (mtO c k s vt ve).J F1 t1 w1 -> Tn F9 w5 F1 w1 -> (obX (mtO c k s vt ve) w.heap.size (boxJ c)).J (fun b => F1 b \/ b = w.heap.size) t1 w1 /\ Tn F w (fun b => F1 b \/ b = w.heap.size) w1) := fun F1 t1 w1 h1 h2 => ⟨(U9 F1 t1 w1 h1 h2).1, H8.out.2.trans (U9 F1 t1 w1 h1 h2).2⟩
    clear j9 hx9 lb9 U9 H8
    go_wp2_with fail
    refine PC.mono ?_
    clear PC
    rintro e w6 ⟨F10, rfl, j10, t10⟩
    obtain ⟨j11, t11⟩ := HU9.out F10 _ w6 j10 t10
    obtain ⟨F12, j12, hx12, lb12, U12⟩ := obX_in j11
    have z0 : w6.cell? ⟨w.heap.size, 0, none⟩ = some (.pointer (some ⟨c.pk, 0, none⟩)) := by simp [World.cell?, hx12]
    obtain ⟨z1, _, _, _, _⟩ := mt_cells j12
    obtain ⟨z2, PD⟩ := mt_cards j12
    rw [<- HE.out.1] at PD
    have HU12 : Hid (∀ F1 t1 w1, (mtO c k s vt ve).J F1 t1 w1 -> Tn F12 w6 F1 w1 -> (obX (mtO c k s vt ve) w.heap.size (boxJ c)).J (fun b => F1 b \/ b = w.heap.size) t1 w1 /\ Tn F w (fun b => F1 b \/ b = w.heap.size) w1) := fun F1 t1 w1 h1 h2 => ⟨(U12 F1 t1 w1 h1 h2).1, t11.trans (U12 F1 t1 w1 h1 h2).2⟩
    clear j10 t10 j11 t11 j12 hx12 lb12 U12 HU9 v0 v5 m0
    go_wp2_with fail
    refine PD.mono ?_
    clear PD
    rintro e w7 ⟨F13, rfl, j13, t13⟩
    have HF : Hid ((mjV c k9 vt ve).J F13 s w7 /\ Tn F w F13 w7) := ⟨j13.1, (HU12.out F13 _ w7 j13 t13).2.less (fun b d => Or.inl d)⟩
    clear j13 t13 HU12 z0 z1 z2
    go_wp2_with fail
    go_end0
    exact ⟨F13, rfl, HF.out.1, HF.out.2⟩
end
end Go.Proofs.YtalgochmjddodaaGreat

namespace Go.Proofs.YtalgochmjddodaaGreat
set_option maxRecDepth 100000
set_option maxHeartbeats 400000
open Go.RowKit W Kp Stl
theorem indexFI_any (f : Nat) (c : Array Value) (p : Int -> Bool) (hf : Ent f) (w : World) (l : List Int)
  (hl : ∀ (w' : World) (x : Int), x ∈ l -> Below w.heap.size w w' -> Calls Tryz.prog f (#[.int .i64 x] ++ c) w' fun r w'' => r = .returned (.bool (p x)) /\ Below w'.heap.size w' w'')
  (ad : Option Addr) (cap : Nat) (hm : l.length <= 100000) (hp : Ls w ad l) :
  Calls Tryz.prog 236 #[.slice ad l.length cap, .func (.func f) #[] c] w fun r w' => Below w.heap.size w w' /\ ((r = .returned (.int .i64 (-1)) /\ ∀ e ∈ l, p e = false) \/ ∃ i : Nat, r = .returned (.int .i64 i) /\ i < l.length /\ p (l.getD i 0) = true /\ ∀ e ∈ l.take i, p e = false) := by
 have HL : Hid (∀ (w' : World) (x : Int), x ∈ l -> Below w.heap.size w w' -> Calls Tryz.prog f (#[.int .i64 x] ++ c) w' fun r w'' => r = .returned (.bool (p x)) /\ Below w'.heap.size w' w'') := hl
 have HP : Hid (Ls w ad l) := hp
 have hcf : ∀ (args : Array Value) (w : World), (callFunc f args).run Tryz.prog w = .ok (.enter f args) w := hf
 clear hl hp hf
 go_enter Tryz.func236, Tryz.ntmps236
 go_wp2_with fail
 go_loopw [8] (fun iv wr => ∃ j : Nat, j <= l.length /\ iv = .int .i64 j /\ Hid (∀ e ∈ l.take j, p e = false) /\ Below w.heap.size w wr) (fun iv _ => l.length - (intOf iv).toNat)
 case atStart => exact ⟨0, Nat.zero_le _, rfl, by simp [Hid], Below.refl _ _⟩
 case round =>
  obtain ⟨j, hj, rfl, HE, hb⟩ := hrel
  by_cases hlt : j < l.length
  ·obtain ⟨b0, o0, e0, hb0, hc⟩ := HP.out.below hb (by omega)
   have x1 := hc j hlt
   have hd : l.getD j 0 ∈ l := by rw [List.getD_eq_getElem?_getD, List.getElem?_eq_getElem hlt]; exact List.getElem_mem hlt
   obtain ⟨x, hx⟩ : ∃ x, l.getD j 0 = x := ⟨_, rfl⟩
   have HG : Hid (l.getD j 0 = x) := hx
   rw [hx] at x1 hd
   have P := HL.out wr x hd hb
   clear hc hx hd
   subst e0
   go_wp2_with fail
   refine P.mono ?_
   clear P
   rintro r w1 ⟨rfl, hb1⟩
   have hb2 := hb.trans (hb1.mono hb.size)
   clear hb hb1
   cases hp : p x
   ·have HE' : Hid (∀ e ∈ l.take (j + 1), p e = false) := fun e he => by
     rw [take_snoc l j hlt 0, List.mem_append, List.mem_singleton] at he
     rcases he with he | he
     ·exact HE.out e he
     ·rw [he, HG.out]; exact hp
    clear hp
    go_wp2_with fail
    go_roundw
    case rel => exact ⟨j + 1, by omega, by go_num, HE', hb2⟩
    case measure => simp [intOf]; omega
   ·have HPt : Hid (p (l.getD j 0) = true) := by show _ = _; rw [HG.out]; exact hp
    clear hp
    go_wp2_with fail
    go_ret
    exact ⟨hb2, Or.inr ⟨j, rfl, hlt, HPt.out, HE.out⟩⟩
  ·obtain rfl : j = l.length := by omega
   rw [List.take_length] at HE
   go_wp2_with fail
   go_ret
   exact ⟨hb, Or.inl ⟨rfl, HE.out⟩⟩
theorem ent_wh1 : Ent 214 := ent_of Tryz.func214 (by kernel_rfl) rfl
theorem whole1J_any {pk pw p q N O y g bx be : Nat} {ws : List Int} {e : Int} (w : World) (hA : At w p q N O y g ws) (c0 : w.cell? ⟨bx, 0, none⟩ = some (.pointer (some ⟨pk, 0, none⟩))) (c1 : w.cell? ⟨pk, 0, none⟩ = some (.pointer (some ⟨pw, 0, none⟩))) (c2 : w.cell? ⟨pw, 0, none⟩ = some (.pointer (some ⟨p, 0, none⟩))) (c3 : w.cell? ⟨be, 0, none⟩ = some (.int .i64 e)) (a : Int) (ha : 0 <= a /\ a <= 100000) :
  Calls Tryz.prog 214 #[.int .i64 a, .pointer (some ⟨bx, 0, none⟩), .pointer (some ⟨be, 0, none⟩)] w fun r w' => r = .returned (.bool (decide (e <= a + pf (ld N y g ws a)))) /\ Below w.heap.size w w' := by
 have P := thing_any a w hA
 have hf := pf_bd (ld N y g ws a)
 have lb := World.block_lt_of_cell? w _ c3
 generalize pf (ld N y g ws a) = m at P hf ⊢
 generalize W.pk (ld N y g ws a) = m1 at P
 generalize pc (ld N y g ws a) = m2 at P
 clear hA
 go_enter Tryz.func214, Tryz.ntmps214
 go_wp2_with fail
 refine P.mono ?_
 clear P
 rintro r w1 ⟨rfl, hb1⟩
 have d3 := (hb1.cell (p := ⟨be, 0, none⟩) lb).trans c3
 clear c0 c1 c2 c3
 go_wp2_with fail
 go_ret
 exact ⟨by first | rfl | (congr 2; simp; done) | (congr 2; simp; omega), hb1⟩
end Go.Proofs.YtalgochmjddodaaGreat

namespace Go.Proofs.YtalgochmjddodaaGreat
set_option maxRecDepth 100000
set_option maxHeartbeats 2000000
open Go.RowKit W Kp Stl
def kpL (p : Int -> Bool) (l : List Int) : List Int := l.filter (fun x => !p x)
theorem kpL_snoc (p : Int -> Bool) (l : List Int) (x : Int) : kpL p (l ++ [x]) = if p x = true then kpL p l else kpL p l ++ [x] := by
 unfold kpL
 rw [List.filter_append]
 cases h : p x <;> simp [h]
theorem kpL_none {p : Int -> Bool} {l : List Int} (h : ∀ e ∈ l, p e = false) : kpL p l = l := by
 unfold kpL
 rw [List.filter_eq_self]
 intro a ha
 rw [h a ha]
 rfl
theorem row_sets {base size n g cap i : Nat} {e : TypeId} : ∀ (vs : List Value) (o : Nat) {w : World} {xs : List Value}, w.ownsRow base e size (.slice (some ⟨g, 0, none⟩) n cap) n xs -> i <= o -> ∃ xs', (w.setCells g o vs).ownsRow base e size (.slice (some ⟨g, 0, none⟩) n cap) n xs' /\ xs'.take i = xs.take i
 | [], o, w, xs, h, _ => ⟨xs, h, rfl⟩
 | v :: vs, o, w, xs, h, hi => by
  obtain ⟨xs', h1, h2⟩ := row_sets vs (o + 1) (row_set h o v) (by omega : i <= o + 1)
  refine ⟨xs', h1, h2.trans ?_⟩
  rw [List.take_set_of_le hi]
theorem fr_sets {g : Nat} : ∀ (vs : List Value) (o : Nat) (w : World), Fr (fun b => b = g) w (w.setCells g o vs)
 | [], _, w => Fr.refl _ w
 | v :: vs, o, w => ((Fr.refl (fun b => b = g) w).set g o v rfl).trans (fr_sets vs (o + 1) _) (fun _ e => Or.inl e)
theorem delFI_any (f : Nat) (c : Array Value) (p : Int -> Bool) (hf : Ent f) (w : World) (l : List Int) (g cap B : Nat)
  (hl : ∀ (w' : World) (x : Int), x ∈ l -> Fr (fun b => b = g) w w' -> Calls Tryz.prog f (#[.int .i64 x] ++ c) w' fun r w'' => r = .returned (.bool (p x)) /\ Below w'.heap.size w' w'')
  (hm : l.length <= 100000) (hr : w.ownsRow B 3 1 (.slice (some ⟨g, 0, none⟩) l.length cap) l.length (l.map (Value.int .i64))) :
  Calls Tryz.prog 213 #[.slice (some ⟨g, 0, none⟩) l.length cap, .func (.func f) #[] c] w fun r w' => r = .returned (.slice (some ⟨g, 0, none⟩) (kpL p l).length cap) /\ w'.ownsRow B 3 1 (.slice (some ⟨g, 0, none⟩) (kpL p l).length cap) (kpL p l).length ((kpL p l).map (Value.int .i64)) /\ Fr (fun b => b = g) w w' := by
 have HL : Hid (∀ (w' : World) (x : Int), x ∈ l -> Fr (fun b => b = g) w w' -> Calls Tryz.prog f (#[.int .i64 x] ++ c) w' fun r w'' => r = .returned (.bool (p x)) /\ Below w'.heap.size w' w'') := hl
 have P := indexFI_any f c p hf w l (fun w' x hx hb => HL.out w' x hx (Fr.of hb)) (some ⟨g, 0, none⟩) cap hm (row_ints hr)
 have HR : Hid (w.ownsRow B 3 1 (.slice (some ⟨g, 0, none⟩) l.length cap) l.length (l.map (Value.int .i64))) := hr
 have hcp := row_caps hr
 have hcf : ∀ (args : Array Value) (w : World), (callFunc f args).run Tryz.prog w = .ok (.enter f args) w := hf
 clear hl hr hf
 go_enter Tryz.func213, Tryz.ntmps213
 go_wp2_with fail
 refine P.mono ?_
 clear P
 rintro r w1 ⟨hb1, ⟨rfl, hn⟩ | ⟨i0, rfl, hi0, hpi, hn⟩⟩
 ·have HF : Hid (kpL p l = l /\ w1.ownsRow B 3 1 (.slice (some ⟨g, 0, none⟩) l.length cap) l.length (l.map (Value.int .i64)) /\ Fr (fun b => b = g) w w1) := ⟨kpL_none hn, row_keep HR.out (fun b e => hb1.block b (row_lt HR.out b e).2), Fr.of hb1⟩
  clear hb1 hn
  go_wp2_with fail
  go_ret
  rw [HF.out.1]
  exact ⟨rfl, HF.out.2⟩
 ·have i0' : (i0 : Int) < l.length := by omega
  have HE0 : Hid (kpL p (l.take (i0 + 1)) = l.take i0 /\ w1.ownsRow B 3 1 (.slice (some ⟨g, 0, none⟩) l.length cap) l.length (l.map (Value.int .i64)) /\ Fr (fun b => b = g) w w1) := by
   refine ⟨?_, row_keep HR.out (fun b e => hb1.block b (row_lt HR.out b e).2), Fr.of hb1⟩
   rw [take_snoc l i0 hi0 0, kpL_snoc, if_pos hpi, kpL_none hn]
  clear hn hpi hb1
  go_wp2_with fail
  have e12 : ((i0 : Int) == -1) = false := by rw [beq_eq_false_iff_ne]; omega
  rw [e12]
  clear e12
  go_loopw [5, 6] (fun iv jv wr => ∃ (i j : Nat), i < j /\ j <= l.length /\ iv = .int .i64 i /\ jv = .int .i64 j /\ Hid ((kpL p (l.take j)).length = i /\ wr.ownsRow B 3 1 (.slice (some ⟨g, 0, none⟩) l.length cap) l.length ((kpL p (l.take j) ++ l.drop i).map (Value.int .i64)) /\ Fr (fun b => b = g) w wr)) (fun _ jv _ => l.length - (intOf jv).toNat)
  case atStart =>
   refine ⟨i0, i0 + 1, by omega, by omega, rfl, by go_num, ?_⟩
   obtain ⟨h1, h2, h3⟩ := HE0.out
   refine ⟨by rw [h1, List.length_take]; omega, ?_, h3⟩
   rw [h1, List.take_append_drop]
   exact h2
  case round =>
   clear HE0 hi0 i0'
   obtain ⟨i, j, hij, hj, rfl, rfl, HI⟩ := hrel
   by_cases hlt : j < l.length
   ·have hd : l.getD j 0 ∈ l := by rw [List.getD_eq_getElem?_getD, List.getElem?_eq_getElem hlt]; exact List.getElem_mem hlt
    have hx : ((kpL p (l.take j) ++ l.drop i).map (Value.int .i64))[j]? = some (.int .i64 (l.getD j 0)) := by
     have e := HI.out.1
     rw [List.getElem?_map, List.getElem?_append_right (by omega), List.getElem?_drop, e, show i + (j - i) = j from by omega, List.getElem?_eq_getElem hlt, List.getD_eq_getElem?_getD, List.getElem?_eq_getElem hlt]
     rfl
    have x1 := (row_cell HI.out.2.1 hx).1
    have P := HL.out wr (l.getD j 0) hd HI.out.2.2
    have HT : Hid (l.take (j + 1) = l.take j ++ [l.getD j 0]) := take_snoc l j hlt 0
    generalize l.getD j 0 = x at x1 P HT
    have j0 : (0 : Int) <= (j : Int) := by omega
    have j1 : (j : Int) < l.length := by omega
    have i0 : (0 : Int) <= (i : Int) := by omega
    have i1 : (i : Int) < l.length := by omega
    clear hx hd
    go_wp2_with fail
    refine P.mono ?_
    clear P x1
    rintro r w2 ⟨rfl, hb2⟩
    have HR2 : Hid (w2.ownsRow B 3 1 (.slice (some ⟨g, 0, none⟩) l.length cap) l.length ((kpL p (l.take j) ++ l.drop i).map (Value.int .i64)) /\ Fr (fun b => b = g) w w2) := ⟨row_keep HI.out.2.1 (fun b e => hb2.block b (row_lt HI.out.2.1 b e).2), HI.out.2.2.trans (Fr.of (X := fun b => b = g) hb2) (fun _ d => Or.inl d)⟩
    clear hb2
    cases hp : p x
    ·have hy : ∃ y, ((kpL p (l.take j) ++ l.drop i).map (Value.int .i64))[i]? = some (Value.int .i64 y) := by
      have e := HI.out.1
      have hil : i < l.length := by omega
      refine ⟨l[i], ?_⟩
      rw [List.getElem?_map, List.getElem?_append_right (by omega), List.getElem?_drop, e, Nat.sub_self, Nat.add_zero, List.getElem?_eq_getElem hil]
      rfl
     obtain ⟨y, hy⟩ := hy
     obtain ⟨y1, y2⟩ := row_cell HR2.out.1 hy
     have HI' : Hid ((kpL p (l.take (j + 1))).length = i + 1 /\ (w2.setCell ⟨g, i, none⟩ (.int .i64 x)).ownsRow B 3 1 (.slice (some ⟨g, 0, none⟩) l.length cap) l.length ((kpL p (l.take (j + 1)) ++ l.drop (i + 1)).map (Value.int .i64)) /\ Fr (fun b => b = g) w (w2.setCell ⟨g, i, none⟩ (.int .i64 x))) := by
      have e := HI.out.1
      have hil : i < l.length := by omega
      have ek : kpL p (l.take (j + 1)) = kpL p (l.take j) ++ [x] := by rw [HT.out, kpL_snoc, hp]; rfl
      refine ⟨by rw [ek, List.length_append, e]; rfl, ?_, HR2.out.2.trans ((Fr.refl (fun b => b = g) w2).set g i _ rfl) (fun _ d => Or.inl d)⟩
      have h5 := row_set HR2.out.1 i (Value.int .i64 x)
      have e6 : ((kpL p (l.take j) ++ l.drop i).map (Value.int .i64)).set i (.int .i64 x) = (kpL p (l.take (j + 1)) ++ l.drop (i + 1)).map (Value.int .i64) := by
       rw [ek, <- List.map_set, List.set_append_right _ _ (by omega), e, Nat.sub_self, List.drop_eq_getElem_cons hil, List.set_cons_zero, List.append_assoc]
       rfl
      rw [e6] at h5
      exact h5
     clear hp hy HI HR2 HT
     go_wp2_with fail
     go_roundw
     case rel => exact ⟨i + 1, j + 1, by omega, by omega, by go_num, by go_num, HI'⟩
     case measure => simp [intOf]; omega
    ·have HI' : Hid ((kpL p (l.take (j + 1))).length = i /\ w2.ownsRow B 3 1 (.slice (some ⟨g, 0, none⟩) l.length cap) l.length ((kpL p (l.take (j + 1)) ++ l.drop i).map (Value.int .i64)) /\ Fr (fun b => b = g) w w2) := by
      have ek : kpL p (l.take (j + 1)) = kpL p (l.take j) := by rw [HT.out, kpL_snoc, hp]; rfl
      rw [ek]
      exact ⟨HI.out.1, HR2.out⟩
     clear hp HI HR2 HT
     go_wp2_with fail
     go_roundw
     case rel => exact ⟨i, j + 1, by omega, by omega, rfl, by go_num, HI'⟩
     case measure => simp [intOf]; omega
   ·obtain rfl : j = l.length := by omega
    have hlen : ((kpL p (l.take l.length) ++ l.drop i).map (Value.int .i64)).length = l.length := by
     have e := HI.out.1
     rw [List.length_map, List.length_append, e, List.length_drop]
     omega
    have hcl : ∀ ty, (Builtin.clear_ #[105] ty #[.slice (some ⟨g, i, none⟩) (l.length - i) (cap - i)]).run Tryz.prog wr = .ok (.tuple #[]) (wr.setCells g i (List.replicate (l.length - i) (.int .i64 0))) := fun ty =>
     Lib.run_clear_slice wr _ _ ty _ Tryz.underlying105 (fun w => zeroI w) rfl rfl g i _ _ (by omega) (fun k hk => by
      rw [(row_cell HI.out.2.1 (List.getElem?_eq_getElem (by rw [hlen]; omega : i + k < _))).1]; rfl) (fun k hk => (row_cell HI.out.2.1 (List.getElem?_eq_getElem (by rw [hlen]; omega : i + k < _))).2)
    have HZ : Hid ((kpL p l).length = i /\ (wr.setCells g i (List.replicate (l.length - i) (.int .i64 0))).ownsRow B 3 1 (.slice (some ⟨g, 0, none⟩) i cap) i ((kpL p l).map (Value.int .i64)) /\ Fr (fun b => b = g) w (wr.setCells g i (List.replicate (l.length - i) (.int .i64 0)))) := by
     obtain ⟨h1, h2, h3⟩ := HI.out
     rw [List.take_length] at h1 h2
     refine ⟨h1, ?_, h3.trans (fr_sets _ _ _) (fun _ d => Or.inl d)⟩
     obtain ⟨xs, h4, h5⟩ := row_sets (i := i) (List.replicate (l.length - i) (Value.int .i64 0)) i h2 (Nat.le_refl _)
     have h6 := row_front h4 i (by omega)
     rw [h5, List.map_append, List.take_append_of_le_length (by simp; omega), List.take_of_length_le (by simp; omega)] at h6
     exact h6
    have i0 : (0 : Int) <= (i : Int) := by omega
    have i1 : (i : Int) < l.length := by omega
    clear hlt HI hlen
    go_wp2_with fail
    go_ret
    rw [HZ.out.1]
    exact ⟨rfl, HZ.out.2⟩
end Go.Proofs.YtalgochmjddodaaGreat

namespace Go.Proofs.YtalgochmjddodaaGreat
open Go.RowKit W Kp Stl
def Wst.j0 (a : Wc) (s : Wst) : Jk := ⟨a, s, kpL (fun x => decide ((s.y : Int) <= x + pf (ld a.N s.y s.g s.ws x))) (thY a.N s.y s.g s.ws), kpL (fun x => decide ((a.N : Int) + s.g <= x + pf (ld a.N s.y s.g s.ws x))) (thO a.N s.y s.g s.ws)⟩
def js0 : Js := ⟨fun _ => -1, [], []⟩
def Ww.j2 (a : Wc) (S : Ww) : Js × List En := (S.s.j0 a).sp ((S.s.j0 a).kr js0 12, S.q)
def Ww.j3 (a : Wc) (S : Ww) : Js := ((S.s.j0 a).sS (S.j2 a) S.r).1
def Ww.r3 (a : Wc) (S : Ww) : List En := (S.s.j0 a).sR (S.j2 a) S.r
def Ww.q3 (a : Wc) (S : Ww) : List En := (S.s.j0 a).sQ (S.j2 a) S.r
def Ww.j4 (a : Wc) (S : Ww) : Js := ((S.s.j0 a).pl (S.j3 a)).1
def Ww.n4 (a : Wc) (S : Ww) : Int := ((S.s.j0 a).pl (S.j3 a)).2 - a.N
def Ww.jfull (a : Wc) (S : Ww) : Bool := decide ((a.O : Int) < S.n4 a)
def Ww.k5 (a : Wc) (S : Ww) : Jk := (S.s.j0 a).tlA (S.j4 a)
def Ww.j5 (a : Wc) (S : Ww) : Js := ((S.k5 a).tS (S.j4 a, S.q3 a) (S.r3 a)).1
def Ww.k6 (a : Wc) (S : Ww) : Jk := (S.k5 a).sl (S.j5 a)
def Ww.gcut (a : Wc) (S : Ww) : Ww := if S.jfull a = true then S else ⟨(S.k6 a).s, (S.k5 a).tR (S.j4 a, S.q3 a) (S.r3 a), (S.k5 a).tQ (S.j4 a, S.q3 a) (S.r3 a)⟩
def Ww.gcode (a : Wc) (S : Ww) : Int := if S.jfull a = true then 3 else 0
section
variable {a : Wc} {s : Wst}
theorem kpL_sub {p : Int -> Bool} {l : List Int} {x : Int} (h : x ∈ kpL p l) : x ∈ l := (List.mem_filter.1 h).1
theorem kpL_le (p : Int -> Bool) (l : List Int) : (kpL p l).length <= l.length := List.length_filter_le _ _
theorem JI.start (hN : a.N <= 256) (hO : a.O <= 1024) (hy : s.y <= a.N) (hg : s.g <= a.O) : JI (s.j0 a) js0 := by
 have bY : ∀ x ∈ (s.j0 a).Y, 0 <= x /\ x < s.y := fun x hx => by
  have h1 := thY_bd x (kpL_sub hx)
  omega
 have bG : ∀ x ∈ (s.j0 a).G, (a.N : Int) <= x /\ x < (a.N : Int) + s.g := fun x hx => by
  have h1 := ths_bd _ _ x (kpL_sub hx)
  omega
 have nd : (s.j0 a).T.Nodup := by
  unfold Jk.T
  rw [List.nodup_append]
  refine ⟨(ths_nd 2000 _).filter _, (ths_nd 2000 0).filter _, fun x hx z hz e => ?_⟩
  have h1 := bG x hx
  have h2 := bY z hz
  omega
 have tl : (s.j0 a).T.length <= 4000 := by
  unfold Jk.T
  rw [List.length_append]
  have h1 : (s.j0 a).G.length <= 2000 := Nat.le_trans (kpL_le _ _) (ths_le _ _)
  have h2 : (s.j0 a).Y.length <= 2000 := Nat.le_trans (kpL_le _ _) (ths_le _ _)
  omega
 refine ⟨nd, fun x hx => ?_, fun x hx => by simp [js0] at hx, fun x hx => by simp [js0] at hx, tl, ?_⟩
 ·rcases List.mem_append.1 hx with d | d
  ·have := bG x d
   omega
  ·have := bY x d
   omega
 ·show ((s.j0 a).T.filter (fun _ => _)).length + 0 + 0 <= _
  exact List.length_filter_le _ _
end
end Go.Proofs.YtalgochmjddodaaGreat

namespace Go.Proofs.YtalgochmjddodaaGreat
open Go.RowKit W Kp Stl
def Jk.flt (k : Jk) (s : Js) (a : Int) : Prop := ∀ i : Nat, (i : Int) < pf (k.ld a) -> k.jl s (k.ld (a + 1 + i)) = false
section
variable {k : Jk} {C X : Int -> Prop} {s : Js}
theorem Jk.jl_no {x : Int} (h : k.jt x = true) : k.jl s x = false ↔ s.f (aV x) ≠ -1 := by
 unfold Jk.jl
 rw [h, Bool.true_and, beq_eq_false_iff_ne]
theorem jt_mem {x : Int} (h : k.jt x = true) : aV x ∈ k.T := by
 unfold Jk.jt at h
 rw [Bool.and_eq_true] at h
 exact List.contains_iff_mem.1 h.2
structure Mle (k : Jk) (s t : Js) : Prop where
  f : ∀ b, s.f b ≠ -1 -> t.f b = s.f b
theorem Mle.jl {t : Js} (h : Mle k s t) {y : Int} (hy : k.jl s y = false) : k.jl t y = false := by
 cases hj : k.jt y
 ·unfold Jk.jl
  rw [hj]
  rfl
 ·rw [Jk.jl_no hj] at hy ⊢
  rw [h.f _ hy]
  exact hy
theorem Mle.refl (s : Js) : Mle k s s := ⟨fun _ _ => rfl⟩
theorem Mle.trans {t u : Js} (h : Mle k s t) (j : Mle k t u) : Mle k s u := ⟨fun b hb => by
 have e := h.f b hb
 rw [j.f b (by rw [e]; exact hb), e]⟩
theorem Mle.flt {t : Js} (h : Mle k s t) {a : Int} (ha : k.flt s a) : k.flt t a := fun i hi => h.jl (ha i hi)
end
end Go.Proofs.YtalgochmjddodaaGreat
