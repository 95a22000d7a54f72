/- Joined: Mj19, Mj20, Mj21, Mn16. -/
import Derived.Test.YtnalfnlmaallmaaGreatJ30
import Derived.Test.YtnalfnlmaallmaaGreatJ02
import Derived.Test.YtnalfnlmaallmaaGreatJ03
import Derived.Test.YtnalfnlmaallmaaGreatJ22
namespace Go.Proofs.YtnalfnlmaallmaaGreat
open Go.RowKit W Kp Stl
def Jk.tlr (k : Jk) (s : Js) : Nat -> Jk
 | 0 => k
 | n + 1 => (k.tlr s n).rot n (k.nw s ((k.tlr s n).s.rs.getD n 0))
def Jk.tlL (k : Jk) (s : Js) (l : List Int) : Jk := ejL (fun (_ : Jk) a => s.f a) (fun k a => k.tl1 s a) k l
def Jk.mq (k : Jk) (t : Js × List En) (x : Int) : Int × (Js × List En) := ((k.mp t.1 x).1, ((k.mp t.1 x).2, t.2))
def Jk.tS (k : Jk) (t : Js × List En) (r : List En) : Js × List En := stS (noSd Js) (fun s x => k.al s.1 x) k.mq t r
def Jk.tR (k : Jk) (t : Js × List En) (r : List En) : List En := stR (noSd Js) (fun s x => k.al s.1 x) k.mq (fun s x => k.nw s.1 x) t r
def Jk.tQ (k : Jk) (t : Js × List En) (r : List En) : List En := stQ (noSd Js) (fun s x => k.al s.1 x) k.mq (fun s x => k.nw s.1 x) t r
theorem ent_tl1 : Ent 211 := ent_of Tryz.func211 (by kernel_rfl) rfl
section
variable {c : Jc} {k0 k : Jk} {vt ve vr : Value} {F : Nat -> Prop} {s : Js} {w : World} {bp : Nat}
theorem mt_rot (h : (mtO c k0 s vt ve).J F k w) (i : Nat) (x : Int) : ∃ F', (mtO c k0 s vt ve).J F' (k.rot i x) (w.setCell ⟨k0.a.nb, i, none⟩ (.int .i64 x)) /\ Tn F w F' (w.setCell ⟨k0.a.nb, i, none⟩ (.int .i64 x)) := by
 obtain ⟨h, ea, eY, eG⟩ := h
 obtain ⟨F', h1, h2⟩ := mj_rot h i x
 rw [ea] at h1 h2
 exact ⟨F', ⟨h1, ea, eY, eG⟩, h2⟩
theorem mt_roots (h : (mtO c k0 s vt ve).J F k w) : w.cell? ⟨k0.a.pw, 3, none⟩ = some (.slice (some ⟨k0.a.nb, 0, none⟩) 12 12) /\ ∀ i, i < 12 -> w.cell? ⟨k0.a.nb, i, none⟩ = some (.int .i64 (k.s.rs.getD i 0)) /\ w.frozen? ⟨k0.a.nb, i, none⟩ = false := by
 obtain ⟨h, ea, eY, eG⟩ := h
 obtain ⟨_, h1, _⟩ := mj_turn h
 obtain ⟨_, _, _, c3, _, _, _, rt⟩ := wod_cells h1
 rw [ea] at c3 rt
 exact ⟨c3, rt⟩
theorem tellE_any (h : (obX (mtO c k0 s vt ve) bp (boxJ c)).J F k w) (ht : k0.T.length <= 4000) (hp : ∀ a ∈ k0.T, 0 <= a /\ a <= 2000) {ad : Option Addr} {d B : Nat} (hr : w.ownsRow B 3 1 (.slice ad k0.T.length d) k0.T.length (k0.T.map (Value.int .i64))) (hB : ∀ b, F b -> b < B) :
  Calls Tryz.prog 209 #[.pointer (some ⟨c.pk, 0, none⟩), .slice ad k0.T.length d, .func (.func 211) #[] #[.pointer (some ⟨bp, 0, none⟩)]] w fun e w' => ∃ F', e = .returned (.tuple #[]) /\ (obX (mtO c k0 s vt ve) bp (boxJ c)).J F' (k.tlL s k0.T) w' /\ Tn F w F' w' := by
 have E := eachJ_any (obX (mtO c k0 s vt ve) bp (boxJ c)) (fun (_ : Jk) a => s.f a) (fun k a => pf (k.ld a)) (fun k a => k.tl1 s a) (fun _ _ => True) k0.T c.pk k0.a.pw k0.a.p c.mq 211 #[.pointer (some ⟨bp, 0, none⟩)] ent_tl1 k0.T ad d F k w
  (by
   rintro F t w9 a h9
   obtain ⟨_, h1, _⟩ := obX_in h9
   have ea : t.a = k0.a := h1.2.1
   obtain ⟨c0, c3, c5, hM, hA⟩ := mt_cells h1
   refine ⟨c0, c3, c5, hM, (thing_any a w9 hA).mono ?_⟩
   rintro r w' ⟨rfl, hb⟩
   have el : pf (t.ld a) = pf (ld k0.a.N t.s.y t.s.g t.s.ws a) := by unfold Jk.ld; rw [ea]
   exact ⟨pk (ld k0.a.N t.s.y t.s.g t.s.ws a), pc (ld k0.a.N t.s.y t.s.g t.s.ws a), by rw [el], hb⟩)
  (fun t a => pf_bd _) (fun a ha => ⟨by have := hp a ha; omega, ha⟩) (by omega)
  (by
   rintro j F t w9 hj _ hJ _
   have hm : k0.T.getD j 0 ∈ k0.T := by rw [List.getD_eq_getElem?_getD, List.getElem?_eq_getElem hj]; exact List.getElem_mem hj
   have h1 := hp _ hm
   have h2 := pf_bd (t.ld (k0.T.getD j 0))
   have P := tell1J_any hJ (k0.T.getD j 0) h1 (pf (t.ld (k0.T.getD j 0))).toNat (by omega)
   rw [show (((pf (t.ld (k0.T.getD j 0))).toNat : Nat) : Int) = pf (t.ld (k0.T.getD j 0)) from by omega] at P
   exact P)
  (fun _ _ _ _ => trivial) trivial h (row_ints hr)
  (fun hp' z e hz => by
   obtain ⟨b, cap, e'⟩ := row_shape hr hp'
   cases e'
   cases e
   have h2 := (row_lt hr b rfl).1
   have := hB b hz
   omega)
 refine E.mono ?_
 rintro r w' ⟨F', rfl, h1, h2, _⟩
 exact ⟨F', rfl, h1, h2⟩
theorem settleMJ_any {adr : Option Addr} {cr : Nat} {r : List En} (hvr : vr = .slice adr r.length cr) {t : Js × List En} (h : (mkSd (mjI c k) c.bs vr).J F t w) (hr : w.ownsRow 0 106 2 vr r.length (ev r)) (hq : t.2.length + r.length <= 90000) (bx by_ : Nat) (hne : bx ≠ by_) (hx : w.heap[bx]? = some (boxJ c)) (hy : w.heap[by_]? = some (boxK (fmJ c))) (hn : ¬ F bx) (hm : ¬ F by_) :
  Calls Tryz.prog 64 #[.pointer (some ⟨c.bs, 0, none⟩), .agg #[(faJ bx).v, (fpJ by_).v, (fnJ c).v]] w fun e w' => ∃ a1 c1 F', e = .returned (.tuple #[]) /\ (mkSd (mjI c k) c.bs (.slice a1 (k.tR t r).length c1)).J F' ((k.tS t r).1, k.tQ t r) w' /\
   w'.ownsRow 0 106 2 (.slice a1 (k.tR t r).length c1) (k.tR t r).length (ev (k.tR t r)) /\ (∀ b, some b = (Value.slice a1 (k.tR t r).length c1).ownBlock -> ¬ F' b /\ w.heap.size <= b) /\ Fr (fun b => F b \/ b = by_ \/ b = bx) w w' /\ (∀ b, F' b -> F b \/ w.heap.size <= b) := by
 subst hvr
 have P := settle_more (mkSd (obX (obX (mjI c k) by_ (boxK (fmJ c))) bx (boxJ c)) c.bs (.slice adr r.length cr)) (fun _ => True) (faJ bx) (fpJ by_) (fnJ c) _ _ _ (lks_mk (obX (obX (mjI c k) by_ (boxK (fmJ c))) bx (boxJ c)) c.bs (.slice adr r.length cr) (fun _ => True) (faJ bx) (fpJ by_) (fnJ c) k.al k.mp k.nw ent_faJ ent_fpJ ent_fnJ (alives_faJ2 bx by_ (fmJ c)) (keeps_obX (keeps_fmJ by_)) (tells_obX (tells_obX tells_fnJ))) r adr cr rfl (by omega) (fun _ _ => ⟨trivial, trivial⟩) _ t w (fun _ _ => ⟨trivial, trivial⟩) hq (mkSd_add (mkSd_add h hy hm) hx (fun d => d.elim hn hne)) (row_pairs hr)
 refine P.mono ?_
 clear P
 rintro e w' ⟨a1, c1, a2, c2, F1, wm, rfl, ⟨F0, ad, cap, ⟨Fb, ⟨Fc, g1, g2', g3', g4'⟩, g2, g3, g4⟩, h2, h3, h4, h5, h6, h7, h8⟩, q3, q4, q5, q6, q7, q8, q9, q10, q11, q12⟩
 have q5 : w'.heap[c.bs]? = some (.cells #[.slice a1 (k.tR t r).length c1, .slice a2 (k.tQ t r).length c2] 153 (0, 0)) := q5
 have q6 : w'.ownsRow w.heap.size 106 2 (.slice a1 (k.tR t r).length c1) (k.tR t r).length (ev (k.tR t r)) := q6
 have q7 : w'.ownsRow w.heap.size 106 2 (.slice a2 (k.tQ t r).length c2) (k.tQ t r).length (ev (k.tQ t r)) := q7
 have q10 : ∀ b, some b = (Value.slice a1 (k.tR t r).length c1).ownBlock -> ¬ F1 b := q10
 have q11 : ∀ b, some b = (Value.slice a2 (k.tQ t r).length c2).ownBlock -> ¬ F1 b := q11
 have q12 : ∀ b, some b = (Value.slice a1 (k.tR t r).length c1).ownBlock -> some b ≠ (Value.slice a2 (k.tQ t r).length c2).ownBlock := q12
 have g1 : (mjI c k).J Fc (k.tS t r).1 wm := g1
 have fb0 : ∀ b, Fc b -> F0 b := fun b hb => (g4 b).2 (Or.inl ((g4' b).2 (Or.inl hb)))
 have fc1 : ∀ b, Fc b -> F1 b := fun b hb => h4 b (fb0 b hb)
 have fcp : ∀ b, Fc b -> b ≠ c.bs := fun b hb e => h6 (by show F0 c.bs; rw [<- e]; exact fb0 b hb)
 have g1' := (mjI c k).keep (w' := w') g1 q4 (fun b hb => q3 b (fc1 b hb) (fcp b hb))
 have hFs : F c.bs := by
  obtain ⟨_, _, _, _, _, _, _, e5, _⟩ := h
  exact e5
 refine ⟨a1, c1, fun b => Fc b \/ b = c.bs \/ some b = (Value.slice a2 (k.tQ t r).length c2).ownBlock, rfl, ⟨Fc, a2, c2, g1', q5, row_base q7 (fun _ _ => Nat.zero_le _), fun b hb => Or.inl hb, Or.inr (Or.inl rfl), fun d => fcp _ d rfl, fun b e => ⟨Or.inr (Or.inr e), fun d => q11 b e (fc1 b d)⟩, fun b hb => ?_⟩, row_base q6 (fun _ _ => Nat.zero_le _), fun b e => ⟨fun d => ?_, (row_lt q6 b e).1⟩, q8.mono (fun b d => ?_), fun b hb => ?_⟩
 ·rcases hb with hb | hb | hb
  ·exact (mjI c k).lt g1' b hb
  ·rw [hb]; exact lt_of_some q5
  ·exact (row_lt q7 b hb).2
 ·rcases d with d | d | d
  ·exact q10 b e (fc1 b d)
  ·obtain ⟨cs, hc⟩ := row_type q6 b e
   rw [d, q5] at hc
   simp at hc
  ·exact q12 b e d
 ·rcases d with (d | d) | d
  ·exact Or.inl d
  ·exact Or.inr (Or.inl d)
  ·exact Or.inr (Or.inr d)
 ·rcases hb with hb | hb | hb
  ·rcases q9 b (fc1 b hb) with ((d | d) | d) | d
   ·exact Or.inl d
   ·exact absurd hb (by rw [d]; exact g3')
   ·exact absurd ((g4' b).2 (Or.inl hb)) (by rw [d]; exact g3)
   ·exact Or.inr d
  ·exact Or.inl (by rw [hb]; exact hFs)
  ·exact Or.inr (row_lt q7 b hb).1
end
end Go.Proofs.YtnalfnlmaallmaaGreat

namespace Go.Proofs.YtnalfnlmaallmaaGreat
set_option maxRecDepth 100000
set_option maxHeartbeats 4000000
open Go.RowKit W Kp Stl
def Jk.tlA (k : Jk) (s : Js) : Jk := (k.tlr s 12).tlL s k.T
section
variable {c : Jc} {k0 k : Jk} {vt ve vr : Value} {F : Nat -> Prop} {s : Js} {w : World} {bp : Nat}
theorem JI.of {k k0 : Jk} (h : JI k0 s) (hY : k.Y = k0.Y) (hG : k.G = k0.G) : JI k s := by
 have e : k.T = k0.T := by unfold Jk.T; rw [hY, hG]
 exact ⟨by rw [e]; exact h.nd, by rw [e]; exact h.ps, by rw [e]; exact h.td, by rw [e]; exact h.ep, by rw [e]; exact h.tl, by unfold Jk.lost; rw [e]; exact h.sum⟩
theorem mt_ne (h : (mtO c k0 s vt ve).J F k w) : k0.a.nb ≠ c.pk /\ k0.a.nb ≠ k0.a.pw /\ F k0.a.nb := by
 obtain ⟨⟨FW, own, h, hF⟩, ea, _⟩ := h
 have hw := h.wd
 rw [<- ea]
 have h1 := h.w1
 obtain ⟨own2, pq, h2, hF2⟩ := hw
 have f4 : FW k.a.nb := (hF2 _).2 (by rw [h2.r1]; decide)
 refine ⟨fun e => ?_, fun e => ?_, (hF _).2 (by rw [(h1 _).1 f4]; decide)⟩
 ·have e2 := (h1 _).1 f4
  rw [e, h.k1] at e2
  omega
 ·have e2 := h2.r1
  rw [e, h2.w1] at e2
  omega
theorem tellJ_any {adr : Option Addr} {cr : Nat} {r : List En} (hvr : vr = .slice adr r.length cr) {t : Js × List En} (h : (mkSd (mjI c k) c.bs vr).J F t w) (hr : w.ownsRow 0 106 2 vr r.length (ev r)) (hrF : ∀ b, some b = vr.ownBlock -> ¬ F b) (hq : t.2.length + r.length <= 90000) {v1 v2 : Value} (hs : w.heap[k.a.sd]? = some (.cells #[v1, v2] 153 (0, 0))) (hsF : ¬ F k.a.sd) :
  Calls Tryz.prog 153 #[.pointer (some ⟨c.pk, 0, none⟩)] w fun e w' => ∃ a1 c1 F', e = .returned (.tuple #[]) /\ (mkSd (mjI c (k.tlA t.1)) c.bs (.slice a1 ((k.tlA t.1).tR t r).length c1)).J F' (((k.tlA t.1).tS t r).1, (k.tlA t.1).tQ t r) w' /\ w'.ownsRow 0 106 2 (.slice a1 ((k.tlA t.1).tR t r).length c1) ((k.tlA t.1).tR t r).length (ev ((k.tlA t.1).tR t r)) /\ (∀ b, some b = (Value.slice a1 ((k.tlA t.1).tR t r).length c1).ownBlock -> ¬ F' b /\ w.heap.size <= b) /\ w'.heap[k.a.sd]? = w'.heap[c.bs]? /\ ¬ F' k.a.sd /\ Fr (fun b => F b \/ b = k.a.sd) w w' /\ (∀ b, F' b -> F b \/ w.heap.size <= b) := by
 have hmf : ∀ (fn : Fn) (first cap : Array Value) (w : World), (Instr.makeFunc fn first cap).run Tryz.prog w = .ok (.func fn first cap) w := fun _ _ _ _ => rfl
 obtain ⟨F0, ⟨⟨vt, ve, h0⟩, hI⟩, U⟩ := mkSd_to h
 have HI : Hid (JI k t.1) := hI
 have hb0 := (Below.refl w.heap.size w).alloc (Nat.le_refl _) (boxJ c)
 have nF : ∀ b, F0 b -> b < w.heap.size := (mjV c k vt ve).lt h0
 have hX : (obX (mtO c k t.1 vt ve) w.heap.size (boxJ c)).J (fun b => F0 b \/ b = w.heap.size) k (w.alloc (boxJ c)) := ⟨F0, ⟨(mjV c k vt ve).below h0 hb0, rfl, rfl, rfl⟩, heap_alloc_new _ _, fun d => by have := nF _ d; omega, fun b => Iff.rfl⟩
 obtain ⟨_, h1, hx, _, _⟩ := obX_in hX
 obtain ⟨d0, _, c0, _, _⟩ := mt_cells h1
 obtain ⟨c3, _⟩ := mt_roots h1
 have x0 : (w.alloc (boxJ c)).cell? ⟨w.heap.size, 0, none⟩ = some (.pointer (some ⟨c.pk, 0, none⟩)) := by simp only [World.cell?]; rw [hx]; rfl
 clear h1 hx hI
 go_enter Tryz.func153, Tryz.ntmps153
 go_wp2_with fail
 go_loopw [12] (fun iv wr => ∃ (j : Nat) (F2 : Nat -> Prop), j <= 12 /\ iv = .int .i64 j /\ Hid ((obX (mtO c k t.1 vt ve) w.heap.size (boxJ c)).J F2 (k.tlr t.1 j) wr /\ Tn (fun b => F0 b \/ b = w.heap.size) (w.alloc (boxJ c)) F2 wr)) (fun iv _ => 12 - (intOf iv).toNat)
 case atStart => exact ⟨0, _, Nat.zero_le _, rfl, ⟨hX, Tn.refl _ _⟩⟩
 case round =>
  clear hX x0 d0 c0 c3
  obtain ⟨j, F2, hj, rfl, HJ⟩ := hrel
  obtain ⟨F3, h3, hx, lb, U3⟩ := obX_in HJ.out.1
  have x0 : wr.cell? ⟨w.heap.size, 0, none⟩ = some (.pointer (some ⟨c.pk, 0, none⟩)) := by simp [World.cell?, hx]
  obtain ⟨d0, _, c0, _, _⟩ := mt_cells h3
  obtain ⟨c3, rt⟩ := mt_roots h3
  by_cases hlt : j < 12
  ·have HU : Hid (∀ F1 t1 w1, (mtO c k t.1 vt ve).J F1 t1 w1 -> Tn F3 wr F1 w1 -> (obX (mtO c k t.1 vt ve) w.heap.size (boxJ c)).J (fun b => F1 b \/ b = w.heap.size) t1 w1 /\ Tn F2 wr (fun b => F1 b \/ b = w.heap.size) w1) := U3
   have HX : Hid (wr.heap[w.heap.size]? = some (boxJ c) /\ w.heap.size < wr.heap.size /\ (mtO c k t.1 vt ve).J F3 (k.tlr t.1 j) wr) := ⟨hx, lb, h3⟩
   obtain ⟨n1, n2, n3⟩ := mt_ne h3
   have n4 : k.a.nb ≠ w.heap.size := fun e => by
    obtain ⟨F5, g1, _, g3, _⟩ := HJ.out.1
    exact g3 (by rw [<- e]; exact (mt_ne g1).2.2)
   obtain ⟨x1, xf⟩ := rt j hlt
   have PN := mt_now ((mtO c k t.1 vt ve).below h3 (Below.refl _ wr).drew) ((k.tlr t.1 j).s.rs.getD j 0)
   have ES : Hid (k.tlr t.1 (j + 1) = (k.tlr t.1 j).rot j (k.nw t.1 ((k.tlr t.1 j).s.rs.getD j 0))) := rfl
   obtain ⟨k3, hk3⟩ : ∃ k3, k.tlr t.1 (j + 1) = k3 := ⟨_, rfl⟩
   rw [hk3] at ES
   have HK3 : Hid (k.tlr t.1 (j + 1) = k3) := hk3
   clear hk3 h3 hx lb U3 rt n3
   generalize (k.tlr t.1 j).s.rs.getD j 0 = x at PN ES x1
   generalize k.tlr t.1 j = k2 at ES HX HJ
   have j0 : (0 : Int) <= (j : Int) := by omega
   have j1 : (j : Int) < 12 := by omega
   go_wp2_with fail
   go_region_held3 (fun w' => w'.cell? ⟨w.heap.size, 0, none⟩ = some (.pointer (some ⟨c.pk, 0, none⟩)) /\ w'.cell? ⟨c.pk, 0, none⟩ = some (.pointer (some ⟨k.a.pw, 0, none⟩)) /\ w'.cell? ⟨k.a.pw, 3, none⟩ = some (.slice (some ⟨k.a.nb, 0, none⟩) 12 12)) (go_keep)
    (first
     | (go_at_call 208; refine PN.mono ?_; clear PN; rintro e w4 ⟨rfl, hb4⟩; have hq4 : Below wr.heap.size wr w4 := ((Below.refl _ wr).drew).trans (hb4.mono (by simp)); have h4 := (mtO c k t.1 vt ve).below HX.out.2.2 hq4; obtain ⟨y1, _, _, _, _⟩ := mt_cells h4; obtain ⟨y3, rt4⟩ := mt_roots h4; obtain ⟨y4, yf⟩ := rt4 j hlt; have y0 := (hq4.cell (p := ⟨w.heap.size, 0, none⟩) HX.out.2.1).trans x0; have H4 : Hid ((mtO c k t.1 vt ve).J F3 k2 w4 /\ Below wr.heap.size wr w4) := ⟨h4, hq4⟩; clear hb4 hq4 h4 rt4))
   have H5 : Hid (∃ F5, (obX (mtO c k t.1 vt ve) w.heap.size (boxJ c)).J F5 k3 (w4.setCell ⟨k.a.nb, j, none⟩ (.int .i64 (k.nw t.1 x))) /\ Tn (fun b => F0 b \/ b = w.heap.size) (w.alloc (boxJ c)) F5 (w4.setCell ⟨k.a.nb, j, none⟩ (.int .i64 (k.nw t.1 x)))) := by
    obtain ⟨F5, h5, t5⟩ := mt_rot H4.out.1 j (k.nw t.1 x)
    obtain ⟨j5, q5⟩ := HU.out F5 _ _ h5 ((Tn.of H4.out.2).trans t5)
    exact ⟨_, by rw [ES.out]; exact j5, HJ.out.2.trans q5⟩
   clear H4 HU HX HJ y0 y1 y3 y4 yf x0 d0 c0 c3 x1 xf
   go_wp2_with fail
   go_roundw
   case rel =>
    obtain ⟨F5, j5, q5⟩ := H5.out
    exact ⟨j + 1, F5, by omega, by go_num, by rw [HK3.out]; exact ⟨j5, q5⟩⟩
   case measure => simp [intOf]; omega
  ·obtain rfl : j = 12 := by omega
   clear hlt rt U3
   have HT0 : Hid (k.T.length <= 4000 /\ ∀ a ∈ k.T, 0 <= a /\ a <= 2000) := ⟨HI.out.tl, HI.out.ps⟩
   have hd := (Below.refl wr.heap.size wr).drew
   have PA : Calls Tryz.prog 201 #[.pointer (some ⟨c.pk, 0, none⟩)] wr.drew fun e w' => ∃ a d, e = .returned (.slice a k.T.length d) /\ w'.ownsRow wr.drew.heap.size 3 1 (.slice a k.T.length d) k.T.length (k.T.map (Value.int .i64)) /\ Below wr.drew.heap.size wr.drew w' := by
    have e : (k.tlr t.1 12).T = k.T := by unfold Jk.T; rw [h3.2.2.1, h3.2.2.2]
    have P := allJ_any (c := c) (k := k.tlr t.1 12) (F := F3) (s := t.1) (w := wr.drew) ⟨vt, ve, (mjV c _ vt ve).below h3.1 hd⟩ (by rw [e]; exact HT0.out.1)
    rw [e] at P
    exact P
   have HX : Hid (w.heap.size < wr.heap.size /\ (obX (mtO c k t.1 vt ve) w.heap.size (boxJ c)).J F2 (k.tlr t.1 12) wr.drew /\ Tn (fun b => F0 b \/ b = w.heap.size) (w.alloc (boxJ c)) F2 wr.drew /\ ∀ b, F2 b -> b < wr.drew.heap.size) := ⟨lb, (obX (mtO c k t.1 vt ve) w.heap.size (boxJ c)).below HJ.out.1 hd, HJ.out.2.below hd, fun b hb => by have := (obX (mtO c k t.1 vt ve) w.heap.size (boxJ c)).lt HJ.out.1 b hb; simpa using this⟩
   have EK : Hid (k.tlA t.1 = (k.tlr t.1 12).tlL t.1 k.T) := rfl
   obtain ⟨kz, hkz⟩ : ∃ kz, k.tlA t.1 = kz := ⟨_, rfl⟩
   rw [hkz] at EK
   have HKZ : Hid (k.tlA t.1 = kz) := hkz
   clear hkz
   generalize k.tlr t.1 12 = k2 at EK HX HJ h3
   clear h3 hx lb hd HJ d0 c0 c3
   go_wp2_with fail
   go_region_held3 (fun w' => w'.cell? ⟨w.heap.size, 0, none⟩ = some (.pointer (some ⟨c.pk, 0, none⟩))) (go_keep)
    (first
     | (go_at_call 201; refine PA.mono ?_; clear PA; rintro e w3 ⟨a3, d3, rfl, ho3, hb3⟩; have y0 : w3.cell? ⟨w.heap.size, 0, none⟩ = some (.pointer (some ⟨c.pk, 0, none⟩)) := (hb3.cell (p := ⟨w.heap.size, 0, none⟩) (by have := HX.out.1; simpa using this)).trans x0; have H3 : Hid (w3.ownsRow wr.drew.heap.size 3 1 (.slice a3 k.T.length d3) k.T.length (k.T.map (Value.int .i64)) /\ Below wr.drew.heap.size wr.drew w3) := ⟨ho3, hb3⟩; clear ho3 hb3)
     | (go_at_call 209; refine (tellE_any ((obX (mtO c k t.1 vt ve) w.heap.size (boxJ c)).below HX.out.2.1 H3.out.2) HT0.out.1 HT0.out.2 H3.out.1 HX.out.2.2.2).mono ?_; rintro e w4 ⟨F4, rfl, hJ4, hT4⟩; obtain ⟨F6, h6, h7, _, _⟩ := obX_in hJ4; have y5 : w4.cell? ⟨w.heap.size, 0, none⟩ = some (.pointer (some ⟨c.pk, 0, none⟩)) := (by simp [World.cell?, h7]); clear h6 h7; have HJ4 : Hid ((obX (mtO c k t.1 vt ve) w.heap.size (boxJ c)).J F4 kz w4 /\ Tn (fun b => F0 b \/ b = w.heap.size) (w.alloc (boxJ c)) F4 w4) := ⟨(by rw [EK.out]; exact hJ4), (HX.out.2.2.1.below H3.out.2).trans hT4⟩; clear hJ4 hT4))
   all_goals
    have HM : Hid (∃ FM, (mkSd (mjI c kz) c.bs vr).J FM (t.1, t.2) w4 /\ ¬ FM w.heap.size /\ w4.heap[w.heap.size]? = some (boxJ c) /\ Fr F w w4 /\ (∀ b, FM b -> F b \/ w.heap.size <= b)) /\ kz.a = k.a := by
     obtain ⟨F6, h6, h7, h8, h9⟩ := HJ4.out.1
     have hT := HJ4.out.2
     have hTn : Tn F0 w F4 w4 := ⟨(Fr.of (X := F0) ((Below.refl w.heap.size w).alloc (Nat.le_refl _) (boxJ c))).trans hT.fr (fun b d => d.imp id (fun e => by omega)), fun b hb => (hT.sub b hb).elim (fun d => d.imp id (fun e => by omega)) (fun d => Or.inr (by simp at d; omega))⟩
     obtain ⟨FM, hM, tM⟩ := U (obX (mjI c kz) w.heap.size (boxJ c)) F4 t.1 w4 ⟨F6, ⟨⟨vt, ve, h6.1⟩, HI.out.of h6.2.2.1 h6.2.2.2⟩, h7, h8, h9⟩ hTn
     obtain ⟨g1, g2, g3⟩ := mkSd_less hM
     exact ⟨⟨_, g1, fun d => d.2 rfl, g2, tM.fr, fun b d => tM.sub b d.1⟩, h6.2.1⟩
    obtain ⟨HM, hka⟩ := HM
    obtain ⟨FM, hM, nbp, hbx, fM, sM⟩ := HM.out
    have hr4 : w4.ownsRow 0 106 2 vr r.length (ev r) := row_keep hr (fun b e => fM.block b (row_lt hr b e).2 (hrF b e))
    have hs4 : w4.heap[k.a.sd]? = some (.cells #[v1, v2] 153 (0, 0)) := (fM.block _ (lt_of_some hs) hsF).trans hs
    have lFM : ∀ b, FM b -> b < w4.heap.size := (mkSd (mjI c kz) c.bs vr).lt hM
    obtain ⟨_, ⟨⟨vt4, ve4, h4⟩, _⟩, _⟩ := mkSd_to hM
    obtain ⟨_, _, _, _, e4, _⟩ := mj_cells h4
    have l4 := World.block_lt_of_cell? w4 _ e4
    have lbp := lt_of_some hbx
    have nsd : ¬ FM k.a.sd /\ k.a.sd < w.heap.size := ⟨fun d => (sM _ d).elim hsF (fun d => by have := lt_of_some hs; omega), lt_of_some hs⟩
    have H4 : Hid ((mkSd (mjI c kz) c.bs vr).J FM (t.1, t.2) w4 /\ w4.ownsRow 0 106 2 vr r.length (ev r) /\ w4.heap[k.a.sd]? = some (.cells #[v1, v2] 153 (0, 0)) /\ (∀ b, FM b -> b < w4.heap.size) /\ ¬ FM w.heap.size /\ w.heap.size < w4.heap.size /\ (¬ FM k.a.sd /\ k.a.sd < w.heap.size) /\ c.pk < w4.heap.size /\ w4.heap[w.heap.size]? = some (boxJ c)) := ⟨hM, hr4, hs4, lFM, nbp, lbp, nsd, l4, hbx⟩
    have H4b : Hid (Fr F w w4 /\ ∀ b, FM b -> F b \/ w.heap.size <= b) := ⟨fM, sM⟩
    have EP : Hid (∀ w5, Below w4.heap.size w4 w5 -> w5.heap[w4.heap.size]? = some (boxJ c) -> w5.heap[w4.heap.size + 1]? = some (boxK (fmJ c)) -> Calls Tryz.prog 64 #[.pointer (some ⟨c.bs, 0, none⟩), .agg #[(faJ w4.heap.size).v, (fpJ (w4.heap.size + 1)).v, (fnJ c).v]] w5 fun e w' => ∃ a1 c1 F', e = .returned (.tuple #[]) /\ (mkSd (mjI c kz) c.bs (.slice a1 (kz.tR t r).length c1)).J F' ((kz.tS t r).1, kz.tQ t r) w' /\ w'.ownsRow 0 106 2 (.slice a1 (kz.tR t r).length c1) (kz.tR t r).length (ev (kz.tR t r)) /\ (∀ b, some b = (Value.slice a1 (kz.tR t r).length c1).ownBlock -> ¬ F' b /\ w5.heap.size <= b) /\ Fr (fun b => FM b \/ b = w4.heap.size + 1 \/ b = w4.heap.size) w5 w' /\ (∀ b, F' b -> FM b \/ w5.heap.size <= b)) := fun w5 hb5 hx5 hy5 =>
     settleMJ_any hvr ((mkSd (mjI c kz) c.bs vr).below H4.out.1 hb5) (row_keep H4.out.2.1 (fun b e => hb5.block b (row_lt H4.out.2.1 b e).2)) hq w4.heap.size (w4.heap.size + 1) (by omega) hx5 hy5 (fun d => by have := H4.out.2.2.2.1 _ d; omega) (fun d => by have := H4.out.2.2.2.1 _ d; omega)
    clear y0 x0 H3 HX EK hM hr4 hs4 lFM nbp lbp nsd l4 hbx fM sM h4 HM U h0 hr hs h
    go_wp2_with fail
    go_region_held3 (fun w' => w'.cell? ⟨w.heap.size, 0, none⟩ = some (.pointer (some ⟨c.pk, 0, none⟩)) /\ w'.cell? ⟨c.pk, 4, none⟩ = some (.pointer (some ⟨c.bs, 0, none⟩))) (go_keep)
     (first
      | (go_at_call 149; refine (looksJ_any (fmJ c) w4.drew c.pk).mono ?_; rintro e w5 ⟨rfl, hx5, hy5, hb5⟩; have hq5 : Below w4.heap.size w4 w5 := ((Below.refl _ w4).drew).trans (hb5.mono (by simp)); have z4 := (hq5.cell (p := ⟨c.pk, 4, none⟩) H4.out.2.2.2.2.2.2.2.1).trans e4; have z5 := (hq5.cell (p := ⟨w.heap.size, 0, none⟩) H4.out.2.2.2.2.2.1).trans y5; have H5 : Hid (w5.heap[w4.heap.size]? = some (boxJ c) /\ w5.heap[w4.heap.size + 1]? = some (boxK (fmJ c)) /\ Below w4.heap.size w4 w5) := ⟨hx5, hy5, hq5⟩; clear hx5 hy5 hb5 hq5)
      | (go_at_call 64; refine (EP.out w5 H5.out.2.2 H5.out.1 H5.out.2.1).mono ?_; rintro e w6 ⟨a1, c1, F7, rfl, h7, hr7, hn7, f7, s7⟩; obtain ⟨_, ⟨⟨vt7, ve7, g7⟩, _⟩, _⟩ := mkSd_to h7; obtain ⟨u0, _, _, _, u4, _⟩ := mj_cells g7; have u5 : w6.cell? ⟨w.heap.size, 0, none⟩ = some (.pointer (some ⟨c.pk, 0, none⟩)) := (by have e5 := H5.out.2.2.block w.heap.size H4.out.2.2.2.2.2.1; have e6 := f7.block w.heap.size (by have := H5.out.2.2.size; have := H4.out.2.2.2.2.2.1; omega) (fun d => by rcases d with d | d | d; (exact H4.out.2.2.2.2.1 d); (have := H4.out.2.2.2.2.2.1; omega); (have := H4.out.2.2.2.2.2.1; omega)); simp [World.cell?, e6, e5, H4.out.2.2.2.2.2.2.2.2]); have H7 : Hid ((mkSd (mjI c kz) c.bs (.slice a1 (kz.tR t r).length c1)).J F7 ((kz.tS t r).1, kz.tQ t r) w6 /\ w6.ownsRow 0 106 2 (.slice a1 (kz.tR t r).length c1) (kz.tR t r).length (ev (kz.tR t r)) /\ (∀ b, some b = (Value.slice a1 (kz.tR t r).length c1).ownBlock -> ¬ F7 b /\ w5.heap.size <= b) /\ Fr (fun b => FM b \/ b = w4.heap.size + 1 \/ b = w4.heap.size) w5 w6 /\ (∀ b, F7 b -> FM b \/ w5.heap.size <= b) /\ (mjV c kz vt7 ve7).J _ (kz.tS t r).1 w6) := ⟨h7, hr7, hn7, f7, s7, g7⟩; clear h7 hr7 hn7 f7 s7 g7))
    all_goals
     clear z4 z5 y5 e4
     have HC : Hid (w6.heap[k.a.sd]? = some (.cells #[v1, v2] 153 (0, 0))) := by
      have l1 := H4.out.2.2.2.2.2.2.1
      have l2 := H4.out.2.2.2.2.2.1
      have l3 := H5.out.2.2.size
      exact ((H7.out.2.2.2.1.block k.a.sd (by omega) (fun d => by rcases d with d | d | d; (exact l1.1 d); omega; omega)).trans (H5.out.2.2.block k.a.sd (by omega))).trans H4.out.2.2.1
     obtain ⟨_, q7, _⟩ := mj_turn H7.out.2.2.2.2.2
     obtain ⟨_, _, q2, _⟩ := wod_cells q7
     rw [hka] at q2 u0
     obtain ⟨F8, ad8, cap8, _, m2, _⟩ := H7.out.1
     have b0 : w6.cell? ⟨c.bs, 0, none⟩ = some (.slice a1 (kz.tR t r).length c1) := by simp [World.cell?, m2]
     have b1 : w6.cell? ⟨c.bs, 1, none⟩ = some (.slice ad8 (kz.tQ t r).length cap8) := by simp [World.cell?, m2]
     have s0 : w6.cell? ⟨k.a.sd, 0, none⟩ = some v1 := by simp [World.cell?, HC.out]
     have s1 : w6.cell? ⟨k.a.sd, 1, none⟩ = some v2 := by simp [World.cell?, HC.out]
     have t0 : w6.frozen? ⟨k.a.sd, 0, none⟩ = false := by simp [World.frozen?, HC.out]
     have t1 : w6.frozen? ⟨k.a.sd, 1, none⟩ = false := by simp [World.frozen?, HC.out]
     have HZ : Hid (∃ F', (mkSd (mjI c kz) c.bs (.slice a1 (kz.tR t r).length c1)).J F' ((kz.tS t r).1, kz.tQ t r) ((w6.setCell ⟨k.a.sd, 0, none⟩ (.slice a1 (kz.tR t r).length c1)).setCell ⟨k.a.sd, 1, none⟩ (.slice ad8 (kz.tQ t r).length cap8)).drew /\ ((w6.setCell ⟨k.a.sd, 0, none⟩ (.slice a1 (kz.tR t r).length c1)).setCell ⟨k.a.sd, 1, none⟩ (.slice ad8 (kz.tQ t r).length cap8)).drew.ownsRow 0 106 2 (.slice a1 (kz.tR t r).length c1) (kz.tR t r).length (ev (kz.tR t r)) /\ (∀ b, some b = (Value.slice a1 (kz.tR t r).length c1).ownBlock -> ¬ F' b /\ w.heap.size <= b) /\ ((w6.setCell ⟨k.a.sd, 0, none⟩ (.slice a1 (kz.tR t r).length c1)).setCell ⟨k.a.sd, 1, none⟩ (.slice ad8 (kz.tQ t r).length cap8)).drew.heap[k.a.sd]? = ((w6.setCell ⟨k.a.sd, 0, none⟩ (.slice a1 (kz.tR t r).length c1)).setCell ⟨k.a.sd, 1, none⟩ (.slice ad8 (kz.tQ t r).length cap8)).drew.heap[c.bs]? /\ ¬ F' k.a.sd /\ Fr (fun b => F b \/ b = k.a.sd) w ((w6.setCell ⟨k.a.sd, 0, none⟩ (.slice a1 (kz.tR t r).length c1)).setCell ⟨k.a.sd, 1, none⟩ (.slice ad8 (kz.tQ t r).length cap8)).drew /\ (∀ b, F' b -> F b \/ w.heap.size <= b)) := by
      have l1 := H4.out.2.2.2.2.2.2.1
      have l2 := H4.out.2.2.2.2.2.1
      have l3 := H5.out.2.2.size
      obtain ⟨h7, hr7, hn7, f7, s7, _⟩ := H7.out
      have nsd : ¬ F7 k.a.sd := fun d => (s7 _ d).elim l1.1 (fun d => by omega)
      have frz : Fr (fun b => b = k.a.sd) w6 ((w6.setCell ⟨k.a.sd, 0, none⟩ (.slice a1 (kz.tR t r).length c1)).setCell ⟨k.a.sd, 1, none⟩ (.slice ad8 (kz.tQ t r).length cap8)).drew := (((Fr.refl (fun b => b = k.a.sd) w6).set k.a.sd 0 _ rfl).set k.a.sd 1 _ rfl).drew
      have fbs : F7 c.bs := by
       obtain ⟨_, _, _, _, _, _, _, e5, _⟩ := h7
       exact e5
      have hF6 : Fr F w w6 := (H4b.out.1.trans (Fr.of (X := F) H5.out.2.2) (fun b d => Or.inl d)).trans f7 (fun b d => by
       have := H4b.out.1.size
       rcases d with d | d | d
       ·exact H4b.out.2 b d
       ·exact Or.inr (by omega)
       ·exact Or.inr (by omega))
      refine ⟨F7, (mkSd (mjI c kz) c.bs _).keep h7 frz.size (fun b hb => frz.block b ((mkSd (mjI c kz) c.bs _).lt h7 b hb) (fun e => nsd (by rw [<- e]; exact hb))), row_keep hr7 (fun b e => frz.block b (row_lt hr7 b e).2 (fun e' => by have := (hn7 b e).2; omega)), fun b e => ⟨(hn7 b e).1, by have := (hn7 b e).2; omega⟩, ?_, nsd, (hF6.mono (fun b d => Or.inl d)).trans frz (fun b e => Or.inl (Or.inr e)), fun b hb => (s7 b hb).elim (H4b.out.2 b) (fun d => Or.inr (by omega))⟩
      rw [frz.block c.bs (lt_of_some m2) (fun e => nsd (by rw [<- e]; exact fbs)), m2]
      show ((w6.setCell _ _).setCell _ _).heap[k.a.sd]? = _
      simp only [World.setCell, Array.getElem?_modify, if_true, HC.out, Option.map_some]
      simp
     clear q7 m2
     go_wp2_with fail
     go_region
     clear b0 b1 s0 s1 t0 t1 q2 u0 u4 u5
     obtain ⟨F', z1, z2, z3, z4, z5, z6, z7⟩ := HZ.out
     go_end0
     rw [HKZ.out]
     exact ⟨a1, c1, F', rfl, z1, z2, z3, z4, z5, z6, z7⟩
end
end Go.Proofs.YtnalfnlmaallmaaGreat

namespace Go.Proofs.YtnalfnlmaallmaaGreat
set_option maxRecDepth 100000
set_option maxHeartbeats 2000000
open Go.RowKit W Kp Stl
def Jk.mov (k : Jk) (t f n : Nat) : Jk := k.ar k.s.y k.s.g (splice k.s.ws t ((k.s.ws.drop f).take n))
def Jk.cop (k : Jk) (a : Int) : Jk := k.ar k.s.y (cpG k.a.N k.a.O k.s.y k.s.g k.s.ws a) (cpW k.a.N k.a.O k.s.y k.s.g k.s.ws a)
section
variable {c : Jc} {k0 k : Jk} {vt ve vr : Value} {F : Nat -> Prop} {s : Js} {w : World} {bp bn : Nat}
theorem mt_move (h : (mtO c k0 s vt ve).J F k w) (t f n : Nat) (h1 : t + n <= k0.a.N + k0.a.O) (h2 : f + n <= k0.a.N + k0.a.O) : Calls Tryz.prog 214 #[.pointer (some ⟨k0.a.p, 0, none⟩), .int .i64 t, .int .i64 f, .int .i64 n] w fun e w' => ∃ F', e = .returned (.tuple #[]) /\ (mtO c k0 s vt ve).J F' (k.mov t f n) w' /\ Tn F w F' w' := by
 obtain ⟨h, ea, eY, eG⟩ := h
 obtain ⟨hA, hU⟩ := mj_ar h
 have P := move_any t f n w hA (by rw [ea]; exact h1) (by rw [ea]; exact h2)
 rw [<- ea]
 refine P.mono ?_
 rintro e w2 ⟨rfl, hA2, hs2⟩
 obtain ⟨F2, h2, t2⟩ := hU w2 _ _ _ hA2 hs2
 exact ⟨F2, rfl, ⟨h2, ea, eY, eG⟩, t2⟩
theorem mt_copy (h : (mtO c k0 s vt ve).J F k w) (a : Int) : Calls Tryz.prog 193 #[.pointer (some ⟨k0.a.p, 0, none⟩), .int .i64 a] w fun e w' => ∃ F' v, e = .returned (.int .i64 v) /\ (mtO c k0 s vt ve).J F' (k.cop a) w' /\ Tn F w F' w' := by
 obtain ⟨h, ea, eY, eG⟩ := h
 obtain ⟨hA, hU⟩ := mj_ar h
 have P := copy_any a w hA
 rw [<- ea]
 refine P.mono ?_
 rintro e w2 ⟨rfl, hA2, hs2⟩
 obtain ⟨F2, h2, t2⟩ := hU w2 _ _ _ hA2 hs2
 exact ⟨F2, _, rfl, ⟨h2, ea, eY, eG⟩, t2⟩
theorem slide1J_any {u : Int} (h : (obN (obX (mtO c k0 s vt ve) bp (boxJ c)) bn).J F (k, u) w) (a : Int) (m : Nat) (ha : a ∈ k0.T) (hp : 0 <= a /\ a <= 2000) (hf : 0 <= s.f a) (h1 : s.f a + m <= k0.a.N + k0.a.O) (h2 : a + m <= k0.a.N + k0.a.O) (hu : 0 <= u /\ u <= 100000) (hm : m <= 13) :
  Calls Tryz.prog 213 #[.int .i64 a, .int .i64 m, .pointer (some ⟨bp, 0, none⟩), .pointer (some ⟨bn, 0, none⟩)] w fun e w' => ∃ F', e = .returned (.tuple #[]) /\ (obN (obX (mtO c k0 s vt ve) bp (boxJ c)) bn).J F' (k.mov (s.f a).toNat a.toNat m, u + m) w' /\ Tn F w F' w' := by
 have hky := keyI hp.1 (by omega)
 obtain ⟨F1, g1, _, _, U1⟩ := obN_in h
 obtain ⟨F2, g2, hx, lb, U2⟩ := obX_in g1
 have x0 : w.cell? ⟨bp, 0, none⟩ = some (.pointer (some ⟨c.pk, 0, none⟩)) := by simp [World.cell?, hx]
 obtain ⟨d0, d3, c0, _, _⟩ := mt_cells g2
 have gd := (mtO c k0 s vt ve).below g2 (Below.refl _ w).drew
 obtain ⟨_, _, _, ⟨D, o1, o2, o3⟩, _⟩ := mt_cells gd
 obtain ⟨z, hrun, hat, hwc⟩ := o1.lookup_int (t := 109) (e := 3) (q := .i64) lawI Tryz.underlying109 Tryz.underlying3 (zeroI _) hky
 obtain rfl : z = s.f a := by have := hat.symm.trans (o3 a ha); simpa using this
 obtain ⟨tn, htn⟩ := Int.eq_ofNat_of_zero_le hf
 obtain ⟨an, han⟩ := Int.eq_ofNat_of_zero_le hp.1
 rw [htn] at hrun h1 ⊢
 rw [han] at hrun h2 hky ⊢
 have P := mt_move gd tn an m (by omega) (by omega)
 rw [Int.toNat_natCast, Int.toNat_natCast]
 have HU : Hid (∀ F3 t1 w1, (mtO c k0 s vt ve).J F3 t1 w1 -> Tn F2 w F3 w1 -> ∃ F4, (obN (obX (mtO c k0 s vt ve) bp (boxJ c)) bn).J F4 (t1, u) w1 /\ Tn F w F4 w1) := fun F3 t1 w1 j1 t => by
  obtain ⟨j2, t2⟩ := U2 F3 t1 w1 j1 t
  obtain ⟨j3, t3⟩ := U1 _ t1 w1 j2 t2
  exact ⟨_, j3, t3⟩
 have HD : Hid (Tn F2 w F2 w.drew) := Tn.of (Below.refl _ w).drew
 have hu0 := hu.1
 have hu1 := hu.2
 clear h g1 g2 hx lb gd o1 o2 o3 hat hwc U1 U2 ha hp hf hky hu htn han
 go_enter Tryz.func213, Tryz.ntmps213
 go_wp2_with fail
 go_region_held3 (fun w' => w'.cell? ⟨bp, 0, none⟩ = some (.pointer (some ⟨c.pk, 0, none⟩)) /\ w'.cell? ⟨c.pk, 0, none⟩ = some (.pointer (some ⟨k0.a.pw, 0, none⟩)) /\ w'.cell? ⟨c.pk, 3, none⟩ = some (.map (some c.mq)) /\ w'.cell? ⟨k0.a.pw, 0, none⟩ = some (.pointer (some ⟨k0.a.p, 0, none⟩))) (go_keep)
  (first
   | (go_at_call 214; refine P.mono ?_; clear P; rintro e w3 ⟨F3, rfl, j3, t3⟩; obtain ⟨y0, y3, y5, _, _⟩ := mt_cells j3; have H3 := HU.out F3 _ w3 j3 (HD.out.trans t3); obtain ⟨F4, j4, t4⟩ := H3; have y6 := (obN_cell j4).1; have y7 := (obN_cell j4).2; dsimp only at y6; have y8 : w3.cell? ⟨bp, 0, none⟩ = some (.pointer (some ⟨c.pk, 0, none⟩)) := (by obtain ⟨_, e1, _⟩ := obN_in j4; obtain ⟨_, _, e2, _⟩ := obX_in e1; simp [World.cell?, e2]); have HJ4 : Hid ((obN (obX (mtO c k0 s vt ve) bp (boxJ c)) bn).J F4 (k.mov tn an m, u) w3 /\ Tn F w F4 w3) := ⟨j4, t4⟩; clear j3 t3 j4 t4))
 all_goals
  clear x0 d0 d3 c0 y0 y3 y5 y8 hrun
  go_wp2_with fail
  go_end0
  obtain ⟨j5, t5⟩ := obN_set HJ4.out.1 (u + m)
  exact ⟨F4, rfl, j5, HJ4.out.2.trans t5⟩
theorem slide2J_any (h : (obX (mtO c k0 s vt ve) bp (boxJ c)).J F k w) (a m : Int) :
  Calls Tryz.prog 216 #[.int .i64 a, .int .i64 m, .pointer (some ⟨bp, 0, none⟩)] w fun e w' => ∃ F', e = .returned (.tuple #[]) /\ (obX (mtO c k0 s vt ve) bp (boxJ c)).J F' (k.cop a) w' /\ Tn F w F' w' := by
 obtain ⟨F2, g2, hx, lb, U2⟩ := obX_in h
 have x0 : w.cell? ⟨bp, 0, none⟩ = some (.pointer (some ⟨c.pk, 0, none⟩)) := by simp [World.cell?, hx]
 obtain ⟨d0, d3, c0, _, _⟩ := mt_cells g2
 have P := mt_copy g2 a
 have HU : Hid (∀ F1 t1 w1, (mtO c k0 s vt ve).J F1 t1 w1 -> Tn F2 w F1 w1 -> (obX (mtO c k0 s vt ve) bp (boxJ c)).J (fun b => F1 b \/ b = bp) t1 w1 /\ Tn F w (fun b => F1 b \/ b = bp) w1) := U2
 clear h g2 hx lb U2
 go_enter Tryz.func216, Tryz.ntmps216
 go_wp2_with fail
 refine P.mono ?_
 clear P
 rintro e w1 ⟨F1, v, rfl, h1, t1⟩
 have HF : Hid ((obX (mtO c k0 s vt ve) bp (boxJ c)).J (fun b => F1 b \/ b = bp) (k.cop a) w1 /\ Tn F w (fun b => F1 b \/ b = bp) w1) := HU.out F1 _ w1 h1 t1
 clear h1 t1 x0 d0 d3 c0
 go_wp2_with fail
 go_end0
 exact ⟨_, rfl, HF.out.1, HF.out.2⟩
end
end Go.Proofs.YtnalfnlmaallmaaGreat

namespace Go.Proofs.YtnalfnlmaallmaaGreat
open Go.RowKit W Kp Stl
section
variable {N y g : Nat} {ws : List Int} {hi : Int}
theorem ths_nd : ∀ (k : Nat) (a : Int), (ths N y g ws hi k a).Nodup
 | 0, a => by unfold ths; exact List.nodup_nil
 | k + 1, a => by
  unfold ths
  split
  ·split
   ·rw [List.nodup_cons]
    refine ⟨fun h => ?_, ths_nd k _⟩
    have h1 := (ths_bd k _ _ h).1
    have h2 := pf_bd (ld N y g ws a)
    omega
   ·exact List.nodup_nil
  ·exact List.nodup_nil
theorem ths_pc : ∀ (k : Nat) (a x : Int), x ∈ ths N y g ws hi k a -> pc (ld N y g ws x) = 0
 | 0, a, x, h => by simp [ths] at h
 | k + 1, a, x, h => by
  unfold ths at h
  split at h
  ·split at h
   ·rcases List.mem_cons.1 h with h | h
    ·rw [h]; assumption
    ·exact ths_pc k _ x h
   ·simp at h
  ·simp at h
theorem Tw_sum : ∀ (k : Nat) (a : Int), (((ths N y g ws y k a).filter (fun a => decide (a + pf (ld N y g ws a) < y))).map (fun a => 1 + (pf (ld N y g ws a)).toNat)).sum <= ((y : Int) - a).toNat
 | 0, a => by simp [ths]
 | k + 1, a => by
  unfold ths
  split
  ·split
   ·have ih := Tw_sum k (a + (1 + pf (ld N y g ws a)))
    have h2 := pf_bd (ld N y g ws a)
    by_cases c : a + pf (ld N y g ws a) < y
    ·rw [List.filter_cons_of_pos (by simpa using c)]
     simp only [List.map_cons, List.sum_cons]
     omega
    ·rw [List.filter_cons_of_neg (by simpa using c)]
     omega
   ·simp
  ·simp
end
def Wst.k0 (a : Wc) (s : Wst) : Ck := ⟨a.N, a.O, s.y, Tw a.N s.y s.g s.ws⟩
def Wst.s0 (a : Wc) (s : Wst) : Cs := ⟨s.g, s.ws, fun _ => -1, (a.N : Int) + s.g, [], [], s.rs⟩
theorem CI.start {a : Wc} {s : Wst} (hN : 16 <= a.N) (hN' : a.N <= 256) (hO : a.O <= 1024) (hy : s.y <= a.N) (hg : s.g <= a.O) (hl : s.ws.length = a.N + a.O) (hr : s.y <= a.O - s.g) : CI (s.k0 a) (s.s0 a) := by
 have hT : ∀ x ∈ Tw a.N s.y s.g s.ws, x ∈ thY a.N s.y s.g s.ws /\ x + pf (ld a.N s.y s.g s.ws x) < s.y := fun x hx => by simpa [Tw] using hx
 refine ⟨hN, hN', hO, hy, hg, hl, fun x hx => ?_, (ths_nd 2000 0).filter _, ?_, ?_, ?_, by simp [Wst.s0], by simp [Wst.s0], ?_⟩
 ·obtain ⟨h1, h2⟩ := hT x hx
  exact ⟨(thY_bd x h1).1, ths_pc _ _ _ h1, by show x + 1 + pf (ld a.N s.y s.g s.ws x) <= s.y; omega⟩
 ·have h1 := Tw_sum (N := a.N) (y := s.y) (g := s.g) (ws := s.ws) 2000 0
  have e : (s.k0 a).sz (s.s0 a) = (((ths a.N s.y s.g s.ws s.y 2000 0).filter (fun x => decide (x + pf (ld a.N s.y s.g s.ws x) < s.y))).map (fun x => 1 + (pf (ld a.N s.y s.g s.ws x)).toNat)).sum := by
   unfold Ck.sz
   have e2 : (s.k0 a).T.filter (fun x => (s.s0 a).f x == -1) = (s.k0 a).T := List.filter_eq_self.2 (fun _ _ => rfl)
   rw [e2]
   rfl
  rw [e]
  show _ <= a.O - s.g
  omega
 ·show (a.N : Int) <= (a.N : Int) + s.g
  omega
 ·show (a.N : Int) + s.g <= (a.N : Int) + a.O + 13
  omega
 ·exact Nat.le_trans (List.length_filter_le _ _) (ths_le _ _)
def Wst.s1 (a : Wc) (s : Wst) : Cs := (s.k0 a).kr (s.s0 a) 12
def Wst.s2 (a : Wc) (s : Wst) : Cs := (s.k0 a).lm (nC a.O) s.M (s.s1 a) (thO a.N s.y (s.s1 a).g (s.s1 a).ws)
def Ww.t3 (a : Wc) (S : Ww) : Cs × List En := (S.s.k0 a).sp (S.s.s2 a, S.q)
def Ww.s4 (a : Wc) (S : Ww) : Cs := ((S.s.k0 a).sS (S.t3 a) S.r).1
def Ww.s5 (a : Wc) (S : Ww) : Cs := (S.s.k0 a).mw (S.s4 a) (S.s4 a).wk
def Ww.s6 (a : Wc) (S : Ww) : Cs := (S.s.k0 a).be (S.s5 a) (S.s5 a).ep
def Ww.full (a : Wc) (S : Ww) : Bool := decide (a.O - S.s.g < S.s.y)
def Ww.cut (a : Wc) (S : Ww) : Ww := if S.full a = true then S else ⟨⟨0, (S.s6 a).g, (S.s6 a).ws, [], (S.s6 a).rs⟩, (S.s.k0 a).sR (S.t3 a) S.r, (S.s.k0 a).sQ (S.t3 a) S.r⟩
def Ww.code (a : Wc) (S : Ww) : Int := if S.full a = true then 3 else 0
end Go.Proofs.YtnalfnlmaallmaaGreat
