/- Joined: Mj16, Mn10, Mj17, Mj18. -/
import Derived.Test.YtnalfnlmaallmaaGreatJ29
import Derived.Test.YtnalfnlmaallmaaGreatJ18
namespace Go.Proofs.YtnalfnlmaallmaaGreat
set_option maxRecDepth 100000
set_option maxHeartbeats 2000000
open Go.RowKit W Kp Stl
def Jk.plS (k : Jk) (t : Js × Int) (a : Int) : Js × Int := ({ t.1 with f := upf t.1.f a t.2 }, t.2 + (1 + pf (k.ld a)))
def Jk.plL (k : Jk) (t : Js × Int) (l : List Int) : Js × Int := ejL (fun t a => t.1.f a) k.plS t l
def Jk.pl (k : Jk) (s : Js) : Js × Int := k.plL (s, k.a.N) k.T
section
variable {c : Jc} {k : Jk} {vt ve : Value} {F : Nat -> Prop} {s : Js} {w : World}
theorem ent_pl1 : Ent 210 := ent_of Tryz.func210 (by kernel_rfl) rfl
theorem placeE_any {bp bn : Nat} (h : (obN (obX (mjV c k vt ve) bp (boxJ c)) bn).J F (s, (k.a.N : Int)) w) (ht : k.T.length <= 4000) (hp : ∀ a ∈ k.T, 0 <= a /\ a <= 2000) (hN : k.a.N <= 2000) {ad : Option Addr} {d B : Nat} (hr : w.ownsRow B 3 1 (.slice ad k.T.length d) k.T.length (k.T.map (Value.int .i64))) (hB : ∀ b, F b -> b < B) :
  Calls Tryz.prog 209 #[.pointer (some ⟨c.pk, 0, none⟩), .slice ad k.T.length d, .func (.func 210) #[] #[.pointer (some ⟨bn, 0, none⟩), .pointer (some ⟨bp, 0, none⟩)]] w fun e w' => ∃ F', e = .returned (.tuple #[]) /\ (obN (obX (mjV c k vt ve) bp (boxJ c)) bn).J F' (k.pl s) w' /\ Tn F w F' w' /\ 0 <= (k.pl s).2 /\ (k.pl s).2 <= 60000 := by
 have E := eachJ_any (obN (obX (mjV c k vt ve) bp (boxJ c)) bn) (fun t a => t.1.f a) (fun _ a => pf (k.ld a)) k.plS (fun j t => 0 <= t.2 /\ t.2 <= 2000 + 13 * (j : Int)) k.T c.pk k.a.pw k.a.p c.mq 210 #[.pointer (some ⟨bn, 0, none⟩), .pointer (some ⟨bp, 0, none⟩)] ent_pl1 k.T ad d F (s, (k.a.N : Int)) w
  (by
   rintro F t w9 a h9
   obtain ⟨_, h1, _⟩ := obN_in h9
   obtain ⟨_, h2, _⟩ := obX_in h1
   obtain ⟨c0, _, _, c3, _⟩ := mj_cells h2
   obtain ⟨hA, c5, _⟩ := mj_wood h2
   obtain ⟨hM, _⟩ := mj_map h2
   refine ⟨c0, c3, c5, hM, (thing_any a w9 hA).mono ?_⟩
   rintro r w' ⟨rfl, hb⟩
   exact ⟨_, _, rfl, hb⟩)
  (fun t a => pf_bd _) (fun a ha => ⟨by have := hp a ha; omega, ha⟩) (by omega)
  (by
   rintro j F t w9 hj ⟨g1, g2⟩ hJ _
   have hm : k.T.getD j 0 ∈ k.T := by rw [List.getD_eq_getElem?_getD, List.getElem?_eq_getElem hj]; exact List.getElem_mem hj
   have h1 := hp _ hm
   have h2 := pf_bd (k.ld (k.T.getD j 0))
   exact place1J_any (s := t.1) (n := t.2) (m := 1 + pf (k.ld (k.T.getD j 0))) hJ ht hm h1 ⟨g1, by omega⟩ (by omega))
  (by
   rintro j t hj ⟨g1, g2⟩
   have h2 := pf_bd (k.ld (k.T.getD j 0))
   unfold ejS
   split
   ·exact ⟨g1, by omega⟩
   ·unfold Jk.plS
    dsimp only
    exact ⟨by omega, by omega⟩)
  ⟨by dsimp only; omega, by dsimp only; omega⟩ h (row_ints hr)
  (fun hp' z e hz => by
   obtain ⟨b, cap, e'⟩ := row_shape hr hp'
   cases e'
   cases e
   have h2 := (row_lt hr b rfl).1
   have := hB b hz
   omega)
 refine E.mono ?_
 rintro r w' ⟨F', rfl, h1, h2, h3, h4⟩
 exact ⟨F', rfl, h1, h2, h3, Int.le_trans h4 (by omega)⟩
theorem placeJ_any (h : (mjV c k vt ve).J F s w) (ht : k.T.length <= 4000) (hp : ∀ a ∈ k.T, 0 <= a /\ a <= 2000) :
  Calls Tryz.prog 151 #[.pointer (some ⟨c.pk, 0, none⟩)] w fun e w' => ∃ F', e = .returned (.int .i64 ((k.pl s).2 - k.a.N)) /\ (mjV c k vt ve).J F' (k.pl s).1 w' /\ Tn F w F' w' := by
 have hmf : ∀ (fn : Fn) (first cap : Array Value) (w : World), (Instr.makeFunc fn first cap).run Tryz.prog w = .ok (.func fn first cap) w := fun _ _ _ _ => rfl
 have HJ : Hid ((mjV c k vt ve).J F s w) := h
 have hb0 := (Below.refl w.heap.size w).alloc (Nat.le_refl _) (boxJ c)
 have h0 := (mjV c k vt ve).below h hb0
 obtain ⟨hA, c0, _⟩ := mj_wood h0
 obtain ⟨d0, _⟩ := mj_cells h0
 have P := bounds_any _ hA
 have n1 := hA.hN'
 have HB : Hid (Below w.heap.size w (w.alloc (boxJ c))) := hb0
 clear h h0 hA hb0
 go_enter Tryz.func151, Tryz.ntmps151
 go_wp2_with fail
 refine P.mono ?_
 clear P
 rintro e w1 ⟨rfl, hb1⟩
 have hx1 : w1.heap[w.heap.size]? = some (boxJ c) := (hb1.block _ (by simp)).trans (heap_alloc_new _ _)
 have x0 : w1.cell? ⟨w.heap.size, 0, none⟩ = some (.pointer (some ⟨c.pk, 0, none⟩)) := by simp [World.cell?, hx1]
 have nF : ∀ b, F b -> b < w.heap.size := (mjV c k vt ve).lt HJ.out
 have hs1 : w.heap.size < w1.heap.size := lt_of_some hx1
 have hb2 : Below w1.heap.size w1 (w1.alloc (boxI k.a.N)) := (Below.refl w1.heap.size w1).alloc (Nat.le_refl _) _
 have hbA : Below w.heap.size w w1 := HB.out.trans (hb1.mono HB.out.size)
 have hJ2 := (mjV c k vt ve).below ((mjV c k vt ve).below HJ.out hbA) hb2
 have hX2 : (obX (mjV c k vt ve) w.heap.size (boxJ c)).J (fun b => F b \/ b = w.heap.size) s (w1.alloc (boxI k.a.N)) := ⟨F, hJ2, (hb2.block _ hs1).trans hx1, fun d => by have := nF _ d; omega, fun b => Iff.rfl⟩
 have hN2 : (obN (obX (mjV c k vt ve) w.heap.size (boxJ c)) w1.heap.size).J (fun b => (F b \/ b = w.heap.size) \/ b = w1.heap.size) (s, (k.a.N : Int)) (w1.alloc (boxI k.a.N)) := ⟨_, hX2, heap_alloc_new _ _, fun d => d.elim (fun d => by have := nF _ d; omega) (fun d => by omega), fun b => Iff.rfl⟩
 have hd := (Below.refl (w1.alloc (boxI k.a.N)).heap.size (w1.alloc (boxI k.a.N))).drew
 have PA := allJ_any (c := c) ⟨vt, ve, (mjV c k vt ve).below hJ2 hd⟩ ht
 have HN : Hid ((obN (obX (mjV c k vt ve) w.heap.size (boxJ c)) w1.heap.size).J (fun b => (F b \/ b = w.heap.size) \/ b = w1.heap.size) (s, (k.a.N : Int)) (w1.alloc (boxI k.a.N)).drew /\ Below w.heap.size w (w1.alloc (boxI k.a.N)).drew /\ (∀ b, F b -> b < w.heap.size) /\ w.heap.size < w1.heap.size /\ (w1.alloc (boxI k.a.N)).drew.heap.size = w1.heap.size + 1) := ⟨(obN (obX (mjV c k vt ve) w.heap.size (boxJ c)) w1.heap.size).below hN2 hd, (hbA.trans (hb2.mono hbA.size)).trans (hd.mono (by simp; omega)), nF, hs1, by simp⟩
 have x2 : (w1.alloc (boxI k.a.N)).cell? ⟨w.heap.size, 0, none⟩ = some (.pointer (some ⟨c.pk, 0, none⟩)) := (hb2.cell (p := ⟨w.heap.size, 0, none⟩) hs1).trans x0
 have HPL : Hid (k.T.length <= 4000 /\ ∀ a ∈ k.T, 0 <= a /\ a <= 2000) := ⟨ht, hp⟩
 clear nF hb2 hbA hJ2 hX2 hN2 hd hb1 hx1 x0 c0 d0 HB hs1 HJ
 go_wp2_with fail
 go_region_held3 (fun w' => w'.cell? ⟨w.heap.size, 0, none⟩ = some (.pointer (some ⟨c.pk, 0, none⟩))) (go_keep)
  (first
   | (go_at_call 201; refine PA.mono ?_; clear PA; rintro e w3 ⟨a3, d3, rfl, ho3, hb3⟩; have y0 : w3.cell? ⟨w.heap.size, 0, none⟩ = some (.pointer (some ⟨c.pk, 0, none⟩)) := (hb3.cell (p := ⟨w.heap.size, 0, none⟩) (by have := HN.out.2.2.2; simp; omega)).trans x2; have H3 : Hid (w3.ownsRow (w1.alloc (boxI k.a.N)).drew.heap.size 3 1 (.slice a3 k.T.length d3) k.T.length (k.T.map (Value.int .i64)) /\ Below (w1.alloc (boxI k.a.N)).drew.heap.size (w1.alloc (boxI k.a.N)).drew w3) := ⟨ho3, hb3⟩; clear ho3 hb3)
   | (go_at_call 209; refine (placeE_any ((obN (obX (mjV c k vt ve) w.heap.size (boxJ c)) w1.heap.size).below HN.out.1 H3.out.2) HPL.out.1 HPL.out.2 (by omega) H3.out.1 (fun b hb => by have h5 := HN.out.2.2; rw [h5.2.2]; rcases hb with (hb | hb) | hb; (have := h5.1 b hb; omega); omega; omega)).mono ?_; rintro e w4 ⟨F4, rfl, hJ4, hT4, b1, b2⟩; have y4 := (obN_cell hJ4).1; obtain ⟨F5, h5, _, _, _⟩ := obN_in hJ4; obtain ⟨F6, h6, h7, _, _⟩ := obX_in h5; have y5 : w4.cell? ⟨w.heap.size, 0, none⟩ = some (.pointer (some ⟨c.pk, 0, none⟩)) := (by simp [World.cell?, h7]); clear h5 h6 h7; have HJ4 : Hid ((obN (obX (mjV c k vt ve) w.heap.size (boxJ c)) w1.heap.size).J F4 (k.pl s) w4 /\ Tn (fun b => (F b \/ b = w.heap.size) \/ b = w1.heap.size) w3 F4 w4) := ⟨hJ4, hT4⟩; clear hJ4 hT4))
 all_goals
  have HF : Hid (∃ F', (mjV c k vt ve).J F' (k.pl s).1 w4 /\ Tn F w F' w4) := by
   obtain ⟨⟨F5, ⟨F6, h6, h7, h8, h9⟩, h10, h11, h12⟩, hT⟩ := HJ4.out
   obtain ⟨_, q2, q3, q4, q5⟩ := HN.out
   have hb3 := H3.out.2
   have hbw : Below w.heap.size w w3 := q2.trans (hb3.mono (by omega))
   refine ⟨F6, h6, ⟨(Fr.of (X := F) hbw).trans hT.fr (fun b d => ?_), fun b hb => ?_⟩⟩
   ·rcases d with (d | d) | d
    ·exact Or.inl d
    ·exact Or.inr (by omega)
    ·exact Or.inr (by omega)
   ·rcases hT.sub b ((h12 b).2 (Or.inl ((h9 b).2 (Or.inl hb)))) with ((d | d) | d) | d
    ·exact Or.inl d
    ·exact absurd hb (by rw [d]; exact h8)
    ·exact absurd ((h9 b).2 (Or.inl hb)) (by rw [d]; exact h11)
    ·exact Or.inr (by have := hbw.size; omega)
  clear HJ4 HN H3 HPL x2 y0 y5
  go_wp2_with fail
  go_ret
  obtain ⟨F', h1, h2⟩ := HF.out
  exact ⟨F', by first | rfl | go_num, h1, h2⟩
end
end Go.Proofs.YtnalfnlmaallmaaGreat

namespace Go.Proofs.YtnalfnlmaallmaaGreat
set_option maxRecDepth 100000
set_option maxHeartbeats 2000000
open Go.RowKit W Kp Stl
section
variable {c : Cc} {k : Ck} {F : Nat -> Prop} {s : Cs} {w : World}
theorem breakE_any (h : (cutO c k).J F s w) (hI : CI k s) (hl : s.ep.length <= 10000) :
  Calls Tryz.prog 68 #[.pointer (some ⟨c.pk, 0, none⟩)] w fun e w' => e = .returned (.tuple #[]) /\ (cutO c k).J F (k.be s s.ep) w' /\ Tn F w F w' := by
 obtain ⟨vw, ve, h⟩ := h
 obtain ⟨c0, _, _, _, c4, c5, _, _, _, cz, _, er, _, lk, _⟩ := cut_cells h
 obtain ⟨ad, cap, rfl⟩ := row_slice er
 have HI : Hid (CI k s) := hI
 have HP : Hid (∀ a ∈ s.ep, (k.N : Int) <= a /\ a <= 2000) := hI.ep0
 have hN0 : (0 : Int) <= k.N := by omega
 clear hI cz
 go_enter Tryz.func68, Tryz.ntmps68
 go_wp2_with fail
 go_loopw [9] (fun iv wr => ∃ (j : Nat) (s1 : Cs), j <= s.ep.length /\ iv = .int .i64 j /\ Hid (k.be s (s.ep.take j) = s1) /\ (cutV c k vw (.slice ad s.ep.length cap)).J F s1 wr /\ Tn F w F wr /\ Hid (CI k s1 /\ Cq k s s1)) (fun iv _ => s.ep.length - (intOf iv).toNat)
 case atStart => exact ⟨0, s, Nat.zero_le _, rfl, rfl, h, Tn.refl _ _, ⟨HI.out, Cq.refl _ _⟩⟩
 case round =>
  obtain ⟨j, s1, hj, rfl, HE, hJ, hT, HI1⟩ := hrel
  obtain ⟨d0, _, _, _, d4, d5, _, _, _, dz, _, er1, _, lk1, _⟩ := cut_cells hJ
  have eep := HI1.out.2.ep
  rw [eep] at er1
  by_cases hlt : j < s.ep.length
  ·obtain ⟨b0, o0, e0, hb0, hc⟩ := row_ints er1 (by omega)
   have x1 := hc j hlt
   subst e0
   have hin : s.ep.getD j 0 ∈ s.ep := by rw [List.getD_eq_getElem?_getD, List.getElem?_eq_getElem hlt]; exact List.getElem_mem hlt
   have hbd := HP.out _ hin
   have HS : Hid (k.be s (s.ep.take (j + 1)) = k.be1 s1 (s.ep.getD j 0)) := by
    show _ = _
    rw [take_snoc s.ep j hlt 0]
    unfold Ck.be
    rw [List.foldl_append]
    have := HE.out
    unfold Ck.be at this
    rw [this]
    rfl
   generalize s.ep.getD j 0 = a at x1 hbd HS
   have HI2 : Hid (CI k (k.be1 s1 a) /\ Cq k s (k.be1 s1 a)) := by
    obtain ⟨i1, i2⟩ := HI1.out.1.be1 hbd.1
    exact ⟨i1, HI1.out.2.trans i2⟩
   have HB : Hid (k.be1 s1 a = k.st (k.st s1 (a + 1) 3) (a + 2) 3) := rfl
   generalize k.be1 s1 a = s3 at HS HI2 HB
   have HJ1 : Hid ((cutV c k vw (.slice (some ⟨b0, o0, none⟩) s.ep.length cap)).J F s1 wr /\ Tn F w F wr) := ⟨hJ, hT⟩
   have hA := (cut_arena ((cutV c k vw (.slice (some ⟨b0, o0, none⟩) s.ep.length cap)).below hJ (Below.refl _ wr).drew))
   have HA : Hid (_ /\ _) := hA
   have hw1 : IntKind.i64.wrap (a + 1) = a + 1 := by rw [IntKind.wrap_i64]; omega
   have hw2 : IntKind.i64.wrap (a + 2) = a + 2 := by rw [IntKind.wrap_i64]; omega
   clear hc hin hJ hT hA dz er1 d4
   go_wp2_with fail
   go_region_held3 (fun w' => w'.cell? ⟨c.pk, 0, none⟩ = some (.pointer (some ⟨c.pw, 0, none⟩)) /\ w'.cell? ⟨c.pw, 0, none⟩ = some (.pointer (some ⟨c.p, 0, none⟩))) (go_keep)
    (first
     | (go_at_call 144; refine (gone_any _).mono ?_; rintro e w2 ⟨rfl, hw2'⟩; have hw2' := hw2'.symm; subst hw2')
     | (go_at_call 111; refine (store_any (a + 1) 3 wr.drew HA.out.1).mono ?_; rintro e w3 ⟨rfl, hA3, hs3⟩; obtain ⟨hJ3, hT3⟩ := HA.out.2 w3 _ _ hA3 hs3; obtain ⟨g0, _, _, _, _, g5, _⟩ := cut_cells hJ3; have HJ3 : Hid ((cutV c k vw (.slice (some ⟨b0, o0, none⟩) s.ep.length cap)).J F (k.st s1 (a + 1) 3) w3 /\ Tn F w F w3) := ⟨hJ3, (HJ1.out.2.below (Below.refl _ wr).drew).trans hT3⟩; clear hA3 hs3 hJ3 hT3 HA HJ1))
   have hA := (cut_arena ((cutV c k vw (.slice (some ⟨b0, o0, none⟩) s.ep.length cap)).below HJ3.out.1 (Below.refl _ w3).drew))
   have HA : Hid (_ /\ _) := hA
   clear hA d0 d5
   go_wp2_with fail
   go_region_held3 (fun w' => w'.cell? ⟨c.pk, 0, none⟩ = some (.pointer (some ⟨c.pw, 0, none⟩)) /\ w'.cell? ⟨c.pw, 0, none⟩ = some (.pointer (some ⟨c.p, 0, none⟩))) (go_keep)
    (first
     | (go_at_call 144; refine (gone_any _).mono ?_; rintro e w2 ⟨rfl, hw2'⟩; have hw2' := hw2'.symm; subst hw2')
     | (go_at_call 111; refine (store_any (a + 2) 3 w3.drew HA.out.1).mono ?_; rintro e w5 ⟨rfl, hA3, hs3⟩; obtain ⟨hJ5, hT5⟩ := HA.out.2 w5 _ _ hA3 hs3; obtain ⟨r0, _, _, _, _, r5, _⟩ := cut_cells hJ5; have HJ5 : Hid ((cutV c k vw (.slice (some ⟨b0, o0, none⟩) s.ep.length cap)).J F s3 w5 /\ Tn F w F w5) := ⟨(by rw [HB.out]; exact hJ5), (HJ3.out.2.below (Below.refl _ w3).drew).trans hT5⟩; clear hA3 hs3 hJ5 hT5 HA HJ3))
   clear g0 g5 r0 r5
   go_wp2_with fail
   go_roundw
   case rel => exact ⟨j + 1, s3, by omega, by go_num, HS, HJ5.out.1, HJ5.out.2, HI2⟩
   case measure => simp [intOf]; omega
  ·obtain rfl : j = s.ep.length := by omega
   rw [List.take_length] at HE
   go_wp2_with fail
   go_end0
   rw [HE.out]
   exact ⟨rfl, ⟨_, _, hJ⟩, hT⟩
end
end Go.Proofs.YtnalfnlmaallmaaGreat

namespace Go.Proofs.YtnalfnlmaallmaaGreat
set_option maxRecDepth 100000
set_option maxHeartbeats 2000000
open Go.RowKit W Kp Stl
def Jk.ar (k : Jk) (y g : Nat) (ws : List Int) : Jk := { k with s := { k.s with y := y, g := g, ws := ws } }
def Jk.sto (k : Jk) (a x : Int) : Jk := k.ar k.s.y k.s.g (if iB k.a.N k.s.y k.s.g a = true then k.s.ws.set a.toNat x else k.s.ws)
def Jk.rot (k : Jk) (i : Nat) (x : Int) : Jk := { k with s := { k.s with rs := k.s.rs.set i x } }
def Jk.brk (k : Jk) (s : Js) (a : Int) : Jk :=
 if (pk (k.ld a) = 3 \/ pk (k.ld a) = 4) /\ k.jl s (k.ld (a + 1)) = true then (if pk (k.ld a) = 4 then (k.sto (a + 1) 3).sto (a + 2) 3 else k.sto (a + 1) 3) else k
section
variable {c : Jc} {k : Jk} {vt ve : Value} {F : Nat -> Prop} {s : Js} {w : World}
open Classical in
theorem mj_turn (h : (mjV c k vt ve).J F s w) : ∃ FW, (wodO k.a).J FW k.s w /\ ∀ FW' s' w', (wodO k.a).J FW' s' w' -> Tn FW w FW' w' -> ∃ F', (mjV c { k with s := s' } vt ve).J F' s w' /\ Tn F w F' w' := by
  obtain ⟨FW, own, h, hF⟩ := h
  refine ⟨FW, h.wd, fun FW' s' w' h' hT => ⟨_, ⟨FW', fun b => if FW' b then 1 else if FW b then 0 else own b, ?_, fun b => Iff.rfl⟩, ⟨hT.fr.mono (fun b d => (hF b).2 (by rw [(h.w1 b).1 d]; decide)), fun b hb => ?_⟩⟩⟩
  · have e1 : ∀ b j, own b = j -> j ≠ 0 -> j ≠ 1 -> (if FW' b then 1 else if FW b then 0 else own b) = j := fun b j e h0 h1 => by
      have n1 : ¬ FW b := fun d => h1 (e.symm.trans ((h.w1 b).1 d))
      rw [if_neg (fun d => (hT.sub b d).elim n1 (fun d => by have := h.lt b (by omega); omega)), if_neg n1]
      exact e
    have hk : ∀ b, b < w.heap.size -> own b ≠ 1 -> w'.heap[b]? = w.heap[b]? := fun b hb hn => hT.fr.block b hb (fun d => hn ((h.w1 b).1 d))
    exact { wd := h', w1 := fun b => ⟨fun d => by rw [if_pos d], fun d => by
              by_cases e : FW' b
              · exact e
              · rw [if_neg e] at d
                by_cases e2 : FW b
                · rw [if_pos e2] at d; omega
                · rw [if_neg e2] at d; exact absurd ((h.w1 b).2 d) e2⟩
            cb := (hk _ (lt_of_some h.cb) (by rw [h.k1]; decide)).trans h.cb, k1 := e1 _ _ h.k1 (by decide) (by decide)
            mp := h.mp.same (hk _ h.mp.lt (by rw [h.m1]; decide)), m1 := e1 _ _ h.m1 (by decide) (by decide)
            tr := row_keep h.tr (fun b e => hk b (row_lt h.tr b e).2 (by rw [h.to_ b e]; decide)), to_ := fun b e => e1 _ _ (h.to_ b e) (by decide) (by decide)
            er := row_keep h.er (fun b e => hk b (row_lt h.er b e).2 (by rw [h.eo b e]; decide)), eo := fun b e => e1 _ _ (h.eo b e) (by decide) (by decide)
            yr := row_keep h.yr (fun b e => hk b (row_lt h.yr b e).2 (by rw [h.yo b e]; decide)), yo := fun b e => e1 _ _ (h.yo b e) (by decide) (by decide)
            gr := row_keep h.gr (fun b e => hk b (row_lt h.gr b e).2 (by rw [h.go b e]; decide)), go := fun b e => e1 _ _ (h.go b e) (by decide) (by decide)
            lt := fun b hb => by
              by_cases e : FW' b
              · exact (wodO k.a).lt h' b e
              · rw [if_neg e] at hb
                by_cases e2 : FW b
                · rw [if_pos e2] at hb; exact absurd rfl hb
                · rw [if_neg e2] at hb; exact Nat.lt_of_lt_of_le (h.lt b hb) hT.fr.size }
  · dsimp only at hb
    by_cases e : FW' b
    · exact (hT.sub b e).imp (fun d => (hF b).2 (by rw [(h.w1 b).1 d]; decide)) id
    · rw [if_neg e] at hb
      by_cases e2 : FW b
      · rw [if_pos e2] at hb; exact absurd rfl hb
      · rw [if_neg e2] at hb; exact Or.inl ((hF b).2 hb)
theorem mj_ar (h : (mjV c k vt ve).J F s w) : At w k.a.p k.a.q k.a.N k.a.O k.s.y k.s.g k.s.ws /\ ∀ w' y g ws, At w' k.a.p k.a.q k.a.N k.a.O y g ws -> Sv k.a.p k.a.q w w' -> ∃ F', (mjV c (k.ar y g ws) vt ve).J F' s w' /\ Tn F w F' w' := by
 obtain ⟨FW, h1, h2⟩ := mj_turn h
 obtain ⟨g1, g2⟩ := wod_arena h1
 refine ⟨g1, fun w' y g ws ha sv => ?_⟩
 obtain ⟨j1, j2⟩ := g2 w' y g ws ha sv
 exact h2 _ _ _ j1 j2
theorem mj_rot (h : (mjV c k vt ve).J F s w) (i : Nat) (x : Int) : ∃ F', (mjV c (k.rot i x) vt ve).J F' s (w.setCell ⟨k.a.nb, i, none⟩ (.int .i64 x)) /\ Tn F w F' (w.setCell ⟨k.a.nb, i, none⟩ (.int .i64 x)) := by
 obtain ⟨FW, h1, h2⟩ := mj_turn h
 obtain ⟨j1, j2⟩ := wod_root h1 i x
 exact h2 _ _ _ j1 j2
theorem breakJ_any (h : (mjV c k vt ve).J F s w) (a : Int) (ha : 0 <= a /\ a <= 2000) :
  Calls Tryz.prog 212 #[.pointer (some ⟨c.pk, 0, none⟩), .int .i64 a] w fun e w' => ∃ F', e = .returned (.tuple #[]) /\ (mjV c (k.brk s a) vt ve).J F' s w' /\ Tn F w F' w' := by
 have HJ : Hid ((mjV c k vt ve).J F s w) := h
 obtain ⟨d0, _⟩ := mj_cells h
 obtain ⟨hA, c0, _⟩ := mj_wood h
 have P := thing_any a w hA
 have HB : Hid (k.brk s a = if (pk (ld k.a.N k.s.y k.s.g k.s.ws a) = 3 \/ pk (ld k.a.N k.s.y k.s.g k.s.ws a) = 4) /\ k.jl s (k.ld (a + 1)) = true then (if pk (ld k.a.N k.s.y k.s.g k.s.ws a) = 4 then (k.sto (a + 1) 3).sto (a + 2) 3 else k.sto (a + 1) 3) else k) := rfl
 have hw1 : IntKind.i64.wrap (a + 1) = a + 1 := by rw [IntKind.wrap_i64]; omega
 have hw2 : IntKind.i64.wrap (a + 2) = a + 2 := by rw [IntKind.wrap_i64]; omega
 generalize k.brk s a = k2 at HB ⊢
 generalize pk (ld k.a.N k.s.y k.s.g k.s.ws a) = kk at P HB
 generalize pf (ld k.a.N k.s.y k.s.g k.s.ws a) = ff at P
 generalize pc (ld k.a.N k.s.y k.s.g k.s.ws a) = cc at P
 clear h hA
 by_cases h34 : kk = 3 \/ kk = 4
 ·have PL : Hid (∀ w1, Below w.heap.size w w1 -> Calls Tryz.prog 116 #[.pointer (some ⟨k.a.p, 0, none⟩), .int .i64 (a + 1)] w1 fun e w' => e = .returned (.int .i64 (k.ld (a + 1))) /\ Below w1.heap.size w1 w') := fun w1 hb => load_any (a + 1) w1 (mj_wood ((mjV c k vt ve).below HJ.out hb)).1
  have PI : Hid (∀ w1, Below w.heap.size w w1 -> Calls Tryz.prog 206 #[.pointer (some ⟨c.pk, 0, none⟩), .int .i64 (k.ld (a + 1))] w1 fun e w' => e = .returned (.bool (k.jl s (k.ld (a + 1)))) /\ Below w1.heap.size w1 w') := fun w1 hb => isLostJ_any ((mjV c k vt ve).below HJ.out hb) _
  generalize k.ld (a + 1) = x at PL PI HB
  cases hl : k.jl s x
  ·have E : Hid (k2 = k) := by
    show k2 = k
    rw [HB.out, hl, if_neg (fun d => by simp at d)]
   rw [hl] at PI
   clear HB
   rcases h34 with rfl | rfl
   all_goals
    go_enter Tryz.func212, Tryz.ntmps212
    go_wp2_with fail
    refine P.mono ?_
    clear P
    rintro e w1 ⟨rfl, hb1⟩
    have h1 := (mjV c k vt ve).below HJ.out hb1
    obtain ⟨f0, _⟩ := mj_cells h1
    obtain ⟨_, e0, _⟩ := mj_wood h1
    clear h1 d0 c0
    go_wp2_with fail
    refine (PL.out w1 hb1).mono ?_
    rintro e w2 ⟨rfl, hb2⟩
    have hb12 := hb1.trans (hb2.mono hb1.size)
    go_wp2_with fail
    refine (PI.out w2 hb12).mono ?_
    rintro e w3 ⟨rfl, hb3⟩
    have HF : Hid ((mjV c k2 vt ve).J F s w3 /\ Tn F w F w3) := by
     have hb := hb12.trans (hb3.mono hb12.size)
     rw [E.out]
     exact ⟨(mjV c k vt ve).below HJ.out hb, Tn.of hb⟩
    clear hb1 hb2 hb3 hb12 e0 f0
    go_wp2_with fail
    refine bodyPost_ret (results_none rfl _ _ _) rfl ?_
    exact ⟨F, rfl, HF.out.1, HF.out.2⟩
  ·rw [hl] at PI
   have HS : Hid (∀ k w1, (∃ F1, (mjV c k vt ve).J F1 s w1 /\ Tn F w F1 w1) -> ∀ (a : Int), Calls Tryz.prog 111 #[.pointer (some ⟨k.a.p, 0, none⟩), .int .i64 a, .int .i64 3] w1 fun e w' => ∃ b, e = .returned (.bool b) /\ (∃ F1, (mjV c (k.sto a 3) vt ve).J F1 s w' /\ Tn F w F1 w') /\ w'.cell? ⟨c.pk, 0, none⟩ = some (.pointer (some ⟨k.a.pw, 0, none⟩)) /\ w'.cell? ⟨k.a.pw, 0, none⟩ = some (.pointer (some ⟨k.a.p, 0, none⟩))) := by
    rintro k w1 ⟨F1, h1, t1⟩ a
    obtain ⟨hA, hU⟩ := mj_ar h1
    refine (store_any a 3 w1 hA).mono ?_
    rintro e w2 ⟨rfl, hA2, hs2⟩
    obtain ⟨F2, h2, t2⟩ := hU w2 _ _ _ hA2 hs2
    obtain ⟨f0, _⟩ := mj_cells h2
    obtain ⟨_, e0, _⟩ := mj_wood h2
    exact ⟨_, rfl, ⟨F2, h2, t1.trans t2⟩, f0, e0⟩
   rcases h34 with rfl | rfl
   ·have E : Hid (k2 = k.sto (a + 1) 3) := by
     show k2 = _
     rw [HB.out, if_pos ⟨Or.inl rfl, hl⟩, if_neg (by decide)]
    clear HB
    go_enter Tryz.func212, Tryz.ntmps212
    go_wp2_with fail
    refine P.mono ?_
    clear P
    rintro e w1 ⟨rfl, hb1⟩
    have h1 := (mjV c k vt ve).below HJ.out hb1
    obtain ⟨f0, _⟩ := mj_cells h1
    obtain ⟨_, e0, _⟩ := mj_wood h1
    clear h1 d0 c0
    go_wp2_with fail
    refine (PL.out w1 hb1).mono ?_
    rintro e w2 ⟨rfl, hb2⟩
    have hb12 := hb1.trans (hb2.mono hb1.size)
    go_wp2_with fail
    refine (PI.out w2 hb12).mono ?_
    rintro e w3 ⟨rfl, hb3⟩
    have hb := hb12.trans (hb3.mono hb12.size)
    have h3 := (mjV c k vt ve).below HJ.out hb
    obtain ⟨m0, _⟩ := mj_cells h3
    obtain ⟨_, l0, _⟩ := mj_wood h3
    have PS := HS.out k w3.drew ⟨F, (mjV c k vt ve).below h3 (Below.refl _ w3).drew, (Tn.of hb).below (Below.refl _ w3).drew⟩ (a + 1)
    clear hb1 hb2 hb3 hb12 e0 f0 h3 hb
    go_wp2_with fail
    go_region_held3 (fun w' => w'.cell? ⟨c.pk, 0, none⟩ = some (.pointer (some ⟨k.a.pw, 0, none⟩)) /\ w'.cell? ⟨k.a.pw, 0, none⟩ = some (.pointer (some ⟨k.a.p, 0, none⟩))) (go_keep)
     (first
      | (go_at_call 144; refine (gone_any _).mono ?_; rintro e w2 ⟨rfl, hw2'⟩; have hw2' := hw2'.symm; subst hw2')
      | (go_at_call 111; refine PS.mono ?_; clear PS; rintro e w4 ⟨bb, rfl, hj, y0, y1⟩; have HF : Hid (∃ F1, (mjV c k2 vt ve).J F1 s w4 /\ Tn F w F1 w4) := (by rw [E.out]; exact hj); clear hj))
    clear y0 y1 m0 l0
    go_wp2_with fail
    go_end0
    obtain ⟨F1, j1, j2⟩ := HF.out
    exact ⟨F1, rfl, j1, j2⟩
   ·have E : Hid (k2 = (k.sto (a + 1) 3).sto (a + 2) 3) := by
     show k2 = _
     rw [HB.out, if_pos ⟨Or.inr rfl, hl⟩, if_pos rfl]
    clear HB
    go_enter Tryz.func212, Tryz.ntmps212
    go_wp2_with fail
    refine P.mono ?_
    clear P
    rintro e w1 ⟨rfl, hb1⟩
    have h1 := (mjV c k vt ve).below HJ.out hb1
    obtain ⟨f0, _⟩ := mj_cells h1
    obtain ⟨_, e0, _⟩ := mj_wood h1
    clear h1 d0 c0
    go_wp2_with fail
    refine (PL.out w1 hb1).mono ?_
    rintro e w2 ⟨rfl, hb2⟩
    have hb12 := hb1.trans (hb2.mono hb1.size)
    go_wp2_with fail
    refine (PI.out w2 hb12).mono ?_
    rintro e w3 ⟨rfl, hb3⟩
    have hb := hb12.trans (hb3.mono hb12.size)
    have h3 := (mjV c k vt ve).below HJ.out hb
    obtain ⟨m0, _⟩ := mj_cells h3
    obtain ⟨_, l0, _⟩ := mj_wood h3
    have PS := HS.out k w3.drew ⟨F, (mjV c k vt ve).below h3 (Below.refl _ w3).drew, (Tn.of hb).below (Below.refl _ w3).drew⟩ (a + 1)
    clear hb1 hb2 hb3 hb12 e0 f0 h3 hb
    go_wp2_with fail
    go_region_held3 (fun w' => w'.cell? ⟨c.pk, 0, none⟩ = some (.pointer (some ⟨k.a.pw, 0, none⟩)) /\ w'.cell? ⟨k.a.pw, 0, none⟩ = some (.pointer (some ⟨k.a.p, 0, none⟩))) (go_keep)
     (first
      | (go_at_call 144; refine (gone_any _).mono ?_; rintro e w2 ⟨rfl, hw2'⟩; have hw2' := hw2'.symm; subst hw2')
      | (go_at_call 111; refine PS.mono ?_; clear PS; rintro e w4 ⟨bb, rfl, hj, y0, y1⟩; have HF : Hid (∃ F1, (mjV c (k.sto (a + 1) 3) vt ve).J F1 s w4 /\ Tn F w F1 w4) := hj; clear hj))
    clear m0 l0
    have PS : Calls Tryz.prog 111 #[.pointer (some ⟨k.a.p, 0, none⟩), .int .i64 (a + 2), .int .i64 3] w4.drew fun e w' => ∃ b, e = .returned (.bool b) /\ (∃ F1, (mjV c k2 vt ve).J F1 s w' /\ Tn F w F1 w') /\ w'.cell? ⟨c.pk, 0, none⟩ = some (.pointer (some ⟨k.a.pw, 0, none⟩)) /\ w'.cell? ⟨k.a.pw, 0, none⟩ = some (.pointer (some ⟨k.a.p, 0, none⟩)) := by
     rw [E.out]
     obtain ⟨F1, j1, j2⟩ := HF.out
     exact HS.out (k.sto (a + 1) 3) w4.drew ⟨F1, (mjV c _ vt ve).below j1 (Below.refl _ w4).drew, j2.below (Below.refl _ w4).drew⟩ (a + 2)
    clear HF
    go_wp2_with fail
    go_region_held3 (fun w' => w'.cell? ⟨c.pk, 0, none⟩ = some (.pointer (some ⟨k.a.pw, 0, none⟩)) /\ w'.cell? ⟨k.a.pw, 0, none⟩ = some (.pointer (some ⟨k.a.p, 0, none⟩))) (go_keep)
     (first
      | (go_at_call 144; refine (gone_any _).mono ?_; rintro e w2 ⟨rfl, hw2'⟩; have hw2' := hw2'.symm; subst hw2')
      | (go_at_call 111; refine PS.mono ?_; clear PS; rintro e w5 ⟨bb5, rfl, hj, z0, z1⟩; have HF : Hid (∃ F1, (mjV c k2 vt ve).J F1 s w5 /\ Tn F w F1 w5) := hj; clear hj))
    clear y0 y1 z0 z1
    go_wp2_with fail
    go_end0
    obtain ⟨F1, j1, j2⟩ := HF.out
    exact ⟨F1, rfl, j1, j2⟩
 ·have E : Hid (k2 = k) := by
   show k2 = k
   rw [HB.out, if_neg (fun d => h34 d.1)]
  have n3 : kk ≠ 3 := fun e => h34 (Or.inl e)
  have n4 : kk ≠ 4 := fun e => h34 (Or.inr e)
  clear HB h34
  go_enter Tryz.func212, Tryz.ntmps212
  go_wp2_with fail
  refine P.mono ?_
  clear P
  rintro e w1 ⟨rfl, hb1⟩
  have HF : Hid ((mjV c k2 vt ve).J F s w1 /\ Tn F w F w1) := by
   rw [E.out]
   exact ⟨(mjV c k vt ve).below HJ.out hb1, Tn.of hb1⟩
  clear hb1 d0 c0
  go_wp2_with fail
  refine bodyPost_ret (results_none rfl _ _ _) rfl ?_
  exact ⟨F, rfl, HF.out.1, HF.out.2⟩
end
end Go.Proofs.YtnalfnlmaallmaaGreat

namespace Go.Proofs.YtnalfnlmaallmaaGreat
set_option maxRecDepth 100000
set_option maxHeartbeats 2000000
open Go.RowKit W Kp Stl
def mtO (c : Jc) (k0 : Jk) (s : Js) (vt ve : Value) : Ob Jk where
  J F k w := (mjV c k vt ve).J F s w /\ k.a = k0.a /\ k.Y = k0.Y /\ k.G = k0.G
  lt := fun h => (mjV c _ vt ve).lt h.1
  keep := fun h hs hk => ⟨(mjV c _ vt ve).keep h.1 hs hk, h.2⟩
def Jk.tlf (k : Jk) (s : Js) (a : Int) : Nat -> Jk
 | 0 => k
 | n + 1 => (k.tlf s a n).sto (a + 1 + n) (k.nw s ((k.tlf s a n).ld (a + 1 + n)))
def Jk.tl1 (k : Jk) (s : Js) (a : Int) : Jk := (k.brk s a).tlf s a (pf (k.ld a)).toNat
theorem Jk.nw_of {k k0 : Jk} (s : Js) (x : Int) (hY : k.Y = k0.Y) (hG : k.G = k0.G) : k.nw s x = k0.nw s x := by
 unfold Jk.nw Jk.jt Jk.T
 rw [hY, hG]
theorem brk_same (k : Jk) (s : Js) (a : Int) : (k.brk s a).a = k.a /\ (k.brk s a).Y = k.Y /\ (k.brk s a).G = k.G := by
 unfold Jk.brk
 split
 ·split <;> exact ⟨rfl, rfl, rfl⟩
 ·exact ⟨rfl, rfl, rfl⟩
section
variable {c : Jc} {k0 k : Jk} {vt ve : Value} {F : Nat -> Prop} {s : Js} {w : World} {bp : Nat}
theorem mt_cells (h : (mtO c k0 s vt ve).J F k w) : w.cell? ⟨c.pk, 0, none⟩ = some (.pointer (some ⟨k0.a.pw, 0, none⟩)) /\ w.cell? ⟨c.pk, 3, none⟩ = some (.map (some c.mq)) /\ w.cell? ⟨k0.a.pw, 0, none⟩ = some (.pointer (some ⟨k0.a.p, 0, none⟩)) /\ Mp w c.mq k0.T s.f /\ At w k0.a.p k0.a.q k0.a.N k0.a.O k.s.y k.s.g k.s.ws := by
 obtain ⟨h, ea, eY, eG⟩ := h
 obtain ⟨d0, _, _, d3, _⟩ := mj_cells h
 obtain ⟨hA, c0, _⟩ := mj_wood h
 obtain ⟨hM, _⟩ := mj_map h
 rw [ea] at d0 hA c0
 have eT : k.T = k0.T := by unfold Jk.T; rw [eY, eG]
 rw [eT] at hM
 exact ⟨d0, d3, c0, hM, hA⟩
theorem mt_load (h : (mtO c k0 s vt ve).J F k w) (a : Int) : Calls Tryz.prog 116 #[.pointer (some ⟨k0.a.p, 0, none⟩), .int .i64 a] w fun e w' => e = .returned (.int .i64 (k.ld a)) /\ Below w.heap.size w w' := by
 have hA := (mt_cells h).2.2.2.2
 have e : k.ld a = ld k0.a.N k.s.y k.s.g k.s.ws a := by unfold Jk.ld; rw [h.2.1]
 rw [e]
 exact load_any a w hA
theorem mt_now (h : (mtO c k0 s vt ve).J F k w) (x : Int) : Calls Tryz.prog 208 #[.pointer (some ⟨c.pk, 0, none⟩), .int .i64 x] w fun e w' => e = .returned (.int .i64 (k0.nw s x)) /\ Below w.heap.size w w' := by
 have P := nowJ_any h.1 x
 rw [Jk.nw_of s x h.2.2.1 h.2.2.2] at P
 exact P
theorem mt_store (h : (mtO c k0 s vt ve).J F k w) (a x : Int) : Calls Tryz.prog 111 #[.pointer (some ⟨k0.a.p, 0, none⟩), .int .i64 a, .int .i64 x] w fun e w' => ∃ b F', e = .returned (.bool b) /\ (mtO c k0 s vt ve).J F' (k.sto a x) w' /\ Tn F w F' w' := by
 obtain ⟨h, ea, eY, eG⟩ := h
 obtain ⟨hA, hU⟩ := mj_ar h
 have P := store_any a x w hA
 rw [<- ea]
 refine P.mono ?_
 rintro e w2 ⟨rfl, hA2, hs2⟩
 obtain ⟨F2, h2, t2⟩ := hU w2 _ _ _ hA2 hs2
 exact ⟨_, F2, rfl, ⟨h2, ea, eY, eG⟩, t2⟩
theorem mt_break (h : (mtO c k0 s vt ve).J F k w) (a : Int) (ha : 0 <= a /\ a <= 2000) : Calls Tryz.prog 212 #[.pointer (some ⟨c.pk, 0, none⟩), .int .i64 a] w fun e w' => ∃ F', e = .returned (.tuple #[]) /\ (mtO c k0 s vt ve).J F' (k.brk s a) w' /\ Tn F w F' w' := by
 refine (breakJ_any h.1 a ha).mono ?_
 rintro e w2 ⟨F2, rfl, h2, t2⟩
 obtain ⟨e1, e2, e3⟩ := brk_same k s a
 exact ⟨F2, rfl, ⟨h2, e1.trans h.2.1, e2.trans h.2.2.1, e3.trans h.2.2.2⟩, t2⟩
theorem tell1J_any (h : (obX (mtO c k0 s vt ve) bp (boxJ c)).J F k w) (a : Int) (ha : 0 <= a /\ a <= 2000) (m : Nat) (hm : m <= 12) :
  Calls Tryz.prog 211 #[.int .i64 a, .int .i64 (1 + m), .pointer (some ⟨bp, 0, none⟩)] w fun e w' => ∃ F', e = .returned (.tuple #[]) /\ (obX (mtO c k0 s vt ve) bp (boxJ c)).J F' ((k.brk s a).tlf s a m) w' /\ Tn F w F' w' := by
 have EN : Hid (∀ x, (k.brk s a).nw s x = k0.nw s x) := by
  obtain ⟨_, e2, e3⟩ := brk_same k s a
  obtain ⟨_, ⟨_, _, g2, g3⟩, _⟩ := h
  exact fun x => Jk.nw_of s x (e2.trans g2) (e3.trans g3)
 obtain ⟨F0, h0, hx, lb, U⟩ := obX_in h
 have P := mt_break h0 a ha
 have HU : Hid (∀ F1 t1 w1, (mtO c k0 s vt ve).J F1 t1 w1 -> Tn F0 w F1 w1 -> (obX (mtO c k0 s vt ve) bp (boxJ c)).J (fun b => F1 b \/ b = bp) t1 w1 /\ Tn F w (fun b => F1 b \/ b = bp) w1) := U
 have x0 : w.cell? ⟨bp, 0, none⟩ = some (.pointer (some ⟨c.pk, 0, none⟩)) := by simp [World.cell?, hx]
 generalize k.brk s a = k1 at P EN ⊢
 clear h h0 hx U lb
 go_enter Tryz.func211, Tryz.ntmps211
 go_wp2_with fail
 refine P.mono ?_
 clear P
 rintro e w1 ⟨F1, rfl, h1, t1⟩
 obtain ⟨hJ1, hT1⟩ := HU.out F1 _ w1 h1 t1
 clear h1 t1 HU x0
 go_wp2_with fail
 go_loopw [5] (fun iv wr => ∃ (j : Nat) (F2 : Nat -> Prop), j <= m /\ iv = .int .i64 (a + 1 + j) /\ Hid ((obX (mtO c k0 s vt ve) bp (boxJ c)).J F2 (k1.tlf s a j) wr /\ Tn F w F2 wr)) (fun iv _ => m - (intOf iv - a - 1).toNat)
 case atStart => exact ⟨0, _, Nat.zero_le _, by go_num, ⟨hJ1, hT1⟩⟩
 case round =>
  clear hJ1 hT1
  obtain ⟨j, F2, hj, rfl, HJ⟩ := hrel
  by_cases hlt : j < m
  ·obtain ⟨F3, h3, hx, lb, U⟩ := obX_in HJ.out.1
   have HU : Hid (∀ F1 t1 w1, (mtO c k0 s vt ve).J F1 t1 w1 -> Tn F3 wr F1 w1 -> (obX (mtO c k0 s vt ve) bp (boxJ c)).J (fun b => F1 b \/ b = bp) t1 w1 /\ Tn F2 wr (fun b => F1 b \/ b = bp) w1) := U
   have HX : Hid (wr.heap[bp]? = some (boxJ c) /\ bp < wr.heap.size) := ⟨hx, lb⟩
   have H3 : Hid ((mtO c k0 s vt ve).J F3 (k1.tlf s a j) wr) := h3
   have x0 : wr.cell? ⟨bp, 0, none⟩ = some (.pointer (some ⟨c.pk, 0, none⟩)) := by simp [World.cell?, hx]
   obtain ⟨d0, _, c0, _, _⟩ := mt_cells h3
   have PL := mt_load ((mtO c k0 s vt ve).below h3 (Below.refl _ wr).drew) (a + 1 + j)
   have ES : Hid (k1.tlf s a (j + 1) = (k1.tlf s a j).sto (a + 1 + j) (k0.nw s ((k1.tlf s a j).ld (a + 1 + j)))) := by
    show _ = _
    rw [<- EN.out]
    rfl
   generalize (k1.tlf s a j).ld (a + 1 + j) = x at PL ES
   obtain ⟨k3, hk3⟩ : ∃ k3, k1.tlf s a (j + 1) = k3 := ⟨_, rfl⟩
   rw [hk3] at ES
   have HK3 : Hid (k1.tlf s a (j + 1) = k3) := hk3
   clear hk3
   generalize k1.tlf s a j = k2 at H3 HJ h3 ES
   have j0 : (0 : Int) <= (j : Int) := by omega
   have j1 : (j : Int) < m := by omega
   have hm2 : (m : Int) <= 12 := by omega
   clear h3 hx lb U
   go_wp2_with fail
   go_region_held3 (fun w' => w'.cell? ⟨bp, 0, none⟩ = some (.pointer (some ⟨c.pk, 0, none⟩)) /\ w'.cell? ⟨c.pk, 0, none⟩ = some (.pointer (some ⟨k0.a.pw, 0, none⟩)) /\ w'.cell? ⟨k0.a.pw, 0, none⟩ = some (.pointer (some ⟨k0.a.p, 0, none⟩))) (go_keep)
    (first
     | (go_at_call 116; refine PL.mono ?_; clear PL; rintro e w4 ⟨rfl, hb4⟩; have hq4 : Below wr.heap.size wr w4 := ((Below.refl _ wr).drew).trans (hb4.mono (by simp)); have h4 := (mtO c k0 s vt ve).below H3.out hq4; obtain ⟨y1, _, y2, _, _⟩ := mt_cells h4; have y0 := (hq4.cell (p := ⟨bp, 0, none⟩) HX.out.2).trans x0; have H4 : Hid ((mtO c k0 s vt ve).J F3 k2 w4 /\ Below wr.heap.size wr w4) := ⟨h4, hq4⟩; clear hb4 hq4 h4)
     | (go_at_call 208; refine (mt_now H4.out.1 x).mono ?_; rintro e w5 ⟨rfl, hb5⟩; have hq5 := H4.out.2.trans (hb5.mono H4.out.2.size); have h5 := (mtO c k0 s vt ve).below H3.out hq5; obtain ⟨z1, _, z2, _, _⟩ := mt_cells h5; have z0 := (hq5.cell (p := ⟨bp, 0, none⟩) HX.out.2).trans x0; have H5 : Hid ((mtO c k0 s vt ve).J F3 k2 w5 /\ Below wr.heap.size wr w5) := ⟨h5, hq5⟩; clear hb5 hq5 h5)
     | (go_at_call 111; refine (mt_store H5.out.1 (a + 1 + j) (k0.nw s x)).mono ?_; rintro e w6 ⟨bb, F6, rfl, h6, t6⟩; obtain ⟨r1, _, r2, _, _⟩ := mt_cells h6; obtain ⟨j6, q6⟩ := HU.out F6 _ w6 h6 ((Tn.of H5.out.2).trans t6); have r0 : w6.cell? ⟨bp, 0, none⟩ = some (.pointer (some ⟨c.pk, 0, none⟩)) := (by obtain ⟨_, _, e6, _⟩ := j6; simp [World.cell?, e6]); have H6 : Hid ((obX (mtO c k0 s vt ve) bp (boxJ c)).J (fun b => F6 b \/ b = bp) k3 w6 /\ Tn F w (fun b => F6 b \/ b = bp) w6) := ⟨(by rw [ES.out]; exact j6), HJ.out.2.trans q6⟩; clear h6 t6 j6 q6))
   clear x0 d0 c0 y0 y1 y2 z0 z1 z2 r0 r1 r2 H3 H4 H5 HJ HU HX
   go_wp2_with fail
   go_roundw
   case rel => exact ⟨j + 1, _, by omega, by go_num, by rw [HK3.out]; exact H6⟩
   case measure => simp [intOf]; omega
  ·obtain rfl : j = m := by omega
   go_wp2_with fail
   go_end0
   exact ⟨F2, rfl, HJ.out.1, HJ.out.2⟩
end
end Go.Proofs.YtnalfnlmaallmaaGreat
