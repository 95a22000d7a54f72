/- Joined: Mk6, Vb2, Mk7, Mk8, Ws15, Ws20, Ms3, Mx1, Mg3, Mg4, Mg6, Mg7, Mg8, Mg9. -/
import Derived.Test.YtalgochmjddodaaGreatJ30
import Derived.Test.YtalgochmjddodaaGreatJ00
import Derived.Test.YtalgochmjddodaaGreatJ27
import Derived.Test.YtalgochmjddodaaGreatJ17
import Derived.Test.YtalgochmjddodaaGreatJ28
import Derived.Test.YtalgochmjddodaaGreatJ25
namespace Go.Proofs.YtalgochmjddodaaGreat
open Go.RowKit W Kp Stl
theorem Pos.same {z z' : Int -> Int} {al al' : Int -> Bool} {f f' : Int -> Int} : ∀ {l : List Int} {n m : Int}, (∀ a ∈ l, z a = z' a /\ al a = al' a /\ f a = f' a) -> Pos z al f n l m -> Pos z' al' f' n l m
 | [], n, m, _, h => h
 | a :: l, n, m, he, h => by
  obtain ⟨e1, e2, e3⟩ := he a (by simp)
  have ih : ∀ {n m : Int}, Pos z al f n l m -> Pos z' al' f' n l m := fun h => Pos.same (fun b hb => he b (List.mem_cons_of_mem _ hb)) h
  refine ⟨fun c => ?_, fun c => ?_⟩
  ·obtain ⟨h1, h2⟩ := h.1 (by rw [e2]; exact c)
   rw [<- e3, <- e1]
   exact ⟨h1, ih h2⟩
  ·obtain ⟨h1, h2⟩ := h.2 (by rw [e2]; exact c)
   rw [<- e3]
   exact ⟨h1, ih h2⟩
structure Gc (a : Wc) (s : Wst) (T : List Int) (j : Js) (s' : Wst) : Prop where
  y : s'.y = 0
  M : s'.M = []
  rl : s'.rs.length = 12
  g : s'.g <= a.O
  l : s'.ws.length = a.N + a.O
  pos : Pos (fun c => pf (ld a.N s.y s.g s.ws c)) (fun c => !(j.f c == -1)) j.f a.N T (a.N + s'.g)
  rs : ∀ i, i < 12 -> s'.rs.getD i 0 = (s.j0 a).nw j (s.rs.getD i 0)
  hd : ∀ c ∈ T, j.f c ≠ -1 -> ld a.N 0 s'.g s'.ws (j.f c) = ld a.N s.y s.g s.ws c
  fd : ∀ c ∈ T, j.f c ≠ -1 -> ∀ i, 0 <= i -> i < pf (ld a.N s.y s.g s.ws c) -> ld a.N 0 s'.g s'.ws (j.f c + 1 + i) = (s.j0 a).nw j ((s.j0 a).bkf j c i)
section
variable {a : Wc} {s : Wst} {Y G : List Int}
theorem j0_lists (h : Full2 a.N s.y s.g s.ws Y G) (hb : Wbd a s) : (s.j0 a).Y = Y /\ (s.j0 a).G = G /\ (s.j0 a).T = G ++ Y := by
 have e1 : (s.j0 a).Y = Y := by
  show kpL _ (thY a.N s.y s.g s.ws) = Y
  rw [(h.lists (O := a.O) hb.n1 hb.y1 hb.o1 hb.g1).1]
  exact kpL_none (fun x hx => decide_eq_false (by have := (h.ty.mem x hx).2.1; omega))
 have e2 : (s.j0 a).G = G := by
  show kpL _ (thO a.N s.y s.g s.ws) = G
  rw [(h.lists (O := a.O) hb.n1 hb.y1 hb.o1 hb.g1).2]
  exact kpL_none (fun x hx => decide_eq_false (by have := (h.to.mem x hx).2.1; omega))
 exact ⟨e1, e2, by unfold Jk.T; rw [e1, e2]⟩
theorem j0_whl (h : Full2 a.N s.y s.g s.ws Y G) (hb : Wbd a s) : ∀ c ∈ (s.j0 a).T, Whl (s.j0 a) c := fun c hc => by
 obtain ⟨e1, e2, e3⟩ := j0_lists h hb
 rw [e3] at hc
 rcases List.mem_append.1 hc with d | d
 ·obtain ⟨h1, h2, h3⟩ := h.to.mem c d
  exact ⟨h3, fun i i0 i1 => iB_o (by show (a.N : Int) <= _; omega) (by have i1 : i <= pf (ld a.N s.y s.g s.ws c) := i1; show c + i < (a.N : Int) + s.g; omega)⟩
 ·obtain ⟨h1, h2, h3⟩ := h.ty.mem c d
  exact ⟨h3, fun i i0 i1 => iB_y (by omega) (by have i1 : i <= pf (ld a.N s.y s.g s.ws c) := i1; show c + i < (s.y : Int); omega)⟩
theorem j0_ap (h : Full2 a.N s.y s.g s.ws Y G) (hb : Wbd a s) : ∀ c ∈ (s.j0 a).T, ∀ d ∈ (s.j0 a).T, c < d -> c + (1 + pf ((s.j0 a).ld c)) <= d := fun c hc d hd q => by
 obtain ⟨e1, e2, e3⟩ := j0_lists h hb
 rw [e3] at hc hd
 show c + (1 + pf (ld a.N s.y s.g s.ws c)) <= d
 have hy := hb.y1
 rcases List.mem_append.1 hc with hc | hc <;> rcases List.mem_append.1 hd with hd | hd
 ·exact h.to.apart c hc d hd q
 ·have h1 := (h.to.mem c hc).1
  have h2 := (h.ty.mem d hd).2.1
  have := pf_bd (ld a.N s.y s.g s.ws d)
  omega
 ·have h1 := (h.ty.mem c hc).2.1
  have h2 := (h.to.mem d hd).1
  omega
 ·exact h.ty.apart c hc d hd q
theorem gc_done (h : Full2 a.N s.y s.g s.ws Y G) (hb : Wbd a s) (j3 : Js) (hm : ((s.j0 a).pl j3).2 <= a.N + a.O) :
  Gc a s (G ++ Y) ((s.j0 a).pl j3).1 (((s.j0 a).tlA ((s.j0 a).pl j3).1).sl ((s.j0 a).pl j3).1).s /\ ((((s.j0 a).tlA ((s.j0 a).pl j3).1).sl ((s.j0 a).pl j3).1).s.g : Int) = ((s.j0 a).pl j3).2 - a.N /\
  (∀ c ∈ G ++ Y, ((s.j0 a).pl j3).1.f c = -1 ↔ j3.f c = -1) /\ (∃ F, SlG ((s.j0 a).tlA ((s.j0 a).pl j3).1) ((s.j0 a).pl j3).1 F /\ F 0 ((s.j0 a).tlA ((s.j0 a).pl j3).1, 0)) := by
 obtain ⟨e1, e2, e3⟩ := j0_lists h hb
 have ew := j0_whl h hb
 have eap := j0_ap h hb
 have enda : (s.j0 a).T.Nodup := (JI.start (s := s) hb.n1 hb.o1 hb.y1 hb.g1).nd
 have hz : ∀ c, 0 <= (fun c => pf ((s.j0 a).ld c)) c := fun c => (pf_bd _).1
 obtain ⟨k, hk⟩ : ∃ k, s.j0 a = k := ⟨_, rfl⟩
 have ka : k.a = a := by rw [<- hk]; rfl
 have ks : k.s = s := by rw [<- hk]; rfl
 have kld : ∀ x, k.ld x = ld a.N s.y s.g s.ws x := fun x => by rw [<- hk]; rfl
 have kb : Kbd k := ⟨by rw [ks, ka]; exact hb.l1, by rw [ks, ka]; exact hb.y1, by rw [ks, ka]; exact hb.g1⟩
 obtain ⟨P0, _, _, _⟩ := pl_pos (s.j0 a) (fun c => !(j3.f c == -1)) (s.j0 a).T (j3, a.N) enda (fun c _ => rfl)
 have P0 : Pos (fun c => pf ((s.j0 a).ld c)) (fun c => !(j3.f c == -1)) ((s.j0 a).pl j3).1.f a.N (s.j0 a).T ((s.j0 a).pl j3).2 := P0
 rw [hk] at e1 e2 e3 ew eap enda hz P0 hm ⊢
 obtain ⟨j, hj⟩ : ∃ j, (k.pl j3).1 = j := ⟨_, rfl⟩
 obtain ⟨m, hm'⟩ : ∃ m, (k.pl j3).2 = m := ⟨_, rfl⟩
 rw [hj, hm'] at P0
 rw [hm'] at hm
 rw [hj, hm']
 -- alive are those that have places
 have hal : ∀ c ∈ k.T, (!(j3.f c == -1)) = !(j.f c == -1) := fun c hc => by
  cases q : (!(j3.f c == -1))
  ·rw [P0.no c hc q]
   rfl
  ·have := (P0.bd hz c hc q).1
   rw [beq_false_of_ne (by omega)]
   rfl
 have P : Pos (fun c => pf (k.ld c)) (fun c => !(j.f c == -1)) j.f a.N k.T m := P0.same (fun c hc => ⟨rfl, hal c hc, rfl⟩)
 have hiff : ∀ c ∈ k.T, j.f c = -1 ↔ j3.f c = -1 := fun c hc => by
  have := hal c hc
  constructor
  ·intro q
   rw [q] at this
   simpa using this
  ·intro q
   rw [q] at this
   simpa using this.symm
 obtain ⟨t1, t2, t3, t4, t5, t6, t7, t8, t9, t10⟩ := tlA_ld (s := j) kb (by rw [ks]; exact hb.r1) enda ew eap
 obtain ⟨k5, hk5⟩ : ∃ k5, k.tlA j = k5 := ⟨_, rfl⟩
 rw [hk5] at t1 t2 t3 t4 t5 t6 t7 t8 t9 t10 ⊢
 have z5 : ∀ c ∈ k.T, pf (k5.ld c) = pf (k.ld c) := fun c hc => by rw [t9 c hc]
 have ha5 : k5.a = a := t1.trans ka
 have hG5 : k5.G = G := t3.trans e2
 have hY5 : k5.Y = Y := t2.trans e1
 have hT5 : ∀ c, c ∈ G \/ c ∈ Y -> c ∈ k.T := fun c hc => by rw [e3]; exact List.mem_append.2 hc
 rw [e3] at P
 obtain ⟨m0, PG, PY⟩ := P.app
 have PG5 : Pos (fun c => pf (k5.ld c)) (fun c => !(j.f c == -1)) j.f (k5.a.N + (0 : Int)) G m0 := by
  rw [ha5, Int.add_zero]
  exact PG.same (fun c hc => ⟨(z5 c (hT5 c (Or.inl hc))).symm, rfl, rfl⟩)
 have PY5 : Pos (fun c => pf (k5.ld c)) (fun c => !(j.f c == -1)) j.f m0 Y m := PY.same (fun c hc => ⟨(z5 c (hT5 c (Or.inr hc))).symm, rfl, rfl⟩)
 have hz5 : ∀ c, 0 <= (fun c => pf (k5.ld c)) c := fun c => (pf_bd _).1
 have hmY := PY5.le hz5
 have hmG := PG5.le hz5
 have I0 : SlI k5 (fun c => !(j.f c == -1)) j.f m0 [] G (k5, 0) := by
  refine ⟨Ksm.refl _, rfl, Int.le_refl _, PG5, ⟨a.N, ?_, by rw [ha5]; dsimp only; omega, fun _ _ _ => rfl⟩, fun _ _ _ => rfl, fun c hc => by cases hc⟩
  rw [ha5, t5, ks]
  exact h.to.heads (fun x hx => by rw [t9 x (hT5 x (Or.inl hx)), kld])
 have hs5 : ∀ c ∈ k5.G, (fun c => !(j.f c == -1)) c = !(j.f c == -1) := fun _ _ => rfl
 have SG := SlI.slg (k := k5) (s := j) (m := m0) t6.l t6.y t6.g (by rw [ha5]; exact hb.n1) (by rw [ha5]; exact hb.o1) hs5 (by rw [ha5]; omega)
 have I1 := SlI.all t6.l t6.y t6.g hs5 G [] (k5, 0) (fun c hc => by rw [hG5]; exact hc) I0
 rw [List.nil_append] at I1
 have hP1 : k5.a.N + (ejL (fun _ a => j.f a) (Jk.slS j) (k5, 0) G).2 = m0 := I1.pos
 have eSL : k5.slL j k5.G = ejL (fun _ a => j.f a) (Jk.slS j) (k5, 0) G := by unfold Jk.slL; rw [hG5]
 obtain ⟨u, hu⟩ : ∃ u, ejL (fun _ a => j.f a) (Jk.slS j) (k5, 0) G = u := ⟨_, rfl⟩
 rw [hu] at I1 hP1 eSL
 have u0 := I1.u0
 rw [ha5] at hP1
 have hgo := t6.g
 have hyo := t6.y
 rw [ha5] at hgo hyo
 -- behind Cut
 obtain ⟨k1, hk1⟩ : ∃ k1, k5.sl1 j = k1 := ⟨_, rfl⟩
 have ek1 : k1 = u.1.ar u.1.s.y u.2.toNat u.1.s.ws := by rw [<- hk1]; unfold Jk.sl1; rw [eSL]
 have g1 : (k1.s.g : Int) = u.2 := by rw [ek1]; show (u.2.toNat : Int) = _; omega
 have ua := I1.sm.a
 have uy := I1.sm.y
 have ug := I1.g
 have eld1 : ∀ x : Int, (0 <= x /\ x < k5.s.y) \/ ((a.N : Int) <= x /\ x < a.N + u.2 /\ x < a.N + k5.s.g) -> k1.ld x = u.1.ld x := fun x hx => by
  have i1 : iB u.1.a.N u.1.s.y u.1.s.g x = true := by
   rw [ua, uy, ug, ha5]
   exact (iB_bool _ _ _ _).2 (by omega)
  have i2 : iB u.1.a.N u.1.s.y u.2.toNat x = true := by
   rw [ua, uy, ha5]
   exact (iB_bool _ _ _ _).2 (by omega)
  rw [ek1]
  show ld u.1.a.N u.1.s.y u.2.toNat u.1.s.ws x = ld u.1.a.N u.1.s.y u.1.s.g u.1.s.ws x
  rw [ld_in i1, ld_in i2]
 obtain ⟨b, hbt, hb1, _⟩ := I1.tl
 have hb2 : b = k5.a.N + k5.s.g := hbt
 rw [ha5] at hb1 hb2
 have C0 : CpI k5 (fun c => !(j.f c == -1)) j.f m G Y k1 := by
  refine ⟨⟨by rw [ek1]; exact ua, by rw [ek1]; exact uy, by rw [ek1]; exact I1.sm.rs, by rw [ek1]; exact I1.sm.len⟩, by rw [ha5]; omega, ?_, fun x x0 x1 => ?_, fun c hc hal => ?_⟩
  ·rw [ha5, g1, hP1]
   exact PY5
  ·rw [eld1 x (Or.inl ⟨x0, x1⟩)]
   exact I1.yg x x0 x1
  ·obtain ⟨r1, r2⟩ := I1.rel c hc hal
   have r3 := (PG5.bd hz5 c hc hal).1
   rw [ha5] at r1 r3 ⊢
   refine ⟨by omega, by omega, fun i i0 i1 => ?_⟩
   rw [eld1 _ (Or.inr ⟨by omega, by omega, by omega⟩)]
   exact r2 i i0 i1
 have C1 := CpI.all (s := j) t6.l t6.y (by rw [ha5]; exact hm) Y G k1 (fun c hc => by
  have hcT := hT5 c (Or.inr hc)
  obtain ⟨q1, q2, q3⟩ := h.ty.mem c hc
  rw [t9 c hcT, kld, t4, ks]
  exact ⟨rfl, q1, q2, q3⟩) C0
 obtain ⟨k2, hk2⟩ : ∃ k2, k1.cpL j Y = k2 := ⟨_, rfl⟩
 rw [hk2] at C1
 have e2' : k5.sl2 j = k2 := by unfold Jk.sl2; rw [hk1, hY5]; exact hk2
 have e6 : (k5.sl j).s = ⟨0, k2.s.g, k2.s.ws, [], k2.s.rs⟩ := by unfold Jk.sl; rw [e2']; rfl
 have hg2 : (a.N : Int) + k2.s.g = m := by
  have := C1.pos
  rw [ha5] at this
  exact this
 have h2a : k2.a = a := C1.sm.a.trans ha5
 have h2y : k2.s.y <= a.N := by rw [C1.sm.y]; exact hyo
 have rel : ∀ c ∈ G ++ Y, j.f c ≠ -1 -> (a.N : Int) <= j.f c /\ ∀ i, 0 <= i -> i <= pf (k.ld c) -> ld a.N 0 k2.s.g k2.s.ws (j.f c + i) = k5.ld (c + i) := fun c hc hf => by
  have hcT : c ∈ k.T := by rw [e3]; exact hc
  obtain ⟨r1, r2, r3⟩ := C1.rel c hc (by rw [beq_false_of_ne hf]; rfl)
  rw [ha5] at r1
  refine ⟨r1, fun i i0 i1 => ?_⟩
  rw [ld_old (y := k2.s.y) (by omega) h2y, <- r3 i i0 (by rw [z5 c hcT]; exact i1)]
  show ld a.N k2.s.y k2.s.g k2.s.ws (j.f c + i) = ld k2.a.N k2.s.y k2.s.g k2.s.ws (j.f c + i)
  rw [h2a]
 refine ⟨?_, ?_, fun c hc => hiff c (by rw [e3]; exact hc), ⟨_, SG, ?_⟩⟩
 ·rw [e6]
  refine ⟨rfl, rfl, ?_, ?_, ?_, ?_, fun i hi => ?_, fun c hc hf => ?_, fun c hc hf i i0 i1 => ?_⟩
  ·show k2.s.rs.length = 12
   rw [C1.sm.rs]
   exact t7
  ·show k2.s.g <= a.O
   omega
  ·show k2.s.ws.length = a.N + a.O
   rw [C1.sm.len, t6.l, ha5]
  ·show Pos _ _ _ _ _ ((a.N : Int) + k2.s.g)
   rw [hg2]
   exact P.same (fun c hc => ⟨by rw [kld], rfl, rfl⟩)
  ·show k2.s.rs.getD i 0 = _
   rw [C1.sm.rs, t8 i hi, ks, hk]
  ·have h1 := (rel c hc hf).2 0 (by omega) (pf_bd _).1
   rw [Int.add_zero, Int.add_zero, t9 c (by rw [e3]; exact hc), kld] at h1
   exact h1
  ·have h1 := (rel c hc hf).2 (1 + i) (by omega) (by rw [kld]; omega)
   rw [<- Int.add_assoc, <- Int.add_assoc, t10 c (by rw [e3]; exact hc) hf i i0 (by rw [kld]; exact i1), <- hk] at h1
   exact h1
 ·rw [e6]
  show (k2.s.g : Int) = m - a.N
  omega
 ·show SlI k5 _ j.f m0 (k5.G.take 0) (k5.G.drop 0) (k5, 0)
  rw [List.take_zero, List.drop_zero, hG5]
  exact I0
end
end Go.Proofs.YtalgochmjddodaaGreat

namespace Go.Proofs.YtalgochmjddodaaGreat
open W
section
variable {T : List Int} {kd : Int -> Int} {sh : Int -> List Int}
end
end Go.Proofs.YtalgochmjddodaaGreat

namespace Go.Proofs.YtalgochmjddodaaGreat
open Go.RowKit W Kp Stl
section
variable {a : Wc} {s : Wst} {Y G : List Int}
theorem nw_moved {k : Jk} {j : Js} {x : Int} (hx : aB x = true -> aV x ∈ k.T /\ j.f (aV x) ≠ -1) (hf : ∀ c ∈ k.T, j.f c ≠ -1 -> 0 <= j.f c /\ j.f c < 1000000) : Wmv (fun c => c ∈ k.T /\ j.f c ≠ -1) j.f x (k.nw j x) /\ (aB (k.nw j x) = true -> ∃ c ∈ k.T, j.f c ≠ -1 /\ aV (k.nw j x) = j.f c) := by
 cases ha : aB x
 ·have e : k.nw j x = x := by
   unfold Jk.nw Jk.jt
   rw [ha]
   rfl
  rw [e]
  refine ⟨Or.inr ⟨fun h3 => ?_, rfl, rfl⟩, fun h3 => ?_⟩
  ·rw [dk_aB h3] at ha
   cases ha
  ·rw [ha] at h3
   cases h3
 ·obtain ⟨h1, h2⟩ := hx ha
  have e : k.nw j x = ew 3 (j.f (aV x)) := by
   unfold Jk.nw Jk.jt
   rw [ha, List.contains_iff_mem.2 h1, beq_false_of_ne h2]
   rfl
  obtain ⟨b0, b1⟩ := hf _ h1 h2
  obtain ⟨n, hn⟩ : ∃ n : Nat, j.f (aV x) = n := ⟨(j.f (aV x)).toNat, by omega⟩
  obtain ⟨w1, w2⟩ := ew_at n (by omega)
  rw [<- hn, <- e] at w1 w2
  refine ⟨Or.inl ⟨aB_dk ha, aB_dk w1, ⟨by rw [<- aV_yes x ha]; exact h1, by rw [<- aV_yes x ha]; exact h2⟩, ?_⟩, fun _ => ⟨aV x, h1, h2, w2⟩⟩
  rw [<- aV_yes x ha, <- aV_yes _ w1]
  exact w2
end
end Go.Proofs.YtalgochmjddodaaGreat

namespace Go.Proofs.YtalgochmjddodaaGreat
open Go.RowKit W Kp Stl
def Js.lf (j : Js) (T : List Int) : List Int := (T.filter (fun c => !(j.f c == -1))).map j.f
section
variable {a : Wc} {s s' : Wst} {Y G : List Int} {j : Js}
theorem Gc.bd (g : Gc a s (G ++ Y) j s') : ∀ c ∈ G ++ Y, j.f c ≠ -1 -> (a.N : Int) <= j.f c /\ j.f c + (1 + pf (ld a.N s.y s.g s.ws c)) <= a.N + s'.g := fun c hc hf => g.pos.bd (fun c => (pf_bd _).1) c hc (by rw [beq_false_of_ne hf]; rfl)
theorem lf_mem {T : List Int} {x : Int} : x ∈ j.lf T ↔ ∃ c ∈ T, j.f c ≠ -1 /\ j.f c = x := by
 unfold Js.lf
 rw [List.mem_map]
 constructor
 ·rintro ⟨c, h1, h2⟩
  obtain ⟨h3, h4⟩ := List.mem_filter.1 h1
  exact ⟨c, h3, by simpa using h4, h2⟩
 ·rintro ⟨c, h1, h2, h3⟩
  exact ⟨c, List.mem_filter.2 ⟨h1, by rw [beq_false_of_ne h2]; rfl⟩, h3⟩
theorem Gc.full (g : Gc a s (G ++ Y) j s') (h : Full2 a.N s.y s.g s.ws Y G) : Full2 a.N 0 s'.g s'.ws [] (j.lf (G ++ Y)) := by
 refine ⟨rfl, g.pos.tile (fun c => (pf_bd _).1) (fun c hc hal => ?_)⟩
 have hf : j.f c ≠ -1 := by simpa using hal
 rw [g.hd c hc hf]
 refine ⟨?_, rfl⟩
 rcases List.mem_append.1 hc with d | d
 ·exact (h.to.mem c d).2.2
 ·exact (h.ty.mem c d).2.2
end
section
variable {a : Wc} {S : Ww} {Y G : List Int}
end
end Go.Proofs.YtalgochmjddodaaGreat

namespace Go.Proofs.YtalgochmjddodaaGreat
open Go.RowKit W Kp Stl
section
variable {c : Bc} {F : Nat -> Prop} {S : Ww × Wrs} {w : World}
end
end Go.Proofs.YtalgochmjddodaaGreat

namespace Go.Proofs.YtalgochmjddodaaGreat
open Go.RowKit W Kp Stl
section
variable {c : Bc} {F : Nat -> Prop} {S : Ww × Wrs} {w : World} {j : Nat}
theorem aB_two : aB 2 = false := by decide
end
end Go.Proofs.YtalgochmjddodaaGreat

namespace Go.Proofs.YtalgochmjddodaaGreat
open Go.RowKit W Kp Stl
section
variable {a : Wc} {s : Wst} {Y G : List Int}
end
end Go.Proofs.YtalgochmjddodaaGreat

namespace Go.Proofs.YtalgochmjddodaaGreat
open Go.RowKit W Kp Stl
end Go.Proofs.YtalgochmjddodaaGreat

namespace Go.Proofs.YtalgochmjddodaaGreat
open Go.RowKit W Kp Stl
section
variable {k : Jk} {s : Js}
theorem Mg.nw {X : Int -> Prop} (h : Mg k X s) (x : Int) : k.nw s x = x := by
 unfold Jk.nw
 split
 ·rename_i c
  rw [Bool.and_eq_true] at c
  have ht := jt_mem c.1
  have hf : s.f (aV x) ≠ -1 := by simpa using c.2
  have ha : aB x = true := by
   have q := c.1
   unfold Jk.jt at q
   rw [Bool.and_eq_true] at q
   exact q.1
  have h0 : dc x = 0 := by
   have q := ha
   unfold aB at q
   rw [Bool.and_eq_true] at q
   simpa using q.1
  rw [h.self _ ht hf, aV_yes x ha]
  have q := (enc_dec x h0).2
  rw [aB_dk ha] at q
  exact q
 ·rfl
theorem tS_same {t : Js × List En} {r : List En} (h : ∀ e ∈ r, k.al t.1 e.2 = true) : k.tS t r = t := by
 have e : r.filter (fun e => !k.al t.1 e.2) = [] := by
  rw [List.filter_eq_nil_iff]
  intro e he
  rw [h e he]
  simp
 show stS (noSd Js) (fun s x => k.al s.1 x) k.mq t r = t
 unfold stS
 rw [e]
 rfl
end
section
variable {a : Wc} {S : Ww} {Y G : List Int}
theorem r3_alive (hI : JI (S.s.j0 a) js0) : ∀ e ∈ S.r3 a, (S.s.j0 a).al (S.j3 a) e.2 = true := by
 obtain ⟨d1, d2, _⟩ := settled_all (S := S) hI
 intro e he
 have he : e ∈ ((S.r.filter (fun e => (S.s.j0 a).al (S.j2 a).1 e.2)).filter (fun e => (S.s.j0 a).al ((S.s.j0 a).sS (S.j2 a) S.r).1 e.1)).map fun e => ((S.s.j0 a).nw ((S.s.j0 a).sS (S.j2 a) S.r).1 e.1, (S.s.j0 a).nw ((S.s.j0 a).sS (S.j2 a) S.r).1 e.2) := he
 obtain ⟨e0, h1, h2⟩ := List.mem_map.1 he
 have h3 := (List.mem_filter.1 (List.mem_filter.1 h1).1).2
 rw [<- h2]
 have q : (S.s.j0 a).nw (S.j3 a) e0.2 = e0.2 := d1.mg.nw e0.2
 show (S.s.j0 a).al (S.j3 a) ((S.s.j0 a).nw (S.j3 a) e0.2) = true
 rw [q]
 exact al_le d2 h3
structure Gal2 (a : Wc) (s : Wst) (T : List Int) (j : Js) : Prop where
  rt : ∀ i, i < 12 -> aB (s.rs.getD i 0) = true -> aV (s.rs.getD i 0) ∈ T /\ j.f (aV (s.rs.getD i 0)) ≠ -1
  fd : ∀ c ∈ T, j.f c ≠ -1 -> ∀ i, 0 <= i -> i < pf (ld a.N s.y s.g s.ws c) -> aB ((s.j0 a).bkf j c i) = true -> aV ((s.j0 a).bkf j c i) ∈ T /\ j.f (aV ((s.j0 a).bkf j c i)) ≠ -1
theorem Gc.inv {s s' : Wst} {j : Js} (g : Gc a s (G ++ Y) j s') (h : KInv a s Y G) (hb : Wbd a s) (al : Gal2 a s (G ++ Y) j) : KInv a s' [] (j.lf (G ++ Y)) /\ Wbd a s' := by
 obtain ⟨_, _, e3⟩ := j0_lists h.inv.full hb
 have hF := g.full h.inv.full
 have hbd := g.bd
 have hN := hb.n1
 have hO := hb.o1
 have hgo := g.g
 have hsm : ∀ c ∈ (s.j0 a).T, j.f c ≠ -1 -> 0 <= j.f c /\ j.f c < 1000000 := fun c hc hf => by
  rw [e3] at hc
  have := hbd c hc hf
  have := pf_bd (ld a.N s.y s.g s.ws c)
  omega
 have key : ∀ x, (aB x = true -> aV x ∈ G ++ Y /\ j.f (aV x) ≠ -1) -> aB ((s.j0 a).nw j x) = true -> aV ((s.j0 a).nw j x) ∈ j.lf (G ++ Y) := fun x hx ha => by
  obtain ⟨_, q2⟩ := nw_moved (k := s.j0 a) (j := j) (x := x) (fun ha => by rw [e3]; exact hx ha) hsm
  obtain ⟨c, c1, c2, c3⟩ := q2 ha
  rw [e3] at c1
  exact lf_mem.2 ⟨c, c1, c2, c3.symm⟩
 refine ⟨⟨?_, fun v _ i _ _ _ hy => by cases hy⟩, ⟨hb.n0, hb.n1, hb.o1, by rw [g.y]; exact Nat.zero_le _, g.g, g.l, g.rl⟩⟩
 rw [g.y]
 refine ⟨hF, fun x hx ha => ?_, fun v hv i i0 i1 ha => ?_⟩
 ·obtain ⟨i, hi, e⟩ := List.mem_iff_getElem.1 hx
  have e2 : s'.rs.getD i 0 = x := by
   rw [List.getD_eq_getElem?_getD, List.getElem?_eq_getElem hi, e]
   rfl
  have hi12 : i < 12 := by rw [<- g.rl]; exact hi
  rw [<- e2, g.rs i hi12] at ha ⊢
  exact Or.inr (key _ (al.rt i hi12) ha)
 ·obtain ⟨c, c1, c2, c3⟩ := lf_mem.1 (hv.resolve_left (by simp))
  rw [<- c3] at i1 ha ⊢
  rw [g.hd c c1 c2] at i1
  rw [g.fd c c1 c2 i i0 i1] at ha ⊢
  exact Or.inr (key _ (al.fd c c1 c2 i i0 i1) ha)
structure Gin (a : Wc) (S : Ww) (Y G : List Int) (j : Js) : Prop where
  gc : Gc a S.s (G ++ Y) j (S.gcut a).s
  al : Gal2 a S.s (G ++ Y) j
  g : ((S.gcut a).s.g : Int) = S.n4 a
  iff : ∀ c ∈ G ++ Y, j.f c = -1 ↔ (S.j3 a).f c = -1
  j : S.j4 a = j
theorem great_in (h : KInv a S.s Y G) (hb : Wbd a S.s) (hf : S.jfull a = false) : (∃ F, SlG (S.k5 a) (S.j5 a) F /\ F 0 (S.k5 a, 0)) /\ Gin a S Y G (S.j4 a) /\ S.j5 a = S.j4 a := by
 have hI : JI (S.s.j0 a) js0 := JI.start hb.n1 hb.o1 hb.y1 hb.g1
 obtain ⟨d1, d2, d3⟩ := settled_all (S := S) hI
 obtain ⟨l1, l2, l3⟩ := j0_lists h.inv.full hb
 have hm : ((S.s.j0 a).pl (S.j3 a)).2 <= a.N + a.O := by
  unfold Ww.jfull at hf
  have := of_decide_eq_false hf
  unfold Ww.n4 at this
  omega
 obtain ⟨g1, g2, g3, g4⟩ := gc_done h.inv.full hb (S.j3 a) hm
 have e4 : ((S.s.j0 a).pl (S.j3 a)).1 = S.j4 a := rfl
 rw [e4] at g1 g2 g3 g4
 have e6 : (S.s.j0 a).tlA (S.j4 a) = S.k5 a := rfl
 rw [e6] at g1 g2 g4
 have hT5 : (S.k5 a).T = (S.s.j0 a).T := by
  obtain ⟨_, t2, t3, _⟩ := tlA_ld (s := S.j4 a) (k := S.s.j0 a) ⟨hb.l1, hb.y1, hb.g1⟩ hb.r1 hI.nd (j0_whl h.inv.full hb) (j0_ap h.inv.full hb)
  rw [e6] at t2 t3
  unfold Jk.T
  rw [t2, t3]
 have hjl : ∀ x, (S.s.j0 a).jl (S.j4 a) x = (S.s.j0 a).jl (S.j3 a) x := fun x => by
  cases hj : (S.s.j0 a).jt x
  ·unfold Jk.jl
   rw [hj]
   rfl
  ·have hmem := jt_mem hj
   rw [l3] at hmem
   have q := g3 _ hmem
   unfold Jk.jl
   rw [hj, Bool.true_and, Bool.true_and]
   by_cases c : (S.j3 a).f (aV x) = -1
   ·rw [c, q.2 c]
   ·rw [beq_false_of_ne c, beq_false_of_ne (fun d => c (q.1 d))]
 have e5 : S.j5 a = S.j4 a := by
  have q : (S.k5 a).tS (S.j4 a, S.q3 a) (S.r3 a) = (S.j4 a, S.q3 a) := tS_same (fun e he => by
   have q1 := r3_alive (S := S) hI e he
   unfold Jk.al at q1 ⊢
   have q2 : (S.k5 a).jl (S.j4 a) e.2 = (S.s.j0 a).jl (S.j4 a) e.2 := by
    unfold Jk.jl Jk.jt
    rw [hT5]
   dsimp only
   rw [q2, hjl]
   exact q1)
  unfold Ww.j5
  rw [q]
 have e7 : (S.k5 a).sl (S.j4 a) = S.k6 a := by unfold Ww.k6; rw [e5]
 rw [e7] at g1 g2
 have eS : (S.gcut a).s = (S.k6 a).s := by unfold Ww.gcut; rw [hf, if_neg (by simp)]
 have notlost : ∀ x, aB x = true -> aV x ∈ G ++ Y -> (S.s.j0 a).jl (S.j3 a) x = false -> (S.j4 a).f (aV x) ≠ -1 := fun x ha hm hj => by
  have hjt : (S.s.j0 a).jt x = true := by
   unfold Jk.jt
   rw [ha, l3, List.contains_iff_mem.2 hm]
   rfl
  rw [Jk.jl_no hjt] at hj
  exact fun e => hj ((g3 _ hm).1 e)
 rw [e5]
 refine ⟨g4, ⟨by rw [eS]; exact g1, ⟨fun i hi ha => ?_, fun c hc hfc i i0 i1 ha => ?_⟩, by rw [eS]; exact g2, g3, rfl⟩, rfl⟩
 ·have hgd : S.s.rs.getD i 0 ∈ S.s.rs := by
   rw [List.getD_eq_getElem?_getD, List.getElem?_eq_getElem (by rw [hb.r1]; exact hi)]
   exact List.getElem_mem _
  have hm1 : aV (S.s.rs.getD i 0) ∈ G ++ Y := List.mem_append.2 (h.inv.rt _ hgd ha).symm
  exact ⟨hm1, notlost _ ha hm1 (d3 i hi)⟩
 ·have hw := j0_whl h.inv.full hb c (by rw [l3]; exact hc)
  have hp0 : pc (ld a.N S.s.y S.s.g S.s.ws c) = 0 := hw.c
  have hcT : c ∈ (S.s.j0 a).T := by rw [l3]; exact hc
  have hf3 : (S.j3 a).f c ≠ -1 := fun e => hfc ((g3 c hc).2 e)
  have hM : Mgk (S.s.j0 a) (S.j3 a) c := by
   rcases d1.mg.cmp c hcT hf3 with q | q | q
   ·rw [d1.td] at q
    cases q
   ·exact absurd q id
   ·exact q
  have mem : ∀ i, 0 <= i -> i < pf (ld a.N S.s.y S.s.g S.s.ws c) -> aB (ld a.N S.s.y S.s.g S.s.ws (c + 1 + i)) = true -> aV (ld a.N S.s.y S.s.g S.s.ws (c + 1 + i)) ∈ G ++ Y := fun i i0 i1 ha => List.mem_append.2 (h.inv.fd c (List.mem_append.1 hc).symm i i0 i1 ha).symm
  unfold Jk.bkf at ha ⊢
  rw [hjl] at ha ⊢
  by_cases cb : ((pk ((S.s.j0 a).ld c) = 3 \/ pk ((S.s.j0 a).ld c) = 4) /\ (S.s.j0 a).jl (S.j3 a) ((S.s.j0 a).ld (c + 1)) = true) /\ (i = 0 \/ (pk ((S.s.j0 a).ld c) = 4 /\ i = 1))
  ·rw [if_pos cb] at ha
   exact absurd ha (by decide)
  ·rw [if_neg cb] at ha ⊢
   have ha : aB (ld a.N S.s.y S.s.g S.s.ws (c + 1 + i)) = true := ha
   have hm1 := mem i i0 i1 ha
   refine ⟨hm1, notlost _ ha hm1 ?_⟩
   show (S.s.j0 a).jl (S.j3 a) ((S.s.j0 a).ld (c + 1 + i)) = false
   by_cases k12 : pk ((S.s.j0 a).ld c) = 1 \/ pk ((S.s.j0 a).ld c) = 2
   ·have q := hM.p k12 i.toNat (by show (i.toNat : Int) < pf (ld a.N S.s.y S.s.g S.s.ws c); omega)
    rwa [show ((i.toNat : Nat) : Int) = i from by omega] at q
   ·by_cases k3 : pk ((S.s.j0 a).ld c) = 3
    ·have f2 := pf_two hp0 (Or.inr (Or.inl k3))
     by_cases z : i = 0
     ·cases hl : (S.s.j0 a).jl (S.j3 a) ((S.s.j0 a).ld (c + 1))
      ·rw [z, Int.add_zero]
       exact hl
      ·exact absurd ⟨⟨Or.inl k3, hl⟩, Or.inl z⟩ cb
     ·have o : i = 1 := by omega
      rw [o, show c + 1 + 1 = c + 2 from by omega]
      exact hM.w k3
    ·by_cases k4 : pk ((S.s.j0 a).ld c) = 4
     ·have f2 := pf_two hp0 (Or.inr (Or.inr k4))
      have hkey : (S.s.j0 a).jl (S.j3 a) ((S.s.j0 a).ld (c + 1)) = false := by
       cases hl : (S.s.j0 a).jl (S.j3 a) ((S.s.j0 a).ld (c + 1))
       ·rfl
       ·exact absurd ⟨⟨Or.inr k4, hl⟩, by omega⟩ cb
      by_cases z : i = 0
      ·rw [z, Int.add_zero]
       exact hkey
      ·have o : i = 1 := by omega
       rw [o, show c + 1 + 1 = c + 2 from by omega]
       rcases hM.e k4 with q | q
       ·rw [d1.ep c q] at hkey
        cases hkey
       ·exact q
     ·exfalso
      have q1 := pk_all hp0
      have q2 : pf (ld a.N S.s.y S.s.g S.s.ws c) = 0 := by
       have q3 : pk (ld a.N S.s.y S.s.g S.s.ws c) ≠ 1 /\ pk (ld a.N S.s.y S.s.g S.s.ws c) ≠ 2 /\ pk (ld a.N S.s.y S.s.g S.s.ws c) ≠ 3 /\ pk (ld a.N S.s.y S.s.g S.s.ws c) ≠ 4 := ⟨fun e => k12 (Or.inl e), fun e => k12 (Or.inr e), k3, k4⟩
       omega
      omega
theorem gcut_len (a : Wc) (S : Ww) : (S.gcut a).r.length + (S.gcut a).q.length <= S.r.length + S.q.length := by
 unfold Ww.gcut
 split
 ·exact Nat.le_refl _
 ·have h1 := st_len (noSd Js) (fun s x => (S.s.j0 a).al s.1 x) (S.s.j0 a).ke (fun s x => (S.s.j0 a).nw s.1 x) (fun s x => keJ_len (S.s.j0 a) s x) (S.j2 a) S.r
  have h2 : (S.j2 a).2.length = S.q.length := sprJ_len _ _ _
  have h3 : (noSd Js).wt (S.j2 a) = (S.j2 a).2 := rfl
  have h4 : (S.r3 a).length + (S.q3 a).length <= S.r.length + (S.j2 a).2.length := h1
  have h5 := st_len (noSd Js) (fun s x => (S.k5 a).al s.1 x) (S.k5 a).mq (fun s x => (S.k5 a).nw s.1 x) (fun _ _ => rfl) (S.j4 a, S.q3 a) (S.r3 a)
  have h6 : ((S.k5 a).tR (S.j4 a, S.q3 a) (S.r3 a)).length + ((S.k5 a).tQ (S.j4 a, S.q3 a) (S.r3 a)).length <= (S.r3 a).length + (S.q3 a).length := h5
  dsimp only
  omega
theorem KInv.gcut (h : KInv a S.s Y G) (hb : Wbd a S.s) : (S.jfull a = false -> ∃ F, SlG (S.k5 a) (S.j5 a) F /\ F 0 (S.k5 a, 0)) /\ (∃ Y' G', KInv a (S.gcut a).s Y' G') /\ (S.gcut a).s.M.length <= S.s.M.length := by
 refine ⟨fun hf => (great_in h hb hf).1, ?_⟩
 cases hf : S.jfull a
 ·obtain ⟨_, g, _⟩ := great_in h hb hf
  obtain ⟨i1, _⟩ := g.gc.inv h hb g.al
  exact ⟨⟨[], _, i1⟩, by rw [g.gc.M]; exact Nat.zero_le _⟩
 ·have eG : S.gcut a = S := by unfold Ww.gcut; rw [if_pos hf]
  rw [eG]
  exact ⟨⟨Y, G, h⟩, Nat.le_refl _⟩
end
end Go.Proofs.YtalgochmjddodaaGreat

namespace Go.Proofs.YtalgochmjddodaaGreat
open Go.RowKit W Kp Stl
section
variable {k : Jk} {C : Int -> Prop} {s : Js}
end
end Go.Proofs.YtalgochmjddodaaGreat

namespace Go.Proofs.YtalgochmjddodaaGreat
open Go.RowKit W Kp Stl
section
variable {k : Jk}
end
def Eok (k : Jk) (l : List En) : Prop := ∀ e ∈ l, k.jt e.1 = true /\ k.jt e.2 = true
section
variable {a : Wc} {S : Ww} {Y G : List Int}
theorem q5_of (h : KInv a S.s Y G) (hb : Wbd a S.s) (hf : S.jfull a = false) : (S.gcut a).q = (((S.s.j0 a).sS (S.j2 a) S.r).2.filter (fun e => (S.s.j0 a).al (S.j3 a) e.1)).map (fun e => ((S.s.j0 a).nw (S.j4 a) e.1, (S.s.j0 a).nw (S.j4 a) e.2)) := by
 have hI : JI (S.s.j0 a) js0 := JI.start hb.n1 hb.o1 hb.y1 hb.g1
 obtain ⟨d1, d2, d3⟩ := settled_all (S := S) hI
 obtain ⟨_, l2, l3⟩ := j0_lists h.inv.full hb
 obtain ⟨_, g, e5⟩ := great_in h hb hf
 obtain ⟨_, t2, t3, _⟩ := tlA_ld (s := S.j4 a) (k := S.s.j0 a) ⟨hb.l1, hb.y1, hb.g1⟩ hb.r1 hI.nd (j0_whl h.inv.full hb) (j0_ap h.inv.full hb)
 have t2 : (S.k5 a).Y = (S.s.j0 a).Y := t2
 have t3 : (S.k5 a).G = (S.s.j0 a).G := t3
 have hT5 : (S.k5 a).T = (S.s.j0 a).T := by unfold Jk.T; rw [t2, t3]
 have hjl : ∀ x, (S.k5 a).al (S.j4 a) x = (S.s.j0 a).al (S.j3 a) x := fun x => by
  have q0 : (S.k5 a).jl (S.j4 a) x = (S.s.j0 a).jl (S.j4 a) x := by
   unfold Jk.jl Jk.jt
   rw [hT5]
  unfold Jk.al
  rw [q0]
  cases hj : (S.s.j0 a).jt x
  ·unfold Jk.jl
   rw [hj]
   rfl
  ·have hmem := jt_mem hj
   rw [l3] at hmem
   have q := g.iff _ hmem
   unfold Jk.jl
   rw [hj, Bool.true_and, Bool.true_and]
   by_cases c : (S.j3 a).f (aV x) = -1
   ·rw [c, q.2 c]
   ·rw [beq_false_of_ne c, beq_false_of_ne (fun d => c (q.1 d))]
 have q3 : S.q3 a = ((S.s.j0 a).sS (S.j2 a) S.r).2.filter (fun e => (S.s.j0 a).al (S.j3 a) e.1) := by
  show ((((S.s.j0 a).sS (S.j2 a) S.r).2.filter (fun e => (S.s.j0 a).al (S.j3 a) e.1)).map fun e => ((S.s.j0 a).nw (S.j3 a) e.1, (S.s.j0 a).nw (S.j3 a) e.2)) = _
  have : (fun e : En => ((S.s.j0 a).nw (S.j3 a) e.1, (S.s.j0 a).nw (S.j3 a) e.2)) = id := by
   funext e
   rw [d1.mg.nw, d1.mg.nw]
   rfl
  rw [this, List.map_id]
 have eS : (S.k5 a).tS (S.j4 a, S.q3 a) (S.r3 a) = (S.j4 a, S.q3 a) := tS_same (fun e he => by
  show (S.k5 a).al (S.j4 a) e.2 = true
  rw [hjl]
  exact r3_alive (S := S) hI e he)
 unfold Ww.gcut
 rw [hf, if_neg (by simp)]
 show stQ (noSd Js) (fun s x => (S.k5 a).al s.1 x) (S.k5 a).mq (fun s x => (S.k5 a).nw s.1 x) (S.j4 a, S.q3 a) (S.r3 a) = _
 unfold stQ
 have e : stS (noSd Js) (fun s x => (S.k5 a).al s.1 x) (S.k5 a).mq (S.j4 a, S.q3 a) (S.r3 a) = (S.j4 a, S.q3 a) := eS
 rw [e]
 show ((S.q3 a).filter (fun e => (S.k5 a).al (S.j4 a) e.1)).map (fun e => ((S.k5 a).nw (S.j4 a) e.1, (S.k5 a).nw (S.j4 a) e.2)) = _
 have e1 : (S.q3 a).filter (fun e => (S.k5 a).al (S.j4 a) e.1) = S.q3 a := List.filter_eq_self.2 (fun e he => by
  rw [hjl]
  rw [q3] at he
  exact (List.mem_filter.1 he).2)
 rw [e1, q3]
 refine List.map_congr_left (fun e _ => ?_)
 rw [Jk.nw_of (k := S.k5 a) (k0 := S.s.j0 a) _ _ t2 t3, Jk.nw_of (k := S.k5 a) (k0 := S.s.j0 a) _ _ t2 t3]
end
end Go.Proofs.YtalgochmjddodaaGreat

namespace Go.Proofs.YtalgochmjddodaaGreat
open Go.RowKit W Kp Stl
theorem nw_to {k : Jk} {j : Js} {x : Int} (hj : k.jt x = true) (hf : j.f (aV x) ≠ -1) (hb : 0 <= j.f (aV x) /\ j.f (aV x) < 1000000) : k.nw j x = ew 3 (j.f (aV x)) /\ aB (k.nw j x) = true /\ aV (k.nw j x) = j.f (aV x) := by
 have e : k.nw j x = ew 3 (j.f (aV x)) := by
  unfold Jk.nw
  rw [hj, beq_false_of_ne hf]
  rfl
 obtain ⟨n, hn⟩ : ∃ n : Nat, j.f (aV x) = n := ⟨(j.f (aV x)).toNat, by omega⟩
 obtain ⟨w1, w2⟩ := ew_at n (by omega)
 rw [e, hn]
 exact ⟨rfl, w1, w2⟩
section
variable {a : Wc} {S : Ww} {Y G : List Int}
end
end Go.Proofs.YtalgochmjddodaaGreat

namespace Go.Proofs.YtalgochmjddodaaGreat
open Go.RowKit W Kp Stl
section
variable {a : Wc} {S : Ww} {G : List Int}
end
end Go.Proofs.YtalgochmjddodaaGreat

namespace Go.Proofs.YtalgochmjddodaaGreat
open Go.RowKit W Kp Stl
def Eo (a : Wc) (W : Ww) : Prop := ∀ e, (e ∈ W.r \/ e ∈ W.q) -> tB a.N W.s.y W.s.g W.s.ws e.1 = true /\ tB a.N W.s.y W.s.g W.s.ws e.2 = true
section
variable {a : Wc} {S : Ww} {Y G : List Int}
theorem tB_iff {N O y g : Nat} {ws Y G : List Int} (h : Full2 N y g ws Y G) (hN : N <= 256) (hy : y <= N) (hO : O <= 1024) (hg : g <= O) {x : Int} : tB N y g ws x = true ↔ aB x = true /\ (aV x ∈ Y \/ aV x ∈ G) := by
 refine ⟨tB_mem (O := O) h hN hy hO hg, fun ⟨h1, h2⟩ => ?_⟩
 obtain ⟨e1, e2⟩ := h.lists (O := O) hN hy hO hg
 unfold tB
 rw [h1, e1, e2]
 rcases h2 with q | q
 ·rw [List.contains_iff_mem.2 q]
  rfl
 ·rw [List.contains_iff_mem.2 q, Bool.or_true]
  rfl
theorem jt_tB (h : KInv a S.s Y G) (hb : Wbd a S.s) {x : Int} : (S.s.j0 a).jt x = true ↔ tB a.N S.s.y S.s.g S.s.ws x = true := by
 obtain ⟨_, _, l3⟩ := j0_lists h.inv.full hb
 rw [tB_iff (O := a.O) h.inv.full hb.n1 hb.y1 hb.o1 hb.g1]
 unfold Jk.jt
 rw [l3, Bool.and_eq_true]
 constructor
 ·rintro ⟨h1, h2⟩
  exact ⟨h1, (List.mem_append.1 (List.contains_iff_mem.1 h2)).symm⟩
 ·rintro ⟨h1, h2⟩
  exact ⟨h1, List.contains_iff_mem.2 (List.mem_append.2 h2.symm)⟩
theorem Eo.ok (h : Eo a S) (hk : KInv a S.s Y G) (hb : Wbd a S.s) : Eok (S.s.j0 a) S.r /\ Eok (S.s.j0 a) S.q :=
 ⟨fun e he => ⟨(jt_tB hk hb).2 (h e (Or.inl he)).1, (jt_tB hk hb).2 (h e (Or.inl he)).2⟩, fun e he => ⟨(jt_tB hk hb).2 (h e (Or.inr he)).1, (jt_tB hk hb).2 (h e (Or.inr he)).2⟩⟩
theorem waits_ok (hI : JI (S.s.j0 a) js0) (hr : Eok (S.s.j0 a) S.r) (hq : Eok (S.s.j0 a) S.q) : ∀ e ∈ ((S.s.j0 a).sS (S.j2 a) S.r).2, (S.s.j0 a).jt e.1 = true /\ (S.s.j0 a).jt e.2 = true := by
 obtain ⟨h1, _, _⟩ := (Mg.start (X := fun _ => False) hI).kr 12
 obtain ⟨dd1, _, dd3⟩ := Mg.sp (t := ((S.s.j0 a).kr js0 12, S.q)) h1
 have dd3 : (S.j2 a).2 = S.q := dd3
 have dd1 : Dn (S.s.j0 a) (S.j2 a).1 (S.j2 a).2 := dd1
 have key : ∀ (n : Nat) (t : Js × List En) (d : List En), Dn (S.s.j0 a) t.1 t.2 -> Eok (S.s.j0 a) t.2 -> Eok (S.s.j0 a) d -> Eok (S.s.j0 a) (trn (S.s.j0 a).cmJ n t d).1.2 := fun n => by
  have pl : ∀ (l : List En) (u : List En × List En × (Js × List En)), Dn (S.s.j0 a) u.2.2.1 u.2.2.2 -> Eok (S.s.j0 a) u.2.2.2 -> Eok (S.s.j0 a) l -> Eok (S.s.j0 a) (l.foldl (pstep (S.s.j0 a).cmJ) u).2.2.2 := fun l => by
   induction l with
   | nil => intro u _ hu _; exact hu
   | cons e l ih =>
    intro u du hu hl
    rw [List.foldl_cons]
    have kk : (pstep (S.s.j0 a).cmJ u e).2.2 = ((S.s.j0 a).cmJ u.2.2 e).2 := by
     unfold pstep
     split <;> rfl
    have dc := (du.cm e).1
    refine ih _ (by rw [kk]; exact dc) ?_ (fun b hb => hl b (List.mem_cons_of_mem _ hb))
    rw [kk]
    cases c : (S.s.j0 a).al u.2.2.1 e.1
    ·have e1 : (S.s.j0 a).cmJ u.2.2 e = (false, u.2.2) := cm_no (o := noSd Js) (is := fun s x => (S.s.j0 a).al s.1 x) (kp := (S.s.j0 a).ke) (s := u.2.2) (e := e) c
     rw [e1]
     exact hu
    ·obtain ⟨_, _, h3, _⟩ := du.mg.ke e.2
     have e1 : (S.s.j0 a).cmJ u.2.2 e = (true, (((S.s.j0 a).ke u.2.2 e.2).2.1, u.2.2.2 ++ [e])) := by
      refine (cm_yes (o := noSd Js) (is := fun s x => (S.s.j0 a).al s.1 x) (kp := (S.s.j0 a).ke) (s := u.2.2) (e := e) c).trans ?_
      show (true, (((S.s.j0 a).ke u.2.2 e.2).2.1, ((S.s.j0 a).ke u.2.2 e.2).2.2 ++ [(e.1, e.2)])) = _
      rw [h3]
     rw [e1]
     intro b hb
     rcases List.mem_append.1 hb with hb | hb
     ·exact hu b hb
     ·rw [List.mem_singleton.1 hb]
      exact hl e (by simp)
  induction n with
  | zero => intro t d _ ht _; exact ht
  | succ n ih =>
   intro t d dt ht hd
   have p1 : Eok (S.s.j0 a) (pts (S.s.j0 a).cmJ t d).2.2.2 := pl d ([], [], t) dt ht hd
   by_cases c : (pts (S.s.j0 a).cmJ t d).1.length = 0
   ·rw [trn_stop _ _ _ _ c]
    exact p1
   ·rw [trn_go _ _ _ _ c]
    exact ih _ _ (Dn.pl d ([], [], t) dt).1 p1 (fun e he => hd e (pts_mem _ t d e (Or.inr he)))
 exact key _ (S.j2 a) _ dd1 (by rw [dd3]; exact hq) (fun e he => hr e (List.mem_filter.1 he).1)
theorem Eo.gcut (h : Eo a S) (hk : KInv a S.s Y G) (hb : Wbd a S.s) : Eo a (S.gcut a) := by
 cases hf : S.jfull a
 ·have hI : JI (S.s.j0 a) js0 := JI.start hb.n1 hb.o1 hb.y1 hb.g1
  obtain ⟨hr, hq⟩ := h.ok hk hb
  obtain ⟨d1, d2, _⟩ := settled_all (S := S) hI
  obtain ⟨_, _, l3⟩ := j0_lists hk.inv.full hb
  obtain ⟨_, g, e5⟩ := great_in hk hb hf
  obtain ⟨K1, B1⟩ := g.gc.inv hk hb g.al
  have hq3 := waits_ok (S := S) hI hr hq
  have hN := hb.n1
  have hO := hb.o1
  have hgo := g.gc.g
  have bnd : ∀ c ∈ G ++ Y, (S.j4 a).f c ≠ -1 -> 0 <= (S.j4 a).f c /\ (S.j4 a).f c < 1000000 := fun c hc hfc => by
   have q1 := g.gc.bd c hc hfc
   have q2 := pf_bd (ld a.N S.s.y S.s.g S.s.ws c)
   omega
  have alf : ∀ x, (S.s.j0 a).jt x = true -> (S.s.j0 a).al (S.j3 a) x = true -> (S.j4 a).f (aV x) ≠ -1 := fun x hj ha q => by
   have hm := jt_mem hj
   rw [l3] at hm
   unfold Jk.al at ha
   have q2 : (S.s.j0 a).jl (S.j3 a) x = false := by simpa using ha
   exact (Jk.jl_no hj).1 q2 ((g.iff _ hm).1 q)
  have key : ∀ x, (S.s.j0 a).jt x = true -> (S.s.j0 a).al (S.j3 a) x = true -> tB a.N (S.gcut a).s.y (S.gcut a).s.g (S.gcut a).s.ws ((S.s.j0 a).nw (S.j4 a) x) = true := fun x hj ha => by
   have hm := jt_mem hj
   rw [l3] at hm
   have hfx := alf x hj ha
   obtain ⟨_, q2, q3⟩ := nw_to hj hfx (bnd _ hm hfx)
   refine (tB_iff (O := a.O) K1.inv.full B1.n1 B1.y1 B1.o1 B1.g1).2 ⟨q2, Or.inr ?_⟩
   rw [q3]
   exact lf_mem.2 ⟨_, hm, hfx, rfl⟩
  obtain ⟨_, t2, t3, _⟩ := tlA_ld (s := S.j4 a) (k := S.s.j0 a) ⟨hb.l1, hb.y1, hb.g1⟩ hb.r1 hI.nd (j0_whl hk.inv.full hb) (j0_ap hk.inv.full hb)
  have t2 : (S.k5 a).Y = (S.s.j0 a).Y := t2
  have t3 : (S.k5 a).G = (S.s.j0 a).G := t3
  intro e he
  rcases he with he | he
  ·have eG : (S.gcut a).r = (S.k5 a).tR (S.j4 a, S.q3 a) (S.r3 a) := by unfold Ww.gcut; rw [hf, if_neg (by simp)]
   rw [eG] at he
   have he : e ∈ (((S.r3 a).filter (fun e => (S.k5 a).al (S.j4 a) e.2)).filter (fun e => (S.k5 a).al ((S.k5 a).tS (S.j4 a, S.q3 a) (S.r3 a)).1 e.1)).map fun e => ((S.k5 a).nw ((S.k5 a).tS (S.j4 a, S.q3 a) (S.r3 a)).1 e.1, (S.k5 a).nw ((S.k5 a).tS (S.j4 a, S.q3 a) (S.r3 a)).1 e.2) := he
   have e5 : ((S.k5 a).tS (S.j4 a, S.q3 a) (S.r3 a)).1 = S.j4 a := e5
   rw [e5] at he
   obtain ⟨e0, h1, h2⟩ := List.mem_map.1 he
   have h3 := (List.mem_filter.1 (List.mem_filter.1 h1).1).1
   have h3 : e0 ∈ ((S.r.filter (fun e => (S.s.j0 a).al (S.j2 a).1 e.2)).filter (fun e => (S.s.j0 a).al (S.j3 a) e.1)).map fun e => ((S.s.j0 a).nw (S.j3 a) e.1, (S.s.j0 a).nw (S.j3 a) e.2) := h3
   obtain ⟨e1, h4, h5⟩ := List.mem_map.1 h3
   obtain ⟨h6, h7⟩ := List.mem_filter.1 h4
   obtain ⟨h8, h9⟩ := List.mem_filter.1 h6
   rw [d1.mg.nw, d1.mg.nw] at h5
   have h5 : e1 = e0 := h5
   rw [h5] at h7 h8 h9
   obtain ⟨q1, q2⟩ := hr e0 h8
   rw [<- h2, Jk.nw_of (k := S.k5 a) (k0 := S.s.j0 a) _ _ t2 t3, Jk.nw_of (k := S.k5 a) (k0 := S.s.j0 a) _ _ t2 t3]
   exact ⟨key _ q1 h7, key _ q2 (al_le d2 h9)⟩
  ·rw [q5_of hk hb hf] at he
   obtain ⟨e0, h1, h2⟩ := List.mem_map.1 he
   obtain ⟨h3, h4⟩ := List.mem_filter.1 h1
   obtain ⟨q1, q2⟩ := hq3 e0 h3
   rw [<- h2]
   refine ⟨key _ q1 h4, key _ q2 ?_⟩
   rcases d1.wq e0 h3 with q | q
   ·exact q
   ·have h4 : (S.s.j0 a).al (S.j3 a) e0.1 = true := h4
    rw [h4] at q
    cases q
 ·have eG : S.gcut a = S := by unfold Ww.gcut; rw [if_pos hf]
  rw [eG]
  exact h
theorem Eo.more {W : Ww} {s' : Wst} {Y' G' : List Int} (h : Eo a W) (hk : KInv a W.s Y G) (hb : Wbd a W.s) (hF : Full2 a.N s'.y s'.g s'.ws Y' G') (hy : s'.y <= a.N) (hg : s'.g <= a.O) (hs : ∀ v, (v ∈ Y \/ v ∈ G) -> (v ∈ Y' \/ v ∈ G')) : Eo a ⟨s', W.r, W.q⟩ := fun e he => by
 have key : ∀ x, tB a.N W.s.y W.s.g W.s.ws x = true -> tB a.N s'.y s'.g s'.ws x = true := fun x hx => by
  obtain ⟨q1, q2⟩ := (tB_iff (O := a.O) hk.inv.full hb.n1 hb.y1 hb.o1 hb.g1).1 hx
  exact (tB_iff (O := a.O) hF hb.n1 hy hb.o1 hg).2 ⟨q1, hs _ q2⟩
 obtain ⟨q1, q2⟩ := h e he
 exact ⟨key _ q1, key _ q2⟩
end
end Go.Proofs.YtalgochmjddodaaGreat
