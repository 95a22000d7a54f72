/- Joined: Mk6, Vb2, Mk7, Mk8, Ws15, Ws20. -/
import Derived.Test.YtnalfnlmaallmaaGreatJ43
import Derived.Test.YtnalfnlmaallmaaGreatJ00
import Derived.Test.YtnalfnlmaallmaaGreatJ40
import Derived.Test.YtnalfnlmaallmaaGreatJ23
namespace Go.Proofs.YtnalfnlmaallmaaGreat
open Go.RowKit W Kp Stl
theorem Pos.same {z z' : Int -> Int} {al al' : Int -> Bool} {f f' : Int -> Int} : ∀ {l : List Int} {n m : Int}, (∀ a ∈ l, z a = z' a /\ al a = al' a /\ f a = f' a) -> Pos z al f n l m -> Pos z' al' f' n l m
 | [], n, m, _, h => h
 | a :: l, n, m, he, h => by
  obtain ⟨e1, e2, e3⟩ := he a (by simp)
  have ih : ∀ {n m : Int}, Pos z al f n l m -> Pos z' al' f' n l m := fun h => Pos.same (fun b hb => he b (List.mem_cons_of_mem _ hb)) h
  refine ⟨fun c => ?_, fun c => ?_⟩
  ·obtain ⟨h1, h2⟩ := h.1 (by rw [e2]; exact c)
   rw [<- e3, <- e1]
   exact ⟨h1, ih h2⟩
  ·obtain ⟨h1, h2⟩ := h.2 (by rw [e2]; exact c)
   rw [<- e3]
   exact ⟨h1, ih h2⟩
structure Gc (a : Wc) (s : Wst) (T : List Int) (j : Js) (s' : Wst) : Prop where
  y : s'.y = 0
  M : s'.M = []
  rl : s'.rs.length = 12
  g : s'.g <= a.O
  l : s'.ws.length = a.N + a.O
  pos : Pos (fun c => pf (ld a.N s.y s.g s.ws c)) (fun c => !(j.f c == -1)) j.f a.N T (a.N + s'.g)
  rs : ∀ i, i < 12 -> s'.rs.getD i 0 = (s.j0 a).nw j (s.rs.getD i 0)
  hd : ∀ c ∈ T, j.f c ≠ -1 -> ld a.N 0 s'.g s'.ws (j.f c) = ld a.N s.y s.g s.ws c
  fd : ∀ c ∈ T, j.f c ≠ -1 -> ∀ i, 0 <= i -> i < pf (ld a.N s.y s.g s.ws c) -> ld a.N 0 s'.g s'.ws (j.f c + 1 + i) = (s.j0 a).nw j ((s.j0 a).bkf j c i)
section
variable {a : Wc} {s : Wst} {Y G : List Int}
theorem j0_lists (h : Full2 a.N s.y s.g s.ws Y G) (hb : Wbd a s) : (s.j0 a).Y = Y /\ (s.j0 a).G = G /\ (s.j0 a).T = G ++ Y := by
 have e1 : (s.j0 a).Y = Y := by
  show kpL _ (thY a.N s.y s.g s.ws) = Y
  rw [(h.lists (O := a.O) hb.n1 hb.y1 hb.o1 hb.g1).1]
  exact kpL_none (fun x hx => decide_eq_false (by have := (h.ty.mem x hx).2.1; omega))
 have e2 : (s.j0 a).G = G := by
  show kpL _ (thO a.N s.y s.g s.ws) = G
  rw [(h.lists (O := a.O) hb.n1 hb.y1 hb.o1 hb.g1).2]
  exact kpL_none (fun x hx => decide_eq_false (by have := (h.to.mem x hx).2.1; omega))
 exact ⟨e1, e2, by unfold Jk.T; rw [e1, e2]⟩
theorem j0_whl (h : Full2 a.N s.y s.g s.ws Y G) (hb : Wbd a s) : ∀ c ∈ (s.j0 a).T, Whl (s.j0 a) c := fun c hc => by
 obtain ⟨e1, e2, e3⟩ := j0_lists h hb
 rw [e3] at hc
 rcases List.mem_append.1 hc with d | d
 ·obtain ⟨h1, h2, h3⟩ := h.to.mem c d
  exact ⟨h3, fun i i0 i1 => iB_o (by show (a.N : Int) <= _; omega) (by have i1 : i <= pf (ld a.N s.y s.g s.ws c) := i1; show c + i < (a.N : Int) + s.g; omega)⟩
 ·obtain ⟨h1, h2, h3⟩ := h.ty.mem c d
  exact ⟨h3, fun i i0 i1 => iB_y (by omega) (by have i1 : i <= pf (ld a.N s.y s.g s.ws c) := i1; show c + i < (s.y : Int); omega)⟩
theorem j0_ap (h : Full2 a.N s.y s.g s.ws Y G) (hb : Wbd a s) : ∀ c ∈ (s.j0 a).T, ∀ d ∈ (s.j0 a).T, c < d -> c + (1 + pf ((s.j0 a).ld c)) <= d := fun c hc d hd q => by
 obtain ⟨e1, e2, e3⟩ := j0_lists h hb
 rw [e3] at hc hd
 show c + (1 + pf (ld a.N s.y s.g s.ws c)) <= d
 have hy := hb.y1
 rcases List.mem_append.1 hc with hc | hc <;> rcases List.mem_append.1 hd with hd | hd
 ·exact h.to.apart c hc d hd q
 ·have h1 := (h.to.mem c hc).1
  have h2 := (h.ty.mem d hd).2.1
  have := pf_bd (ld a.N s.y s.g s.ws d)
  omega
 ·have h1 := (h.ty.mem c hc).2.1
  have h2 := (h.to.mem d hd).1
  omega
 ·exact h.ty.apart c hc d hd q
theorem gc_done (h : Full2 a.N s.y s.g s.ws Y G) (hb : Wbd a s) (j3 : Js) (hm : ((s.j0 a).pl j3).2 <= a.N + a.O) :
  Gc a s (G ++ Y) ((s.j0 a).pl j3).1 (((s.j0 a).tlA ((s.j0 a).pl j3).1).sl ((s.j0 a).pl j3).1).s /\ ((((s.j0 a).tlA ((s.j0 a).pl j3).1).sl ((s.j0 a).pl j3).1).s.g : Int) = ((s.j0 a).pl j3).2 - a.N /\
  (∀ c ∈ G ++ Y, ((s.j0 a).pl j3).1.f c = -1 ↔ j3.f c = -1) /\ (∃ F, SlG ((s.j0 a).tlA ((s.j0 a).pl j3).1) ((s.j0 a).pl j3).1 F /\ F 0 ((s.j0 a).tlA ((s.j0 a).pl j3).1, 0)) := by
 obtain ⟨e1, e2, e3⟩ := j0_lists h hb
 have ew := j0_whl h hb
 have eap := j0_ap h hb
 have enda : (s.j0 a).T.Nodup := (JI.start (s := s) hb.n1 hb.o1 hb.y1 hb.g1).nd
 have hz : ∀ c, 0 <= (fun c => pf ((s.j0 a).ld c)) c := fun c => (pf_bd _).1
 obtain ⟨k, hk⟩ : ∃ k, s.j0 a = k := ⟨_, rfl⟩
 have ka : k.a = a := by rw [<- hk]; rfl
 have ks : k.s = s := by rw [<- hk]; rfl
 have kld : ∀ x, k.ld x = ld a.N s.y s.g s.ws x := fun x => by rw [<- hk]; rfl
 have kb : Kbd k := ⟨by rw [ks, ka]; exact hb.l1, by rw [ks, ka]; exact hb.y1, by rw [ks, ka]; exact hb.g1⟩
 obtain ⟨P0, _, _, _⟩ := pl_pos (s.j0 a) (fun c => !(j3.f c == -1)) (s.j0 a).T (j3, a.N) enda (fun c _ => rfl)
 have P0 : Pos (fun c => pf ((s.j0 a).ld c)) (fun c => !(j3.f c == -1)) ((s.j0 a).pl j3).1.f a.N (s.j0 a).T ((s.j0 a).pl j3).2 := P0
 rw [hk] at e1 e2 e3 ew eap enda hz P0 hm ⊢
 obtain ⟨j, hj⟩ : ∃ j, (k.pl j3).1 = j := ⟨_, rfl⟩
 obtain ⟨m, hm'⟩ : ∃ m, (k.pl j3).2 = m := ⟨_, rfl⟩
 rw [hj, hm'] at P0
 rw [hm'] at hm
 rw [hj, hm']
 -- alive are those that have places
 have hal : ∀ c ∈ k.T, (!(j3.f c == -1)) = !(j.f c == -1) := fun c hc => by
  cases q : (!(j3.f c == -1))
  ·rw [P0.no c hc q]
   rfl
  ·have := (P0.bd hz c hc q).1
   rw [beq_false_of_ne (by omega)]
   rfl
 have P : Pos (fun c => pf (k.ld c)) (fun c => !(j.f c == -1)) j.f a.N k.T m := P0.same (fun c hc => ⟨rfl, hal c hc, rfl⟩)
 have hiff : ∀ c ∈ k.T, j.f c = -1 ↔ j3.f c = -1 := fun c hc => by
  have := hal c hc
  constructor
  ·intro q
   rw [q] at this
   simpa using this
  ·intro q
   rw [q] at this
   simpa using this.symm
 obtain ⟨t1, t2, t3, t4, t5, t6, t7, t8, t9, t10⟩ := tlA_ld (s := j) kb (by rw [ks]; exact hb.r1) enda ew eap
 obtain ⟨k5, hk5⟩ : ∃ k5, k.tlA j = k5 := ⟨_, rfl⟩
 rw [hk5] at t1 t2 t3 t4 t5 t6 t7 t8 t9 t10 ⊢
 have z5 : ∀ c ∈ k.T, pf (k5.ld c) = pf (k.ld c) := fun c hc => by rw [t9 c hc]
 have ha5 : k5.a = a := t1.trans ka
 have hG5 : k5.G = G := t3.trans e2
 have hY5 : k5.Y = Y := t2.trans e1
 have hT5 : ∀ c, c ∈ G \/ c ∈ Y -> c ∈ k.T := fun c hc => by rw [e3]; exact List.mem_append.2 hc
 rw [e3] at P
 obtain ⟨m0, PG, PY⟩ := P.app
 have PG5 : Pos (fun c => pf (k5.ld c)) (fun c => !(j.f c == -1)) j.f (k5.a.N + (0 : Int)) G m0 := by
  rw [ha5, Int.add_zero]
  exact PG.same (fun c hc => ⟨(z5 c (hT5 c (Or.inl hc))).symm, rfl, rfl⟩)
 have PY5 : Pos (fun c => pf (k5.ld c)) (fun c => !(j.f c == -1)) j.f m0 Y m := PY.same (fun c hc => ⟨(z5 c (hT5 c (Or.inr hc))).symm, rfl, rfl⟩)
 have hz5 : ∀ c, 0 <= (fun c => pf (k5.ld c)) c := fun c => (pf_bd _).1
 have hmY := PY5.le hz5
 have hmG := PG5.le hz5
 have I0 : SlI k5 (fun c => !(j.f c == -1)) j.f m0 [] G (k5, 0) := by
  refine ⟨Ksm.refl _, rfl, Int.le_refl _, PG5, ⟨a.N, ?_, by rw [ha5]; dsimp only; omega, fun _ _ _ => rfl⟩, fun _ _ _ => rfl, fun c hc => by cases hc⟩
  rw [ha5, t5, ks]
  exact h.to.heads (fun x hx => by rw [t9 x (hT5 x (Or.inl hx)), kld])
 have hs5 : ∀ c ∈ k5.G, (fun c => !(j.f c == -1)) c = !(j.f c == -1) := fun _ _ => rfl
 have SG := SlI.slg (k := k5) (s := j) (m := m0) t6.l t6.y t6.g (by rw [ha5]; exact hb.n1) (by rw [ha5]; exact hb.o1) hs5 (by rw [ha5]; omega)
 have I1 := SlI.all t6.l t6.y t6.g hs5 G [] (k5, 0) (fun c hc => by rw [hG5]; exact hc) I0
 rw [List.nil_append] at I1
 have hP1 : k5.a.N + (ejL (fun _ a => j.f a) (Jk.slS j) (k5, 0) G).2 = m0 := I1.pos
 have eSL : k5.slL j k5.G = ejL (fun _ a => j.f a) (Jk.slS j) (k5, 0) G := by unfold Jk.slL; rw [hG5]
 obtain ⟨u, hu⟩ : ∃ u, ejL (fun _ a => j.f a) (Jk.slS j) (k5, 0) G = u := ⟨_, rfl⟩
 rw [hu] at I1 hP1 eSL
 have u0 := I1.u0
 rw [ha5] at hP1
 have hgo := t6.g
 have hyo := t6.y
 rw [ha5] at hgo hyo
 -- behind Cut
 obtain ⟨k1, hk1⟩ : ∃ k1, k5.sl1 j = k1 := ⟨_, rfl⟩
 have ek1 : k1 = u.1.ar u.1.s.y u.2.toNat u.1.s.ws := by rw [<- hk1]; unfold Jk.sl1; rw [eSL]
 have g1 : (k1.s.g : Int) = u.2 := by rw [ek1]; show (u.2.toNat : Int) = _; omega
 have ua := I1.sm.a
 have uy := I1.sm.y
 have ug := I1.g
 have eld1 : ∀ x : Int, (0 <= x /\ x < k5.s.y) \/ ((a.N : Int) <= x /\ x < a.N + u.2 /\ x < a.N + k5.s.g) -> k1.ld x = u.1.ld x := fun x hx => by
  have i1 : iB u.1.a.N u.1.s.y u.1.s.g x = true := by
   rw [ua, uy, ug, ha5]
   exact (iB_bool _ _ _ _).2 (by omega)
  have i2 : iB u.1.a.N u.1.s.y u.2.toNat x = true := by
   rw [ua, uy, ha5]
   exact (iB_bool _ _ _ _).2 (by omega)
  rw [ek1]
  show ld u.1.a.N u.1.s.y u.2.toNat u.1.s.ws x = ld u.1.a.N u.1.s.y u.1.s.g u.1.s.ws x
  rw [ld_in i1, ld_in i2]
 obtain ⟨b, hbt, hb1, _⟩ := I1.tl
 have hb2 : b = k5.a.N + k5.s.g := hbt
 rw [ha5] at hb1 hb2
 have C0 : CpI k5 (fun c => !(j.f c == -1)) j.f m G Y k1 := by
  refine ⟨⟨by rw [ek1]; exact ua, by rw [ek1]; exact uy, by rw [ek1]; exact I1.sm.rs, by rw [ek1]; exact I1.sm.len⟩, by rw [ha5]; omega, ?_, fun x x0 x1 => ?_, fun c hc hal => ?_⟩
  ·rw [ha5, g1, hP1]
   exact PY5
  ·rw [eld1 x (Or.inl ⟨x0, x1⟩)]
   exact I1.yg x x0 x1
  ·obtain ⟨r1, r2⟩ := I1.rel c hc hal
   have r3 := (PG5.bd hz5 c hc hal).1
   rw [ha5] at r1 r3 ⊢
   refine ⟨by omega, by omega, fun i i0 i1 => ?_⟩
   rw [eld1 _ (Or.inr ⟨by omega, by omega, by omega⟩)]
   exact r2 i i0 i1
 have C1 := CpI.all (s := j) t6.l t6.y (by rw [ha5]; exact hm) Y G k1 (fun c hc => by
  have hcT := hT5 c (Or.inr hc)
  obtain ⟨q1, q2, q3⟩ := h.ty.mem c hc
  rw [t9 c hcT, kld, t4, ks]
  exact ⟨rfl, q1, q2, q3⟩) C0
 obtain ⟨k2, hk2⟩ : ∃ k2, k1.cpL j Y = k2 := ⟨_, rfl⟩
 rw [hk2] at C1
 have e2' : k5.sl2 j = k2 := by unfold Jk.sl2; rw [hk1, hY5]; exact hk2
 have e6 : (k5.sl j).s = ⟨0, k2.s.g, k2.s.ws, [], k2.s.rs⟩ := by unfold Jk.sl; rw [e2']; rfl
 have hg2 : (a.N : Int) + k2.s.g = m := by
  have := C1.pos
  rw [ha5] at this
  exact this
 have h2a : k2.a = a := C1.sm.a.trans ha5
 have h2y : k2.s.y <= a.N := by rw [C1.sm.y]; exact hyo
 have rel : ∀ c ∈ G ++ Y, j.f c ≠ -1 -> (a.N : Int) <= j.f c /\ ∀ i, 0 <= i -> i <= pf (k.ld c) -> ld a.N 0 k2.s.g k2.s.ws (j.f c + i) = k5.ld (c + i) := fun c hc hf => by
  have hcT : c ∈ k.T := by rw [e3]; exact hc
  obtain ⟨r1, r2, r3⟩ := C1.rel c hc (by rw [beq_false_of_ne hf]; rfl)
  rw [ha5] at r1
  refine ⟨r1, fun i i0 i1 => ?_⟩
  rw [ld_old (y := k2.s.y) (by omega) h2y, <- r3 i i0 (by rw [z5 c hcT]; exact i1)]
  show ld a.N k2.s.y k2.s.g k2.s.ws (j.f c + i) = ld k2.a.N k2.s.y k2.s.g k2.s.ws (j.f c + i)
  rw [h2a]
 refine ⟨?_, ?_, fun c hc => hiff c (by rw [e3]; exact hc), ⟨_, SG, ?_⟩⟩
 ·rw [e6]
  refine ⟨rfl, rfl, ?_, ?_, ?_, ?_, fun i hi => ?_, fun c hc hf => ?_, fun c hc hf i i0 i1 => ?_⟩
  ·show k2.s.rs.length = 12
   rw [C1.sm.rs]
   exact t7
  ·show k2.s.g <= a.O
   omega
  ·show k2.s.ws.length = a.N + a.O
   rw [C1.sm.len, t6.l, ha5]
  ·show Pos _ _ _ _ _ ((a.N : Int) + k2.s.g)
   rw [hg2]
   exact P.same (fun c hc => ⟨by rw [kld], rfl, rfl⟩)
  ·show k2.s.rs.getD i 0 = _
   rw [C1.sm.rs, t8 i hi, ks, hk]
  ·have h1 := (rel c hc hf).2 0 (by omega) (pf_bd _).1
   rw [Int.add_zero, Int.add_zero, t9 c (by rw [e3]; exact hc), kld] at h1
   exact h1
  ·have h1 := (rel c hc hf).2 (1 + i) (by omega) (by rw [kld]; omega)
   rw [<- Int.add_assoc, <- Int.add_assoc, t10 c (by rw [e3]; exact hc) hf i i0 (by rw [kld]; exact i1), <- hk] at h1
   exact h1
 ·rw [e6]
  show (k2.s.g : Int) = m - a.N
  omega
 ·show SlI k5 _ j.f m0 (k5.G.take 0) (k5.G.drop 0) (k5, 0)
  rw [List.take_zero, List.drop_zero, hG5]
  exact I0
end
end Go.Proofs.YtnalfnlmaallmaaGreat

namespace Go.Proofs.YtnalfnlmaallmaaGreat
open W
section
variable {T : List Int} {kd : Int -> Int} {sh : Int -> List Int}
def Vin (T l : List Int) (x : Int) : Prop := dk x = 3 -> dn x ∈ T -> dn x ∈ l
theorem Vin.mono {l l' : List Int} {x : Int} (h : Vin T l x) (hs : ∀ a ∈ l, a ∈ l') : Vin T l' x := fun h1 h2 => hs _ (h h1 h2)
structure Clo (T : List Int) (sh : Int -> List Int) (s s' : Vst) : Prop where
  sub : ∀ a ∈ s.1, a ∈ s'.1
  new : ∀ a ∈ s'.1, a ∉ s.1 -> ∀ x ∈ sh a, Vin T s'.1 x
theorem Clo.refl (s : Vst) : Clo T sh s s := ⟨fun _ h => h, fun _ h1 h2 => absurd h1 h2⟩
theorem Clo.trans {s s' s'' : Vst} (h : Clo T sh s s') (k : Clo T sh s' s'') : Clo T sh s s'' :=
 ⟨fun a ha => k.sub a (h.sub a ha), fun a h1 h2 x hx => by
  by_cases c : a ∈ s'.1
  ·exact (h.new a c h2 x hx).mono k.sub
  ·exact k.new a h1 c x hx⟩
def Cmet (T : List Int) (sh : Int -> List Int) (n : Nat) (M : Vst -> Int -> Vst) : Prop :=
 ∀ s a, VOk T s -> a ∈ T -> a ∉ s.1 -> T.length <= s.1.length + n -> Clo T sh s (M s a) /\ a ∈ (M s a).1
theorem vst_clo {n : Nat} {M : Vst -> Int -> Vst} (hM : Cmet T sh n M) {s : Vst} (h : VOk T s) (hn : T.length <= s.1.length + n) (x : Int) : Clo T sh s (vst M T s x).2 /\ Vin T (vst M T s x).2.1 x := by
 unfold vst
 by_cases h3 : dk x = 3
 ·rw [if_pos h3]
  by_cases hT : T.contains (dn x) = true
  ·rw [if_pos hT]
   by_cases hs : s.1.contains (dn x) = true
   ·rw [if_pos hs]
    exact ⟨Clo.refl _, fun _ _ => List.contains_iff_mem.1 hs⟩
   ·rw [if_neg hs]
    obtain ⟨h1, h2⟩ := hM s (dn x) h (List.contains_iff_mem.1 hT) (fun c => hs (List.contains_iff_mem.2 c)) hn
    exact ⟨h1, fun _ _ => h2⟩
  ·rw [if_neg hT]
   exact ⟨Clo.refl _, fun _ d => absurd (List.contains_iff_mem.2 d) hT⟩
 ·rw [if_neg h3]
  exact ⟨Clo.refl _, fun d => absurd d h3⟩
theorem vls_clo {n : Nat} {M : Vst -> Int -> Vst} (hV : Vmet T kd sh n M) (hM : Cmet T sh n M) {s : Vst} (h : VOk T s) (hn : T.length <= s.1.length + n) (l : List Int) : Clo T sh s (vls M T s l).2 /\ ∀ x ∈ l, Vin T (vls M T s l).2.1 x := by
 have key : ∀ k, k <= l.length -> Clo T sh s (vls M T s (l.take k)).2 /\ ∀ x ∈ l.take k, Vin T (vls M T s (l.take k)).2.1 x := by
  intro k
  induction k with
  | zero => intro _; exact ⟨Clo.refl _, fun x hx => by simp at hx⟩
  | succ k ih =>
   intro hk
   obtain ⟨i1, i2⟩ := ih (by omega)
   have g := vls_go hV h hn (l.take k)
   have hl := g.le
   obtain ⟨j1, j2⟩ := vst_clo hM g.ok (by omega) l[k]
   rw [List.take_succ_eq_append_getElem (by omega), vls_snoc]
   refine ⟨i1.trans j1, fun x hx => ?_⟩
   rcases List.mem_append.1 hx with hx | hx
   ·exact (i2 x hx).mono j1.sub
   ·rw [List.mem_singleton] at hx
    rw [hx]
    exact j2
 have := key l.length (Nat.le_refl _)
 rwa [List.take_length] at this
theorem met_clo : ∀ n, Cmet T sh n (met T kd sh n)
 | 0 => fun s a h ha hn hl => by
  have := h.lt ha hn
  omega
 | n + 1 => fun s a h ha hna hn => by
  have h1 := h.more ha hna (kd a, [])
  obtain ⟨j1, j2⟩ := vls_clo (met_go n) (met_clo n) h1 (by simp; omega) (sh a)
  have hm : a ∈ (vls (met T kd sh n) T (s.1 ++ [a], s.2 ++ [(kd a, [])]) (sh a)).2.1 := j1.sub a (by simp)
  refine ⟨⟨fun b hb => j1.sub b (by simp [hb]), fun b h2 h3 x hx => ?_⟩, hm⟩
  by_cases e : b = a
  ·rw [e] at hx
   exact j2 x hx
  ·exact j1.new b h2 (fun c => by
    rcases List.mem_append.1 c with c | c
    ·exact h3 c
    ·exact e (List.mem_singleton.1 c)) x hx
theorem walk_clo {n : Nat} (hn : T.length <= n) (l : List Int) : (∀ x ∈ l, Vin T (vls (met T kd sh n) T ([], []) l).2.1 x) /\ ∀ a ∈ (vls (met T kd sh n) T ([], []) l).2.1, ∀ x ∈ sh a, Vin T (vls (met T kd sh n) T ([], []) l).2.1 x := by
 obtain ⟨h1, h2⟩ := vls_clo (kd := kd) (met_go n) (met_clo n) (VOk.start T) (by simpa using hn) l
 exact ⟨h2, fun a ha x hx => h1.new a ha (by simp) x hx⟩
def Smet (C : Int -> Prop) (M : Vst -> Int -> Vst) : Prop := ∀ s a, (∀ b ∈ s.1, C b) -> C a -> ∀ b ∈ (M s a).1, C b
theorem vst_least {C : Int -> Prop} {M : Vst -> Int -> Vst} (hM : Smet C M) {s : Vst} (h : ∀ b ∈ s.1, C b) {x : Int} (hx : dk x = 3 -> dn x ∈ T -> C (dn x)) : ∀ b ∈ (vst M T s x).2.1, C b := by
 unfold vst
 by_cases h3 : dk x = 3
 ·rw [if_pos h3]
  by_cases hT : T.contains (dn x) = true
  ·rw [if_pos hT]
   by_cases hs : s.1.contains (dn x) = true
   ·rw [if_pos hs]
    exact h
   ·rw [if_neg hs]
    exact hM s (dn x) h (hx h3 (List.contains_iff_mem.1 hT))
  ·rw [if_neg hT]
   exact h
 ·rw [if_neg h3]
  exact h
theorem vls_least {C : Int -> Prop} {M : Vst -> Int -> Vst} (hM : Smet C M) {s : Vst} (h : ∀ b ∈ s.1, C b) {l : List Int} (hl : ∀ x ∈ l, dk x = 3 -> dn x ∈ T -> C (dn x)) : ∀ b ∈ (vls M T s l).2.1, C b := by
 have key : ∀ k, k <= l.length -> ∀ b ∈ (vls M T s (l.take k)).2.1, C b := by
  intro k
  induction k with
  | zero => intro _; exact h
  | succ k ih =>
   intro hk
   rw [List.take_succ_eq_append_getElem (by omega), vls_snoc]
   exact vst_least hM (ih (by omega)) (hl _ (List.getElem_mem _))
 have := key l.length (Nat.le_refl _)
 rwa [List.take_length] at this
theorem met_least {C : Int -> Prop} (hC : ∀ a, C a -> ∀ x ∈ sh a, dk x = 3 -> dn x ∈ T -> C (dn x)) : ∀ n, Smet C (met T kd sh n)
 | 0 => fun s a h _ b hb => h b hb
 | n + 1 => fun s a h ha b hb => by
  refine vls_least (met_least hC n) (s := (s.1 ++ [a], s.2 ++ [(kd a, [])])) (fun c hc => ?_) (l := sh a) (fun x hx => hC a ha x hx) b hb
  rcases List.mem_append.1 hc with hc | hc
  ·exact h c hc
  ·rw [List.mem_singleton.1 hc]
   exact ha
theorem walk_least {C : Int -> Prop} (hC : ∀ a, C a -> ∀ x ∈ sh a, dk x = 3 -> dn x ∈ T -> C (dn x)) {n : Nat} {l : List Int} (hl : ∀ x ∈ l, dk x = 3 -> dn x ∈ T -> C (dn x)) : ∀ b ∈ (vls (met T kd sh n) T ([], []) l).2.1, C b :=
 vls_least (met_least hC n) (fun b hb => by cases hb) hl
end
end Go.Proofs.YtnalfnlmaallmaaGreat

namespace Go.Proofs.YtnalfnlmaallmaaGreat
open Go.RowKit W Kp Stl
theorem view_sum {N O y g : Nat} {ws Y G : List Int} (h : Full2 N y g ws Y G) (hN : N <= 256) (hy : y <= N) (hO : O <= 1024) (hg : g <= O) (Q : List En) (rs : List Int) : szV (vwL N y g ws Q rs).2.2 = sumF (szL (ld N y g ws)) (vwL N y g ws Q rs).2.1 /\ (vwL N y g ws Q rs).2.1.Nodup /\ ∀ a ∈ (vwL N y g ws Q rs).2.1, a ∈ Y ++ G := by
 have hv := vwL_go N y g ws Q rs
 obtain ⟨e1, e2⟩ := h.lists (O := O) hN hy hO hg
 generalize vwL N y g ws Q rs = r at hv ⊢
 obtain ⟨vs, ms, ns⟩ := r
 rw [e1, e2] at hv
 have hok := hv.ok
 have hl : ns.length = ms.length := hok.len
 have hnd : ms.Nodup := hok.nd
 have hsub : ∀ a ∈ ms, a ∈ Y ++ G := hok.sub
 refine ⟨szV_of (kd := fun a => pk (ld N y g ws a)) ns ms hl (fun i hi => ?_), hnd, hsub⟩
 obtain ⟨nd, q1, q2, q3, _⟩ := hv.nw i (Nat.zero_le _) hi
 have q0 : ns.getD i (0, []) = nd := by
  rw [List.getD_eq_getElem?_getD]
  have q1 : ns[i]? = some nd := q1
  rw [q1]
  rfl
 rw [q0]
 dsimp only at q2 q3
 have hm : ms.getD i 0 ∈ ms := by
  rw [List.getD_eq_getElem?_getD, List.getElem?_eq_getElem hi]
  exact List.getElem_mem hi
 have hYG : ms.getD i 0 ∈ Y \/ ms.getD i 0 ∈ G := List.mem_append.1 (hsub _ hm)
 have hp0 : pc (ld N y g ws (ms.getD i 0)) = 0 := by
  rcases hYG with d | d
  ·exact (h.ty.mem _ d).2.2
  ·exact (h.to.mem _ d).2.2
 unfold szL
 by_cases h5 : nd.1 = 5
 ·rw [if_pos h5]
  rw [q2] at h5
  have := pk_all hp0
  omega
 ·rw [if_neg h5, q3]
  rw [q2] at h5
  have := shL_n h hy Q hYG h5
  omega
theorem shL_get {N y g : Nat} {ws Y G : List Int} (h : Full2 N y g ws Y G) (hy : y <= N) (Q : List En) {c : Int} (hc : c ∈ Y \/ c ∈ G) (h5 : pk (ld N y g ws c) ≠ 5) : (∀ i : Nat, i < (shL N y g ws Q c).length -> (shL N y g ws Q c).getD i 0 = ld N y g ws (c + 1 + (i : Int))) /\ (∀ i : Nat, (i : Int) < pf (ld N y g ws c) -> ld N y g ws (c + 1 + (i : Int)) ∈ shL N y g ws Q c) := by
 have hl := shL_n h hy Q hc h5
 have key : ∀ i : Nat, i < (shL N y g ws Q c).length -> (shL N y g ws Q c).getD i 0 = ld N y g ws (c + 1 + (i : Int)) := fun i hi => by
  unfold shL at hi ⊢
  rw [if_neg h5] at hi ⊢
  rw [List.getD_eq_getElem?_getD, List.getElem?_eq_getElem hi]
  simp
 refine ⟨key, fun i hi => ?_⟩
 have hi2 : i < (shL N y g ws Q c).length := by omega
 rw [<- key i hi2, List.getD_eq_getElem?_getD, List.getElem?_eq_getElem hi2]
 exact List.getElem_mem hi2
section
variable {a : Wc} {s : Wst} {Y G : List Int}
theorem k12_of (h : KInv a s Y G) (hk : K12 a s Y G) (hb : Wbd a s) : (s.j0 a).k12 := fun c hc => by
 obtain ⟨_, _, e3⟩ := j0_lists h.inv.full hb
 rw [e3] at hc
 exact hk c ((List.mem_append.1 hc).symm)
theorem jt_of (h : KInv a s Y G) (hb : Wbd a s) {x : Int} : (s.j0 a).jt x = true ↔ dk x = 3 /\ dn x ∈ Y ++ G := by
 obtain ⟨_, _, e3⟩ := j0_lists h.inv.full hb
 unfold Jk.jt
 rw [e3, Bool.and_eq_true]
 constructor
 ·rintro ⟨h1, h2⟩
  have h2 := List.contains_iff_mem.1 h2
  rw [aV_yes x h1] at h2
  exact ⟨aB_dk h1, List.mem_append.2 ((List.mem_append.1 h2).symm)⟩
 ·rintro ⟨h1, h2⟩
  have ha := dk_aB h1
  refine ⟨ha, List.contains_iff_mem.2 ?_⟩
  rw [aV_yes x ha]
  exact List.mem_append.2 ((List.mem_append.1 h2).symm)
theorem jt_aV {x : Int} (hx : (s.j0 a).jt x = true) : aV x = dn x := by
 unfold Jk.jt at hx
 rw [Bool.and_eq_true] at hx
 exact aV_yes x hx.1
theorem marks_12 (h : KInv a s Y G) (hk : K12 a s Y G) (hb : Wbd a s) (Q : List En) : (s.j0 a).sp ((s.j0 a).kr js0 12, []) = ((s.j0 a).LM ((s.j0 a).kr js0 12), []) /\ Mkd (s.j0 a) (fun c => c ∈ (vwL a.N s.y s.g s.ws Q s.rs).2.1) ((s.j0 a).LM ((s.j0 a).kr js0 12)) /\
  ∀ c ∈ (vwL a.N s.y s.g s.ws Q s.rs).2.1, ((s.j0 a).LM ((s.j0 a).kr js0 12)).f c ≠ -1 := by
 obtain ⟨l1, l2, l3⟩ := j0_lists h.inv.full hb
 obtain ⟨e1, e2⟩ := h.inv.full.lists (O := a.O) hb.n1 hb.y1 hb.o1 hb.g1
 have hm5 : ∀ c, c ∈ Y \/ c ∈ G -> pk (ld a.N s.y s.g s.ws c) ≠ 5 := fun c hc => by have := hk c hc; omega
 have hT : ∀ c, c ∈ (s.j0 a).T -> c ∈ Y \/ c ∈ G := fun c hc => by
  rw [l3] at hc
  exact (List.mem_append.1 hc).symm
 obtain ⟨w1, w2⟩ := walk_clo (T := Y ++ G) (kd := fun a_1 => pk (ld a.N s.y s.g s.ws a_1)) (sh := shL a.N s.y s.g s.ws Q) (n := (Y ++ G).length) (Nat.le_refl _) s.rs
 have ev : vwL a.N s.y s.g s.ws Q s.rs = vls (met (Y ++ G) (fun a_1 => pk (ld a.N s.y s.g s.ws a_1)) (shL a.N s.y s.g s.ws Q) (Y ++ G).length) (Y ++ G) ([], []) s.rs := by
  unfold vwL
  rw [e1, e2]
 rw [<- ev] at w1 w2
 have hgd : ∀ i, i < 12 -> s.rs.getD i 0 ∈ s.rs := fun i hi => by
  rw [List.getD_eq_getElem?_getD, List.getElem?_eq_getElem (by rw [hb.r1]; exact hi)]
  exact List.getElem_mem _
 have hC : Jcl (s.j0 a) (fun c => c ∈ (vwL a.N s.y s.g s.ws Q s.rs).2.1) := by
  refine ⟨fun i hi hj => ?_, fun c hc hC i hi hj => ?_⟩
  ·rw [jt_aV hj]
   obtain ⟨q1, q2⟩ := (jt_of h hb).1 hj
   exact w1 _ (hgd i hi) q1 q2
  ·rw [jt_aV hj]
   obtain ⟨q1, q2⟩ := (jt_of h hb).1 hj
   exact w2 c hC _ ((shL_get h.inv.full hb.y1 Q (hT c hc) (hm5 c (hT c hc))).2 i hi) q1 q2
 obtain ⟨m1, m2⟩ := Mk.done (JI.start hb.n1 hb.o1 hb.y1 hb.g1) (k12_of h hk hb) hC
 refine ⟨m1, m2, ?_⟩
 have key := walk_least (T := Y ++ G) (kd := fun a_1 => pk (ld a.N s.y s.g s.ws a_1)) (sh := shL a.N s.y s.g s.ws Q) (n := (Y ++ G).length) (l := s.rs) (C := fun c => (c ∈ Y \/ c ∈ G) /\ ((s.j0 a).LM ((s.j0 a).kr js0 12)).f c ≠ -1) (fun c hc x hx q1 q2 => ?_) (fun x hx q1 q2 => ?_)
 ·rw [<- ev] at key
  exact fun c hc => (key c hc).2
 ·have hj := (jt_of h hb).2 ⟨q1, q2⟩
  obtain ⟨i, hi, e⟩ := List.mem_iff_getElem.1 hx
  have hl := shL_n h.inv.full hb.y1 Q hc.1 (hm5 c hc.1)
  have e2 : x = ld a.N s.y s.g s.ws (c + 1 + (i : Int)) := by
   rw [<- (shL_get h.inv.full hb.y1 Q hc.1 (hm5 c hc.1)).1 i hi, List.getD_eq_getElem?_getD, List.getElem?_eq_getElem hi, e]
   rfl
  have hf := m2.flt c (by rw [l3]; exact List.mem_append.2 hc.1.symm) hc.2 i (by show (i : Int) < pf (ld a.N s.y s.g s.ws c); omega)
  have hf : (s.j0 a).jl ((s.j0 a).LM ((s.j0 a).kr js0 12)) (ld a.N s.y s.g s.ws (c + 1 + (i : Int))) = false := hf
  rw [<- e2, Jk.jl_no hj, jt_aV hj] at hf
  exact ⟨List.mem_append.1 q2, hf⟩
 ·have hj := (jt_of h hb).2 ⟨q1, q2⟩
  obtain ⟨i, hi, e⟩ := List.mem_iff_getElem.1 hx
  have e2 : x = s.rs.getD i 0 := by
   rw [List.getD_eq_getElem?_getD, List.getElem?_eq_getElem hi, e]
   rfl
  have hf := m2.rt i (by rw [<- hb.r1]; exact hi)
  have hf : (s.j0 a).jl ((s.j0 a).LM ((s.j0 a).kr js0 12)) (s.rs.getD i 0) = false := hf
  rw [<- e2, Jk.jl_no hj, jt_aV hj] at hf
  exact ⟨List.mem_append.1 q2, hf⟩
theorem nw_moved {k : Jk} {j : Js} {x : Int} (hx : aB x = true -> aV x ∈ k.T /\ j.f (aV x) ≠ -1) (hf : ∀ c ∈ k.T, j.f c ≠ -1 -> 0 <= j.f c /\ j.f c < 1000000) : Wmv (fun c => c ∈ k.T /\ j.f c ≠ -1) j.f x (k.nw j x) /\ (aB (k.nw j x) = true -> ∃ c ∈ k.T, j.f c ≠ -1 /\ aV (k.nw j x) = j.f c) := by
 cases ha : aB x
 ·have e : k.nw j x = x := by
   unfold Jk.nw Jk.jt
   rw [ha]
   rfl
  rw [e]
  refine ⟨Or.inr ⟨fun h3 => ?_, rfl, rfl⟩, fun h3 => ?_⟩
  ·rw [dk_aB h3] at ha
   cases ha
  ·rw [ha] at h3
   cases h3
 ·obtain ⟨h1, h2⟩ := hx ha
  have e : k.nw j x = ew 3 (j.f (aV x)) := by
   unfold Jk.nw Jk.jt
   rw [ha, List.contains_iff_mem.2 h1, beq_false_of_ne h2]
   rfl
  obtain ⟨b0, b1⟩ := hf _ h1 h2
  obtain ⟨n, hn⟩ : ∃ n : Nat, j.f (aV x) = n := ⟨(j.f (aV x)).toNat, by omega⟩
  obtain ⟨w1, w2⟩ := ew_at n (by omega)
  rw [<- hn, <- e] at w1 w2
  refine ⟨Or.inl ⟨aB_dk ha, aB_dk w1, ⟨by rw [<- aV_yes x ha]; exact h1, by rw [<- aV_yes x ha]; exact h2⟩, ?_⟩, fun _ => ⟨aV x, h1, h2, w2⟩⟩
  rw [<- aV_yes x ha, <- aV_yes _ w1]
  exact w2
end
end Go.Proofs.YtnalfnlmaallmaaGreat

namespace Go.Proofs.YtnalfnlmaallmaaGreat
open Go.RowKit W Kp Stl
def Js.lf (j : Js) (T : List Int) : List Int := (T.filter (fun c => !(j.f c == -1))).map j.f
section
variable {a : Wc} {s s' : Wst} {Y G : List Int} {j : Js}
structure Gal (a : Wc) (s : Wst) (T : List Int) (j : Js) : Prop where
  rt : ∀ i, i < 12 -> aB (s.rs.getD i 0) = true -> aV (s.rs.getD i 0) ∈ T /\ j.f (aV (s.rs.getD i 0)) ≠ -1
  fd : ∀ c ∈ T, j.f c ≠ -1 -> ∀ i, 0 <= i -> i < pf (ld a.N s.y s.g s.ws c) -> aB (ld a.N s.y s.g s.ws (c + 1 + i)) = true -> aV (ld a.N s.y s.g s.ws (c + 1 + i)) ∈ T /\ j.f (aV (ld a.N s.y s.g s.ws (c + 1 + i))) ≠ -1
theorem bkf_12 {k : Jk} {c : Int} (h : pk (k.ld c) = 1 \/ pk (k.ld c) = 2) (i : Int) : k.bkf j c i = k.ld (c + 1 + i) := by
 unfold Jk.bkf
 rw [if_neg (fun q => by omega)]
theorem Gc.bd (g : Gc a s (G ++ Y) j s') : ∀ c ∈ G ++ Y, j.f c ≠ -1 -> (a.N : Int) <= j.f c /\ j.f c + (1 + pf (ld a.N s.y s.g s.ws c)) <= a.N + s'.g := fun c hc hf => g.pos.bd (fun c => (pf_bd _).1) c hc (by rw [beq_false_of_ne hf]; rfl)
theorem lf_mem {T : List Int} {x : Int} : x ∈ j.lf T ↔ ∃ c ∈ T, j.f c ≠ -1 /\ j.f c = x := by
 unfold Js.lf
 rw [List.mem_map]
 constructor
 ·rintro ⟨c, h1, h2⟩
  obtain ⟨h3, h4⟩ := List.mem_filter.1 h1
  exact ⟨c, h3, by simpa using h4, h2⟩
 ·rintro ⟨c, h1, h2, h3⟩
  exact ⟨c, List.mem_filter.2 ⟨h1, by rw [beq_false_of_ne h2]; rfl⟩, h3⟩
theorem Gc.full (g : Gc a s (G ++ Y) j s') (h : Full2 a.N s.y s.g s.ws Y G) : Full2 a.N 0 s'.g s'.ws [] (j.lf (G ++ Y)) := by
 refine ⟨rfl, g.pos.tile (fun c => (pf_bd _).1) (fun c hc hal => ?_)⟩
 have hf : j.f c ≠ -1 := by simpa using hal
 rw [g.hd c hc hf]
 refine ⟨?_, rfl⟩
 rcases List.mem_append.1 hc with d | d
 ·exact (h.to.mem c d).2.2
 ·exact (h.ty.mem c d).2.2
theorem Gc.done (g : Gc a s (G ++ Y) j s') (h : KInv a s Y G) (hk : K12 a s Y G) (hb : Wbd a s) (al : Gal a s (G ++ Y) j) : KInv a s' [] (j.lf (G ++ Y)) /\ K12 a s' [] (j.lf (G ++ Y)) /\ Wbd a s' /\
  ∀ Q Q' : List En, (vwL a.N s'.y s'.g s'.ws Q' s'.rs).1 = (vwL a.N s.y s.g s.ws Q s.rs).1 /\ (vwL a.N s'.y s'.g s'.ws Q' s'.rs).2.2 = (vwL a.N s.y s.g s.ws Q s.rs).2.2 := by
 obtain ⟨_, _, e3⟩ := j0_lists h.inv.full hb
 have hF := g.full h.inv.full
 have hbd := g.bd
 have hN := hb.n1
 have hO := hb.o1
 have hgo := g.g
 have hsm : ∀ c ∈ (s.j0 a).T, j.f c ≠ -1 -> 0 <= j.f c /\ j.f c < 1000000 := fun c hc hf => by
  rw [e3] at hc
  have := hbd c hc hf
  have := pf_bd (ld a.N s.y s.g s.ws c)
  omega
 have hx12 : ∀ c, c ∈ G ++ Y -> pk (ld a.N s.y s.g s.ws c) = 1 \/ pk (ld a.N s.y s.g s.ws c) = 2 := fun c hc => hk c (List.mem_append.1 hc).symm
 have hrt : ∀ i, i < 12 -> Wmv (fun c => c ∈ (s.j0 a).T /\ j.f c ≠ -1) j.f (s.rs.getD i 0) (s'.rs.getD i 0) /\ (aB (s'.rs.getD i 0) = true -> aV (s'.rs.getD i 0) ∈ j.lf (G ++ Y)) := fun i hi => by
  rw [g.rs i hi]
  obtain ⟨q1, q2⟩ := nw_moved (k := s.j0 a) (j := j) (x := s.rs.getD i 0) (fun ha => by rw [e3]; exact al.rt i hi ha) hsm
  refine ⟨q1, fun ha => ?_⟩
  obtain ⟨c, c1, c2, c3⟩ := q2 ha
  rw [e3] at c1
  exact lf_mem.2 ⟨c, c1, c2, c3.symm⟩
 have hfd : ∀ c ∈ G ++ Y, j.f c ≠ -1 -> ∀ i, 0 <= i -> i < pf (ld a.N s.y s.g s.ws c) -> Wmv (fun c => c ∈ (s.j0 a).T /\ j.f c ≠ -1) j.f (ld a.N s.y s.g s.ws (c + 1 + i)) (ld a.N 0 s'.g s'.ws (j.f c + 1 + i)) /\ (aB (ld a.N 0 s'.g s'.ws (j.f c + 1 + i)) = true -> aV (ld a.N 0 s'.g s'.ws (j.f c + 1 + i)) ∈ j.lf (G ++ Y)) := fun c hc hf i i0 i1 => by
  have e0 : (s.j0 a).bkf j c i = ld a.N s.y s.g s.ws (c + 1 + i) := bkf_12 (k := s.j0 a) (hx12 c hc) i
  rw [g.fd c hc hf i i0 i1, e0]
  obtain ⟨q1, q2⟩ := nw_moved (k := s.j0 a) (j := j) (x := ld a.N s.y s.g s.ws (c + 1 + i)) (fun ha => by rw [e3]; exact al.fd c hc hf i i0 i1 ha) hsm
  refine ⟨q1, fun ha => ?_⟩
  obtain ⟨d, c1, c2, c3⟩ := q2 ha
  rw [e3] at c1
  exact lf_mem.2 ⟨d, c1, c2, c3.symm⟩
 have hb' : Wbd a s' := ⟨hb.n0, hb.n1, hb.o1, by rw [g.y]; exact Nat.zero_le _, g.g, g.l, g.rl⟩
 have hW : WInv a.N 0 s'.g s'.ws [] (j.lf (G ++ Y)) s'.rs := by
  refine ⟨hF, fun x hx ha => ?_, fun v hv i i0 i1 ha => ?_⟩
  ·obtain ⟨i, hi, e⟩ := List.mem_iff_getElem.1 hx
   have e2 : s'.rs.getD i 0 = x := by
    rw [List.getD_eq_getElem?_getD, List.getElem?_eq_getElem hi, e]
    rfl
   have q := (hrt i (by rw [<- g.rl]; exact hi)).2
   rw [e2] at q
   exact Or.inr (q ha)
  ·rcases hv with hv | hv
   ·cases hv
   ·obtain ⟨c, c1, c2, c3⟩ := lf_mem.1 hv
    rw [<- c3] at i1 ha ⊢
    rw [g.hd c c1 c2] at i1
    exact Or.inr ((hfd c c1 c2 i i0 i1).2 ha)
 have hK' : K12 a s' [] (j.lf (G ++ Y)) := fun v hv => by
  rcases hv with hv | hv
  ·cases hv
  ·obtain ⟨c, c1, c2, c3⟩ := lf_mem.1 hv
   rw [<- c3, g.y, g.hd c c1 c2]
   exact hx12 c c1
 refine ⟨⟨by rw [g.y]; exact hW, fun v _ i _ _ _ hy => by cases hy⟩, hK', hb', fun Q Q' => ?_⟩
 obtain ⟨e1, e2⟩ := h.inv.full.lists (O := a.O) hb.n1 hb.y1 hb.o1 hb.g1
 obtain ⟨e5, e4⟩ := hF.lists (O := a.O) hb.n1 (Nat.zero_le _) hb.o1 g.g
 have B : Bi (fun c => c ∈ (s.j0 a).T /\ j.f c ≠ -1) j.f (Y ++ G) (fun v => pk (ld a.N s.y s.g s.ws v)) (shL a.N s.y s.g s.ws Q) (j.lf (G ++ Y)) (fun v => pk (ld a.N 0 s'.g s'.ws v)) (shL a.N 0 s'.g s'.ws Q') := by
  have hT : ∀ c, c ∈ (s.j0 a).T -> c ∈ G ++ Y := fun c hc => by rw [e3] at hc; exact hc
  refine ⟨fun c hc => List.mem_append.2 (List.mem_append.1 (hT c hc.1)).symm, fun c hc => lf_mem.2 ⟨c, hT c hc.1, hc.2, rfl⟩, fun c d hc hd e => ?_, fun c hc => ?_, fun c hc => ?_⟩
  ·exact g.pos.inj (fun c => (pf_bd _).1) c (hT c hc.1) d (hT d hd.1) (by rw [beq_false_of_ne hc.2]; rfl) (by rw [beq_false_of_ne hd.2]; rfl) e
  ·show pk (ld a.N 0 s'.g s'.ws (j.f c)) = _
   rw [g.hd c (hT c hc.1) hc.2]
  ·have hm := hT c hc.1
   have k1 := hx12 c hm
   have n5 : pk (ld a.N s.y s.g s.ws c) ≠ 5 := by omega
   have hd2 := g.hd c hm hc.2
   have n5' : pk (ld a.N 0 s'.g s'.ws (j.f c)) ≠ 5 := by rw [hd2]; exact n5
   have hv : c ∈ Y \/ c ∈ G := (List.mem_append.1 hm).symm
   have hv' : j.f c ∈ ([] : List Int) \/ j.f c ∈ j.lf (G ++ Y) := Or.inr (lf_mem.2 ⟨c, hm, hc.2, rfl⟩)
   have l1 := shL_n h.inv.full hb.y1 Q hv n5
   have l2 := shL_n hF (Nat.zero_le _) Q' hv' n5'
   rw [hd2] at l2
   refine Wls.of (by omega) (fun i hi => ?_)
   rw [(shL_get h.inv.full hb.y1 Q hv n5).1 i hi, (shL_get hF (Nat.zero_le _) Q' hv' n5').1 i (by omega)]
   exact (hfd c hm hc.2 i (by omega) (by omega)).1
 have hl : Wls (Wmv (fun c => c ∈ (s.j0 a).T /\ j.f c ≠ -1) j.f) s.rs s'.rs := Wls.of (by rw [hb.r1, g.rl]) (fun i hi => (hrt i (by rw [<- hb.r1]; exact hi)).1)
 unfold vwL
 rw [g.y, e1, e2, e5, e4, List.nil_append]
 obtain ⟨b1, b2, _⟩ := walk_bi B hl (n := (Y ++ G).length) (n' := (j.lf (G ++ Y)).length) (Nat.le_refl _) (Nat.le_refl _)
 exact ⟨b1.symm, b2⟩
end
section
variable {a : Wc} {S : Ww} {Y G : List Int}
theorem great_12 (h : KInv a S.s Y G) (hk : K12 a S.s Y G) (hb : Wbd a S.s) (hr : S.r = []) (hq : S.q = []) :
  S.n4 a = (szV (vwL a.N S.s.y S.s.g S.s.ws S.q S.s.rs).2.2 : Int) /\
  (S.jfull a = false -> (∃ F, SlG (S.k5 a) (S.j5 a) F /\ F 0 (S.k5 a, 0)) /\ (S.gcut a).r = [] /\ (S.gcut a).q = [] /\ ((S.gcut a).s.g : Int) = S.n4 a /\ ∃ j, Gc a S.s (G ++ Y) j (S.gcut a).s /\ Gal a S.s (G ++ Y) j /\ ∀ c ∈ G ++ Y, j.f c ≠ -1 ↔ c ∈ (vwL a.N S.s.y S.s.g S.s.ws S.q S.s.rs).2.1) := by
 obtain ⟨m1, m2, m3⟩ := marks_12 h hk hb S.q
 obtain ⟨_, _, l3⟩ := j0_lists h.inv.full hb
 obtain ⟨v1, v2, v3⟩ := view_sum (O := a.O) h.inv.full hb.n1 hb.y1 hb.o1 hb.g1 S.q S.s.rs
 obtain ⟨s3, hs3⟩ : ∃ s3, (S.s.j0 a).LM ((S.s.j0 a).kr js0 12) = s3 := ⟨_, rfl⟩
 rw [hs3] at m1 m2 m3
 have e2 : S.j2 a = (s3, []) := by unfold Ww.j2; rw [hq]; exact m1
 have e3 : S.j3 a = s3 := by unfold Ww.j3; rw [e2, hr]; rfl
 have er : S.r3 a = [] := by unfold Ww.r3; rw [e2, hr]; rfl
 have eq : S.q3 a = [] := by unfold Ww.q3; rw [e2, hr]; rfl
 have e4 : S.j4 a = ((S.s.j0 a).pl s3).1 := by unfold Ww.j4; rw [e3]
 have en : S.n4 a = ((S.s.j0 a).pl s3).2 - a.N := by unfold Ww.n4; rw [e3]
 have e5 : S.j5 a = S.j4 a := by unfold Ww.j5; rw [er, eq]; rfl
 have enda : (S.s.j0 a).T.Nodup := m2.ji.nd
 have hal : ∀ c ∈ (S.s.j0 a).T, s3.f c ≠ -1 ↔ c ∈ (vwL a.N S.s.y S.s.g S.s.ws S.q S.s.rs).2.1 := fun c hc => ⟨m2.snd c hc, m3 c⟩
 refine ⟨?_, fun hf => ?_⟩
 ·obtain ⟨P0, _⟩ := pl_pos (S.s.j0 a) (fun c => !(s3.f c == -1)) (S.s.j0 a).T (s3, a.N) enda (fun c _ => rfl)
  have hs := P0.sum (fun c => (pf_bd _).1)
  have hs : (sumF (szL (ld a.N S.s.y S.s.g S.s.ws)) ((S.s.j0 a).T.filter (fun c => !(s3.f c == -1))) : Int) = ((S.s.j0 a).pl s3).2 - a.N := hs
  have q1 : sumF (szL (ld a.N S.s.y S.s.g S.s.ws)) ((S.s.j0 a).T.filter (fun c => !(s3.f c == -1))) <= sumF (szL (ld a.N S.s.y S.s.g S.s.ws)) (vwL a.N S.s.y S.s.g S.s.ws S.q S.s.rs).2.1 := sumF_sub (enda.filter _) v2 (fun c hc => by
   obtain ⟨c1, c2⟩ := List.mem_filter.1 hc
   exact (hal c c1).1 (by simpa using c2))
  have q2 : sumF (szL (ld a.N S.s.y S.s.g S.s.ws)) (vwL a.N S.s.y S.s.g S.s.ws S.q S.s.rs).2.1 <= sumF (szL (ld a.N S.s.y S.s.g S.s.ws)) ((S.s.j0 a).T.filter (fun c => !(s3.f c == -1))) := sumF_sub v2 (enda.filter _) (fun c hc => by
   refine List.mem_filter.2 ⟨?_, by rw [beq_false_of_ne (m3 c hc)]; rfl⟩
   rw [l3]
   exact List.mem_append.2 (List.mem_append.1 (v3 c hc)).symm)
  rw [en, v1]
  omega
 ·have hm : ((S.s.j0 a).pl s3).2 <= a.N + a.O := by
   unfold Ww.jfull at hf
   have := of_decide_eq_false hf
   omega
  obtain ⟨g1, g2, g3, g4⟩ := gc_done h.inv.full hb s3 hm
  rw [<- e4] at g1 g2 g3 g4
  have e6 : (S.s.j0 a).tlA (S.j4 a) = S.k5 a := rfl
  rw [e6] at g1 g2 g4
  have e7 : (S.k5 a).sl (S.j4 a) = S.k6 a := by unfold Ww.k6; rw [e5]
  rw [e7] at g1 g2
  have eS : S.gcut a = ⟨(S.k6 a).s, [], []⟩ := by
   unfold Ww.gcut
   rw [hf, if_neg (by simp), er, eq]
   rfl
  rw [eS, e5]
  refine ⟨g4, rfl, rfl, by rw [en]; exact g2, S.j4 a, g1, ⟨fun i hi ha => ?_, fun c hc hfc i i0 i1 ha => ?_⟩, fun c hc => ?_⟩
  ·have hgd : S.s.rs.getD i 0 ∈ S.s.rs := by
    rw [List.getD_eq_getElem?_getD, List.getElem?_eq_getElem (by rw [hb.r1]; exact hi)]
    exact List.getElem_mem _
   have hm1 : aV (S.s.rs.getD i 0) ∈ G ++ Y := List.mem_append.2 (h.inv.rt _ hgd ha).symm
   have hj : (S.s.j0 a).jt (S.s.rs.getD i 0) = true := by
    unfold Jk.jt
    rw [ha, l3, List.contains_iff_mem.2 hm1]
    rfl
   have hfl := m2.rt i hi
   have hfl : (S.s.j0 a).jl s3 (S.s.rs.getD i 0) = false := hfl
   rw [Jk.jl_no hj] at hfl
   exact ⟨hm1, fun e => hfl ((g3 _ hm1).1 e)⟩
  ·have hm1 : aV (ld a.N S.s.y S.s.g S.s.ws (c + 1 + i)) ∈ G ++ Y := List.mem_append.2 (h.inv.fd c (List.mem_append.1 hc).symm i i0 i1 ha).symm
   have hj : (S.s.j0 a).jt (ld a.N S.s.y S.s.g S.s.ws (c + 1 + i)) = true := by
    unfold Jk.jt
    rw [ha, l3, List.contains_iff_mem.2 hm1]
    rfl
   have hfl := m2.flt c (by rw [l3]; exact hc) (fun e => hfc ((g3 c hc).2 e)) i.toNat (by show (i.toNat : Int) < pf (ld a.N S.s.y S.s.g S.s.ws c); omega)
   rw [show ((i.toNat : Nat) : Int) = i from by omega] at hfl
   have hfl : (S.s.j0 a).jl s3 (ld a.N S.s.y S.s.g S.s.ws (c + 1 + i)) = false := hfl
   rw [Jk.jl_no hj] at hfl
   exact ⟨hm1, fun e => hfl ((g3 _ hm1).1 e)⟩
  ·rw [<- hal c (by rw [l3]; exact hc)]
   exact not_congr (g3 c hc)
end
end Go.Proofs.YtnalfnlmaallmaaGreat

namespace Go.Proofs.YtnalfnlmaallmaaGreat
open Go.RowKit W Kp Stl
section
variable {c : Bc} {F : Nat -> Prop} {S : Ww × Wrs} {w : World}
theorem cutB_any (h : (boO c).J F S w) (hq : S.1.q.length + S.1.r.length <= 90000) :
  Calls Tryz.prog 16 #[.pointer (some ⟨c.a.pw, 0, none⟩)] w fun e w' => ∃ F', e = .returned (.int .i64 (S.1.code c.a)) /\ (boO c).J F' (S.1.cut c.a, S.2) w' /\ Tn F w F' w' := by
 obtain ⟨FW, h1, _, h2⟩ := bo_w h
 refine (cutM_any h1 hq).mono ?_
 rintro e w' ⟨F1, rfl, j1, t1⟩
 obtain ⟨F2, m1, m2⟩ := h2 _ _ _ j1 t1
 exact ⟨F2, rfl, m1, m2⟩
theorem usedB_any (h : (boO c).J F S w) : Calls Tryz.prog 27 #[.pointer (some ⟨c.a.p, 0, none⟩)] w fun e w' => e = .returned (.tuple #[.int .i64 S.1.s.y, .int .i64 S.1.s.g]) /\ Below w.heap.size w w' := by
 obtain ⟨FW, h1, _⟩ := bo_w h
 obtain ⟨F0, g1, _⟩ := ws_wod h1
 exact used_any w (wod_arena g1).1
theorem viewB_any (h : (boO c).J F S w) (hq : S.1.q.length <= 90000) :
  Calls Tryz.prog 30 #[.pointer (some ⟨c.a.pw, 0, none⟩)] w fun e w' => ∃ r2 d2 na nn nc, e = .returned (.agg #[.slice r2 12 d2, .slice na nn nc]) /\ Lp w' r2 (vwL c.a.N S.1.s.y S.1.s.g S.1.s.ws S.1.q S.1.s.rs).1 /\ Ln w' na (vwL c.a.N S.1.s.y S.1.s.g S.1.s.ws S.1.q S.1.s.rs).2.2 /\ nn = (vwL c.a.N S.1.s.y S.1.s.g S.1.s.ws S.1.q S.1.s.rs).2.2.length /\ Below w.heap.size w w' := by
 obtain ⟨FW, h1, _⟩ := bo_w h
 obtain ⟨F0, g1, _⟩ := ws_wod h1
 obtain ⟨c0, _, c2, c3, _, rl, _, cr9⟩ := wod_cells g1
 have ha := (wod_arena g1).1
 obtain ⟨F0', ar, cr, ⟨F00, ad, cap, ⟨own, pq, hM, hO⟩, d2, d3, d4, _⟩, r0, r1, hFW⟩ := h1
 have hl : Lq w (some ⟨c.a.nb, 0, none⟩) S.1.s.rs := by
  have hr := hM.rt
  refine ⟨fun _ => ⟨c.a.nb, 0, rfl, lt_of_some hr, fun i hi => ?_⟩, fun _ => ⟨c.a.nb, 0, _, rfl, hr⟩⟩
  rw [Nat.zero_add]
  exact (cr9 i (by rw [<- rl]; exact hi)).1
 have P := view_any (l := S.1.s.rs) (ra := some ⟨c.a.nb, 0, none⟩) (rc := 12) ⟨c0, c2, ha, d2, row_pairs d3, hq⟩ (by rw [rl]; exact c3) hl (by rw [rl]; decide)
 rw [rl] at P
 exact P
end
end Go.Proofs.YtnalfnlmaallmaaGreat

namespace Go.Proofs.YtnalfnlmaallmaaGreat
open Go.RowKit W Kp Stl
structure Bok (c : Bc) (S : Ww × Wrs) (j : Nat) : Prop where
  kv : ∃ Y G, KInv c.a S.1.s Y G
  wok : Wok S.2
  m : S.1.s.M.length <= j
  rq : S.1.r.length + S.1.q.length <= j
  t : S.2.T.length <= j
  rg : S.2.rg.length <= j
  wt : S.2.wt = []
section
variable {c : Bc} {F : Nat -> Prop} {S : Ww × Wrs} {w : World} {j : Nat}
theorem aB_two : aB 2 = false := by decide
theorem Bok.start (c : Bc) (n o : Nat) : Bok c (bo0 n o) 0 := by
 refine ⟨⟨[], [], ⟨Full2.start, fun x hx ha => ?_, fun v hv => ?_⟩, fun v hv => (by cases hv)⟩, Wok.start n o, Nat.le_refl _, Nat.le_refl _, Nat.le_refl _, Nat.le_refl _, rfl⟩
 ·have hx : x ∈ tw 2 12 := hx
  have e : x = 2 := by simpa [tw] using hx
  rw [e, aB_two] at ha
  cases ha
 ·rcases hv with d | d <;> cases d
theorem Bok.do (h : Bok c S j) (hb : Wbd c.a S.1.s) (d A B C : Int) : Bok c (doS c S d A B C) (j + 1) := by
 obtain ⟨Y, G, hk⟩ := h.kv
 obtain ⟨Y', hk'⟩ := doS_wood hk hb d A B C
 obtain ⟨w1, w2, w3, w4⟩ := doS_world (c := c) h.wok d A B C
 obtain ⟨l1, l2⟩ := doS_len c S d A B C
 have e1 := h.m
 have e2 := h.rq
 have e3 := h.t
 have e4 := h.rg
 exact ⟨⟨Y', G, hk'⟩, w1, by omega, by omega, by omega, by omega, w4.trans h.wt⟩
theorem Bok.rb (h : Bok c S j) (hj : j <= 10000) : RB S.2 := by
 have e3 := h.t
 have e4 := h.rg
 exact h.wok.rb (by omega) (by omega) (by rw [h.wt]; exact Nat.zero_le _)
theorem bo_wbd (h : (boO c).J F S w) : Wbd c.a S.1.s := by
 obtain ⟨FW, h1, _⟩ := bo_w h
 obtain ⟨F0, g1, _⟩ := ws_wod h1
 obtain ⟨_, _, _, _, _, rl, _⟩ := wod_cells g1
 have ha := (wod_arena g1).1
 exact ⟨ha.hN, ha.hN', ha.hO, ha.hy, ha.hg, ha.hl, rl⟩
structure Blk (c : Bc) (s : Wst) (w : World) : Prop where
  at_ : At w c.a.p c.a.q c.a.N c.a.O s.y s.g s.ws
  cd : ∃ pq, Cd w c.a.pc pq c.a.N (nC c.a.O) s.M
  c0 : w.cell? ⟨c.a.pw, 0, none⟩ = some (.pointer (some ⟨c.a.p, 0, none⟩))
  c1 : w.cell? ⟨c.a.pw, 1, none⟩ = some (.pointer (some ⟨c.a.pc, 0, none⟩))
  b0 : w.cell? ⟨c.pb, 0, none⟩ = some (.pointer (some ⟨c.a.pw, 0, none⟩))
theorem bo_blk (h : (boO c).J F S w) : Blk c S.1.s w := by
 obtain ⟨d0, _⟩ := bo_cells h
 obtain ⟨FW, h1, _⟩ := bo_w h
 obtain ⟨F0, g1, _⟩ := ws_wod h1
 obtain ⟨c0, c1, _⟩ := wod_cells g1
 obtain ⟨pq, hc, _⟩ := wod_cards g1
 exact ⟨(wod_arena g1).1, ⟨pq, hc⟩, c0, c1, d0⟩
end
end Go.Proofs.YtnalfnlmaallmaaGreat
