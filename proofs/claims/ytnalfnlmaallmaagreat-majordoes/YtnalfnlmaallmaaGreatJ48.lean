/- Joined: Rl4, Rl9, Rl10. -/
import Derived.Test.YtnalfnlmaallmaaGreatJ47
namespace Go.Proofs.YtnalfnlmaallmaaGreat
open Go.RowKit W Kp Stl
section
variable {a : Wc} {S : Ww} {W : Wrs} {m : Nat -> Int} {Y G : List Int}
theorem Rl.T (h : Rl a S W m Y G) (hb : Wbd a S.s) : (S.s.j0 a).T = G ++ Y := (j0_lists h.kv.inv.full hb).2.2
theorem Rl.memT (h : Rl a S W m Y G) (hb : Wbd a S.s) {i : Nat} (hi : Alv W.T i) : m i ∈ (S.s.j0 a).T := by
 rw [h.T hb]
 exact List.mem_append.2 ((h.mem hi).symm)
theorem Rl.surT (h : Rl a S W m Y G) (hb : Wbd a S.s) {c : Int} (hc : c ∈ (S.s.j0 a).T) : ∃ i, Alv W.T i /\ m i = c := by
 rw [h.T hb] at hc
 exact h.sur c ((List.mem_append.1 hc).symm)
theorem Rl.jt (h : Rl a S W m Y G) (hb : Wbd a S.s) {v : Int × Int} (hv : Vo W.T v) : (S.s.j0 a).jt (wv m v) = (v.1 == 3) := by
 unfold Jk.jt
 rw [h.aBv hb hv]
 by_cases c : v.1 = 3
 ·rw [(h.vt hb hv c).2, c, List.contains_iff_mem.2 (h.memT hb (hv.t c).2)]
  rfl
 ·have e : (v.1 == 3) = false := by simpa using c
  rw [e]
  rfl
theorem Rl.jw (h : Rl a S W m Y G) (hb : Wbd a S.s) {i : Nat} (hi : Alv W.T i) : (S.s.j0 a).jt (ew 3 (m i)) = true /\ aV (ew 3 (m i)) = m i := by
 obtain ⟨_, w2, w3⟩ := h.word hb hi
 unfold Jk.jt
 rw [w2, w3, List.contains_iff_mem.2 (h.memT hb hi)]
 exact ⟨rfl, rfl⟩
theorem Rl.al (h : Rl a S W m Y G) (hb : Wbd a S.s) (s : Js) {i : Nat} (hi : Alv W.T i) : (S.s.j0 a).al s (ew 3 (m i)) = true ↔ s.f (m i) ≠ -1 := by
 obtain ⟨w1, w2⟩ := h.jw hb hi
 unfold Jk.al Jk.jl
 rw [w1, w2]
 simp
theorem Rl.jlv (h : Rl a S W m Y G) (hb : Wbd a S.s) (s : Js) {v : Int × Int} (hv : Vo W.T v) (h3 : v.1 = 3) : (S.s.j0 a).jl s (wv m v) = false ↔ s.f (m v.2.toNat) ≠ -1 := by
 rw [wv_t h3, <- h.al hb s (hv.t h3).2]
 unfold Jk.al
 simp
theorem Rl.marked (h : Rl a S W m Y G) (hb : Wbd a S.s) {s : Js} {q : List En} (d : Dn (S.s.j0 a) s q) (hq : ∀ e ∈ W.wt, we m e ∈ q) : Cls W.T W.wt (fun i => Alv W.T i /\ s.f (m i) ≠ -1) := by
 intro i _ hX v hv h3
 obtain ⟨hi, hf⟩ := hX
 have hk : Mgk (S.s.j0 a) s (m i) := by
  rcases d.mg.cmp _ (h.memT hb hi) hf with c | c | c
  ·rw [d.td] at c
   cases c
  ·exact absurd c id
  ·exact c
 obtain ⟨p1, p2, _⟩ := h.parts hi
 have p1 : pk ((S.s.j0 a).ld (m i)) = (W.T.getD i t0).1 := p1
 rcases hv with ⟨c, hm⟩ | ⟨c, e⟩ | ⟨c, hkey, e⟩ | ⟨c, e0, he, e1, e2⟩
 ·obtain ⟨k, hk1, _, hk3⟩ := h.field hi hm
  have hvo := h.fv i hi v hm
  refine ⟨(hvo.t h3).2, (h.jlv hb s hvo h3).1 ?_⟩
  have := hk.p (by rw [p1]; exact c) k (by show (k : Int) < pf (ld a.N S.s.y S.s.g S.s.ws (m i)); rw [p2]; omega)
  have e : (S.s.j0 a).ld (m i + 1 + k) = wv m v := hk3
  rw [e] at this
  exact this
 ·have hl := h.two hi (Or.inr (Or.inl c))
  have hm : v ∈ (W.T.getD i t0).2.1 := by rw [e]; exact getD_in (by omega)
  have hvo := h.fv i hi v hm
  refine ⟨(hvo.t h3).2, (h.jlv hb s hvo h3).1 ?_⟩
  have := hk.w (by rw [p1]; exact c)
  have ef : (S.s.j0 a).ld (m i + 2) = wv m v := by
   have := h.fd i hi 1 (by omega)
   rw [<- e] at this
   show ld a.N S.s.y S.s.g S.s.ws (m i + 2) = _
   rw [<- this]
   congr 1
   omega
  rw [ef] at this
  exact this
 ·have hl := h.two hi (Or.inr (Or.inr c))
  have hm : v ∈ (W.T.getD i t0).2.1 := by rw [e]; exact getD_in (by omega)
  have hvo := h.fv i hi v hm
  refine ⟨(hvo.t h3).2, (h.jlv hb s hvo h3).1 ?_⟩
  have ef : (S.s.j0 a).ld (m i + 2) = wv m v := by
   have := h.fd i hi 1 (by omega)
   rw [<- e] at this
   show ld a.N S.s.y S.s.g S.s.ws (m i + 2) = _
   rw [<- this]
   congr 1
   omega
  have ek : (S.s.j0 a).ld (m i + 1) = wv m ((W.T.getD i t0).2.1.getD 0 (0, 0)) := by
   have := h.fd i hi 0 (by omega)
   show ld a.N S.s.y S.s.g S.s.ws (m i + 1) = _
   rw [<- this]
   congr 1
   omega
  rcases hk.e (by rw [p1]; exact c) with d1 | d1
  ·exfalso
   have d2 := d.ep _ d1
   rw [ek] at d2
   have hko := h.fv i hi _ (getD_in (x := ((0, 0) : Int × Int)) (show 0 < (W.T.getD i t0).2.1.length by omega))
   have j1 : (S.s.j0 a).jt (wv m ((W.T.getD i t0).2.1.getD 0 (0, 0))) = true := by
    unfold Jk.jl at d2
    rw [Bool.and_eq_true] at d2
    exact d2.1
   rw [h.jt hb hko] at j1
   have k3 : ((W.T.getD i t0).2.1.getD 0 (0, 0)).1 = 3 := by simpa using j1
   have := (h.jlv hb s hko k3).2 (hkey k3).2
   rw [this] at d2
   cases d2
  ·rw [ef] at d1
   exact d1
 ·have hE := h.wo e0 he
  have hi2 : e0.1.toNat = i := by omega
  have h2 : v.2.toNat = e0.2.toNat := by rw [e2]
  rw [h2]
  refine ⟨hE.h, (h.al hb s hE.h).1 ?_⟩
  rcases d.wq _ (hq e0 he) with c | c
  ·exact c
  ·exfalso
   have := (h.al hb s hi).2 hf
   have c : (S.s.j0 a).al s (ew 3 (m e0.1.toNat)) = false := c
   rw [hi2, this] at c
   cases c
def Rset (W : Wrs) (m : Nat -> Int) (X : Nat -> Prop) (c : Int) : Prop := ∃ i, Alv W.T i /\ m i = c /\ X i
theorem Rl.rset (h : Rl a S W m Y G) {X : Nat -> Prop} {i : Nat} (hi : Alv W.T i) : Rset W m X (m i) ↔ X i :=
 ⟨fun ⟨j, hj, e, hx⟩ => by rw [<- h.inj j i hj hi e]; exact hx, fun hx => ⟨i, hi, rfl, hx⟩⟩
theorem Rl.closed (h : Rl a S W m Y G) (hb : Wbd a S.s) {X : Nat -> Prop} (hX : Cls W.T W.wt X) (hr : ∀ v ∈ W.rs, v.1 = 3 -> X v.2.toNat) : Clg (S.s.j0 a) (Rset W m X) /\ Cqg (S.s.j0 a) (Rset W m X) (W.wt.map (we m)) := by
 have key : ∀ {i : Nat} {v : Int × Int}, Alv W.T i -> X i -> Vo W.T v -> Kps W.T W.wt X i v -> (S.s.j0 a).jt (wv m v) = true -> Rset W m X (aV (wv m v)) := fun {i v} hi hx hv hk hj => by
  rw [h.jt hb hv] at hj
  have h3 : v.1 = 3 := by simpa using hj
  rw [(h.vt hb hv h3).2]
  exact ⟨_, (hv.t h3).2, rfl, hX i hi.1 hx v hk h3⟩
 have fl : ∀ {i : Nat}, Alv W.T i -> ∀ k : Nat, (k : Int) < pf ((S.s.j0 a).ld (m i)) -> k < (W.T.getD i t0).2.1.length := fun {i} hi k hk => by
  have hk : (k : Int) < pf (ld a.N S.s.y S.s.g S.s.ws (m i)) := hk
  rw [(h.parts hi).2.1] at hk
  omega
 have kd : ∀ {i : Nat}, Alv W.T i -> pk ((S.s.j0 a).ld (m i)) = (W.T.getD i t0).1 := fun {i} hi => (h.parts hi).1
 have f2 : ∀ {i : Nat}, Alv W.T i -> (W.T.getD i t0).2.1.length = 2 -> (S.s.j0 a).ld (m i + 2) = wv m ((W.T.getD i t0).2.1.getD 1 (0, 0)) /\ (S.s.j0 a).ld (m i + 1) = wv m ((W.T.getD i t0).2.1.getD 0 (0, 0)) := fun {i} hi hl => by
  have h1 := h.fd i hi 1 (by omega)
  have h0 := h.fd i hi 0 (by omega)
  constructor
  ·show ld a.N S.s.y S.s.g S.s.ws (m i + 2) = _
   rw [<- h1]
   congr 1
   omega
  ·show ld a.N S.s.y S.s.g S.s.ws (m i + 1) = _
   rw [<- h0]
   congr 1
   omega
 refine ⟨⟨fun i hi hj => ?_, fun c hc hC hk i hi hj => ?_, fun c hc hC hk hj => ?_, fun c hc hC hk hkey hj => ?_⟩, fun e he hg hj => ?_⟩
 ·obtain ⟨er, hv⟩ := h.root hi
  have er : (S.s.j0 a).s.rs.getD i 0 = wv m (W.rs.getD i (0, 0)) := er
  rw [er] at hj ⊢
  rw [h.jt hb hv] at hj
  have h3 : (W.rs.getD i (0, 0)).1 = 3 := by simpa using hj
  rw [(h.vt hb hv h3).2]
  exact ⟨_, (hv.t h3).2, rfl, hr _ (getD_in (by rw [h.rl]; exact hi)) h3⟩
 ·obtain ⟨j, hja, rfl, hx⟩ := hC
  have hl := fl hja i hi
  have ef : (S.s.j0 a).ld (m j + 1 + i) = wv m ((W.T.getD j t0).2.1.getD i (0, 0)) := h.fd j hja i hl
  rw [ef] at hj ⊢
  rw [kd hja] at hk
  exact key hja hx (h.fv j hja _ (getD_in hl)) (Or.inl ⟨hk, getD_in hl⟩) hj
 ·obtain ⟨j, hja, rfl, hx⟩ := hC
  rw [kd hja] at hk
  have hl := h.two hja (Or.inr (Or.inl hk))
  rw [(f2 hja hl).1] at hj ⊢
  exact key hja hx (h.fv j hja _ (getD_in (by omega))) (Or.inr (Or.inl ⟨hk, rfl⟩)) hj
 ·obtain ⟨j, hja, rfl, hx⟩ := hC
  rw [kd hja] at hk
  have hl := h.two hja (Or.inr (Or.inr hk))
  rw [(f2 hja hl).1] at hj ⊢
  rw [(f2 hja hl).2] at hkey
  have hko := h.fv j hja _ (getD_in (x := ((0, 0) : Int × Int)) (show 0 < (W.T.getD j t0).2.1.length by omega))
  refine key hja hx (h.fv j hja _ (getD_in (by omega))) (Or.inr (Or.inr (Or.inl ⟨hk, fun k3 => ?_, rfl⟩))) hj
  have q := hkey (by rw [h.jt hb hko]; simpa using k3)
  rw [(h.vt hb hko k3).2] at q
  exact (h.rset (hko.t k3).2).1 q
 ·obtain ⟨e0, he0, rfl⟩ := List.mem_map.1 he
  have hE := h.wo e0 he0
  obtain ⟨g1, g2⟩ := h.jw hb hE.g
  obtain ⟨t1, t2⟩ := h.jw hb hE.h
  have q := hg g1
  have q : Rset W m X (aV (ew 3 (m e0.1.toNat))) := q
  rw [g2] at q
  show Rset W m X (aV (ew 3 (m e0.2.toNat)))
  rw [t2]
  have hx := (h.rset hE.g).1 q
  exact ⟨_, hE.h, rfl, hX _ hE.g.1 hx (3, e0.2) (Or.inr (Or.inr (Or.inr ⟨hE.k, e0, he0, by have := hE.g0; omega, rfl⟩))) rfl⟩
structure Rg (a : Wc) (S : Ww) (W : Wrs) (m : Nat -> Int) (t : Js × List En) (L : List Bool) (C : List En) : Prop where
  dn : Dn (S.s.j0 a) t.1 t.2
  sn : Sn (S.s.j0 a) (fun _ => True) t.1
  ok : Sok_ W.T L
  mrk : ∀ i, Alv W.T i -> (t.1.f (m i) ≠ -1 ↔ Ls_ L i)
  q : t.2 = (W.wt ++ C).map (we m)
  c : ∀ e ∈ C, e ∈ W.rg /\ Ls_ L e.2.toNat
  r : ∀ v ∈ W.rs, v.1 = 3 -> Ls_ L v.2.toNat
theorem Rg.is (hR : Rl a S W m Y G) (hb : Wbd a S.s) {t : Js × List En} {L : List Bool} {C : List En} (h : Rg a S W m t L C) {x : Int} (hx : Alv W.T x.toNat) : (S.s.j0 a).al t.1 (ew 3 (m x.toNat)) = isd L x := by
 unfold isd
 have h1 := hR.al hb t.1 hx
 have h2 := h.mrk _ hx
 unfold Ls_ at h2
 cases c : L.getD x.toNat false
 ·rw [Bool.eq_false_iff]
  intro d
  have := h2.1 (h1.1 d)
  rw [c] at this
  cases this
 ·exact h1.2 (h2.2 c)
theorem Rg.sim (hR : Rl a S W m Y G) (hb : Wbd a S.s) {g : List Bool -> List Bool} (hg : Gok W.T W.wt g) : Sim (S.s.j0 a).cmJ g (we m) W.rg (Rg a S W m) := by
 refine ⟨fun t L C e h he hn => ?_, fun t L C e h he hy => ?_⟩
 ·have hE := hR.gv e he
  rw [<- Rg.is hR hb h hE.g] at hn
  exact cm_no (o := noSd Js) (is := fun s x => (S.s.j0 a).al s.1 x) (kp := (S.s.j0 a).ke) (s := t) (e := we m e) hn
 ·have hE := hR.gv e he
  have hy0 := hy
  rw [<- Rg.is hR hb h hE.g] at hy
  obtain ⟨k1, k2, k3, k4⟩ := h.dn.mg.ke (t := t) (ew 3 (m e.2.toNat))
  have e1 : (S.s.j0 a).cmJ t (we m e) = (true, (((S.s.j0 a).ke t (ew 3 (m e.2.toNat))).2.1, t.2 ++ [we m e])) := by
   refine (cm_yes (o := noSd Js) (is := fun s x => (S.s.j0 a).al s.1 x) (kp := (S.s.j0 a).ke) (s := t) (e := we m e) hy).trans ?_
   show (true, (((S.s.j0 a).ke t (ew 3 (m e.2.toNat))).2.1, ((S.s.j0 a).ke t (ew 3 (m e.2.toNat))).2.2 ++ [we m e])) = _
   rw [k3]
  have d2 := (h.dn.cm (we m e)).1
  rw [e1] at d2
  rw [e1]
  obtain ⟨o1, o2, o3⟩ := h.ok.put hE.h
  have hG := hg _ o1.len o1.al
  obtain ⟨n1, n2, n3⟩ := h.ok.kpg hg hR.iv hE.h
  have hX : Cls W.T W.wt (Ls_ (kpg g L e.2)) := hG.cl
  have hup : ∀ i, Ls_ L i -> Ls_ (kpg g L e.2) i := n3
  obtain ⟨c1, c2⟩ := hR.closed hb hX (fun v hv h3 => hup _ (h.r v hv h3))
  have c3 : Cqg (S.s.j0 a) (Rset W m (Ls_ (kpg g L e.2))) t.2 := by
   rw [h.q, List.map_append]
   intro x hx
   rcases List.mem_append.1 hx with d | d
   ·exact c2 x d
   ·obtain ⟨x0, hx0, rfl⟩ := List.mem_map.1 d
    obtain ⟨z1, z2⟩ := h.c x0 hx0
    have hE0 := hR.gv x0 z1
    intro _ _
    show Rset W m _ (aV (ew 3 (m x0.2.toNat)))
    rw [(hR.jw hb hE0.h).2]
    exact ⟨_, hE0.h, rfl, hup _ z2⟩
  have s0 : Sn (S.s.j0 a) (Rset W m (Ls_ (kpg g L e.2))) t.1 := ⟨fun c hc hf => by
   obtain ⟨i, hi, rfl⟩ := hR.surT hb hc
   exact ⟨i, hi, rfl, hup i ((h.mrk i hi).1 hf)⟩, h.sn.ea⟩
  have s1 := Sn.ke c1 c3 s0 h.dn.mg (ew 3 (m e.2.toNat)) (fun _ => by
   rw [(hR.jw hb hE.h).2]
   exact ⟨_, hE.h, rfl, n2⟩)
  refine ⟨rfl, d2, ⟨fun _ _ _ => trivial, s1.ea⟩, n1, fun i hi => ⟨fun hf => ?_, fun hL => ?_⟩, ?_, fun x hx => ?_, fun v hv h3 => hup _ (h.r v hv h3)⟩
  ·exact (hR.rset hi).1 (s1.snd _ (hR.memT hb hi) hf)
  ·have hcl := hR.marked hb k1 (fun x hx => by
    rw [k3, h.q]
    exact List.mem_map_of_mem (List.mem_append_left _ hx))
   refine (hG.lt _ hcl (fun j hj => ?_) i hL).2
   have hja : Alv W.T j := o1.al j hj
   refine ⟨hja, ?_⟩
   unfold Ls_ at hj
   rw [getD_setB _ _ _ (by rw [h.ok.len]; exact hE.h.1)] at hj
   split at hj
   ·rename_i ej
    rw [<- ej]
    exact (hR.al hb _ hE.h).1 k4
   ·have hf := (h.mrk j hja).2 hj
    rw [k2.f _ hf]
    exact hf
  ·show t.2 ++ [we m e] = _
   rw [h.q, <- List.append_assoc, List.map_append (l₁ := W.wt ++ C)]
   rfl
  ·rcases List.mem_append.1 hx with d | d
   ·exact ⟨(h.c x d).1, hup _ (h.c x d).2⟩
   ·rw [List.mem_singleton.1 d]
    exact ⟨he, n2⟩
theorem Rg.start (hR : Rl a S W m Y G) (hb : Wbd a S.s) {g : List Bool -> List Bool} (hg : Gok W.T W.wt g) : Rg a S W m (S.j2 a) (W.c0 g true) [] := by
 have hI : JI (S.s.j0 a) js0 := JI.start hb.n1 hb.o1 hb.y1 hb.g1
 obtain ⟨m1, _, m3⟩ := (Mg.start (X := fun _ => False) hI).kr 12
 obtain ⟨d1, d2, d3⟩ := Mg.sp (t := ((S.s.j0 a).kr js0 12, S.q)) m1
 have d3 : (S.j2 a).2 = S.q := d3
 have d2 : Mle (S.s.j0 a) ((S.s.j0 a).kr js0 12) (S.j2 a).1 := d2
 have hF := hR.first true
 have hG := hg _ hF.len hF.al
 obtain ⟨n1, n2⟩ := hg.ok hR.iv hF
 have hr : ∀ v ∈ W.rs, v.1 = 3 -> Ls_ (W.c0 g true) v.2.toNat := fun v hv h3 => n2 _ ((frs_in _ _ _ _).2 ⟨((hR.rv v hv).t h3).2.1, Or.inr ⟨v, hv, h3, rfl⟩⟩)
 obtain ⟨c1, c2⟩ := hR.closed hb (X := Ls_ (W.c0 g true)) hG.cl hr
 rw [<- hR.wt] at c2
 have kr : ∀ n, n <= 12 -> Sn (S.s.j0 a) (Rset W m (Ls_ (W.c0 g true))) ((S.s.j0 a).kr js0 n) := fun n => by
  induction n with
  | zero =>
   intro _
   show Sn (S.s.j0 a) _ js0
   exact ⟨fun _ _ hf => absurd rfl hf, fun _ ha => by simp [js0] at ha⟩
  | succ n ih =>
   intro hn
   obtain ⟨m1, _⟩ := (Mg.start (X := fun _ => False) hI).kr n
   exact (ih (by omega)).ma _ (c1.rt n (by omega)) (m1.ma _).2.1
 have s1 : Sn (S.s.j0 a) (Rset W m (Ls_ (W.c0 g true))) (S.j2 a).1 := Sn.spr c1 _ ((S.s.j0 a).kr js0 12, S.q) c2 (kr 12 (Nat.le_refl _)) m1
 have d1 : Dn (S.s.j0 a) (S.j2 a).1 (S.j2 a).2 := d1
 refine ⟨d1, ⟨fun _ _ _ => trivial, s1.ea⟩, n1, fun i hi => ⟨fun hf => (hR.rset hi).1 (s1.snd _ (hR.memT hb hi) hf), fun hL => ?_⟩, ?_, fun e he => (by cases he), hr⟩
 ·have hcl := hR.marked hb d1 (fun x hx => by rw [d3, hR.wt]; exact List.mem_map_of_mem hx)
  refine (hG.lt _ hcl (fun j hj => ?_) i hL).2
  refine ⟨hF.al j hj, ?_⟩
  obtain ⟨_, h2⟩ := (frs_in _ _ _ _).1 hj
  rcases h2 with ⟨_, _, h2⟩ | ⟨v, hv, h3, e⟩
  ·cases h2
  ·obtain ⟨k, hk, ek⟩ := List.mem_iff_getElem.1 hv
   have hk12 : k < 12 := by rw [<- hR.rl]; exact hk
   obtain ⟨er, hvo⟩ := hR.root hk12
   have e2 : W.rs.getD k (0, 0) = v := by
    rw [List.getD_eq_getElem?_getD, List.getElem?_eq_getElem hk, ek]
    rfl
   rw [e2] at er hvo
   have j0 := m3 k hk12
   have er : (S.s.j0 a).s.rs.getD k 0 = wv m v := er
   rw [er] at j0
   have j1 := d2.jl j0
   rw [<- e]
   exact (hR.jlv hb _ hvo h3).1 j1
 ·rw [d3, hR.wt, List.append_nil]
theorem Rg.settled (hR : Rl a S W m Y G) (hb : Wbd a S.s) {g : List Bool -> List Bool} (hg : Gok W.T W.wt g) : Rg a S W m (S.j3 a, ((S.s.j0 a).sS (S.j2 a) S.r).2) (W.cR g true).1 (W.cR g true).2.1 := by
 have h0 := Rg.start hR hb hg
 have hs := Rg.sim hR hb hg
 have ef : S.r.filter (fun e => !(S.s.j0 a).al (S.j2 a).1 e.2) = (W.rg.filter (fun e => !isd (W.c0 g true) e.2)).map (we m) := by
  rw [hR.rg]
  exact filter_mapr _ _ _ W.rg (fun e he => by
   show (!(S.s.j0 a).al (S.j2 a).1 (ew 3 (m e.2.toNat))) = _
   rw [Rg.is hR hb h0 (hR.gv e he).h])
 obtain ⟨t1, _⟩ := hs.turns (W.rg.length + 1) (W.rg.filter (fun e => !isd (W.c0 g true) e.2)) (S.j2 a) (W.c0 g true) [] (fun e he => (List.mem_filter.1 he).1) h0
 have e1 : trn (S.s.j0 a).cmJ ((S.r.filter (fun e => !(S.s.j0 a).al (S.j2 a).1 e.2)).length + 1) (S.j2 a) (S.r.filter (fun e => !(S.s.j0 a).al (S.j2 a).1 e.2)) = trn (S.s.j0 a).cmJ (W.rg.length + 1) (S.j2 a) ((W.rg.filter (fun e => !isd (W.c0 g true) e.2)).map (we m)) := by
  rw [ef]
  have hl := List.length_filter_le (fun e => !isd (W.c0 g true) e.2) W.rg
  exact trn_more _ _ _ _ _ (by rw [List.length_map]; omega) (by rw [List.length_map]; omega)
 have e2 : (S.s.j0 a).sS (S.j2 a) S.r = (trn (S.s.j0 a).cmJ (W.rg.length + 1) (S.j2 a) ((W.rg.filter (fun e => !isd (W.c0 g true) e.2)).map (we m))).1 := by
  rw [<- e1]
  rfl
 have e3 : (S.j3 a, ((S.s.j0 a).sS (S.j2 a) S.r).2) = (S.s.j0 a).sS (S.j2 a) S.r := rfl
 rw [e3, e2]
 exact t1
end
end Go.Proofs.YtnalfnlmaallmaaGreat

namespace Go.Proofs.YtnalfnlmaallmaaGreat
open Go.RowKit W Kp Stl
section
variable {a : Wc} {S : Ww} {W : Wrs} {m : Nat -> Int} {Y G D : List Int}
theorem Rl.TY (h : Rl a S W m Y G) (hb : Wbd a S.s) : (S.s.k0 a).T = Y := Tw_eq h.kv.inv.full hb.n1 hb.y1 hb.o1 hb.g1
theorem Rl.disj (h : Rl a S W m Y G) (hb : Wbd a S.s) {v : Int} (h1 : v ∈ Y) : v ∉ G := fun h2 => by
 have q1 := h.kv.inv.full.iy v h1
 have q2 := h.kv.inv.full.io v h2
 have := hb.y1
 omega
theorem Rl.ygw (h : Rl a S W m Y G) (hb : Wbd a S.s) {i : Nat} (hi : Alv W.T i) : (S.s.k0 a).yg (ew 3 (m i)) = true ↔ m i ∈ Y := by
 obtain ⟨_, w2, w3⟩ := h.word hb hi
 unfold Ck.yg
 rw [w2, w3, h.TY hb]
 simp
theorem Rl.ygv (h : Rl a S W m Y G) (hb : Wbd a S.s) {v : Int × Int} (hv : Vo W.T v) (hy : (S.s.k0 a).yg (wv m v) = true) : v.1 = 3 /\ aV (wv m v) = m v.2.toNat := by
 have h1 : aB (wv m v) = true := by
  unfold Ck.yg at hy
  rw [Bool.and_eq_true] at hy
  exact hy.1
 rw [h.aBv hb hv] at h1
 have h3 : v.1 = 3 := by simpa using h1
 exact ⟨h3, (h.vt hb hv h3).2⟩
theorem Rl.alS (h : Rl a S W m Y G) (hb : Wbd a S.s) (s : Cs) {i : Nat} (hi : Alv W.T i) : (S.s.k0 a).al s (ew 3 (m i)) = true ↔ (m i ∈ G \/ s.f (m i) ≠ -1) := by
 have hy := h.ygw hb hi
 obtain ⟨_, _, w3⟩ := h.word hb hi
 unfold Ck.al Ck.ls
 rw [w3]
 rcases h.mem hi with d | d
 ·rw [hy.2 d]
  have := h.disj hb d
  simp [this]
 ·have : (S.s.k0 a).yg (ew 3 (m i)) = false := by
   rw [Bool.eq_false_iff]
   intro c
   exact h.disj hb (hy.1 c) d
  rw [this]
  simp [d]
theorem Rl.orX (h : Rl a S W m Y G) (hb : Wbd a S.s) {s : Cs} {i : Nat} (hi : Alv W.T i) (hs : (S.s.k0 a).al s (ew 3 (m i)) = true) : ∃ b, (S.s.k0 a).or (S.s.z0 G) s (m i) b := by
 rcases (h.alS hb s hi).1 hs with d | d
 ·exact ⟨m i, Or.inl ⟨rfl, d⟩⟩
 ·rcases h.mem hi with e | e
  ·exact ⟨s.f (m i), Or.inr ⟨by rw [h.TY hb]; exact e, rfl, d⟩⟩
  ·exact ⟨m i, Or.inl ⟨rfl, e⟩⟩
def Hcd (a : Wc) (S : Ww) (G D : List Int) : Prop := ∀ v ∈ G, v ∉ D -> ∀ i, 0 <= i -> i < pf ((S.s.k0 a).l0 (S.s.z0 G) v) -> (S.s.k0 a).yg ((S.s.k0 a).l0 (S.s.z0 G) (v + 1 + i)) = false
theorem Rl.rested (h : Rl a S W m Y G) (hb : Wbd a S.s) (hc : Hcd a S G D) {q0 : List En} {t : Cs × List En} (d : Dns (S.s.k0 a) (S.s.z0 G) D q0 t) (hq : ∀ e ∈ W.wt, ∃ n, n < q0.length /\ q0.getD n (0, 0) = we m e) :
  Cls W.T W.wt (fun i => Alv W.T i /\ (S.s.k0 a).al t.1 (ew 3 (m i)) = true) := by
 obtain ⟨H, li, we_⟩ := d.li
 have hz : ∀ v, (v ∈ (S.s.k0 a).T \/ v ∈ (S.s.z0 G).G) -> ∀ i, 0 <= i -> i < pf ((S.s.k0 a).l0 (S.s.z0 G) v) -> aB ((S.s.k0 a).l0 (S.s.z0 G) (v + 1 + i)) = true -> aV ((S.s.k0 a).l0 (S.s.z0 G) (v + 1 + i)) ∈ (S.s.k0 a).T \/ aV ((S.s.k0 a).l0 (S.s.z0 G) (v + 1 + i)) ∈ (S.s.z0 G).G := fun v hv i i0 i1 ha => by
  rw [h.TY hb] at hv ⊢
  exact h.kv.inv.fd v hv i i0 i1 ha
 have told : ∀ {x0 x : Int} {j : Nat}, Alv W.T j -> x0 = ew 3 (m j) -> (S.s.k0 a).ml t.1 x0 x -> (S.s.k0 a).al t.1 x = true -> (S.s.k0 a).al t.1 (ew 3 (m j)) = true := fun {x0 x j} hj e0 hm hx => by
  rcases hm with e | ⟨_, y2, _⟩
  ·rw [<- e0, <- e]
   exact hx
  ·rw [e0, (h.word hb hj).2.2] at y2
   exact (h.alS hb t.1 hj).2 (Or.inr y2)
 intro i _ hX v hv h3
 obtain ⟨hi, hs⟩ := hX
 obtain ⟨b, o⟩ := h.orX hb hi hs
 have e0 : (S.s.k0 a).ld t.1 b = ld a.N S.s.y S.s.g S.s.ws (m i) := li.mi.hd _ _ o
 obtain ⟨p1, p2, _⟩ := h.parts hi
 have fX : ∀ {n : Nat}, n < (W.T.getD i t0).2.1.length -> ((W.T.getD i t0).2.1.getD n (0, 0)).1 = 3 -> ¬ ((W.T.getD i t0).1 = 3 /\ n = 0) -> ¬ ((W.T.getD i t0).1 = 4 /\ b ∈ t.1.ep) -> (S.s.k0 a).al t.1 (ew 3 (m ((W.T.getD i t0).2.1.getD n (0, 0)).2.toNat)) = true := fun {n} hn u3 n1 n2 => by
  have hvo := h.fv i hi _ (getD_in (x := ((0, 0) : Int × Int)) hn)
  have hal := (hvo.t u3).2
  have ex0 : (S.s.k0 a).l0 (S.s.z0 G) (m i + 1 + n) = ew 3 (m ((W.T.getD i t0).2.1.getD n (0, 0)).2.toNat) := (h.fd i hi n hn).trans (wv_t u3)
  have i1 : (n : Int) < pf ((S.s.k0 a).l0 (S.s.z0 G) (m i)) := by
   show (n : Int) < pf (ld a.N S.s.y S.s.g S.s.ws (m i))
   rw [p2]
   omega
  have hml := li.mi.fd (m i) b o n (Int.natCast_nonneg n) i1
  refine told hal ex0 hml ?_
  rcases hml with e | ⟨y1, y2, y3⟩
  ·rw [ex0] at e
   have ha : aB ((S.s.k0 a).ld t.1 (b + 1 + n)) = true := by rw [e]; exact (h.word hb hal).2.1
   have i2 : (n : Int) < pf ((S.s.k0 a).ld t.1 b) := by rw [e0, p2]; omega
   rcases li.fields d.he hz hc (li.mi.mem o) (Int.natCast_nonneg n) i2 ha with c | ⟨c1, c2, _⟩ | ⟨c1, c2⟩
   ·exact al_old (li.mi.noY c)
   ·rw [e0, p1] at c1
    exact absurd ⟨c1, by omega⟩ n1
   ·rw [e0, p1] at c1
    exact absurd ⟨c1, c2⟩ n2
  ·have hbd := li.mi.bdH (li.mi.fh _ (yg_mem y1) y2)
   have z1 := li.mi.ci.hN'
   have z2 := li.mi.ci.hO
   have z3 := li.mi.ci.hg
   rw [y3]
   exact al_old (yg_old li.mi.ci hbd.1 (by omega))
 rcases hv with ⟨c, hm⟩ | ⟨c, e⟩ | ⟨c, hkey, e⟩ | ⟨c, e1, he, e2, e3⟩
 ·obtain ⟨n, hn, en, _⟩ := h.field hi hm
  have hvo := h.fv i hi v hm
  refine ⟨(hvo.t h3).2, ?_⟩
  have := fX hn (by rw [en]; exact h3) (fun q => by omega) (fun q => by omega)
  rw [en] at this
  exact this
 ·have hl := h.two hi (Or.inr (Or.inl c))
  have hm : v ∈ (W.T.getD i t0).2.1 := by rw [e]; exact getD_in (by omega)
  have hvo := h.fv i hi v hm
  refine ⟨(hvo.t h3).2, ?_⟩
  have := fX (n := 1) (by omega) (by rw [<- e]; exact h3) (fun q => by omega) (fun q => by omega)
  rw [<- e] at this
  exact this
 ·have hl := h.two hi (Or.inr (Or.inr c))
  have hm : v ∈ (W.T.getD i t0).2.1 := by rw [e]; exact getD_in (by omega)
  have hvo := h.fv i hi v hm
  refine ⟨(hvo.t h3).2, ?_⟩
  have hko := h.fv i hi _ (getD_in (x := ((0, 0) : Int × Int)) (show 0 < (W.T.getD i t0).2.1.length by omega))
  have nep : b ∉ t.1.ep := fun hep => by
   have hls := d.ep b hep
   have x1 : b + 1 + 0 = b + 1 := by omega
   have i1 : (0 : Int) < pf ((S.s.k0 a).l0 (S.s.z0 G) (m i)) := by
    show (0 : Int) < pf (ld a.N S.s.y S.s.g S.s.ws (m i))
    rw [p2]
    omega
   have hls2 := hls
   rw [<- x1] at hls2
   have ea := li.mi.atY o (Int.le_refl 0) i1 (ls_yg hls2)
   have ek : (S.s.k0 a).l0 (S.s.z0 G) (m i + 1 + 0) = wv m ((W.T.getD i t0).2.1.getD 0 (0, 0)) := h.fd i hi 0 (by omega)
   rw [ea, ek] at hls2
   obtain ⟨k3, kV⟩ := h.ygv hb hko (ls_yg hls2)
   have q1 := (Ck.ls_yes hls2).2.2
   have q2 := (Ck.ls_yes hls2).2.1
   rw [kV] at q1 q2
   rw [h.TY hb] at q2
   rcases (h.alS hb t.1 (hko.t k3).2).1 (hkey k3).2 with w1 | w1
   ·exact h.disj hb q2 w1
   ·exact w1 q1
  have := fX (n := 1) (by omega) (by rw [<- e]; exact h3) (fun q => by omega) (fun q => nep q.2)
  rw [<- e] at this
  exact this
 ·have hE := h.wo e1 he
  have hi2 : e1.1.toNat = i := by omega
  have h2 : v.2.toNat = e1.2.toNat := by rw [e3]
  rw [h2]
  refine ⟨hE.h, ?_⟩
  obtain ⟨n, hn, en⟩ := hq e1 he
  obtain ⟨q1, q2⟩ := d.q.eq n hn
  rw [en] at q1 q2
  have hmem : t.2.getD n (0, 0) ∈ t.2 := getD_in (by rw [d.q.len]; exact hn)
  refine told hE.h rfl q2 ?_
  rcases d.wq _ hmem with w1 | w1
  ·exact w1
  ·exfalso
   have q1 : (t.2.getD n (0, 0)).1 = ew 3 (m e1.1.toNat) := q1
   rw [q1, hi2, hs] at w1
   cases w1
theorem Rl.csm (h : Rl a S W m Y G) (hb : Wbd a S.s) {X : Nat -> Prop} (hX : Cls W.T W.wt X) (ho : ∀ i, Alv W.T i -> (W.T.getD i t0).2.2.1 = true -> X i) : Csm (S.s.k0 a) (S.s.z0 G) (Rset W m X) := by
 have key : ∀ {i : Nat} {v : Int × Int}, Alv W.T i -> X i -> Vo W.T v -> Kps W.T W.wt X i v -> (S.s.k0 a).yg (wv m v) = true -> Rset W m X (aV (wv m v)) := fun {i v} hi hx hv hk hj => by
  obtain ⟨h3, e⟩ := h.ygv hb hv hj
  rw [e]
  exact ⟨_, (hv.t h3).2, rfl, hX i hi.1 hx v hk h3⟩
 have kd : ∀ {i : Nat}, Alv W.T i -> pk ((S.s.k0 a).l0 (S.s.z0 G) (m i)) = (W.T.getD i t0).1 /\ pf ((S.s.k0 a).l0 (S.s.z0 G) (m i)) = (W.T.getD i t0).2.1.length := fun {i} hi => ⟨(h.parts hi).1, (h.parts hi).2.1⟩
 have ef : ∀ {i : Nat}, Alv W.T i -> ∀ {n : Nat}, n < (W.T.getD i t0).2.1.length -> (S.s.k0 a).l0 (S.s.z0 G) (m i + 1 + n) = wv m ((W.T.getD i t0).2.1.getD n (0, 0)) := fun {i} hi {n} hn => h.fd i hi n hn
 refine ⟨fun b hbG => ?_, fun c _ hC hk i hi hj => ?_, fun c _ hC hk hj => ?_, fun c _ hC hk hkey hj => ?_⟩
 ·obtain ⟨i, hi, e⟩ := h.sur b (Or.inr hbG)
  refine ⟨i, hi, e, ho i hi ?_⟩
  cases c : (W.T.getD i t0).2.2.1
  ·exact absurd (e ▸ hbG) (h.disj hb (h.young i hi c))
  ·rfl
 ·obtain ⟨j, hja, rfl, hx⟩ := hC
  rw [(kd hja).2] at hi
  have hl : i < (W.T.getD j t0).2.1.length := by omega
  rw [ef hja hl] at hj ⊢
  rw [(kd hja).1] at hk
  exact key hja hx (h.fv j hja _ (getD_in hl)) (Or.inl ⟨hk, getD_in hl⟩) hj
 ·obtain ⟨j, hja, rfl, hx⟩ := hC
  rw [(kd hja).1] at hk
  have hl := h.two hja (Or.inr (Or.inl hk))
  have e1 : (S.s.k0 a).l0 (S.s.z0 G) (m j + 1 + 1) = wv m ((W.T.getD j t0).2.1.getD 1 (0, 0)) := ef hja (n := 1) (by omega)
  rw [e1] at hj ⊢
  exact key hja hx (h.fv j hja _ (getD_in (by omega))) (Or.inr (Or.inl ⟨hk, rfl⟩)) hj
 ·obtain ⟨j, hja, rfl, hx⟩ := hC
  rw [(kd hja).1] at hk
  have hl := h.two hja (Or.inr (Or.inr hk))
  have e1 : (S.s.k0 a).l0 (S.s.z0 G) (m j + 1 + 1) = wv m ((W.T.getD j t0).2.1.getD 1 (0, 0)) := ef hja (n := 1) (by omega)
  have e2 : (S.s.k0 a).l0 (S.s.z0 G) (m j + 1 + 0) = wv m ((W.T.getD j t0).2.1.getD 0 (0, 0)) := ef hja (n := 0) (by omega)
  rw [e1] at hj ⊢
  rw [e2] at hkey
  have hko := h.fv j hja _ (getD_in (x := ((0, 0) : Int × Int)) (show 0 < (W.T.getD j t0).2.1.length by omega))
  refine key hja hx (h.fv j hja _ (getD_in (by omega))) (Or.inr (Or.inr (Or.inl ⟨hk, fun k3 => ?_, rfl⟩))) hj
  have kal := (hko.t k3).2
  rcases h.mem kal with w1 | w1
  ·have q := hkey (by rw [wv_t k3]; exact (h.ygw hb kal).2 w1)
   rw [(h.vt hb hko k3).2] at q
   exact (h.rset kal).1 q
  ·refine ho _ kal ?_
   cases c : (W.T.getD ((W.T.getD j t0).2.1.getD 0 (0, 0)).2.toNat t0).2.2.1
   ·exact absurd w1 (h.disj hb (h.young _ kal c))
   ·rfl
theorem Rl.cqs (h : Rl a S W m Y G) (hb : Wbd a S.s) {X : Nat -> Prop} (hX : Cls W.T W.wt X) (ho : ∀ i, Alv W.T i -> (W.T.getD i t0).2.2.1 = true -> X i) {C : List En} (hC : ∀ e ∈ C, e ∈ W.rg /\ X e.2.toNat) {s : Cs} {H : List Int} (mi : MI (S.s.k0 a) (S.s.z0 G) s H) {q : List En} (hq : Etl (S.s.k0 a) s ((W.wt ++ C).map (we m)) q) : Cqs (S.s.k0 a) (Rset W m X) q := by
 intro e he hg hy
 obtain ⟨n, hn, en⟩ := List.mem_iff_getElem.1 he
 have en2 : q.getD n (0, 0) = e := by
  rw [List.getD_eq_getElem?_getD, List.getElem?_eq_getElem hn, en]
  rfl
 have hn0 : n < ((W.wt ++ C).map (we m)).length := by rw [<- hq.len]; exact hn
 obtain ⟨q1, q2⟩ := hq.eq n hn0
 have hn1 : n < (W.wt ++ C).length := by rw [List.length_map] at hn0; exact hn0
 rw [en2, getD_mapr (we m) (W.wt ++ C) n (0, 0) (0, 0) hn1] at q1 q2
 have hm0 : (W.wt ++ C).getD n (0, 0) ∈ W.wt ++ C := getD_in hn1
 generalize (W.wt ++ C).getD n (0, 0) = e0 at *
 have hE : Eno W.T e0 := by
  rcases List.mem_append.1 hm0 with d | d
  ·exact h.wo e0 d
  ·exact h.gv e0 (hC e0 d).1
 have e2 : e.2 = ew 3 (m e0.2.toNat) := by
  rcases q2 with d | ⟨y1, y2, y3⟩
  ·exact d
  ·exfalso
   have hbd := mi.bdH (mi.fh _ (yg_mem y1) y2)
   have z1 := mi.ci.hN'
   have z2 := mi.ci.hO
   have z3 := mi.ci.hg
   rw [y3, yg_old mi.ci hbd.1 (by omega)] at hy
   cases hy
 have e1 : e.1 = ew 3 (m e0.1.toNat) := q1
 rw [e2, (h.word hb hE.h).2.2]
 refine ⟨_, hE.h, rfl, ?_⟩
 rcases List.mem_append.1 hm0 with d | d
 ·have hx : X e0.1.toNat := by
   rcases h.mem hE.g with w1 | w1
   ·have := hg (by rw [e1]; exact (h.ygw hb hE.g).2 w1)
    rw [e1, (h.word hb hE.g).2.2] at this
    exact (h.rset hE.g).1 this
   ·refine ho _ hE.g ?_
    cases c : (W.T.getD e0.1.toNat t0).2.2.1
    ·exact absurd w1 (h.disj hb (h.young _ hE.g c))
    ·rfl
  exact hX _ hE.g.1 hx (3, e0.2) (Or.inr (Or.inr (Or.inr ⟨hE.k, e0, d, by have := hE.g0; omega, rfl⟩))) rfl
 ·exact (hC e0 d).2
structure Rs (a : Wc) (S : Ww) (W : Wrs) (m : Nat -> Int) (G D : List Int) (t : Cs × List En) (L : List Bool) (C : List En) : Prop where
  dn : Dns (S.s.k0 a) (S.s.z0 G) D ((W.wt ++ C).map (we m)) t
  ok : Sok_ W.T L
  mrk : ∀ i, Alv W.T i -> ((S.s.k0 a).al t.1 (ew 3 (m i)) = true ↔ Ls_ L i)
  c : ∀ e ∈ C, e ∈ W.rg /\ Ls_ L e.2.toNat
  r : ∀ v ∈ W.rs, v.1 = 3 -> Ls_ L v.2.toNat
  o : ∀ i, Alv W.T i -> (W.T.getD i t0).2.2.1 = true -> Ls_ L i
theorem Rs.is {t : Cs × List En} {L : List Bool} {C : List En} (h : Rs a S W m G D t L C) {x : Int} (hx : Alv W.T x.toNat) : (S.s.k0 a).al t.1 (ew 3 (m x.toNat)) = isd L x := by
 unfold isd
 have h2 := h.mrk _ hx
 unfold Ls_ at h2
 cases c : L.getD x.toNat false
 ·rw [Bool.eq_false_iff]
  intro d
  rw [h2.1 d] at c
  cases c
 ·exact h2.2 c
theorem q0_in {C : List En} : ∀ e ∈ W.wt, ∃ n, n < ((W.wt ++ C).map (we m)).length /\ ((W.wt ++ C).map (we m)).getD n (0, 0) = we m e := fun e he => by
 obtain ⟨n, hn, en⟩ := List.mem_iff_getElem.1 he
 refine ⟨n, by rw [List.length_map, List.length_append]; omega, ?_⟩
 rw [getD_mapr (we m) (W.wt ++ C) n (0, 0) (0, 0) (by rw [List.length_append]; omega), List.getD_eq_getElem?_getD, List.getElem?_append_left hn, List.getElem?_eq_getElem hn, en]
 rfl
theorem Rs.sim (hR : Rl a S W m Y G) (hb : Wbd a S.s) (hc : Hcd a S G D) {g : List Bool -> List Bool} (hg : Gok W.T W.wt g) : Sim (cm (noSd Cs) (fun s x => (S.s.k0 a).al s.1 x) (S.s.k0 a).ke) g (we m) W.rg (Rs a S W m G D) := by
 refine ⟨fun t L C e h he hn => ?_, fun t L C e h he hy => ?_⟩
 ·have hE := hR.gv e he
  rw [<- h.is hE.g] at hn
  exact cm_no (o := noSd Cs) (is := fun s x => (S.s.k0 a).al s.1 x) (kp := (S.s.k0 a).ke) (s := t) (e := we m e) hn
 ·have hE := hR.gv e he
  rw [<- h.is hE.g] at hy
  obtain ⟨k1, k2, k3, k4, k5⟩ := h.dn.ke (ew 3 (m e.2.toNat))
  have e1 : cm (noSd Cs) (fun s x => (S.s.k0 a).al s.1 x) (S.s.k0 a).ke t (we m e) = (true, (((S.s.k0 a).ke t (ew 3 (m e.2.toNat))).2.1, ((S.s.k0 a).ke t (ew 3 (m e.2.toNat))).2.2 ++ [((we m e).1, ((S.s.k0 a).ke t (ew 3 (m e.2.toNat))).1)])) :=
   cm_yes (o := noSd Cs) (is := fun s x => (S.s.k0 a).al s.1 x) (kp := (S.s.k0 a).ke) (s := t) (e := we m e) hy
  rw [e1]
  obtain ⟨o1, o2, o3⟩ := h.ok.put hE.h
  have hG := hg _ o1.len o1.al
  obtain ⟨n1, n2, n3⟩ := h.ok.kpg hg hR.iv hE.h
  have hX : Cls W.T W.wt (Ls_ (kpg g L e.2)) := hG.cl
  have hup : ∀ i, Ls_ L i -> Ls_ (kpg g L e.2) i := n3
  have ho : ∀ i, Alv W.T i -> (W.T.getD i t0).2.2.1 = true -> Ls_ (kpg g L e.2) i := fun i hi q => hup i (h.o i hi q)
  obtain ⟨H, li, wE⟩ := h.dn.li
  have c1 := hR.csm hb hX ho
  have c3 := hR.cqs hb hX ho (fun x hx => ⟨(h.c x hx).1, hup _ (h.c x hx).2⟩) li.mi h.dn.q
  have s0 : Sns (S.s.k0 a) (Rset W m (Ls_ (kpg g L e.2))) t.1 := fun c hc' hf => by
   rw [hR.TY hb] at hc'
   obtain ⟨i, hi, rfl⟩ := hR.sur c (Or.inl hc')
   exact ⟨i, hi, rfl, hup i ((h.mrk i hi).1 ((hR.alS hb t.1 hi).2 (Or.inr hf)))⟩
  obtain ⟨s1, _⟩ := Sns.ke c1 li wE c3 s0 (ew 3 (m e.2.toNat)) (fun _ => by
   rw [(hR.word hb hE.h).2.2]
   exact ⟨_, hE.h, rfl, n2⟩)
  have eq0 : (W.wt ++ (C ++ [e])).map (we m) = (W.wt ++ C).map (we m) ++ [we m e] := by
   rw [<- List.append_assoc, List.map_append (l₁ := W.wt ++ C)]
   rfl
  refine ⟨rfl, ⟨k1.li, k1.cb, fun x hx => ?_, k1.he, k1.ep, ?_⟩, n1, fun i hi => ⟨fun hf => ?_, fun hL => ?_⟩, fun x hx => ?_, fun v hv h3 => hup _ (h.r v hv h3), ho⟩
  ·rcases List.mem_append.1 hx with d | d
   ·exact k1.wq x d
   ·rw [List.mem_singleton.1 d]
    exact Or.inl (al_old k4)
  ·rw [eq0]
   exact k1.q.snoc rfl (k3 _ (Or.inl rfl))
  ·rcases (hR.alS hb _ hi).1 hf with d | d
   ·refine ho i hi ?_
    cases c : (W.T.getD i t0).2.2.1
    ·exact absurd d (hR.disj hb (hR.young _ hi c))
    ·rfl
   ·rcases hR.mem hi with w1 | w1
    ·exact (hR.rset hi).1 (s1 _ (by rw [hR.TY hb]; exact w1) d)
    ·refine ho i hi ?_
     cases c : (W.T.getD i t0).2.2.1
     ·exact absurd w1 (hR.disj hb (hR.young _ hi c))
     ·rfl
  ·have hcl := hR.rested hb hc k1 q0_in
   refine (hG.lt _ hcl (fun j hj => ?_) i hL).2
   have hja : Alv W.T j := o1.al j hj
   refine ⟨hja, ?_⟩
   unfold Ls_ at hj
   rw [getD_setB _ _ _ (by rw [h.ok.len]; exact hE.h.1)] at hj
   split at hj
   ·rename_i ej
    rw [<- ej]
    exact k5
   ·exact al_pg k2 ((h.mrk j hja).2 hj)
  ·rcases List.mem_append.1 hx with d | d
   ·exact ⟨(h.c x d).1, hup _ (h.c x d).2⟩
   ·rw [List.mem_singleton.1 d]
    exact ⟨he, n2⟩
end
end Go.Proofs.YtnalfnlmaallmaaGreat

namespace Go.Proofs.YtnalfnlmaallmaaGreat
open Go.RowKit W Kp Stl
section
variable {a : Wc} {S : Ww} {W : Wrs} {m : Nat -> Int} {Y G D : List Int}
theorem Rl.oldG (h : Rl a S W m Y G) (hb : Wbd a S.s) {i : Nat} (hi : Alv W.T i) (d : m i ∈ G) : (W.T.getD i t0).2.2.1 = true := by
 cases c : (W.T.getD i t0).2.2.1
 ·exact absurd d (h.disj hb (h.young _ hi c))
 ·rfl
theorem Rs.start (hR : Rl a S W m Y G) (hb : Wbd a S.s) (hr : S.s.y <= a.O - S.s.g) {g : List Bool -> List Bool} (hg : Gok W.T W.wt g) : ∃ D, Hcd a S G D /\ Rs a S W m G D (S.t3 a) (W.c0 g false) [] := by
  have h := hR.kv
  have hT : (S.s.k0 a).T = Y := hR.TY hb
  have L0 := LI.start h.inv.full hb.n0 hb.n1 hb.o1 hb.y1 hb.g1 hb.l1 hr
  have W0 := WE.start a S.s G
  have h12 : 12 <= (S.s.s0 a).rs.length := by show 12 <= S.s.rs.length; rw [hb.r1]; exact Nat.le_refl _
  obtain ⟨H1, L1, p1, ⟨H1', e1⟩, l1, y1, _, m1⟩ := L0.kr 12 h12
  have W1 := W0.kr L0.mi 12 L1.mi p1 ⟨_, e1⟩
  have eth : thO a.N S.s.y (S.s.s1 a).g (S.s.s1 a).ws = G ++ H1 := (L1.mi.full.lists (O := a.O) hb.n1 hb.y1 hb.o1 L1.mi.ci.hg).2
  have enx : (S.s.s1 a).nx = ((S.s.k0 a).N : Int) + (S.s.z0 G).g := (kr_wk (S.s.k0 a) (S.s.s0 a) 12).2.2
  have hzt : Tile ((S.s.k0 a).l0 (S.s.z0 G)) (((S.s.k0 a).N : Int) + (S.s.z0 G).g) (S.s.k0 a).N (S.s.z0 G).G := h.inv.full.to
  have hlo : ∀ x ∈ G ++ H1, x ∈ (S.s.z0 G).G \/ ((S.s.k0 a).N : Int) + (S.s.z0 G).g <= x := fun x hx => (List.mem_append.1 hx).imp id (fun d => L1.mi.hlo x d)
  obtain ⟨H2, D2, L2, W2, p2, ⟨H2', e2⟩, _, hD⟩ := LI.lmw (nC a.O) S.s.M hzt (G ++ H1) L1 W1 hlo
  have es2 : (G ++ H1).foldl ((S.s.k0 a).lm1 (((S.s.k0 a).N : Int) + (S.s.z0 G).g) (nC a.O) S.s.M) ((S.s.k0 a).kr (S.s.s0 a) 12) = S.s.s2 a := by
    unfold Wst.s2 Ck.lm
    rw [eth, enx]
    rfl
  have hlen := lm_len (S.s.k0 a) (((S.s.k0 a).N : Int) + (S.s.z0 G).g) (nC a.O) S.s.M (G ++ H1) ((S.s.k0 a).kr (S.s.s0 a) 12)
  have hF := hR.first false
  have hG := hg _ hF.len hF.al
  obtain ⟨n1, n2⟩ := hg.ok hR.iv hF
  have hX : Cls W.T W.wt (Ls_ (W.c0 g false)) := hG.cl
  have ho : ∀ i, Alv W.T i -> (W.T.getD i t0).2.2.1 = true -> Ls_ (W.c0 g false) i := fun i hi q => n2 i ((frs_in _ _ _ _).2 ⟨hi.1, Or.inl ⟨q, hi.2, rfl⟩⟩)
  have hrr : ∀ v ∈ W.rs, v.1 = 3 -> Ls_ (W.c0 g false) v.2.toNat := fun v hv h3 => n2 _ ((frs_in _ _ _ _).2 ⟨((hR.rv v hv).t h3).2.1, Or.inr ⟨v, hv, h3, rfl⟩⟩)
  have hC := hR.csm hb hX ho
  have S0 : Sns (S.s.k0 a) (Rset W m (Ls_ (W.c0 g false))) (S.s.s0 a) := fun _ _ hf => absurd rfl hf
  have S1 := Sns.kr L0 S0 (fun i hi hy => by
    have hi : i < 12 := by rw [<- hb.r1]; exact hi
    obtain ⟨er, hv⟩ := hR.root hi
    have er : (S.s.s0 a).rs.getD i 0 = wv m (W.rs.getD i (0, 0)) := er
    rw [er] at hy ⊢
    obtain ⟨h3, ev⟩ := hR.ygv hb hv hy
    rw [ev]
    exact ⟨_, (hv.t h3).2, rfl, hrr _ (getD_in (by rw [hR.rl]; exact hi)) h3⟩) 12 h12
  have S2 := Sns.lm hC (nC a.O) S.s.M hzt (G ++ H1) L1 hlo S1
  rw [es2] at L2 W2 p2 hlen S2
  have hle : (G ++ H1).length <= 2000 := by
    rw [<- eth]
    exact ths_le _ _
  obtain ⟨q1, q2, q3⟩ := kr_wk (S.s.k0 a) (S.s.s0 a) 12
  have cb : CB (S.s.k0 a) (S.s.s2 a) := by
    obtain ⟨u1, u2, u3, _⟩ := hlen
    rw [q1] at u1
    rw [q2] at u2
    rw [q3] at u3
    have u1 : (S.s.s2 a).wk.length <= 0 + (G ++ H1).length := u1
    have u2 : (S.s.s2 a).ep.length <= 0 + (G ++ H1).length := u2
    have u3 : (S.s.s2 a).nx = (a.N : Int) + S.s.g := u3
    have o1 := hb.o1
    refine ⟨?_, ?_⟩
    · rw [u3]
      show (S.s.s2 a).wk.length + ((a.N : Int) + a.O + 13 - ((a.N : Int) + S.s.g)).toNat <= 4000
      omega
    · rw [u3]
      show (S.s.s2 a).ep.length + ((a.N : Int) + a.O + 13 - ((a.N : Int) + S.s.g)).toNat <= 4000
      omega
  have hcd : Hcd a S G D2 := fun v hv hvD i i0 i1 => by
    cases hc : (S.s.k0 a).yg ((S.s.k0 a).l0 (S.s.z0 G) (v + 1 + i))
    · rfl
    · exfalso
      unfold Ck.yg at hc
      rw [Bool.and_eq_true, hT] at hc
      have hm := h.cd v hv i i0 i1 hc.1 (List.contains_iff_mem.1 hc.2)
      exact hvD (hD v (List.mem_append_left _ hv) hv hm)
  have hq0 : S.q = (W.wt ++ []).map (we m) := by rw [List.append_nil]; exact hR.wt
  have E2 : Etl (S.s.k0 a) (S.s.s2 a) ((W.wt ++ []).map (we m)) S.q := by
    rw [<- hq0]
    exact Etl.refl _ _
  have cq := hR.cqs hb hX ho (C := []) (fun e he => (by cases he)) L2.mi E2
  have key : ∀ s2 : Cs, LI (S.s.k0 a) (S.s.z0 G) s2 H2 D2 -> WE (S.s.k0 a) (S.s.z0 G) s2 H2 -> CB (S.s.k0 a) s2 -> Etl (S.s.k0 a) s2 ((W.wt ++ []).map (we m)) S.q -> Sns (S.s.k0 a) (Rset W m (Ls_ (W.c0 g false))) s2 -> Cqs (S.s.k0 a) (Rset W m (Ls_ (W.c0 g false))) S.q ->
      Dns (S.s.k0 a) (S.s.z0 G) D2 ((W.wt ++ []).map (we m)) ((S.s.k0 a).sp (s2, S.q)) /\ Pg (S.s.k0 a) s2 ((S.s.k0 a).sp (s2, S.q)).1 /\ Sns (S.s.k0 a) (Rset W m (Ls_ (W.c0 g false))) ((S.s.k0 a).sp (s2, S.q)).1 := fun s2 l w c e sn cq => by
    obtain ⟨d1, d2⟩ := Dns.sp (t := (s2, S.q)) l w c e
    exact ⟨d1, d2, (Sns.spr hC _ (s2, S.q) H2 l w cq sn).1⟩
  obtain ⟨d1, d2, s3⟩ := key _ L2 W2 cb E2 S2 cq
  have d1 : Dns (S.s.k0 a) (S.s.z0 G) D2 ((W.wt ++ []).map (we m)) (S.t3 a) := d1
  have d2 : Pg (S.s.k0 a) (S.s.s2 a) (S.t3 a).1 := d2
  have s3 : Sns (S.s.k0 a) (Rset W m (Ls_ (W.c0 g false))) (S.t3 a).1 := s3
  refine ⟨D2, hcd, d1, n1, fun i hi => ⟨fun hf => ?_, fun hL => ?_⟩, fun e he => (by cases he), hrr, ho⟩
  · rcases hR.mem hi with w1 | w1
    · rcases (hR.alS hb _ hi).1 hf with d | d
      · exact absurd d (hR.disj hb w1)
      · exact (hR.rset hi).1 (s3 _ (by rw [hT]; exact w1) d)
    · exact ho i hi (hR.oldG hb hi w1)
  · have hcl := hR.rested hb hcd d1 q0_in
    refine (hG.lt _ hcl (fun j hj => ?_) i hL).2
    have hja := hF.al j hj
    refine ⟨hja, ?_⟩
    obtain ⟨_, h2⟩ := (frs_in _ _ _ _).1 hj
    rcases h2 with ⟨h2, _, _⟩ | ⟨v, hv, h3, e⟩
    · exact (hR.alS hb _ hja).2 (Or.inl (hR.old j hja h2))
    · obtain ⟨k, hk, ek⟩ := List.mem_iff_getElem.1 hv
      have hk12 : k < 12 := by rw [<- hR.rl]; exact hk
      obtain ⟨er, hvo⟩ := hR.root hk12
      have ev : W.rs.getD k (0, 0) = v := by
        rw [List.getD_eq_getElem?_getD, List.getElem?_eq_getElem hk, ek]
        rfl
      rw [ev] at er hvo
      have hal : Alv W.T v.2.toNat := by rw [e]; exact hja
      refine al_pg (p2.trans d2) ?_
      rw [<- e]
      rcases hR.mem hal with w1 | w1
      · have hy := (hR.ygw hb hal).2 w1
        have hm := m1 k hk12
        have er : (S.s.s0 a).rs.getD k 0 = wv m v := er
        rw [er, wv_t h3] at hm
        rcases hm with d | ⟨_, y2, _⟩
        · have := y1 k hk12
          rw [d, hy] at this
          cases this
        · rw [(hR.word hb hal).2.2] at y2
          exact (hR.alS hb _ hal).2 (Or.inr y2)
      · exact (hR.alS hb _ hal).2 (Or.inl w1)
theorem Rs.settled (hR : Rl a S W m Y G) (hb : Wbd a S.s) (hc : Hcd a S G D) {g : List Bool -> List Bool} (hg : Gok W.T W.wt g) (h0 : Rs a S W m G D (S.t3 a) (W.c0 g false) []) : Rs a S W m G D (S.s4 a, ((S.s.k0 a).sS (S.t3 a) S.r).2) (W.cR g false).1 (W.cR g false).2.1 := by
 have hs := Rs.sim hR hb hc hg
 have ef : S.r.filter (fun e => !(S.s.k0 a).al (S.t3 a).1 e.2) = (W.rg.filter (fun e => !isd (W.c0 g false) e.2)).map (we m) := by
  rw [hR.rg]
  exact filter_mapr _ _ _ W.rg (fun e he => by
   show (!(S.s.k0 a).al (S.t3 a).1 (ew 3 (m e.2.toNat))) = _
   rw [h0.is (hR.gv e he).h])
 obtain ⟨t1, _⟩ := hs.turns (W.rg.length + 1) (W.rg.filter (fun e => !isd (W.c0 g false) e.2)) (S.t3 a) (W.c0 g false) [] (fun e he => (List.mem_filter.1 he).1) h0
 have e1 : trn (cm (noSd Cs) (fun s x => (S.s.k0 a).al s.1 x) (S.s.k0 a).ke) ((S.r.filter (fun e => !(S.s.k0 a).al (S.t3 a).1 e.2)).length + 1) (S.t3 a) (S.r.filter (fun e => !(S.s.k0 a).al (S.t3 a).1 e.2)) = trn (cm (noSd Cs) (fun s x => (S.s.k0 a).al s.1 x) (S.s.k0 a).ke) (W.rg.length + 1) (S.t3 a) ((W.rg.filter (fun e => !isd (W.c0 g false) e.2)).map (we m)) := by
  rw [ef]
  have hl := List.length_filter_le (fun e => !isd (W.c0 g false) e.2) W.rg
  exact trn_more _ _ _ _ _ (by rw [List.length_map]; omega) (by rw [List.length_map]; omega)
 have e2 : (S.s.k0 a).sS (S.t3 a) S.r = (trn (cm (noSd Cs) (fun s x => (S.s.k0 a).al s.1 x) (S.s.k0 a).ke) (W.rg.length + 1) (S.t3 a) ((W.rg.filter (fun e => !isd (W.c0 g false) e.2)).map (we m))).1 := by
  rw [<- e1]
  rfl
 have e3 : (S.s4 a, ((S.s.k0 a).sS (S.t3 a) S.r).2) = (S.s.k0 a).sS (S.t3 a) S.r := rfl
 rw [e3, e2]
 exact t1
end
end Go.Proofs.YtnalfnlmaallmaaGreat
