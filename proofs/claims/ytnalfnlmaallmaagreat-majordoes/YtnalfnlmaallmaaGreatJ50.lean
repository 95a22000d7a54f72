/- Joined: Rl12, Vr8, Ws21. -/
import Derived.Test.YtnalfnlmaallmaaGreatJ49
import Derived.Test.YtnalfnlmaallmaaGreatJ29
import Derived.Test.YtnalfnlmaallmaaGreatJ43
import Derived.Test.YtnalfnlmaallmaaGreatJ44
import Derived.Test.YtnalfnlmaallmaaGreatJ23
namespace Go.Proofs.YtnalfnlmaallmaaGreat
open Go.RowKit W Kp Stl
theorem mws_rs (k : Ck) : ∀ (l : List Int) (s : Cs), (l.foldl k.mw1 s).rs = s.rs
 | [], _ => rfl
 | x :: l, s => by
  rw [List.foldl_cons, mws_rs k l]
  unfold Ck.mw1
  split <;> rfl
theorem bes_rs (k : Ck) : ∀ (l : List Int) (s : Cs), (l.foldl k.be1 s).rs = s.rs
 | [], _ => rfl
 | x :: l, s => by
  rw [List.foldl_cons, bes_rs k l]
  rfl
theorem Etl.told {k : Ck} {s : Cs} (ci : CI k s) (fo : Fo k s) {q0 q : List En} (h : Etl k s q0 q) (p : Int -> Bool) : (q.filter (fun e => p e.1)).map (fun e => (k.nw s e.1, k.nw s e.2)) = (q0.filter (fun e => p e.1)).map (fun e => (k.nw s e.1, k.nw s e.2)) := by
 have e1 : q.map (fun e => (e.1, k.nw s e.2)) = q0.map (fun e => (e.1, k.nw s e.2)) := by
  refine list_getD (0, 0) (by rw [List.length_map, List.length_map, h.len]) (fun n hn => ?_)
  rw [List.length_map] at hn
  have hn0 : n < q0.length := by rw [<- h.len]; exact hn
  obtain ⟨h1, h2⟩ := h.eq n hn0
  rw [getD_mapr (fun e : En => (e.1, k.nw s e.2)) q n (0, 0) (0, 0) hn, getD_mapr (fun e : En => (e.1, k.nw s e.2)) q0 n (0, 0) (0, 0) hn0, h1, nw_ml ci fo h2]
 have key : ∀ l : List En, (l.filter (fun e => p e.1)).map (fun e => (k.nw s e.1, k.nw s e.2)) = ((l.map (fun e => (e.1, k.nw s e.2))).filter (fun e => p e.1)).map (fun e => (k.nw s e.1, e.2)) := fun l => by
  rw [filter_mapr (fun e : En => (e.1, k.nw s e.2)) (fun e => p e.1) (fun e => p e.1) l (fun _ _ => rfl), List.map_map]
  rfl
 rw [key q, key q0, e1]
section
variable {a : Wc} {S : Ww} {W : Wrs} {m : Nat -> Int} {Y G : List Int}
def msm (a : Wc) (S : Ww) (m : Nat -> Int) (G : List Int) (i : Nat) : Int := if m i ∈ G then m i else (S.s4 a).f (m i)
theorem Rl.scutd (hR : Rl a S W m Y G) (hb : Wbd a S.s) (hr : S.s.y <= a.O - S.s.g) {g : List Bool -> List Bool} (hg : Gok W.T W.wt g) :
    ∃ K, Cutd a S W m (W.c0 g false) (W.cR g false).1 (W.cR g false).2.1 ⟨⟨0, (S.s6 a).g, (S.s6 a).ws, [], (S.s6 a).rs⟩, (S.s.k0 a).sR (S.t3 a) S.r, (S.s.k0 a).sQ (S.t3 a) S.r⟩ (msm a S m G) (G ++ K) := by
  obtain ⟨D, hc, h0⟩ := Rs.start hR hb hr hg
  have hs := Rs.settled hR hb hc hg h0
  obtain ⟨K, li, we_⟩ := hs.dn.li
  have li : LI (S.s.k0 a) (S.s.z0 G) (S.s4 a) K D := li
  have we_ : WE (S.s.k0 a) (S.s.z0 G) (S.s4 a) K := we_
  obtain ⟨K', D', c⟩ := cut_rest hR.kv hb hr
  have eK : K' = K := by
    have l1 := (li.mi.full.lists (O := a.O) hb.n1 hb.y1 hb.o1 li.mi.ci.hg).2
    have l2 := (c.li.mi.full.lists (O := a.O) hb.n1 hb.y1 hb.o1 c.li.mi.ci.hg).2
    have l3 : G ++ K = G ++ K' := l1.symm.trans l2
    exact (List.append_cancel_left l3).symm
  subst eK
  refine ⟨K', ?_⟩
  have ci := li.mi.ci
  have fo := li.mi.fo
  have hT := hR.TY hb
  have hz : ∀ v, (v ∈ (S.s.k0 a).T \/ v ∈ (S.s.z0 G).G) -> ∀ i, 0 <= i -> i < pf ((S.s.k0 a).l0 (S.s.z0 G) v) -> aB ((S.s.k0 a).l0 (S.s.z0 G) (v + 1 + i)) = true -> aV ((S.s.k0 a).l0 (S.s.z0 G) (v + 1 + i)) ∈ (S.s.k0 a).T \/ aV ((S.s.k0 a).l0 (S.s.z0 G) (v + 1 + i)) ∈ (S.s.z0 G).G := fun v hv i i0 i1 ha => by
    rw [hT] at hv ⊢
    exact hR.kv.inv.fd v hv i i0 i1 ha
  have mrk : ∀ i, Alv W.T i -> ((S.s.k0 a).al (S.s4 a) (ew 3 (m i)) = true ↔ Ls_ (W.cR g false).1 i) := hs.mrk
  have ok := hs.ok
  -- where things are then
  have orL : ∀ i, Ls_ (W.cR g false).1 i -> (S.s.k0 a).or (S.s.z0 G) (S.s4 a) (m i) (msm a S m G i) := fun i hL => by
    have ha := ok.al i hL
    unfold msm
    by_cases d : m i ∈ G
    · rw [if_pos d]
      exact Or.inl ⟨rfl, d⟩
    · rw [if_neg d]
      have hy := (hR.mem ha).resolve_right d
      exact Or.inr ⟨by rw [hT]; exact hy, rfl, ((hR.alS hb _ ha).1 ((mrk i ha).2 hL)).resolve_left d⟩
  have hcl : Cls W.T W.wt (Ls_ (W.cR g false).1) := by
    have hc' := hR.rested hb hc hs.dn q0_in
    intro i hi hX v hv h3
    have toL : ∀ j, Ls_ (W.cR g false).1 j -> Alv W.T j /\ (S.s.k0 a).al (S.s4 a) (ew 3 (m j)) = true := fun j hj => ⟨ok.al j hj, (mrk j (ok.al j hj)).2 hj⟩
    obtain ⟨q1, q2⟩ := hc' i hi (toL i hX) v (hv.mono toL) h3
    exact (mrk _ q1).1 q2
  have pg34 : Pg (S.s.k0 a) (S.t3 a).1 (S.s4 a) := by
    obtain ⟨H3, l3, w3⟩ := h0.dn.li
    obtain ⟨_, _, _, j3, _⟩ := Ru.sS (k := S.s.k0 a) (z := S.s.z0 G) (D := D) (S.t3 a) S.r H3 l3 w3
    exact j3
  have hup : ∀ i, Ls_ (W.c0 g false) i -> Ls_ (W.cR g false).1 i := fun i hi => by
    have ha := h0.ok.al i hi
    exact (mrk i ha).1 (al_pg pg34 ((h0.mrk i ha).2 hi))
  have h2 : ∀ i, Ls_ (W.cR g false).1 i -> ((W.T.getD i t0).1 = 3 \/ (W.T.getD i t0).1 = 4 -> (W.T.getD i t0).2.1.length = 2) := fun i hi q => hR.two (ok.al i hi) (Or.inr q)
  have nws : ∀ v, Vo W.T v -> (v.1 = 3 -> Ls_ (W.cR g false).1 v.2.toNat) -> (S.s.k0 a).nw (S.s4 a) (wv m v) = wv (msm a S m G) v := fun v hv hL => by
    by_cases h3 : v.1 = 3
    · have ha := (hv.t h3).2
      rw [wv_t h3, wv_t h3]
      unfold msm
      by_cases d : m v.2.toNat ∈ G
      · rw [if_pos d]
        refine nw_no ?_
        rw [Bool.eq_false_iff]
        intro hy
        exact hR.disj hb ((hR.ygw hb ha).1 hy) d
      · rw [if_neg d]
        have hy := (hR.mem ha).resolve_right d
        have hf := ((hR.alS hb _ ha).1 ((mrk _ ha).2 (hL h3))).resolve_left d
        have e := (hR.word hb ha).2.2
        rw [nw_yes ((hR.ygw hb ha).2 hy) (by rw [e]; exact hf), e]
    · rw [wv_o h3, wv_o h3]
      refine nw_no ?_
      unfold Ck.yg
      rw [(at_enc _ _ (hv.o h3)).1]
      have : (v.1 == 3) = false := by simpa using h3
      rw [this]
      rfl
  have wej : ∀ e, Eno W.T e -> Ls_ (W.cR g false).1 e.1.toNat -> Ls_ (W.cR g false).1 e.2.toNat -> ((S.s.k0 a).nw (S.s4 a) (we m e).1, (S.s.k0 a).nw (S.s4 a) (we m e).2) = we (msm a S m G) e := fun e he h1 h2 => by
    have q1 := nws (3, e.1) ⟨fun _ => ⟨he.g0, he.g⟩, fun c => absurd rfl c⟩ (fun _ => h1)
    have q2 := nws (3, e.2) ⟨fun _ => ⟨he.h0, he.h⟩, fun c => absurd rfl c⟩ (fun _ => h2)
    rw [wv_t rfl, wv_t rfl] at q1 q2
    unfold we
    exact Prod.ext q1 q2
  have lo : ∀ {p : Int}, (a.N : Int) <= p -> ld a.N 0 (S.s6 a).g (S.s6 a).ws p = (S.s.k0 a).ld ((S.s.k0 a).be ((S.s.k0 a).mw (S.s4 a) (S.s4 a).wk) ((S.s.k0 a).mw (S.s4 a) (S.s4 a).wk).ep) p := fun hp => ld_old hp hb.y1
  refine
  { kv := ⟨c.done hR.kv hb, fun v _ i _ _ _ hy => (by cases hy)⟩, ok := ok, cl := hcl, up := hup, rr := hs.r, cc := hs.c
    rs := ?_, pl := fun i hL => li.mi.mem (orL i hL), inj := fun i j hi hj e => ?_, sur := fun v hv => ?_, hd := fun i hL => ?_, fd := fun i hL k hk => ?_, rg := ?_, wt := ?_ }
  · have ers : (S.s6 a).rs = (S.s4 a).rs := (bes_rs _ _ _).trans (mws_rs _ _ _)
    show (S.s6 a).rs = _
    rw [ers]
    refine list_getD 0 (by rw [List.length_map, hR.rl]; exact c.rl) (fun i hi => ?_)
    have hi : i < 12 := by rw [c.rl] at hi; exact hi
    obtain ⟨er, hv⟩ := hR.root hi
    have hm := c.rm i hi
    rw [er] at hm
    rw [ml_nw hm (c.ry i hi), getD_mapr (wv (msm a S m G)) W.rs i (0, 0) 0 (by rw [hR.rl]; exact hi)]
    exact nws _ hv (hs.r _ (getD_in (by rw [hR.rl]; exact hi)))
  · have o1 := orL i hi
    have o2 := orL j hj
    rw [<- e] at o2
    refine hR.inj i j (ok.al i hi) (ok.al j hj) ?_
    rcases o1 with ⟨a1, a2⟩ | ⟨a1, a2, a3⟩ <;> rcases o2 with ⟨b1, b2⟩ | ⟨b1, b2, b3⟩
    · exact a1.trans b1.symm
    · have q1 := li.mi.zh _ a2
      have q2 := li.mi.hlo _ (li.mi.fh _ b1 (by rw [b2]; exact b3))
      rw [b2] at q2
      omega
    · have q1 := li.mi.zh _ b2
      have q2 := li.mi.hlo _ (li.mi.fh _ a1 (by rw [a2]; exact a3))
      rw [a2] at q2
      omega
    · exact li.mi.inj _ a1 _ b1 (by rw [a2]; exact a3) (a2.trans b2.symm)
  · obtain ⟨x, o⟩ := li.mi.from hv
    have hm : x ∈ Y \/ x ∈ G := by
      have := or_mem o
      rw [hT] at this
      exact this
    obtain ⟨i, hi, rfl⟩ := hR.sur x hm
    have hL : Ls_ (W.cR g false).1 i := (mrk i hi).1 ((hR.alS hb _ hi).2 (by
      rcases o with ⟨a1, a2⟩ | ⟨a1, a2, a3⟩
      · exact Or.inl (by rw [a1]; exact a2)
      · exact Or.inr (by rw [a2]; exact a3)))
    refine ⟨i, hL, ?_⟩
    unfold msm
    rcases o with ⟨a1, a2⟩ | ⟨a1, a2, a3⟩
    · rw [if_pos (by rw [a1]; exact a2)]
      exact a1
    · rw [hT] at a1
      rw [if_neg (hR.disj hb a1)]
      exact a2
  · have o := orL i hL
    have hbd := li.mi.bd (li.mi.mem o)
    show ld a.N 0 (S.s6 a).g (S.s6 a).ws (msm a S m G i) = _
    rw [lo hbd.1]
    exact (head_end li we_ o).1
  · have o := orL i hL
    have ha := ok.al i hL
    obtain ⟨p1, p2, _⟩ := hR.parts ha
    have hbd := li.mi.bd (li.mi.mem o)
    have e0 : (S.s.k0 a).ld (S.s4 a) (msm a S m G i) = ld a.N S.s.y S.s.g S.s.ws (m i) := li.mi.hd _ _ o
    have i1 : (k : Int) < pf ((S.s.k0 a).l0 (S.s.z0 G) (m i)) := by
      show (k : Int) < pf (ld a.N S.s.y S.s.g S.s.ws (m i))
      rw [p2]
      omega
    have i2 : (k : Int) < pf ((S.s.k0 a).ld (S.s4 a) (msm a S m G i)) := by rw [e0, p2]; omega
    have x0 : ∀ n, n < (W.T.getD i t0).2.1.length -> (S.s.k0 a).l0 (S.s.z0 G) (m i + 1 + n) = wv m ((W.T.getD i t0).2.1.getD n (0, 0)) := fun n hn => hR.fd i ha n hn
    have hml := li.mi.fd (m i) _ o k (Int.natCast_nonneg k) i1
    rw [x0 k hk] at hml
    have hvo := hR.fv i ha _ (getD_in (x := ((0, 0) : Int × Int)) hk)
    show ld a.N 0 (S.s6 a).g (S.s6 a).ws (msm a S m G i + 1 + k) = _
    have hN : (a.N : Int) <= msm a S m G i := hbd.1
    rw [lo (by omega), words_end li we_ o (Int.natCast_nonneg k) i1, cuT_get hL (h2 i hL) hk]
    -- the key of a weak pair, of an ephemeron
    have lost : (W.T.getD i t0).1 = 3 \/ (W.T.getD i t0).1 = 4 -> (inS (W.cR g false).1 ((W.T.getD i t0).2.1.getD 0 (0, 0)) = false ↔ (S.s.k0 a).ls (S.s4 a) (wv m ((W.T.getD i t0).2.1.getD 0 (0, 0))) = true) := fun q => by
      have l2 := h2 i hL q
      have hko := hR.fv i ha _ (getD_in (x := ((0, 0) : Int × Int)) (show 0 < (W.T.getD i t0).2.1.length by omega))
      constructor
      · intro d
        obtain ⟨d1, d2⟩ := inS_no d
        have hka := (hko.t d1).2
        have : ¬ (S.s.k0 a).al (S.s4 a) (ew 3 (m ((W.T.getD i t0).2.1.getD 0 (0, 0)).2.toNat)) = true := fun w => by
          have := (mrk _ hka).1 w
          unfold Ls_ at this
          rw [d2] at this
          cases this
        rw [wv_t d1]
        unfold Ck.al at this
        simpa using this
      · intro d
        obtain ⟨k3, _⟩ := hR.ygv hb hko (ls_yg d)
        rw [wv_t k3] at d
        rw [inS_iff k3]
        cases w : (W.cR g false).1.getD ((W.T.getD i t0).2.1.getD 0 (0, 0)).2.toNat false
        · rfl
        · have := (mrk _ (hko.t k3).2).2 w
          unfold Ck.al at this
          rw [d] at this
          cases this
    -- where the key is lost
    have met : (W.T.getD i t0).1 = 3 \/ (W.T.getD i t0).1 = 4 -> (S.s.k0 a).ls (S.s4 a) (wv m ((W.T.getD i t0).2.1.getD 0 (0, 0))) = true -> (S.s.k0 a).ld (S.s4 a) (msm a S m G i + 1 + 0) = wv m ((W.T.getD i t0).2.1.getD 0 (0, 0)) /\ ((W.T.getD i t0).1 = 3 -> msm a S m G i ∈ (S.s4 a).wk) /\ ((W.T.getD i t0).1 = 4 -> msm a S m G i ∈ (S.s4 a).ep) := fun q d => by
      have l2 := h2 i hL q
      have j1 : (0 : Int) < pf ((S.s.k0 a).l0 (S.s.z0 G) (m i)) := by
        show (0 : Int) < pf (ld a.N S.s.y S.s.g S.s.ws (m i))
        rw [p2]
        omega
      have j2 : (0 : Int) < pf ((S.s.k0 a).ld (S.s4 a) (msm a S m G i)) := by rw [e0, p2]; omega
      have hm0 := li.mi.fd (m i) _ o 0 (Int.le_refl 0) j1
      have ex : (S.s.k0 a).l0 (S.s.z0 G) (m i + 1 + 0) = wv m ((W.T.getD i t0).2.1.getD 0 (0, 0)) := x0 0 (by omega)
      rw [ex] at hm0
      have el : (S.s.k0 a).ld (S.s4 a) (msm a S m G i + 1 + 0) = wv m ((W.T.getD i t0).2.1.getD 0 (0, 0)) := by
        rcases hm0 with w | ⟨_, w, _⟩
        · exact w
        · exact absurd (Ck.ls_yes d).2.2 w
      have f := li.fields hs.dn.he hz hc (li.mi.mem o) (Int.le_refl 0) j2 (by rw [el]; exact (Ck.ls_yes d).1)
      rw [e0, p1] at f
      refine ⟨el, fun k3 => ?_, fun k4 => ?_⟩
      · rcases f with w | ⟨_, _, w⟩ | ⟨w, _⟩
        · have := li.mi.noY w
          rw [el, ls_yg d] at this
          cases this
        · exact w
        · omega
      · rcases f with w | ⟨w, _, _⟩ | ⟨_, w⟩
        · have := li.mi.noY w
          rw [el, ls_yg d] at this
          cases this
        · omega
        · exact w
    by_cases hep : msm a S m G i ∈ (S.s4 a).ep
    · have k4 : (W.T.getD i t0).1 = 4 := by
        have := (we_.ep _ hep).2
        rw [e0, p1] at this
        exact this
      have l2 := h2 i hL (Or.inr k4)
      have dl := hs.dn.ep _ hep
      have dl : (S.s.k0 a).ls (S.s4 a) ((S.s.k0 a).ld (S.s4 a) (msm a S m G i + 1)) = true := dl
      have j1 : (0 : Int) < pf ((S.s.k0 a).l0 (S.s.z0 G) (m i)) := by
        show (0 : Int) < pf (ld a.N S.s.y S.s.g S.s.ws (m i))
        rw [p2]
        omega
      have x1 : msm a S m G i + 1 + 0 = msm a S m G i + 1 := by omega
      rw [<- x1] at dl
      have ea := li.mi.atY o (Int.le_refl 0) j1 (ls_yg dl)
      have ex : (S.s.k0 a).l0 (S.s.z0 G) (m i + 1 + 0) = wv m ((W.T.getD i t0).2.1.getD 0 (0, 0)) := x0 0 (by omega)
      rw [ea, ex] at dl
      rw [if_pos hep, if_pos ⟨⟨Or.inr k4, (lost (Or.inr k4)).2 dl⟩, by
        rcases (show k = 0 \/ k = 1 by omega) with e | e
        · exact Or.inl e
        · exact Or.inr ⟨k4, e⟩⟩, wv_gone]
    · rw [if_neg hep]
      by_cases hwk : msm a S m G i ∈ (S.s4 a).wk /\ (k : Int) = 0
      · obtain ⟨hw, hk0⟩ := hwk
        have k3 : (W.T.getD i t0).1 = 3 := by
          have := (we_.wk _ hw).2
          rw [e0, p1] at this
          exact this
        have ek : k = 0 := by omega
        subst ek
        rw [if_pos ⟨hw, rfl⟩]
        cases dl : inS (W.cR g false).1 ((W.T.getD i t0).2.1.getD 0 (0, 0))
        · have q := (lost (Or.inl k3)).1 dl
          have el := (met (Or.inl k3) q).1
          have el : (S.s.k0 a).ld (S.s4 a) (msm a S m G i + 1 + ((0 : Nat) : Int)) = wv m ((W.T.getD i t0).2.1.getD 0 (0, 0)) := el
          rw [if_pos ⟨⟨Or.inl k3, rfl⟩, Or.inl rfl⟩, wv_gone, el]
          unfold Ck.vw
          rw [if_pos q]
        · rw [if_neg (fun q => by have := q.1.2; simp at this)]
          have nl : (S.s.k0 a).ls (S.s4 a) ((S.s.k0 a).ld (S.s4 a) (msm a S m G i + 1 + ((0 : Nat) : Int))) = false := by
            rw [Bool.eq_false_iff]
            intro w
            have ea := li.mi.atY o (Int.natCast_nonneg 0) i1 (ls_yg w)
            rw [ea, x0 0 hk] at w
            rw [(lost (Or.inl k3)).2 w] at dl
            cases dl
          unfold Ck.vw
          rw [nl, if_neg (by simp), nw_ml ci fo hml]
          refine nws _ hvo (fun h3 => ?_)
          exact inS_yes dl h3
      · rw [if_neg hwk]
        have ny : (S.s.k0 a).yg ((S.s.k0 a).ld (S.s4 a) (msm a S m G i + 1 + k)) = false := by
          cases hab : aB ((S.s.k0 a).ld (S.s4 a) (msm a S m G i + 1 + k))
          · unfold Ck.yg
            rw [hab]
            rfl
          · rcases li.fields hs.dn.he hz hc (li.mi.mem o) (Int.natCast_nonneg k) i2 hab with w | ⟨_, w1, w2⟩ | ⟨_, w⟩
            · exact li.mi.noY w
            · exact absurd ⟨w2, w1⟩ hwk
            · exact absurd w hep
        have nb : ¬ ((((W.T.getD i t0).1 = 3 \/ (W.T.getD i t0).1 = 4) /\ inS (W.cR g false).1 ((W.T.getD i t0).2.1.getD 0 (0, 0)) = false) /\ (k = 0 \/ ((W.T.getD i t0).1 = 4 /\ k = 1))) := by
          rintro ⟨⟨q1, q2⟩, q3⟩
          obtain ⟨_, m3, m4⟩ := met q1 ((lost q1).1 q2)
          rcases q1 with k3 | k4
          · rcases q3 with e | ⟨e, _⟩
            · exact hwk ⟨m3 k3, by omega⟩
            · omega
          · exact hep (m4 k4)
        rw [if_neg nb, ml_nw hml ny]
        refine nws _ hvo (fun h3 => ?_)
        have hl := hR.led ok hcl hL hk
        rw [cuT_get hL (h2 i hL) hk, if_neg nb] at hl
        exact hl h3
  · show (((S.r.filter (fun e => (S.s.k0 a).al (S.t3 a).1 e.2)).filter (fun e => (S.s.k0 a).al (S.s4 a) e.1)).map (fun e => ((S.s.k0 a).nw (S.s4 a) e.1, (S.s.k0 a).nw (S.s4 a) e.2))) = _
    rw [hR.rg, List.filter_filter]
    rw [filter_mapr (we m) _ (fun e => isd (W.c0 g false) e.2 && isd (W.cR g false).1 e.1) W.rg (fun e he => by
      have q1 : (S.s.k0 a).al (S.t3 a).1 (we m e).2 = isd (W.c0 g false) e.2 := h0.is (hR.gv e he).h
      have q2 : (S.s.k0 a).al (S.s4 a) (we m e).1 = isd (W.cR g false).1 e.1 := hs.is (hR.gv e he).g
      rw [q1, q2, Bool.and_comm]), List.map_map]
    refine List.map_congr_left (fun e he => ?_)
    obtain ⟨z1, z2⟩ := List.mem_filter.1 he
    rw [Bool.and_eq_true] at z2
    exact wej e (hR.gv e z1) z2.2 (hup _ z2.1)
  · show ((((S.s.k0 a).sS (S.t3 a) S.r).2.filter (fun e => (S.s.k0 a).al (S.s4 a) e.1)).map (fun e => ((S.s.k0 a).nw (S.s4 a) e.1, (S.s.k0 a).nw (S.s4 a) e.2))) = _
    have hq : Etl (S.s.k0 a) (S.s4 a) ((W.wt ++ (W.cR g false).2.1).map (we m)) ((S.s.k0 a).sS (S.t3 a) S.r).2 := hs.dn.q
    rw [hq.told ci fo ((S.s.k0 a).al (S.s4 a))]
    have hE : ∀ e ∈ W.wt ++ (W.cR g false).2.1, Eno W.T e := fun e he => by
      rcases List.mem_append.1 he with d | d
      · exact hR.wo e d
      · exact hR.gv e (hs.c e d).1
    rw [filter_mapr (we m) _ (fun e => isd (W.cR g false).1 e.1) _ (fun e he => hs.is (hE e he).g), List.map_map]
    refine List.map_congr_left (fun e he => ?_)
    obtain ⟨z1, z2⟩ := List.mem_filter.1 he
    have h5 := hE e z1
    refine wej e h5 z2 ?_
    rcases List.mem_append.1 z1 with d | d
    · exact hcl _ h5.g.1 z2 (3, e.2) (Or.inr (Or.inr (Or.inr ⟨h5.k, e, d, by have := h5.g0; omega, rfl⟩))) rfl
    · exact (hs.c e d).2
theorem Rl.sfull (hR : Rl a S W m Y G) (hb : Wbd a S.s) {g : List Bool -> List Bool} (hg : Gok W.T W.wt g) : S.full a = W.cF g a.O false := by
 have hus := hR.us hb
 have hg1 := hb.g1
 unfold Ww.full Wrs.cF
 rw [hus]
 dsimp only
 by_cases c : a.O - S.s.g < S.s.y
 ·rw [decide_eq_true c, decide_eq_true (show (a.O : Int) - (S.s.g : Int) < (S.s.y : Int) by omega)]
  rfl
 ·rw [decide_eq_false c, decide_eq_false (show ¬ (a.O : Int) - (S.s.g : Int) < (S.s.y : Int) by omega)]
  obtain ⟨D, hc, h0⟩ := Rs.start hR hb (by omega) hg
  have hs := Rs.settled hR hb hc hg h0
  have e1 : sumN (fun i => (W.cR g false).1.getD i false) (szT W.T) W.T.length <= sumN (fun i => yB W.T i || oB W.T i) (szT W.T) W.T.length := sumN_le _ (fun i hi hp => by
   have ha := hs.ok.al i hp
   unfold yB oB
   rw [ha.2]
   cases (W.T.getD i t0).2.2.1 <;> rfl)
  have e2 := sumN_add (P := yB W.T) (Q := oB W.T) (R := fun i => yB W.T i || oB W.T i) (z := szT W.T) W.T.length (fun i _ => ⟨rfl, by
   unfold yB oB
   cases (W.T.getD i t0).2.2.2 <;> cases (W.T.getD i t0).2.2.1 <;> rfl⟩)
  rw [usd_sum] at hus
  have u1 := congrArg Prod.fst hus
  have u2 := congrArg Prod.snd hus
  dsimp only at u1 u2
  have e3 := cwn_sum W.T (W.cR g false).1 W.T.length
  rw [decide_eq_false (by rw [e3]; omega)]
  rfl
theorem Rl.scode (hR : Rl a S W m Y G) (hb : Wbd a S.s) {g : List Bool -> List Bool} (hg : Gok W.T W.wt g) : S.code a = W.ccd g a.O false := by
 unfold Ww.code Wrs.ccd
 rw [hR.sfull hb hg]
theorem Rl.cut (hR : Rl a S W m Y G) (hb : Wbd a S.s) {g : List Bool -> List Bool} (hg : Gok W.T W.wt g) : ∃ m' Y' G', Rl a (S.cut a) (W.cut g a.O false) m' Y' G' := by
 unfold Wrs.cut
 rw [<- hR.sfull hb hg]
 cases hf : S.full a
 ·rw [if_neg (by simp)]
  have hr : S.s.y <= a.O - S.s.g := by
   unfold Ww.full at hf
   have := of_decide_eq_false hf
   omega
  obtain ⟨K, c⟩ := hR.scutd hb hr hg
  unfold Ww.cut
  rw [hf, if_neg (by simp)]
  exact ⟨_, _, _, c.done hR⟩
 ·rw [if_pos rfl]
  refine ⟨m, Y, G, ?_⟩
  unfold Ww.cut
  rw [hf, if_pos rfl]
  exact hR
end
end Go.Proofs.YtnalfnlmaallmaaGreat

namespace Go.Proofs.YtnalfnlmaallmaaGreat
open Go.RowKit W Kp Stl
section
variable {a : Wc} {S : Ww} {W : Wrs} {m : Nat -> Int} {Y G : List Int}
theorem Vo.vq {T : List Tw1} {v : Int × Int} (hv : Vo T v) (hT : T.length <= 10000) : Vq T v := by
 refine ⟨?_, hv.t⟩
 by_cases h3 : v.1 = 3
 ·obtain ⟨h0, h1⟩ := hv.t h3
  have := h1.1
  rw [h3]
  exact vc3_in _ h0 (by omega)
 ·exact hv.o h3
theorem Rl.wvw (h : Rl a S W m Y G) (hT : W.T.length <= 10000) (hw : W.wt.length <= 10000) : Wvw W.T W.wt :=
 ⟨fun i hi v hv => (h.fv i hi v hv).vq hT, fun e he => ⟨(h.wo e he).g0, (h.wo e he).h0, (h.wo e he).h⟩, h.tl, hT, hw⟩
abbrev aR (W : Wrs) (x : Int) : Prop := 0 <= x /\ Alv W.T x.toNat
abbrev aF (m : Nat -> Int) (x : Int) : Int := m x.toNat
theorem Rl.wmv (h : Rl a S W m Y G) (hb : Wbd a S.s) (hT : W.T.length <= 10000) {v : Int × Int} (hv : Vo W.T v) : Wmv (aR W) (aF m) (wI v) (wv m v) := by
 obtain ⟨d1, d2⟩ := wI_dec (hv.vq hT)
 obtain ⟨_, d3, d4⟩ := h.dec hb hv
 unfold Wmv
 rw [d1, d2, d3, d4]
 by_cases h3 : v.1 = 3
 ·rw [if_pos h3]
  exact Or.inl ⟨h3, h3, hv.t h3, rfl⟩
 ·rw [if_neg h3]
  exact Or.inr ⟨h3, rfl, rfl⟩
theorem Rl.bi (h : Rl a S W m Y G) (hb : Wbd a S.s) (hT : W.T.length <= 10000) : Bi (aR W) (aF m) (tI W.T.length) (kdW W.T) (shW W.T W.wt) (Y ++ G) (fun v => pk (ld a.N S.s.y S.s.g S.s.ws v)) (shL a.N S.s.y S.s.g S.s.ws S.q) := by
 refine ⟨fun x hx => tI_mem.2 ⟨hx.1, by have := hx.2.1; have := hx.1; omega⟩, fun x hx => List.mem_append.2 (h.mem hx.2), fun x y hx hy e => ?_, fun x hx => ?_, fun x hx => ?_⟩
 ·have := h.inj _ _ hx.2 hy.2 e
  have := hx.1
  have := hy.1
  omega
 ·exact (h.parts hx.2).1
 ·obtain ⟨x0, hi⟩ := hx
  obtain ⟨i, rfl⟩ := Int.eq_ofNat_of_zero_le x0
  rw [Int.toNat_natCast] at hi
  obtain ⟨p1, p2, _⟩ := h.parts hi
  have hv := h.mem hi
  show Wls _ (shW W.T W.wt (i : Int)) (shL a.N S.s.y S.s.g S.s.ws S.q (m ((i : Int)).toNat))
  unfold shW
  rw [Int.toNat_natCast]
  by_cases h5 : (W.T.getD i t0).1 = 5
  ·have hl : (W.T.getD i t0).2.1 = [] := by
    have h1 := (h.hd i hi).1
    rw [h5] at h1
    simp [hc] at h1
    exact h1
   rw [if_pos h5, hl, List.map_nil, List.nil_append]
   unfold shL
   rw [if_pos (by rw [p1]; exact h5)]
   unfold atL
   rw [h.wt, filter_mapr (we m) (fun e => e.1 == ew 3 (m i)) (fun e => e.1 == (i : Int)) W.wt (fun e he => ?_), List.map_map]
   ·have key : ∀ l : List En, (∀ e ∈ l, Eno W.T e) -> Wls (Wmv (aR W) (aF m)) (l.map (fun e => ew 3 e.2)) (l.map ((·.2) ∘ we m)) := by
     intro l
     induction l with
     | nil => intro _; trivial
     | cons e l ih =>
      intro hl
      have he := hl e (by simp)
      refine ⟨?_, ih (fun x hx => hl x (List.mem_cons_of_mem _ hx))⟩
      have := h.wmv hb hT (v := (3, e.2)) ⟨fun _ => ⟨he.h0, he.h⟩, fun c => absurd rfl c⟩
      rw [wv_t rfl] at this
      exact this
    exact key _ (fun e he => h.wo e (List.mem_filter.1 he).1)
   ·have he := h.wo e he
    show (ew 3 (m e.1.toNat) == ew 3 (m i)) = (e.1 == (i : Int))
    by_cases e1 : e.1 = (i : Int)
    ·rw [e1, Int.toNat_natCast]
     simp
    ·have n1 : ew 3 (m e.1.toNat) ≠ ew 3 (m i) := fun c => by
      have c1 := (h.word hb he.g).2.2
      have c2 := (h.word hb hi).2.2
      rw [c, c2] at c1
      have := h.inj _ _ hi he.g c1
      have := he.g0
      omega
     rw [beq_false_of_ne n1, beq_false_of_ne e1]
  ·rw [if_neg h5, List.append_nil]
   have n5 : pk (ld a.N S.s.y S.s.g S.s.ws (m i)) ≠ 5 := by rw [p1]; exact h5
   have l1 := shL_n h.kv.inv.full hb.y1 S.q hv n5
   rw [p2] at l1
   have l1 : (shL a.N S.s.y S.s.g S.s.ws S.q (m i)).length = (W.T.getD i t0).2.1.length := by omega
   refine Wls.of (by rw [List.length_map]; exact l1.symm) (fun k hk => ?_)
   rw [List.length_map] at hk
   rw [(shL_get h.kv.inv.full hb.y1 S.q hv n5).1 k (by omega), getD_mapr wI _ k (0, 0) 0 hk, h.fd i hi k hk]
   exact h.wmv hb hT (h.fv i hi _ (getD_in hk))
theorem Rl.view (h : Rl a S W m Y G) (hb : Wbd a S.s) (hT : W.T.length <= 10000) : (vwL a.N S.s.y S.s.g S.s.ws S.q S.s.rs).1 = (Vr4.vwW W.T W.wt W.rs).1 /\ (vwL a.N S.s.y S.s.g S.s.ws S.q S.s.rs).2.2 = (Vr4.vwW W.T W.wt W.rs).2.2 := by
 obtain ⟨e1, e2⟩ := h.kv.inv.full.lists (O := a.O) hb.n1 hb.y1 hb.o1 hb.g1
 have hl : Wls (Wmv (aR W) (aF m)) (W.rs.map wI) S.s.rs := by
  rw [h.rs]
  refine Wls.of (by simp) (fun i hi => ?_)
  rw [List.length_map] at hi
  rw [getD_mapr wI _ i (0, 0) 0 hi, getD_mapr (wv m) _ i (0, 0) 0 hi]
  exact h.wmv hb hT (h.rv _ (getD_in hi))
 unfold vwL Vr4.vwW
 rw [e1, e2]
 obtain ⟨b1, b2, _⟩ := walk_bi (h.bi hb hT) hl (n := W.T.length) (n' := (Y ++ G).length) (by rw [tI_len]; exact Nat.le_refl _) (Nat.le_refl _)
 exact ⟨b1.symm, b2⟩
end
end Go.Proofs.YtnalfnlmaallmaaGreat

namespace Go.Proofs.YtnalfnlmaallmaaGreat
open Go.RowKit W Kp Stl
section
variable {c : Bc} {F : Nat -> Prop} {S : Ww × Wrs} {w : World}
end
end Go.Proofs.YtnalfnlmaallmaaGreat
