/- Joined: Gi2, Gb1, Gk1, Vb1. -/
import Derived.Test.YtjhnhbeimjnloaaJ06
import Derived.Test.YtjhnhbeimjnloaaJ00
/- What holds of the document's world, from step to step: lists alone. -/
namespace Go.Proofs.Ytjhnhbeimjnloaa
open Go.RowKit W Kp Stl

def Evw (T : List Tw1) (e : En) : Prop := (0 ≤ e.1 ∧ Alv T e.1.toNat) ∧ (T.getD e.1.toNat t0).1 = 5 ∧ 0 ≤ e.2 ∧ Alv T e.2.toNat
structure Gi (s : Wrs) (j : Nat) : Prop where
  kd : ∀ i, Alv s.T i → 1 ≤ (s.T.getD i t0).1 ∧ (s.T.getD i t0).1 ≤ 5
  fl : ∀ i, Alv s.T i → (s.T.getD i t0).1 = 3 ∨ (s.T.getD i t0).1 = 4 → (s.T.getD i t0).2.1.length = 2
  g5 : ∀ i, Alv s.T i → (s.T.getD i t0).1 = 5 → (s.T.getD i t0).2.1 = []
  fv : ∀ i, Alv s.T i → ∀ v ∈ (s.T.getD i t0).2.1, Vq s.T v
  tl : ∀ i, (s.T.getD i t0).2.1.length ≤ 12
  rv : ∀ v ∈ s.rs, Vq s.T v
  rl : s.rs.length = 12
  gv : ∀ e ∈ s.rg, Evw s.T e
  wv : ∀ e ∈ s.wt, Evw s.T e
  en : s.rg.length + s.wt.length ≤ 24
  tj : s.T.length ≤ j
theorem Gi.more {s : Wrs} {j k : Nat} (h : Gi s j) (hk : j ≤ k) : Gi s k := { h with tj := Nat.le_trans h.tj hk }
theorem Gi.iv {s : Wrs} {j : Nat} (h : Gi s j) : Wiv s.T s.wt := ⟨h.fl, fun i hi v hv => (h.fv i hi v hv).2, fun e he => (h.wv e he).2.2, h.tl⟩
theorem Gi.wcv {s : Wrs} {j : Nat} (h : Gi s j) (hj : j ≤ 10000) : Wcv s :=
  ⟨h.iv, fun v hv => (h.rv v hv).2, fun e he => ⟨(h.gv e he).1, (h.gv e he).2.2⟩, fun e he => (h.wv e he).1, Nat.le_trans h.tj hj, by have := h.en; omega, by have := h.en; omega⟩
theorem Gi.wvw {s : Wrs} {j : Nat} (h : Gi s j) (hj : j ≤ 10000) : Wvw s.T s.wt :=
  ⟨h.fv, fun e he => ⟨(h.wv e he).1.1, (h.wv e he).2.2⟩, h.tl, Nat.le_trans h.tj hj, by have := h.en; omega⟩
theorem Vq.mono {T T' : List Tw1} {v : Int × Int} (h : Vq T v) (hm : v.1 = 3 → Alv T v.2.toNat → Alv T' v.2.toNat) : Vq T' v := ⟨h.1, fun h3 => ⟨(h.2 h3).1, hm h3 (h.2 h3).2⟩⟩
theorem vq_nil (T : List Tw1) : Vq T (0, 0) := ⟨by decide, fun h => by cases h⟩
theorem vq_gone (T : List Tw1) : Vq T (2, 0) := ⟨by decide, fun h => by cases h⟩
theorem Gi.rt {s : Wrs} {j : Nat} (h : Gi s j) (i : Nat) : Vq s.T (s.rs.getD i (0, 0)) := by
  by_cases c : i < s.rs.length
  · exact h.rv _ (getD_in c)
  · rw [List.getD_eq_getElem?_getD, List.getElem?_eq_none (by omega)]
    exact vq_nil _

theorem Gi.cut {s : Wrs} {j : Nat} (h : Gi s j) (hj : j ≤ 10000) {g : List Bool → List Bool} (hg : Gok s.T s.wt g) (grow : Int) (mj : Bool) : Gi (s.cut g grow mj) j := by
  unfold Wrs.cut
  split
  · exact h
  have hw := h.wcv hj
  have hC := cR_ci hw hg mj
  have hl := cR_len s g mj
  generalize hL : (s.cR g mj).1 = L at *
  generalize hCc : (s.cR g mj).2.1 = C at *
  have av := cu_alv hC.ok
  have gt : ∀ i, Ls_ L i → (cuL L s.T s.T.length).getD i t0 = cuT L i (s.T.getD i t0) := fun i hi => by rw [cuL_at, if_pos (hC.ok.al i hi).1]
  have tr : ∀ v, Vq s.T v → (v.1 = 3 → Ls_ L v.2.toNat) → Vq (cuL L s.T s.T.length) v := fun v hv hi => hv.mono (fun h3 _ => (av _).2 (hi h3))
  have ev : ∀ e, Evw s.T e → Ls_ L e.1.toNat → Ls_ L e.2.toNat → Evw (cuL L s.T s.T.length) e := fun e he h1 h2 => ⟨⟨he.1.1, (av _).2 h1⟩, by rw [gt _ h1, cuT_k]; exact he.2.1, he.2.2.1, (av _).2 h2⟩
  refine { kd := fun i hi => ?_, fl := fun i hi hk => ?_, g5 := fun i hi hk => ?_, fv := fun i hi v hv => ?_, tl := fun i => ?_, rv := fun v hv => ?_, rl := h.rl, gv := fun e he => ?_, wv := fun e he => ?_, en := ?_, tj := ?_ }
  · have hi := (av i).1 hi
    dsimp only
    rw [gt i hi, cuT_k]
    exact h.kd i (hC.ok.al i hi)
  · have hi := (av i).1 hi
    dsimp only at hk ⊢
    rw [gt i hi, cuT_k] at hk
    rw [gt i hi]
    have h2 := h.fl i (hC.ok.al i hi) hk
    rcases cuT_f (L := L) (i := i) (t := s.T.getD i t0) hi with ⟨_, _, e⟩ | ⟨_, _, e⟩ | ⟨_, e⟩ <;> rw [e]
    · rfl
    · rfl
    · exact h2
  · have hi := (av i).1 hi
    dsimp only at hk ⊢
    rw [gt i hi, cuT_k] at hk
    rw [gt i hi]
    rcases cuT_f (L := L) (i := i) (t := s.T.getD i t0) hi with ⟨d, _, _⟩ | ⟨d, _, _⟩ | ⟨_, e⟩
    · omega
    · omega
    · rw [e]
      exact h.g5 i (hC.ok.al i hi) hk
  · have hi := (av i).1 hi
    have ha := hC.ok.al i hi
    dsimp only at hv ⊢
    rw [gt i hi] at hv
    have cl : ∀ v, Kps s.T s.wt (Ls_ L) i v → v.1 = 3 → Ls_ L v.2.toNat := fun v hk h3 => hC.cl i ha.1 hi v hk h3
    rcases cuT_f (L := L) (i := i) (t := s.T.getD i t0) hi with ⟨_, _, e⟩ | ⟨k3, _, e⟩ | ⟨hin, e⟩
    · rw [e] at hv
      have : v = (2, 0) := by simpa using hv
      rw [this]
      exact vq_gone _
    · rw [e] at hv
      have : v = (2, 0) ∨ v = (s.T.getD i t0).2.1.getD 1 (0, 0) := by simpa using hv
      rcases this with rfl | rfl
      · exact vq_gone _
      · exact tr _ (h.fv i ha _ (getD_in (by rw [h.fl i ha (Or.inl k3)]; decide))) (fun h3 => cl _ (Or.inr (Or.inl ⟨k3, rfl⟩)) h3)
    · rw [e] at hv
      refine tr v (h.fv i ha v hv) (fun h3 => ?_)
      have hk := h.kd i ha
      by_cases c12 : (s.T.getD i t0).1 = 1 ∨ (s.T.getD i t0).1 = 2
      · exact cl v (Or.inl ⟨c12, hv⟩) h3
      · by_cases c5 : (s.T.getD i t0).1 = 5
        · rw [h.g5 i ha c5] at hv
          cases hv
        · have c34 : (s.T.getD i t0).1 = 3 ∨ (s.T.getD i t0).1 = 4 := by omega
          have h0 := inS_yes (hin c34)
          have h2 := h.fl i ha c34
          obtain ⟨q, hq, eq⟩ := List.mem_iff_getElem.1 hv
          rw [h2] at hq
          have ed : (s.T.getD i t0).2.1.getD q (0, 0) = v := by rw [List.getD_eq_getElem?_getD, List.getElem?_eq_getElem (by omega), eq]; rfl
          match q, hq, ed with
          | 0, _, ed =>
            rw [ed] at h0
            exact h0 h3
          | 1, _, ed =>
            rcases c34 with c | c
            · exact cl v (Or.inr (Or.inl ⟨c, ed.symm⟩)) h3
            · exact cl v (Or.inr (Or.inr (Or.inl ⟨c, h0, ed.symm⟩))) h3
          | q + 2, hq, _ => omega
  · dsimp only
    rw [cuL_at]
    split
    · cases c : L.getD i false
      · rw [cuT_n c]
        simp
      · rcases cuT_f (L := L) (i := i) (t := s.T.getD i t0) c with ⟨_, _, e⟩ | ⟨_, _, e⟩ | ⟨_, e⟩ <;> rw [e]
        · simp
        · simp
        · exact h.tl i
    · simp [t0]
  · exact tr v (h.rv v hv) (fun h3 => hC.up _ (c0_root hw hg mj hv h3))
  · obtain ⟨h1, h2⟩ := List.mem_filter.1 he
    rw [Bool.and_eq_true] at h2
    exact ev e (h.gv e h1) h2.2 (hC.up _ h2.1)
  · obtain ⟨h1, h2⟩ := List.mem_filter.1 he
    rcases List.mem_append.1 h1 with h1 | h1
    · have hv := h.wv e h1
      exact ev e hv h2 (hC.cl e.1.toNat hv.1.2.1 h2 (3, e.2) (Or.inr (Or.inr (Or.inr ⟨hv.2.1, e, h1, by have := hv.1.1; omega, rfl⟩))) rfl)
    · obtain ⟨q1, q2, q3⟩ := hC.cC e h1
      exact ev e (h.gv e q1) q2 q3
  · dsimp only
    have l1 : (s.rg.filter (fun e => isd (s.c0 g mj) e.2 && isd L e.1)).length + (s.rg.filter (fun e => !isd (s.c0 g mj) e.2)).length ≤ s.rg.length := by
      have key : ∀ l : List En, (l.filter (fun e => isd (s.c0 g mj) e.2 && isd L e.1)).length + (l.filter (fun e => !isd (s.c0 g mj) e.2)).length ≤ l.length := fun l => by
        induction l with
        | nil => simp
        | cons x l ih =>
          cases c : isd (s.c0 g mj) x.2
          · rw [List.filter_cons_of_neg (by rw [c]; simp), List.filter_cons_of_pos (by rw [c]; rfl)]
            simp only [List.length_cons]
            omega
          · rw [List.filter_cons_of_neg (p := fun e : En => !isd (s.c0 g mj) e.2) (by rw [c]; simp)]
            have : (List.filter (fun e : En => isd (s.c0 g mj) e.2 && isd L e.1) (x :: l)).length ≤ (List.filter (fun e : En => isd (s.c0 g mj) e.2 && isd L e.1) l).length + 1 := by
              rw [List.filter_cons]
              split
              · simp
              · omega
            simp only [List.length_cons]
            omega
      exact key s.rg
    have l2 := List.length_filter_le (fun e : En => isd L e.1) (s.wt ++ C)
    rw [List.length_append] at l2
    have := h.en
    omega
  · dsimp only
    rw [cuL_len]
    exact h.tj

end Go.Proofs.Ytjhnhbeimjnloaa

/- GroveBreaks: the least set over the nodes of a view, pass by pass: lists alone. -/
namespace Go.Proofs.Ytjhnhbeimjnloaa
open Go.RowKit W Kp Stl

def nT (ns : List (Int × List (Int × Int))) : List Tw1 := ns.map (fun x => (x.1, x.2, false, false))
theorem nT_len (ns : List (Int × List (Int × Int))) : (nT ns).length = ns.length := by simp [nT]
theorem nT_at (ns : List (Int × List (Int × Int))) (i : Nat) (hi : i < ns.length) : (nT ns).getD i t0 = ((ns.getD i (0, [])).1, (ns.getD i (0, [])).2, false, false) := by
  rw [List.getD_eq_getElem?_getD, nT, List.getElem?_map, List.getElem?_eq_getElem hi, List.getD_eq_getElem?_getD, List.getElem?_eq_getElem hi]
  rfl
theorem nT_alv (ns : List (Int × List (Int × Int))) (i : Nat) : Alv (nT ns) i ↔ i < ns.length := by
  unfold Alv
  rw [nT_len]
  exact ⟨fun h => h.1, fun h => ⟨h, by rw [nT_at ns i h]⟩⟩

structure Nvw (V : List (Int × Int)) (ns : List (Int × List (Int × Int))) : Prop where
  rt : ∀ v ∈ V, Vq (nT ns) v
  fd : ∀ i, i < ns.length → ∀ v ∈ (ns.getD i (0, [])).2, Vq (nT ns) v
  kd : ∀ i, i < ns.length → 1 ≤ (ns.getD i (0, [])).1 ∧ (ns.getD i (0, [])).1 ≤ 5
  f2 : ∀ i, i < ns.length → (ns.getD i (0, [])).1 = 3 ∨ (ns.getD i (0, [])).1 = 4 → (ns.getD i (0, [])).2.length = 2
  f5 : ∀ i, i < ns.length → (ns.getD i (0, [])).1 = 5 → (ns.getD i (0, [])).2 = []
  tl : ∀ i, i < ns.length → (ns.getD i (0, [])).2.length ≤ 12
  nl : ns.length ≤ 10000
  vl : V.length = 12
section
variable {V : List (Int × Int)} {ns : List (Int × List (Int × Int))}
theorem vq_lt {v : Int × Int} (h : Vq (nT ns) v) : v.1 = 3 → 0 ≤ v.2 ∧ v.2 < ns.length := fun h3 => by
  have := h.lt h3
  rwa [nT_len] at this
end

structure Pl (T : List Tw1) (V : List (Int × Int)) (P0 L : List Bool) (more : Bool) (r i : Nat) : Prop where
  len : L.length = T.length
  lt : ∀ X, Cls T [] X → (∀ v ∈ V, v.1 = 3 → X v.2.toNat) → ∀ k, Ls_ L k → X k
  no : more = false → L = P0 ∧ (∀ k, k < r → k < V.length → inS L (V.getD k (0, 0)) = true) ∧ ∀ k, k < i → k < T.length → Ls_ L k → ∀ v, Kps T [] (Ls_ L) k v → v.1 = 3 → Ls_ L v.2.toNat
  yes : more = true → cnt L < cnt P0
section
variable {T : List Tw1} {V : List (Int × Int)} {P0 L : List Bool} {more : Bool} {r i : Nat}
theorem Pl.put (h : Pl T V P0 L more r i) {v : Int × Int} (hk : ∀ X, Cls T [] X → (∀ v ∈ V, v.1 = 3 → X v.2.toNat) → (∀ k, Ls_ L k → X k) → v.1 = 3 → X v.2.toNat) (hv : v.1 = 3 → v.2.toNat < L.length) : Pl T V P0 (adS L v) (!inS L v || more) r i := by
  refine ⟨(adS_len L v).trans h.len, fun X hX hr => adS_of (h.lt X hX hr) (hk X hX hr (h.lt X hX hr)), fun hm => ?_, fun hm => ?_⟩
  · rw [Bool.or_eq_false_iff] at hm
    obtain ⟨m1, m2⟩ := hm
    have m1 : inS L v = true := by simpa using m1
    have e : adS L v = L := by unfold adS; rw [if_pos m1]
    rw [e]
    exact h.no m2
  · cases hs : inS L v
    · have h1 := adS_cnt hv hs
      have h2 : cnt L ≤ cnt P0 := by
        cases more
        · rw [(h.no rfl).1]
          exact Nat.le_refl _
        · exact Nat.le_of_lt (h.yes rfl)
      omega
    · have e : adS L v = L := by unfold adS; rw [if_pos hs]
      rw [e]
      rw [hs] at hm
      exact h.yes (by simpa using hm)
theorem adS_inS {L : List Bool} {v : Int × Int} (h : inS L v = true) : inS (adS L v) v = true := by
  unfold adS
  rw [if_pos h]
  exact h
theorem Pl.root (h : Pl T V P0 L more r i) (hr : r < V.length) (hv : ∀ v ∈ V, v.1 = 3 → v.2.toNat < T.length) : Pl T V P0 (adS L (V.getD r (0, 0))) (!inS L (V.getD r (0, 0)) || more) (r + 1) i := by
  have hm : V.getD r (0, 0) ∈ V := getD_in hr
  have h1 := h.put (v := V.getD r (0, 0)) (fun _ _ hR _ => hR _ hm) (by rw [h.len]; exact hv _ hm)
  refine ⟨h1.len, h1.lt, fun hq => ⟨(h1.no hq).1, fun k hk hkl => ?_, (h1.no hq).2.2⟩, h1.yes⟩
  by_cases c : k < r
  · exact (h1.no hq).2.1 k c hkl
  · obtain rfl : k = r := by omega
    rw [Bool.or_eq_false_iff] at hq
    exact adS_inS (by simpa using hq.1)
theorem Pl.add (h : Pl T V P0 L more r i) (hi : i < T.length) (hL : Ls_ L i) {v : Int × Int} (hk : Kps T [] (Ls_ L) i v) (hv : v.1 = 3 → v.2.toNat < L.length) : Pl T V P0 (adS L v) (!inS L v || more) r i :=
  h.put (fun _ hX _ hs h3 => hX i hi (hs i hL) v (hk.mono hs) h3) hv
theorem Pl.next (h : Pl T V P0 L more r i) (hn : more = false → i < T.length → Ls_ L i → ∀ v, Kps T [] (Ls_ L) i v → v.1 = 3 → Ls_ L v.2.toNat) : Pl T V P0 L more r (i + 1) :=
  ⟨h.len, h.lt, fun hm => ⟨(h.no hm).1, (h.no hm).2.1, fun k hk hT hLk v hv h3 => by
    by_cases c : k < i
    · exact (h.no hm).2.2 k c hT hLk v hv h3
    · obtain rfl : k = i := by omega
      exact hn hm hT hLk v hv h3⟩, h.yes⟩
theorem Pl.again (h : Pl T V P0 L more r i) : Pl T V L L false 0 0 :=
  ⟨h.len, h.lt, fun _ => ⟨rfl, fun k hk => absurd hk (by omega), fun k hk => absurd hk (by omega)⟩, fun c => by cases c⟩
theorem Pl.start (n : Nat) (hn : n = T.length) : Pl T V (List.replicate n false) (List.replicate n false) false 0 0 :=
  ⟨by rw [List.length_replicate, hn], (fun X _ _ k hk => by
    unfold Ls_ at hk
    rw [List.getD_eq_getElem?_getD, List.getElem?_replicate] at hk
    split at hk <;> cases hk), fun _ => ⟨rfl, fun k hk => absurd hk (by omega), fun k hk => absurd hk (by omega)⟩, fun c => by cases c⟩
theorem Pl.done (h : Pl T V P0 L false V.length T.length) (hv : ∀ v ∈ V, v.1 = 3 → v.2.toNat < T.length) : Grn T [] (frs T V true) L := by
  obtain ⟨_, n1, n2⟩ := h.no rfl
  refine ⟨by rw [frs_len]; exact h.len, fun k hk => ?_, fun k hk hL v hv h3 => n2 k hk hk hL v hv h3, fun X hX hi => h.lt X hX (fun v hm h3 => hi _ ((frs_in _ _ _ _).2 ⟨hv v hm h3, Or.inr ⟨v, hm, h3, rfl⟩⟩))⟩
  obtain ⟨_, h2⟩ := (frs_in _ _ _ _).1 hk
  rcases h2 with ⟨_, _, c⟩ | ⟨v, hm, h3, e⟩
  · cases c
  · obtain ⟨q, hq, eq⟩ := List.mem_iff_getElem.1 hm
    have := n1 q hq hq
    rw [List.getD_eq_getElem?_getD, List.getElem?_eq_getElem hq] at this
    have this : inS L V[q] = true := this
    rw [eq] at this
    rw [← e]
    exact inS_yes this h3
end

theorem inS_of {L : List Bool} {v : Int × Int} (h : v.1 = 3 → Ls_ L v.2.toNat) : inS L v = true := by
  unfold inS
  by_cases c : v.1 = 3
  · have := h c
    unfold Ls_ at this
    rw [this]
    simp
  · simp [c]

def skp (L : List Bool) (n : Int × List (Int × Int)) (q : Nat) : Bool := (n.1 == 3 && q == 0) || (n.1 == 4 && (q == 0 || !inS L (n.2.getD 0 (0, 0))))
structure Pf (ns : List (Int × List (Int × Int))) (V : List (Int × Int)) (P0 L : List Bool) (more : Bool) (i k : Nat) : Prop where
  p : Pl (nT ns) V P0 L more V.length i
  d : more = false → Ls_ L i → ∀ q, q < k → q < (ns.getD i (0, [])).2.length → skp L (ns.getD i (0, [])) q = false → inS L ((ns.getD i (0, [])).2.getD q (0, 0)) = true
section
variable {V : List (Int × Int)} {ns : List (Int × List (Int × Int))} {P0 L : List Bool} {more : Bool} {i k : Nat}
theorem Pf.start (h : Pl (nT ns) V P0 L more V.length i) : Pf ns V P0 L more i 0 := ⟨h, fun _ _ q hq => absurd hq (by omega)⟩
theorem Pf.skip (h : Pf ns V P0 L more i k) (hs : skp L (ns.getD i (0, [])) k = true) : Pf ns V P0 L more i (k + 1) :=
  ⟨h.p, fun hm hL q hq hl hn => by
    by_cases c : q < k
    · exact h.d hm hL q c hl hn
    · obtain rfl : q = k := by omega
      rw [hs] at hn
      cases hn⟩
theorem Pf.add (h : Pf ns V P0 L more i k) (hw : Nvw V ns) (hi : i < ns.length) (hL : Ls_ L i) (hk : k < (ns.getD i (0, [])).2.length) (hs : skp L (ns.getD i (0, [])) k = false) :
    Pf ns V P0 (adS L ((ns.getD i (0, [])).2.getD k (0, 0))) (!inS L ((ns.getD i (0, [])).2.getD k (0, 0)) || more) i (k + 1) := by
  have hm : (ns.getD i (0, [])).2.getD k (0, 0) ∈ (ns.getD i (0, [])).2 := getD_in hk
  have hq := hw.fd i hi _ hm
  have hK : Kps (nT ns) [] (Ls_ L) i ((ns.getD i (0, [])).2.getD k (0, 0)) := by
    unfold Kps
    rw [nT_at ns i hi]
    dsimp only
    have hkd := hw.kd i hi
    have h2 := hw.f2 i hi
    have h5 := hw.f5 i hi
    generalize ns.getD i (0, []) = n at *
    obtain ⟨kd, fs⟩ := n
    dsimp only at *
    unfold skp at hs
    rw [Bool.or_eq_false_iff] at hs
    obtain ⟨s1, s2⟩ := hs
    by_cases c12 : kd = 1 ∨ kd = 2
    · exact Or.inl ⟨c12, hm⟩
    · by_cases c5 : kd = 5
      · rw [h5 c5] at hk
        simp at hk
      · have c34 : kd = 3 ∨ kd = 4 := by omega
        have hl := h2 c34
        rcases c34 with c | c
        · subst c
          have : k ≠ 0 := by simpa using s1
          obtain rfl : k = 1 := by omega
          exact Or.inr (Or.inl ⟨rfl, rfl⟩)
        · subst c
          have s2 : ¬ k = 0 ∧ inS L (fs.getD 0 (0, 0)) = true := by simpa using s2
          obtain rfl : k = 1 := by omega
          exact Or.inr (Or.inr (Or.inl ⟨rfl, inS_yes s2.2, rfl⟩))
  have h1 := h.p.add (by rw [nT_len]; exact hi) hL hK (fun h3 => by
    have := vq_lt hq h3
    have hl := h.p.len
    rw [nT_len] at hl
    omega)
  refine ⟨h1, fun hm2 hL2 q hql hlq hn => ?_⟩
  rw [Bool.or_eq_false_iff] at hm2
  have e1 : inS L ((ns.getD i (0, [])).2.getD k (0, 0)) = true := by simpa using hm2.1
  have eL : adS L ((ns.getD i (0, [])).2.getD k (0, 0)) = L := by unfold adS; rw [if_pos e1]
  rw [eL] at hn hL2 ⊢
  by_cases c : q < k
  · exact h.d hm2.2 hL2 q c hlq hn
  · obtain rfl : q = k := by omega
    exact e1
theorem Pf.next (h : Pf ns V P0 L more i k) (hw : Nvw V ns) (hk : Ls_ L i → (ns.getD i (0, [])).2.length ≤ k) : Pl (nT ns) V P0 L more V.length (i + 1) := by
  refine h.p.next (fun hm hi hL v hv h3 => ?_)
  have hd := h.d hm hL
  have hkl := hk hL
  rw [nT_len] at hi
  unfold Kps at hv
  rw [nT_at ns i hi] at hv
  have h2 := hw.f2 i hi
  clear hk h
  generalize ns.getD i (0, []) = n at *
  obtain ⟨kd, fs⟩ := n
  dsimp only at *
  have one : ∀ q, q < fs.length → skp L (kd, fs) q = false → fs.getD q (0, 0) = v → Ls_ L v.2.toNat := fun q hq hs e => by
    have := hd q (by omega) hq hs
    rw [e] at this
    exact inS_yes this h3
  rcases hv with ⟨c, hm2⟩ | ⟨c, e⟩ | ⟨c, h0, e⟩ | ⟨_, e0, he, _⟩
  · obtain ⟨q, hq, eq⟩ := List.mem_iff_getElem.1 hm2
    refine one q hq ?_ (by rw [List.getD_eq_getElem?_getD, List.getElem?_eq_getElem hq, eq]; rfl)
    unfold skp
    rcases c with c | c <;> (subst c; simp)
  · subst c
    exact one 1 (by rw [h2 (Or.inl rfl)]; decide) (by unfold skp; simp) e.symm
  · subst c
    have hl := h2 (Or.inr rfl)
    refine one 1 (by rw [hl]; decide) ?_ e.symm
    have h0' : inS L (fs.getD 0 (0, 0)) = true := inS_of h0
    unfold skp
    dsimp only
    rw [h0']
    simp
  · cases he
end

end Go.Proofs.Ytjhnhbeimjnloaa

/- What a walk comes to: each node shows what its thing shows, told by the numbers of nodes: lists alone. -/
namespace Go.Proofs.Ytjhnhbeimjnloaa
open W

def swn (ms : List Int) (x : Int) : Int × Int := if dk x = 3 then (3, (ms.idxOf (dn x) : Int)) else (dk x, dn x)
theorem idx_pre {l l' : List Int} (h : l <+: l') {a : Int} (ha : a ∈ l) : l'.idxOf a = l.idxOf a := by
  obtain ⟨t, rfl⟩ := h
  rw [List.idxOf_append, if_pos ha]
theorem swn_pre {l l' : List Int} (h : l <+: l') {x : Int} (hx : dk x = 3 → dn x ∈ l) : swn l' x = swn l x := by
  unfold swn
  split
  · rename_i c
    rw [idx_pre h (hx c)]
  · rfl

section
variable {T : List Int} {kd : Int → Int} {sh : Int → List Int} {C : Int → Prop}

structure Shp (T : List Int) (kd : Int → Int) (sh : Int → List Int) (s s' : Vst) (l : List Int) (vs : List (Int × Int)) : Prop where
  ok : VOk T s'
  pre : s.1 <+: s'.1
  old : ∀ i, i < s.1.length → s'.2[i]? = s.2[i]?
  vl : vs = l.map (swn s'.1)
  ref : ∀ x ∈ l, dk x = 3 → dn x ∈ s'.1
  nw : ∀ i, s.1.length ≤ i → i < s'.1.length → s'.2[i]? = some (kd (s'.1.getD i 0), (sh (s'.1.getD i 0)).map (swn s'.1)) ∧ ∀ x ∈ sh (s'.1.getD i 0), dk x = 3 → dn x ∈ s'.1

theorem Shp.trans {s s' s'' : Vst} {l l2 : List Int} {vs us : List (Int × Int)} (h : Shp T kd sh s s' l vs) (k : Shp T kd sh s' s'' l2 us) : Shp T kd sh s s'' (l ++ l2) (vs ++ us) := by
  have l1 := h.pre.length_le
  have sub : ∀ a, a ∈ s'.1 → a ∈ s''.1 := fun a ha => k.pre.subset ha
  refine ⟨k.ok, h.pre.trans k.pre, fun i hi => (k.old i (by omega)).trans (h.old i hi), ?_, fun x hx h3 => ?_, fun i h1 h2 => ?_⟩
  · rw [List.map_append, ← k.vl, h.vl]
    congr 1
    exact List.map_congr_left (fun x hx => (swn_pre k.pre (h.ref x hx)).symm)
  · rcases List.mem_append.1 hx with hx | hx
    · exact sub _ (h.ref x hx h3)
    · exact k.ref x hx h3
  · by_cases c : i < s'.1.length
    · obtain ⟨e1, e2⟩ := h.nw i h1 c
      rw [pre_getD k.pre c]
      refine ⟨(k.old i c).trans (e1.trans ?_), fun x hx h3 => sub _ (e2 x hx h3)⟩
      congr 2
      exact List.map_congr_left (fun x hx => (swn_pre k.pre (e2 x hx)).symm)
    · exact k.nw i (by omega) h2
theorem Shp.refl {s : Vst} (h : VOk T s) {l : List Int} {vs : List (Int × Int)} (hv : vs = l.map (swn s.1)) (hr : ∀ x ∈ l, dk x = 3 → dn x ∈ s.1) : Shp T kd sh s s l vs :=
  ⟨h, List.prefix_refl _, fun _ _ => rfl, hv, hr, fun i h1 h2 => by omega⟩

def Smt (T : List Int) (kd : Int → Int) (sh : Int → List Int) (C : Int → Prop) (n : Nat) (M : Vst → Int → Vst) : Prop :=
  ∀ s a, VOk T s → C a → a ∉ s.1 → T.length ≤ s.1.length + n → Shp T kd sh s (M s a) [] [] ∧ a ∈ (M s a).1 ∧ (M s a).1.idxOf a = s.1.length

theorem vst_shp {n : Nat} {M : Vst → Int → Vst} (hC : ∀ a, C a → a ∈ T) (hM : Smt T kd sh C n M) {s : Vst} (h : VOk T s) (hn : T.length ≤ s.1.length + n) {x : Int} (hx : dk x = 3 → C (dn x)) : Shp T kd sh s (vst M T s x).2 [x] [(vst M T s x).1] := by
  unfold vst
  by_cases h3 : dk x = 3
  · rw [if_pos h3, if_pos (List.contains_iff_mem.2 (hC _ (hx h3)))]
    by_cases hs : s.1.contains (dn x) = true
    · rw [if_pos hs]
      refine Shp.refl h ?_ (fun y hy _ => by rw [List.mem_singleton.1 hy]; exact List.contains_iff_mem.1 hs)
      simp [swn, h3]
    · rw [if_neg hs]
      obtain ⟨m1, m2, m3⟩ := hM s (dn x) h (hx h3) (fun c => hs (List.contains_iff_mem.2 c)) hn
      refine ⟨m1.ok, m1.pre, m1.old, ?_, fun y hy _ => by rw [List.mem_singleton.1 hy]; exact m2, m1.nw⟩
      simp [swn, h3, m3]
  · rw [if_neg h3]
    refine Shp.refl h ?_ (fun y hy c => by rw [List.mem_singleton.1 hy] at c; exact absurd c h3)
    simp [swn, h3]
theorem vls_shp {n : Nat} {M : Vst → Int → Vst} (hC : ∀ a, C a → a ∈ T) (hM : Smt T kd sh C n M) {s : Vst} (h : VOk T s) (hn : T.length ≤ s.1.length + n) (l : List Int) (hl : ∀ x ∈ l, dk x = 3 → C (dn x)) : Shp T kd sh s (vls M T s l).2 l (vls M T s l).1 := by
  have key : ∀ k, k ≤ l.length → Shp T kd sh s (vls M T s (l.take k)).2 (l.take k) (vls M T s (l.take k)).1 := by
    intro k
    induction k with
    | zero => intro _; exact Shp.refl h (by simp [vls_nil]) (fun x hx => by simp at hx)
    | succ k ih =>
      intro hk
      have ih := ih (by omega)
      rw [List.take_succ_eq_append_getElem (by omega), vls_snoc]
      have hl2 := ih.pre.length_le
      exact ih.trans (vst_shp hC hM ih.ok (by omega) (hl _ (List.getElem_mem _)))
  have := key l.length (Nat.le_refl _)
  rwa [List.take_length] at this
theorem met_shp (hC : ∀ a, C a → a ∈ T) (hS : ∀ a, C a → ∀ x ∈ sh a, dk x = 3 → C (dn x)) : ∀ n, Smt T kd sh C n (met T kd sh n)
  | 0 => fun s a h ha hn hl => by
    have := h.lt (hC a ha) hn
    omega
  | n + 1 => fun s a h ha hn hl => by
    have h0 := h.more (hC a ha) hn (kd a, [])
    have S := vls_shp (kd := kd) hC (met_shp hC hS n) h0 (by simp; omega) (sh a) (hS a ha)
    show Shp T kd sh s ((vls (met T kd sh n) T (s.1 ++ [a], s.2 ++ [(kd a, [])]) (sh a)).2.1, (vls (met T kd sh n) T (s.1 ++ [a], s.2 ++ [(kd a, [])]) (sh a)).2.2.set s.1.length (kd a, (vls (met T kd sh n) T (s.1 ++ [a], s.2 ++ [(kd a, [])]) (sh a)).1)) [] [] ∧ a ∈ (vls (met T kd sh n) T (s.1 ++ [a], s.2 ++ [(kd a, [])]) (sh a)).2.1 ∧ (vls (met T kd sh n) T (s.1 ++ [a], s.2 ++ [(kd a, [])]) (sh a)).2.1.idxOf a = s.1.length
    generalize vls (met T kd sh n) T (s.1 ++ [a], s.2 ++ [(kd a, [])]) (sh a) = R at *
    obtain ⟨vs, s1, n1⟩ := R
    have S : Shp T kd sh (s.1 ++ [a], s.2 ++ [(kd a, [])]) (s1, n1) (sh a) vs := S
    dsimp only at *
    have ll := S.pre.length_le
    simp only [List.length_append, List.length_cons, List.length_nil] at ll
    have hin : a ∈ s.1 ++ [a] := by simp
    have e0 : s1.getD s.1.length 0 = a := by
      rw [pre_getD S.pre (by simp)]
      simp
    refine ⟨⟨⟨S.ok.nd, S.ok.sub, by have := S.ok.len; dsimp only at this ⊢; rw [List.length_set]; exact this⟩, (List.prefix_append _ _).trans S.pre, fun i hi => ?_, rfl, (fun x hx => by cases hx), fun i h1 h2 => ?_⟩, S.pre.subset hin, ?_⟩
    · dsimp only
      rw [List.getElem?_set_ne (by omega), S.old i (by simp; omega)]
      dsimp only
      rw [List.getElem?_append_left (by rw [h.len]; exact hi)]
    · dsimp only at h2 ⊢
      by_cases c : i = s.1.length
      · subst c
        rw [List.getElem?_set_self (by have := S.ok.len; dsimp only at this; omega), e0]
        exact ⟨by rw [S.vl], S.ref⟩
      · rw [List.getElem?_set_ne (fun e => c e.symm)]
        exact S.nw i (by simp; omega) h2
    · rw [idx_pre S.pre hin, List.idxOf_append, if_neg hn]
      simp
theorem walk_shp (hC : ∀ a, C a → a ∈ T) (hS : ∀ a, C a → ∀ x ∈ sh a, dk x = 3 → C (dn x)) (l : List Int) (hl : ∀ x ∈ l, dk x = 3 → C (dn x)) :
    Shp T kd sh ([], []) (vls (met T kd sh T.length) T ([], []) l).2 l (vls (met T kd sh T.length) T ([], []) l).1 :=
  vls_shp hC (met_shp hC hS _) (VOk.start T) (by simp) l hl
theorem Shp.node {s' : Vst} {l : List Int} {vs : List (Int × Int)} (h : Shp T kd sh ([], []) s' l vs) {a : Int} (ha : a ∈ s'.1) : s'.1.idxOf a < s'.2.length ∧ s'.2[s'.1.idxOf a]? = some (kd a, (sh a).map (swn s'.1)) ∧ ∀ x ∈ sh a, dk x = 3 → dn x ∈ s'.1 := by
  have hi := List.idxOf_lt_length_of_mem ha
  have e : s'.1.getD (s'.1.idxOf a) 0 = a := by
    rw [List.getD_eq_getElem?_getD, List.getElem?_eq_getElem hi, List.getElem_idxOf]
    rfl
  have := h.nw _ (by simp) hi
  rw [e] at this
  exact ⟨by rw [h.ok.len]; exact hi, this⟩
end

end Go.Proofs.Ytjhnhbeimjnloaa

/- Two walks that go side by side tell the same: lists alone. -/
namespace Go.Proofs.Ytjhnhbeimjnloaa
open W

def Wls (WR : Int → Int → Prop) : List Int → List Int → Prop
  | [], [] => True
  | x :: l, x' :: l' => WR x x' ∧ Wls WR l l'
  | _, _ => False

def Wmv (R : Int → Prop) (f : Int → Int) (x x' : Int) : Prop := (dk x = 3 ∧ dk x' = 3 ∧ R (dn x) ∧ dn x' = f (dn x)) ∨ (dk x ≠ 3 ∧ dk x' = dk x ∧ dn x' = dn x)

structure Bi (R : Int → Prop) (f : Int → Int) (T : List Int) (kd : Int → Int) (sh : Int → List Int) (T' : List Int) (kd' : Int → Int) (sh' : Int → List Int) : Prop where
  rT : ∀ a, R a → a ∈ T
  rT' : ∀ a, R a → f a ∈ T'
  inj : ∀ a b, R a → R b → f a = f b → a = b
  kd : ∀ a, R a → kd' (f a) = kd a
  sh : ∀ a, R a → Wls (Wmv R f) (sh a) (sh' (f a))

structure Bs (R : Int → Prop) (f : Int → Int) (T T' : List Int) (s s' : Vst) : Prop where
  ok : VOk T s
  ok' : VOk T' s'
  ms : s'.1 = s.1.map f
  nd : s'.2 = s.2
  rs : ∀ a ∈ s.1, R a

section
variable {R : Int → Prop} {f : Int → Int} {T T' : List Int} {kd kd' : Int → Int} {sh sh' : Int → List Int}

theorem idx_map (inj : ∀ a b, R a → R b → f a = f b → a = b) {d : Int} (hd : R d) : ∀ l : List Int, (∀ a ∈ l, R a) → (l.map f).idxOf (f d) = l.idxOf d
  | [], _ => rfl
  | x :: l, h => by
    rw [List.map_cons, List.idxOf_cons, List.idxOf_cons, idx_map inj hd l (fun a ha => h a (List.mem_cons_of_mem _ ha))]
    by_cases e : x = d
    · rw [e, beq_self_eq_true, beq_self_eq_true]
    · have e2 : f x ≠ f d := fun c => e (inj x d (h x List.mem_cons_self) hd c)
      rw [beq_false_of_ne e, beq_false_of_ne e2]
theorem mem_mapf (inj : ∀ a b, R a → R b → f a = f b → a = b) {d : Int} (hd : R d) {l : List Int} (h : ∀ a ∈ l, R a) : f d ∈ l.map f ↔ d ∈ l := by
  refine ⟨fun c => ?_, fun c => List.mem_map_of_mem c⟩
  obtain ⟨x, h1, h2⟩ := List.mem_map.1 c
  rw [← inj x d (h x h1) hd h2]
  exact h1

def Bmet (R : Int → Prop) (f : Int → Int) (T T' : List Int) (n n' : Nat) (M M' : Vst → Int → Vst) : Prop :=
  ∀ s s' a, Bs R f T T' s s' → R a → a ∉ s.1 → T.length ≤ s.1.length + n → T'.length ≤ s'.1.length + n' → Bs R f T T' (M s a) (M' s' (f a))

theorem vst_bi (B : Bi R f T kd sh T' kd' sh') {n n' : Nat} {M M' : Vst → Int → Vst} (hM : Bmet R f T T' n n' M M') {s s' : Vst} (h : Bs R f T T' s s') (hn : T.length ≤ s.1.length + n) (hn' : T'.length ≤ s'.1.length + n') {x x' : Int} (hx : Wmv R f x x') :
    (vst M T s x).1 = (vst M' T' s' x').1 ∧ Bs R f T T' (vst M T s x).2 (vst M' T' s' x').2 := by
  unfold vst
  rcases hx with ⟨d1, d2, d3, d4⟩ | ⟨d1, d2, d3⟩
  · rw [if_pos d1, if_pos d2, if_pos (List.contains_iff_mem.2 (B.rT _ d3)), d4, if_pos (List.contains_iff_mem.2 (B.rT' _ d3))]
    have hm := mem_mapf B.inj d3 h.rs
    rw [← h.ms] at hm
    by_cases c : dn x ∈ s.1
    · rw [if_pos (List.contains_iff_mem.2 c), if_pos (List.contains_iff_mem.2 (hm.2 c))]
      refine ⟨?_, h⟩
      dsimp only
      rw [h.ms, idx_map B.inj d3 s.1 h.rs]
    · rw [if_neg (fun e => c (List.contains_iff_mem.1 e)), if_neg (fun e => c (hm.1 (List.contains_iff_mem.1 e)))]
      refine ⟨?_, hM s s' (dn x) h d3 c hn hn'⟩
      dsimp only
      rw [h.ms, List.length_map]
  · rw [if_neg d1, if_neg (by rw [d2]; exact d1), d2, d3]
    exact ⟨rfl, h⟩
theorem vls_bi (B : Bi R f T kd sh T' kd' sh') {n n' : Nat} {M M' : Vst → Int → Vst} (hV : Vmet T kd sh n M) (hV' : Vmet T' kd' sh' n' M') (hM : Bmet R f T T' n n' M M') : ∀ (l l' : List Int) (r r' : List (Int × Int) × Vst), Wls (Wmv R f) l l' → r.1 = r'.1 → Bs R f T T' r.2 r'.2 → T.length ≤ r.2.1.length + n → T'.length ≤ r'.2.1.length + n' →
    (l.foldl (fun r x => (r.1 ++ [(vst M T r.2 x).1], (vst M T r.2 x).2)) r).1 = (l'.foldl (fun r x => (r.1 ++ [(vst M' T' r.2 x).1], (vst M' T' r.2 x).2)) r').1 ∧ Bs R f T T' (l.foldl (fun r x => (r.1 ++ [(vst M T r.2 x).1], (vst M T r.2 x).2)) r).2 (l'.foldl (fun r x => (r.1 ++ [(vst M' T' r.2 x).1], (vst M' T' r.2 x).2)) r').2
  | [], [], r, r', _, e, h, _, _ => ⟨e, h⟩
  | [], x' :: l', r, r', hw, _, _, _, _ => absurd hw (by simp [Wls])
  | x :: l, [], r, r', hw, _, _, _, _ => absurd hw (by simp [Wls])
  | x :: l, x' :: l', r, r', hw, e, h, hn, hn' => by
    obtain ⟨w1, w2⟩ := hw
    obtain ⟨e1, e2⟩ := vst_bi B hM h hn hn' w1
    have g1 := (vst_go hV h.ok hn x).le
    have g2 := (vst_go hV' h.ok' hn' x').le
    rw [List.foldl_cons, List.foldl_cons]
    exact vls_bi B hV hV' hM l l' _ _ w2 (by dsimp only; rw [e, e1]) e2 (by dsimp only; omega) (by dsimp only; omega)

theorem met_bi (B : Bi R f T kd sh T' kd' sh') : ∀ n n' : Nat, Bmet R f T T' n n' (met T kd sh n) (met T' kd' sh' n')
  | 0, _ => fun s s' a h ha hna hn _ => by
    have := h.ok.lt (B.rT a ha) hna
    omega
  | n + 1, 0 => fun s s' a h ha hna _ hn' => by
    have := h.ok'.lt (B.rT' a ha) (fun c => hna ((mem_mapf B.inj ha h.rs).1 (by rw [← h.ms]; exact c)))
    omega
  | n + 1, n' + 1 => fun s s' a h ha hna hn hn' => by
    have hna' : f a ∉ s'.1 := fun c => hna ((mem_mapf B.inj ha h.rs).1 (by rw [← h.ms]; exact c))
    have o1 := (met_go (kd := kd) (sh := sh) (n + 1) s a h.ok (B.rT a ha) hna hn).ok
    have o2 := (met_go (kd := kd') (sh := sh') (n' + 1) s' (f a) h.ok' (B.rT' a ha) hna' hn').ok
    have h1 : Bs R f T T' (s.1 ++ [a], s.2 ++ [(kd a, [])]) (s'.1 ++ [f a], s'.2 ++ [(kd' (f a), [])]) := ⟨h.ok.more (B.rT a ha) hna _, h.ok'.more (B.rT' a ha) hna' _, by dsimp only; rw [h.ms]; simp, by dsimp only; rw [h.nd, B.kd a ha], fun c hc => by
      rcases List.mem_append.1 hc with d | d
      · exact h.rs c d
      · rw [List.mem_singleton] at d
        rw [d]
        exact ha⟩
    obtain ⟨e1, e2⟩ := vls_bi B (met_go n) (met_go n') (met_bi B n n') (sh a) (sh' (f a)) ([], (s.1 ++ [a], s.2 ++ [(kd a, [])])) ([], (s'.1 ++ [f a], s'.2 ++ [(kd' (f a), [])])) (B.sh a ha) rfl h1 (by simp; omega) (by simp; omega)
    refine ⟨o1, o2, e2.ms, ?_, e2.rs⟩
    have e3 := e2.nd
    show (vls (met T' kd' sh' n') T' (s'.1 ++ [f a], s'.2 ++ [(kd' (f a), [])]) (sh' (f a))).2.2.set s'.1.length (kd' (f a), (vls (met T' kd' sh' n') T' (s'.1 ++ [f a], s'.2 ++ [(kd' (f a), [])]) (sh' (f a))).1) = (vls (met T kd sh n) T (s.1 ++ [a], s.2 ++ [(kd a, [])]) (sh a)).2.2.set s.1.length (kd a, (vls (met T kd sh n) T (s.1 ++ [a], s.2 ++ [(kd a, [])]) (sh a)).1)
    have e1 : (vls (met T kd sh n) T (s.1 ++ [a], s.2 ++ [(kd a, [])]) (sh a)).1 = (vls (met T' kd' sh' n') T' (s'.1 ++ [f a], s'.2 ++ [(kd' (f a), [])]) (sh' (f a))).1 := e1
    have e3 : (vls (met T' kd' sh' n') T' (s'.1 ++ [f a], s'.2 ++ [(kd' (f a), [])]) (sh' (f a))).2.2 = (vls (met T kd sh n) T (s.1 ++ [a], s.2 ++ [(kd a, [])]) (sh a)).2.2 := e3
    rw [e3, ← e1, B.kd a ha, h.ms, List.length_map]

theorem walk_bi (B : Bi R f T kd sh T' kd' sh') {l l' : List Int} (hl : Wls (Wmv R f) l l') {n n' : Nat} (hn : T.length ≤ n) (hn' : T'.length ≤ n') : (vls (met T kd sh n) T ([], []) l).1 = (vls (met T' kd' sh' n') T' ([], []) l').1 ∧ (vls (met T' kd' sh' n') T' ([], []) l').2.2 = (vls (met T kd sh n) T ([], []) l).2.2 ∧ (vls (met T' kd' sh' n') T' ([], []) l').2.1 = (vls (met T kd sh n) T ([], []) l).2.1.map f := by
  obtain ⟨e1, e2⟩ := vls_bi B (met_go n) (met_go n') (met_bi B n n') l l' ([], ([], [])) ([], ([], [])) hl rfl ⟨VOk.start T, VOk.start T', rfl, rfl, fun a ha => by cases ha⟩ (by simpa using hn) (by simpa using hn')
  exact ⟨e1, e2.nd, e2.ms⟩
end

end Go.Proofs.Ytjhnhbeimjnloaa
