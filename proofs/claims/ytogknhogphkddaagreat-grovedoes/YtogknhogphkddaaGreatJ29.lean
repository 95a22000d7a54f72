/- Joined: Gi2, Gi3, Gx20. -/
import Derived.Test.YtogknhogphkddaaGreatJ28
import Derived.Test.YtogknhogphkddaaGreatJ14
import Derived.Test.YtogknhogphkddaaGreatJ25
/- What holds of the document's world, from step to step: lists alone. -/
namespace Go.Proofs.YtogknhogphkddaaGreat
open Go.RowKit W Kp Stl

def Evw (T : List Tw1) (e : En) : Prop := (0 ≤ e.1 ∧ Alv T e.1.toNat) ∧ (T.getD e.1.toNat t0).1 = 5 ∧ 0 ≤ e.2 ∧ Alv T e.2.toNat
structure Gi (s : Wrs) (j : Nat) : Prop where
  kd : ∀ i, Alv s.T i → 1 ≤ (s.T.getD i t0).1 ∧ (s.T.getD i t0).1 ≤ 5
  fl : ∀ i, Alv s.T i → (s.T.getD i t0).1 = 3 ∨ (s.T.getD i t0).1 = 4 → (s.T.getD i t0).2.1.length = 2
  g5 : ∀ i, Alv s.T i → (s.T.getD i t0).1 = 5 → (s.T.getD i t0).2.1 = []
  fv : ∀ i, Alv s.T i → ∀ v ∈ (s.T.getD i t0).2.1, Vq s.T v
  tl : ∀ i, (s.T.getD i t0).2.1.length ≤ 12
  rv : ∀ v ∈ s.rs, Vq s.T v
  rl : s.rs.length = 12
  gv : ∀ e ∈ s.rg, Evw s.T e
  wv : ∀ e ∈ s.wt, Evw s.T e
  en : s.rg.length + s.wt.length ≤ 24
  tj : s.T.length ≤ j
theorem Gi.more {s : Wrs} {j k : Nat} (h : Gi s j) (hk : j ≤ k) : Gi s k := { h with tj := Nat.le_trans h.tj hk }
theorem Gi.iv {s : Wrs} {j : Nat} (h : Gi s j) : Wiv s.T s.wt := ⟨h.fl, fun i hi v hv => (h.fv i hi v hv).2, fun e he => (h.wv e he).2.2, h.tl⟩
theorem Gi.wcv {s : Wrs} {j : Nat} (h : Gi s j) (hj : j ≤ 10000) : Wcv s :=
  ⟨h.iv, fun v hv => (h.rv v hv).2, fun e he => ⟨(h.gv e he).1, (h.gv e he).2.2⟩, fun e he => (h.wv e he).1, Nat.le_trans h.tj hj, by have := h.en; omega, by have := h.en; omega⟩
theorem Gi.wvw {s : Wrs} {j : Nat} (h : Gi s j) (hj : j ≤ 10000) : Wvw s.T s.wt :=
  ⟨h.fv, fun e he => ⟨(h.wv e he).1.1, (h.wv e he).2.2⟩, h.tl, Nat.le_trans h.tj hj, by have := h.en; omega⟩
theorem Vq.mono {T T' : List Tw1} {v : Int × Int} (h : Vq T v) (hm : v.1 = 3 → Alv T v.2.toNat → Alv T' v.2.toNat) : Vq T' v := ⟨h.1, fun h3 => ⟨(h.2 h3).1, hm h3 (h.2 h3).2⟩⟩
theorem vq_nil (T : List Tw1) : Vq T (0, 0) := ⟨by decide, fun h => by cases h⟩
theorem vq_gone (T : List Tw1) : Vq T (2, 0) := ⟨by decide, fun h => by cases h⟩
theorem Gi.rt {s : Wrs} {j : Nat} (h : Gi s j) (i : Nat) : Vq s.T (s.rs.getD i (0, 0)) := by
  by_cases c : i < s.rs.length
  · exact h.rv _ (getD_in c)
  · rw [List.getD_eq_getElem?_getD, List.getElem?_eq_none (by omega)]
    exact vq_nil _

theorem Gi.cut {s : Wrs} {j : Nat} (h : Gi s j) (hj : j ≤ 10000) {g : List Bool → List Bool} (hg : Gok s.T s.wt g) (grow : Int) (mj : Bool) : Gi (s.cut g grow mj) j := by
  unfold Wrs.cut
  split
  · exact h
  have hw := h.wcv hj
  have hC := cR_ci hw hg mj
  have hl := cR_len s g mj
  generalize hL : (s.cR g mj).1 = L at *
  generalize hCc : (s.cR g mj).2.1 = C at *
  have av := cu_alv hC.ok
  have gt : ∀ i, Ls_ L i → (cuL L s.T s.T.length).getD i t0 = cuT L i (s.T.getD i t0) := fun i hi => by rw [cuL_at, if_pos (hC.ok.al i hi).1]
  have tr : ∀ v, Vq s.T v → (v.1 = 3 → Ls_ L v.2.toNat) → Vq (cuL L s.T s.T.length) v := fun v hv hi => hv.mono (fun h3 _ => (av _).2 (hi h3))
  have ev : ∀ e, Evw s.T e → Ls_ L e.1.toNat → Ls_ L e.2.toNat → Evw (cuL L s.T s.T.length) e := fun e he h1 h2 => ⟨⟨he.1.1, (av _).2 h1⟩, by rw [gt _ h1, cuT_k]; exact he.2.1, he.2.2.1, (av _).2 h2⟩
  refine { kd := fun i hi => ?_, fl := fun i hi hk => ?_, g5 := fun i hi hk => ?_, fv := fun i hi v hv => ?_, tl := fun i => ?_, rv := fun v hv => ?_, rl := h.rl, gv := fun e he => ?_, wv := fun e he => ?_, en := ?_, tj := ?_ }
  · have hi := (av i).1 hi
    dsimp only
    rw [gt i hi, cuT_k]
    exact h.kd i (hC.ok.al i hi)
  · have hi := (av i).1 hi
    dsimp only at hk ⊢
    rw [gt i hi, cuT_k] at hk
    rw [gt i hi]
    have h2 := h.fl i (hC.ok.al i hi) hk
    rcases cuT_f (L := L) (i := i) (t := s.T.getD i t0) hi with ⟨_, _, e⟩ | ⟨_, _, e⟩ | ⟨_, e⟩ <;> rw [e]
    · rfl
    · rfl
    · exact h2
  · have hi := (av i).1 hi
    dsimp only at hk ⊢
    rw [gt i hi, cuT_k] at hk
    rw [gt i hi]
    rcases cuT_f (L := L) (i := i) (t := s.T.getD i t0) hi with ⟨d, _, _⟩ | ⟨d, _, _⟩ | ⟨_, e⟩
    · omega
    · omega
    · rw [e]
      exact h.g5 i (hC.ok.al i hi) hk
  · have hi := (av i).1 hi
    have ha := hC.ok.al i hi
    dsimp only at hv ⊢
    rw [gt i hi] at hv
    have cl : ∀ v, Kps s.T s.wt (Ls_ L) i v → v.1 = 3 → Ls_ L v.2.toNat := fun v hk h3 => hC.cl i ha.1 hi v hk h3
    rcases cuT_f (L := L) (i := i) (t := s.T.getD i t0) hi with ⟨_, _, e⟩ | ⟨k3, _, e⟩ | ⟨hin, e⟩
    · rw [e] at hv
      have : v = (2, 0) := by simpa using hv
      rw [this]
      exact vq_gone _
    · rw [e] at hv
      have : v = (2, 0) ∨ v = (s.T.getD i t0).2.1.getD 1 (0, 0) := by simpa using hv
      rcases this with rfl | rfl
      · exact vq_gone _
      · exact tr _ (h.fv i ha _ (getD_in (by rw [h.fl i ha (Or.inl k3)]; decide))) (fun h3 => cl _ (Or.inr (Or.inl ⟨k3, rfl⟩)) h3)
    · rw [e] at hv
      refine tr v (h.fv i ha v hv) (fun h3 => ?_)
      have hk := h.kd i ha
      by_cases c12 : (s.T.getD i t0).1 = 1 ∨ (s.T.getD i t0).1 = 2
      · exact cl v (Or.inl ⟨c12, hv⟩) h3
      · by_cases c5 : (s.T.getD i t0).1 = 5
        · rw [h.g5 i ha c5] at hv
          cases hv
        · have c34 : (s.T.getD i t0).1 = 3 ∨ (s.T.getD i t0).1 = 4 := by omega
          have h0 := inS_yes (hin c34)
          have h2 := h.fl i ha c34
          obtain ⟨q, hq, eq⟩ := List.mem_iff_getElem.1 hv
          rw [h2] at hq
          have ed : (s.T.getD i t0).2.1.getD q (0, 0) = v := by rw [List.getD_eq_getElem?_getD, List.getElem?_eq_getElem (by omega), eq]; rfl
          match q, hq, ed with
          | 0, _, ed =>
            rw [ed] at h0
            exact h0 h3
          | 1, _, ed =>
            rcases c34 with c | c
            · exact cl v (Or.inr (Or.inl ⟨c, ed.symm⟩)) h3
            · exact cl v (Or.inr (Or.inr (Or.inl ⟨c, h0, ed.symm⟩))) h3
          | q + 2, hq, _ => omega
  · dsimp only
    rw [cuL_at]
    split
    · cases c : L.getD i false
      · rw [cuT_n c]
        simp
      · rcases cuT_f (L := L) (i := i) (t := s.T.getD i t0) c with ⟨_, _, e⟩ | ⟨_, _, e⟩ | ⟨_, e⟩ <;> rw [e]
        · simp
        · simp
        · exact h.tl i
    · simp [t0]
  · exact tr v (h.rv v hv) (fun h3 => hC.up _ (c0_root hw hg mj hv h3))
  · obtain ⟨h1, h2⟩ := List.mem_filter.1 he
    rw [Bool.and_eq_true] at h2
    exact ev e (h.gv e h1) h2.2 (hC.up _ h2.1)
  · obtain ⟨h1, h2⟩ := List.mem_filter.1 he
    rcases List.mem_append.1 h1 with h1 | h1
    · have hv := h.wv e h1
      exact ev e hv h2 (hC.cl e.1.toNat hv.1.2.1 h2 (3, e.2) (Or.inr (Or.inr (Or.inr ⟨hv.2.1, e, h1, by have := hv.1.1; omega, rfl⟩))) rfl)
    · obtain ⟨q1, q2, q3⟩ := hC.cC e h1
      exact ev e (h.gv e q1) q2 q3
  · dsimp only
    have l1 : (s.rg.filter (fun e => isd (s.c0 g mj) e.2 && isd L e.1)).length + (s.rg.filter (fun e => !isd (s.c0 g mj) e.2)).length ≤ s.rg.length := by
      have key : ∀ l : List En, (l.filter (fun e => isd (s.c0 g mj) e.2 && isd L e.1)).length + (l.filter (fun e => !isd (s.c0 g mj) e.2)).length ≤ l.length := fun l => by
        induction l with
        | nil => simp
        | cons x l ih =>
          cases c : isd (s.c0 g mj) x.2
          · rw [List.filter_cons_of_neg (by rw [c]; simp), List.filter_cons_of_pos (by rw [c]; rfl)]
            simp only [List.length_cons]
            omega
          · rw [List.filter_cons_of_neg (p := fun e : En => !isd (s.c0 g mj) e.2) (by rw [c]; simp)]
            have : (List.filter (fun e : En => isd (s.c0 g mj) e.2 && isd L e.1) (x :: l)).length ≤ (List.filter (fun e : En => isd (s.c0 g mj) e.2 && isd L e.1) l).length + 1 := by
              rw [List.filter_cons]
              split
              · simp
              · omega
            simp only [List.length_cons]
            omega
      exact key s.rg
    have l2 := List.length_filter_le (fun e : En => isd L e.1) (s.wt ++ C)
    rw [List.length_append] at l2
    have := h.en
    omega
  · dsimp only
    rw [cuL_len]
    exact h.tj

end Go.Proofs.YtogknhogphkddaaGreat

/- What holds of the document's world, step by step: lists alone. -/
namespace Go.Proofs.YtogknhogphkddaaGreat
open Go.RowKit W Kp Stl

theorem getD_snoc (T : List Tw1) (t : Tw1) (i : Nat) : (T ++ [t]).getD i t0 = if i = T.length then t else T.getD i t0 := by
  rw [List.getD_eq_getElem?_getD, List.getD_eq_getElem?_getD, List.getElem?_append]
  by_cases h : i < T.length
  · rw [if_pos h, if_neg (by omega)]
  · rw [if_neg h]
    by_cases e : i = T.length
    · subst e
      simp
    · rw [if_neg e, List.getElem?_eq_none (by simp; omega), List.getElem?_eq_none (by omega)]
theorem alv_snoc (T : List Tw1) (k : Int) (fl : List (Int × Int)) (i : Nat) : Alv (T ++ [(k, fl, false, false)]) i ↔ Alv T i ∨ i = T.length := by
  unfold Alv
  rw [getD_snoc, List.length_append, List.length_singleton]
  by_cases e : i = T.length
  · rw [if_pos e]
    exact ⟨fun _ => Or.inr e, fun _ => ⟨by omega, rfl⟩⟩
  · rw [if_neg e]
    exact ⟨fun h => Or.inl ⟨by omega, h.2⟩, fun h => h.elim (fun h => ⟨by omega, h.2⟩) (fun h => absurd h e)⟩
theorem cut_rts (g : List Bool → List Bool) (s : Wrs) (grow : Int) (mj : Bool) : (s.cut g grow mj).rs = s.rs := by
  unfold Wrs.cut
  split <;> rfl
theorem room_rts (g : Gfn) (most grow : Int) (s : Wrs) (m : Int) : (s.room g most grow m).2.rs = s.rs := by
  unfold Wrs.room
  split
  · rfl
  · exact cut_rts _ _ _ _
theorem ckn {k R A B n : Int} (h : ckC k R A B n = 0) : ckN k n = 0 := by
  unfold ckC at h
  split at h
  · omega
  · split at h
    · omega
    · exact h
theorem ck_vc {R A B n : Int} (h : ckC 5 R A B n = 0) : 0 ≤ n ∧ n ≤ 12 := by
  have h5 := ckn h
  unfold ckN at h5
  rw [if_neg (by decide), if_pos rfl] at h5
  unfold hc at h5
  rw [if_neg (by decide), if_neg (by decide), if_neg (by decide), if_pos rfl] at h5
  split at h5
  · omega
  · split at h5 <;> omega
theorem ck_in {R A B n : Int} (h : ckC 1 R A B n = 0) : vc 1 n = 0 := by
  have h5 := ckn h
  unfold ckN at h5
  rwa [if_pos rfl] at h5

section
variable {s : Wrs} {j : Nat} {g : Gfn} {most grow : Int}

theorem Gi.room (h : Gi s j) (hj : j ≤ 10000) (hg : Gok s.T s.wt (g s.T s.wt)) (m : Int) : Gi (s.room g most grow m).2 j := by
  unfold Wrs.room
  split
  · exact h
  · exact h.cut hj hg _ _
theorem Gi.put (h : Gi s j) {kd : Int} {fl : List (Int × Int)} (h1 : 1 ≤ kd) (h2 : kd ≤ 5) (h3 : kd = 3 ∨ kd = 4 → fl.length = 2) (h4 : kd = 5 → fl = []) (hf : ∀ v ∈ fl, Vq s.T v) (hl : fl.length ≤ 12) : Gi (s.put kd fl) (j + 1) := by
  have av := alv_snoc s.T kd fl
  have tr : ∀ v, Vq s.T v → Vq (s.T ++ [(kd, fl, false, false)]) v := fun v hv => hv.mono (fun _ ha => (av _).2 (Or.inl ha))
  have gt : ∀ i, Alv s.T i → (s.T ++ [(kd, fl, false, false)]).getD i t0 = s.T.getD i t0 := fun i hi => by rw [getD_snoc, if_neg (by have := hi.1; omega)]
  have ge : (s.T ++ [(kd, fl, false, false)]).getD s.T.length t0 = (kd, fl, false, false) := by rw [getD_snoc, if_pos rfl]
  have ev : ∀ e, Evw s.T e → Evw (s.T ++ [(kd, fl, false, false)]) e := fun e he => ⟨⟨he.1.1, (av _).2 (Or.inl he.1.2)⟩, by rw [gt _ he.1.2]; exact he.2.1, he.2.2.1, (av _).2 (Or.inl he.2.2.2)⟩
  unfold Wrs.put
  refine { kd := fun i hi => ?_, fl := fun i hi hk => ?_, g5 := fun i hi hk => ?_, fv := fun i hi v hv => ?_, tl := fun i => ?_, rv := fun v hv => tr v (h.rv v hv), rl := h.rl, gv := fun e he => ev e (h.gv e he), wv := fun e he => ev e (h.wv e he), en := h.en, tj := ?_ }
  · rcases (av i).1 hi with hi | rfl
    · dsimp only
      rw [gt i hi]
      exact h.kd i hi
    · dsimp only
      rw [ge]
      exact ⟨h1, h2⟩
  · rcases (av i).1 hi with hi | rfl
    · dsimp only at hk ⊢
      rw [gt i hi] at hk ⊢
      exact h.fl i hi hk
    · dsimp only at hk ⊢
      rw [ge] at hk ⊢
      exact h3 hk
  · rcases (av i).1 hi with hi | rfl
    · dsimp only at hk ⊢
      rw [gt i hi] at hk ⊢
      exact h.g5 i hi hk
    · dsimp only at hk ⊢
      rw [ge] at hk ⊢
      exact h4 hk
  · rcases (av i).1 hi with hi | rfl
    · dsimp only at hv ⊢
      rw [gt i hi] at hv
      exact tr v (h.fv i hi v hv)
    · dsimp only at hv ⊢
      rw [ge] at hv
      exact tr v (hf v hv)
  · dsimp only
    rw [getD_snoc]
    split
    · exact hl
    · exact h.tl i
  · dsimp only
    rw [List.length_append, List.length_singleton]
    have := h.tj
    omega
theorem Gi.grw (h : Gi s j) (hj : j ≤ 10000) (hg : Gok s.T s.wt (g s.T s.wt)) {kd : Int} {fl : List (Int × Int)} (h1 : 1 ≤ kd) (h2 : kd ≤ 5) (h3 : kd = 3 ∨ kd = 4 → fl.length = 2) (h4 : kd = 5 → fl = []) (hf : ∀ v ∈ fl, v ∈ s.rs ∨ v = (0, 0)) (hl : fl.length ≤ 12) :
    Gi (s.grow g most grow kd fl).2.2 (j + 1) ∧ Vq (s.grow g most grow kd fl).2.2.T (s.grow g most grow kd fl).1 := by
  have hr := h.room hj hg (most := most) (grow := grow) (1 + fl.length)
  have hs := room_rts g most grow s (1 + fl.length)
  unfold Wrs.grow
  generalize s.room g most grow (1 + fl.length) = p at *
  obtain ⟨c, s1⟩ := p
  dsimp only at *
  split
  · dsimp only
    refine ⟨hr.put h1 h2 h3 h4 (fun v hv => ?_) hl, ?_⟩
    · rcases hf v hv with d | d
      · exact hr.rv v (by rw [hs]; exact d)
      · rw [d]
        exact vq_nil _
    · have hl2 := hr.tj
      refine ⟨vc3_in _ (by omega) (by omega), fun _ => ⟨by dsimp only; omega, ?_⟩⟩
      unfold Wrs.put
      exact (alv_snoc _ _ _ _).2 (Or.inr (by dsimp only; omega))
  · exact ⟨hr.more (Nat.le_succ _), vq_nil _⟩
theorem Gi.pop (h : Gi s j) (hj : j ≤ 10000) (v : Int × Int) : Gi (s.pop v).2.2 j ∧ Vq (s.pop v).2.2.T (s.pop v).1 := by
  unfold Wrs.pop
  split
  · split
    · rename_i c
      have he := h.wv _ (getD_in (x := (0, 0)) c)
      have hb := he.2.2.2.1
      have ht := h.tj
      refine ⟨{ h with wv := fun e hm => ?_, en := ?_ }, vc3_in _ he.2.2.1 (by dsimp only; omega), fun _ => he.2.2⟩
      · refine h.wv e ?_
        rcases List.mem_append.1 hm with d | d
        · exact List.mem_of_mem_take d
        · exact List.mem_of_mem_drop d
      · have := h.en
        dsimp only
        rw [List.length_append, List.length_take, List.length_drop]
        omega
    · exact ⟨h, vq_nil _⟩
  · exact ⟨h, vq_nil _⟩
theorem gdb_in {T : List Tw1} {v : Int × Int} (hv : Vq T v) (h : gdb T v = true) : (0 ≤ v.2 ∧ Alv T v.2.toNat) ∧ (T.getD v.2.toNat t0).1 = 5 := by
  obtain ⟨h1, h2⟩ := gdb_iff.1 h
  exact ⟨hv.2 h1, h2⟩
theorem Gi.reg (h : Gi s j) {t d : Int × Int} (ht : Vq s.T t) (hd : Vq s.T d) : Gi (s.reg t d).2 j := by
  unfold Wrs.reg
  split
  · rename_i c
    split
    · exact h
    · obtain ⟨q1, q2⟩ := gdb_in hd c.2
      refine { h with gv := fun e he => ?_, en := ?_ }
      · rcases List.mem_append.1 he with he | he
        · exact h.gv e he
        · rw [List.mem_singleton.1 he]
          exact ⟨q1, q2, ht.2 c.1⟩
      · dsimp only
        rw [List.length_append, List.length_singleton]
        omega
  · exact h
theorem getD_stf (T : List Tw1) (i q : Nat) (y : Int × Int) (k : Nat) (hi : i < T.length) : (stf T i q y).getD k t0 = if k = i then ((T.getD i t0).1, (T.getD i t0).2.1.set q y, (T.getD i t0).2.2) else T.getD k t0 := by
  unfold stf
  rw [List.getD_eq_getElem?_getD, List.getElem?_set]
  by_cases e : i = k
  · subst e
    rw [if_pos rfl, if_pos hi, if_pos rfl]
    rfl
  · rw [if_neg e, if_neg (fun c => e c.symm), ← List.getD_eq_getElem?_getD]
theorem alv_stf (T : List Tw1) (i q : Nat) (y : Int × Int) (hi : i < T.length) (k : Nat) : Alv (stf T i q y) k ↔ Alv T k := by
  unfold Alv
  rw [getD_stf T i q y k hi, List.length_set]
  split
  · rename_i e
    rw [e]
  · exact Iff.rfl
theorem Gi.set (h : Gi s j) {v y : Int × Int} (I : Int) (hv : Vq s.T v) (hy : Vq s.T y) : Gi (s.set v I y).2 j := by
  unfold Wrs.set
  dsimp only
  split
  · rename_i c
    have hfd : fdb s.T v = true := by
      cases e : fdb s.T v
      · unfold Wrs.fc at c
        rw [e, if_neg (by simp)] at c
        omega
      · rfl
    obtain ⟨h3, hk5⟩ := fdb_iff.1 hfd
    obtain ⟨_, ha⟩ := hv.2 h3
    generalize v.2.toNat = i at *
    have hi := ha.1
    have av := alv_stf s.T i I.toNat y hi
    have gt := fun k => getD_stf s.T i I.toNat y k hi
    have tr : ∀ v, Vq s.T v → Vq (stf s.T i I.toNat y) v := fun v hv => hv.mono (fun _ ha => (av _).2 ha)
    have k1 : ∀ k, ((stf s.T i I.toNat y).getD k t0).1 = (s.T.getD k t0).1 := fun k => by
      rw [gt k]
      split
      · rename_i e
        rw [e]
      · rfl
    have l1 : ∀ k, ((stf s.T i I.toNat y).getD k t0).2.1.length = (s.T.getD k t0).2.1.length := fun k => by
      rw [gt k]
      split
      · rename_i e
        rw [e, List.length_set]
      · rfl
    have ev : ∀ e, Evw s.T e → Evw (stf s.T i I.toNat y) e := fun e he => ⟨⟨he.1.1, (av _).2 he.1.2⟩, by rw [k1]; exact he.2.1, he.2.2.1, (av _).2 he.2.2.2⟩
    refine { kd := fun k hk => ?_, fl := fun k hk hq => ?_, g5 := fun k hk hq => ?_, fv := fun k hk x hx => ?_, tl := fun k => ?_, rv := fun x hx => tr x (h.rv x hx), rl := h.rl, gv := fun e he => ev e (h.gv e he), wv := fun e he => ev e (h.wv e he), en := h.en, tj := ?_ }
    · dsimp only
      rw [k1]
      exact h.kd k ((av k).1 hk)
    · dsimp only at hq ⊢
      rw [k1] at hq
      rw [l1]
      exact h.fl k ((av k).1 hk) hq
    · dsimp only at hq ⊢
      rw [k1] at hq
      have e0 : k ≠ i := fun e => hk5 (by rw [← e]; exact hq)
      rw [gt k, if_neg e0]
      exact h.g5 k ((av k).1 hk) hq
    · dsimp only at hx ⊢
      rw [gt k] at hx
      split at hx
      · rename_i e
        rcases List.mem_or_eq_of_mem_set hx with d | d
        · exact tr x (h.fv i ha x d)
        · rw [d]
          exact tr y hy
      · exact tr x (h.fv k ((av k).1 hk) x hx)
    · dsimp only
      rw [l1]
      exact h.tl k
    · dsimp only
      rw [List.length_set]
      exact h.tj
  · exact h
theorem Gi.root (h : Gi s j) (R : Nat) {v : Int × Int} (hv : Vq s.T v) : Gi { s with rs := s.rs.set R v } j :=
  { h with
    rv := fun x hx => (List.mem_or_eq_of_mem_set hx).elim (h.rv x) (fun e => by rw [e]; exact hv)
    rl := by dsimp only; rw [List.length_set]; exact h.rl }
theorem rt_mem (s : Wrs) (i : Nat) : s.rs.getD i (0, 0) ∈ s.rs ∨ s.rs.getD i (0, 0) = (0, 0) := by
  by_cases c : i < s.rs.length
  · exact Or.inl (getD_in c)
  · rw [List.getD_eq_getElem?_getD, List.getElem?_eq_none (by omega)]
    exact Or.inr rfl
theorem Gi.rts (h : Gi s j) (hj : j ≤ 10000) (hg : Gok s.T s.wt (g s.T s.wt)) {k R A B n : Int} (hc : ckC k R A B n = 0) (I : Int) : Gi (s.rt g most grow k A.toNat B.toNat I n).2.2 (j + 1) ∧ Vq (s.rt g most grow k A.toNat B.toNat I n).2.2.T (s.rt g most grow k A.toNat B.toNat I n).1 := by
  have hs := h.more (Nat.le_succ j)
  have two : ∀ v ∈ [s.rs.getD A.toNat (0, 0), s.rs.getD B.toNat (0, 0)], v ∈ s.rs ∨ v = (0, 0) := fun v hv => by
    have : v = s.rs.getD A.toNat (0, 0) ∨ v = s.rs.getD B.toNat (0, 0) := by simpa using hv
    rcases this with rfl | rfl
    · exact rt_mem s _
    · exact rt_mem s _
  have vn : ∀ x : Int, -1152921504606846976 ≤ x → x < 1152921504606846976 → Vq s.T (1, x) := fun x h1 h2 => ⟨by simp [vc, rc]; omega, fun h => by cases h⟩
  unfold Wrs.rt
  by_cases k1 : k = 1
  · rw [if_pos k1]
    subst k1
    exact ⟨hs, ck_in hc, fun h => by cases h⟩
  rw [if_neg k1]
  by_cases k3 : k = 3
  · rw [if_pos k3]
    exact ⟨hs, h.rt _⟩
  rw [if_neg k3]
  by_cases k4 : k = 4
  · rw [if_pos k4]
    exact h.grw hj hg (by decide) (by decide) (by simp) (by simp) two (by simp)
  rw [if_neg k4]
  by_cases k5 : k = 5
  · rw [if_pos k5]
    subst k5
    have hn := ck_vc hc
    exact h.grw hj hg (by decide) (by decide) (by simp) (by simp) (fun v hv => by rw [(List.mem_replicate.1 hv).2]; exact rt_mem s _) (by rw [List.length_replicate]; omega)
  rw [if_neg k5]
  by_cases k6 : k = 6
  · rw [if_pos k6]
    exact h.grw hj hg (by decide) (by decide) (by simp) (by simp) two (by simp)
  rw [if_neg k6]
  by_cases k7 : k = 7
  · rw [if_pos k7]
    exact h.grw hj hg (by decide) (by decide) (by simp) (by simp) two (by simp)
  rw [if_neg k7]
  by_cases k8 : k = 8
  · rw [if_pos k8]
    exact h.grw hj hg (by decide) (by decide) (by simp) (by simp) (by simp) (by simp)
  rw [if_neg k8]
  by_cases k10 : k = 10
  · rw [if_pos k10]
    have := h.pop hj (s.rs.getD A.toNat (0, 0))
    exact ⟨this.1.more (Nat.le_succ _), this.2⟩
  rw [if_neg k10]
  by_cases k11 : k = 11
  · rw [if_pos k11]
    refine ⟨hs, ?_⟩
    dsimp only
    split
    · rename_i c
      by_cases e : fdb s.T (s.rs.getD A.toNat (0, 0)) = true
      · obtain ⟨h3, _⟩ := fdb_iff.1 e
        have ha := ((h.rt A.toNat).2 h3).2
        by_cases ci : I.toNat < (s.T.getD (s.rs.getD A.toNat (0, 0)).2.toNat t0).2.1.length
        · exact h.fv _ ha _ (getD_in ci)
        · rw [List.getD_eq_getElem?_getD (l := (s.T.getD (s.rs.getD A.toNat (0, 0)).2.toNat t0).2.1), List.getElem?_eq_none (by omega)]
          exact vq_nil _
      · unfold Wrs.fc at c
        rw [if_neg e] at c
        omega
    · exact vq_nil _
  rw [if_neg k11]
  by_cases k13 : k = 13
  · rw [if_pos k13]
    split
    · refine ⟨hs, vn _ (by omega) ?_⟩
      have := h.tl (s.rs.getD A.toNat (0, 0)).2.toNat
      omega
    · exact ⟨hs, vq_nil _⟩
  rw [if_neg k13]
  by_cases k14 : k = 14
  · rw [if_pos k14]
    refine ⟨hs, ?_⟩
    dsimp only
    split
    · exact vn _ (by decide) (by decide)
    · exact vn _ (by decide) (by decide)
  rw [if_neg k14]
  exact ⟨hs, vq_nil _⟩
theorem Gi.dos (h : Gi s j) (hj : j ≤ 10000) (hg : Gok s.T s.wt (g s.T s.wt)) (k R A B I n : Int) : Gi (s.dos g most grow k R A B I n).2 (j + 1) := by
  have hs := Nat.le_succ j
  unfold Wrs.dos
  by_cases hc : ckC k R A B n = 0
  · rw [if_pos hc]
    split
    · exact (h.reg (h.rt _) (h.rt _)).more hs
    · split
      · exact (h.set I (h.rt _) (h.rt _)).more hs
      · split
        · exact (h.cut hj hg _ _).more hs
        · split
          · exact (h.cut hj hg _ _).more hs
          · have hr := h.rts hj hg hc I (most := most) (grow := grow)
            split
            · exact hr.1.root _ hr.2
            · exact hr.1
  · rw [if_neg hc]
    exact h.more hs
end

theorem Gi.start : Gi ⟨[], List.replicate 12 (0, 0), [], []⟩ 0 :=
  ⟨fun i hi => absurd hi.1 (by simp), fun i hi => absurd hi.1 (by simp), fun i hi => absurd hi.1 (by simp), fun i hi => absurd hi.1 (by simp), fun i => by simp [t0], fun v hv => by rw [(List.mem_replicate.1 hv).2]; exact vq_nil _, by simp, fun e he => by simp at he, fun e he => by simp at he, by simp, by simp⟩

end Go.Proofs.YtogknhogphkddaaGreat

/- A grove in memory: grow: a contract. -/
namespace Go.Proofs.YtogknhogphkddaaGreat
open Go.RowKit W Kp Stl

section
variable {gp rb : Nat} {most grow : Int} {F : Nat → Prop} {s : Wrs} {w : World} {g : Gfn}

theorem room_len (g : Gfn) (most grow : Int) (s : Wrs) (m : Int) : (s.room g most grow m).2.T.length = s.T.length := by
  unfold Wrs.room
  split
  · rfl
  · dsimp only
    unfold Wrs.cut
    split
    · rfl
    · exact cuL_len _ _ _

set_option maxRecDepth 100000 in
set_option maxHeartbeats 8000000 in
theorem growG_any {kd : Int} {fl : List (Int × Int)} {ad : Option Addr} {cap : Nat} (h : (grO gp most grow rb).J F s w) (hv : Wcv s) (hG : Gok s.T s.wt (g s.T s.wt)) (g0 : -1000000 ≤ grow) (g1 : grow ≤ 1000000) (m0 : -1000000 ≤ most) (m1 : most ≤ 1000000) (hl : fl.length ≤ 12) (hL : Li w ad fl cap) :
    Calls Tryz.prog 47 #[.pointer (some ⟨gp, 0, none⟩), .int .i64 kd, .slice ad fl.length cap] w fun e w' => ∃ F', e = .returned (.tuple #[.agg #[.int .i64 (s.grow g most grow kd fl).1.1, .int .i64 (s.grow g most grow kd fl).1.2], .int .i64 (s.grow g most grow kd fl).2.1]) ∧ (grO gp most grow rb).J F' (s.grow g most grow kd fl).2.2 w' ∧ Tn F w F' w' := by
  have HL : Hid (∀ b, F b → b < w.heap.size) := fun b hb => (grO gp most grow rb).lt h b hb
  have lF : ∀ b, F b → b < w.heap.size := HL.out
  have hrl := room_len g most grow s (1 + (fl.length : Int))
  have htl := hv.tl
  -- makeRoom, behind what was made
  have HR : Hid (∀ w2 : World, Below w.heap.size w w2 → ∀ tb a1 c1, w2.heap[w.heap.size]? = some (.cells #[.int .i64 0, .int .i64 0] 54 (0, 0)) → w2.heap[tb]? = some (.cells #[.int .i64 kd, .slice a1 fl.length c1] 76 (0, 0)) → w.heap.size ≤ tb → w2.ownsRow (w.heap.size + 1) 54 2 (.slice a1 fl.length c1) fl.length (ev fl) →
      Calls Tryz.prog 73 #[.pointer (some ⟨gp, 0, none⟩), .int .i64 (1 + (fl.length : Int))] w2 fun e w3 => e = .returned (.int .i64 (s.room g most grow (1 + (fl.length : Int))).1) ∧ w3.heap[w.heap.size]? = some (.cells #[.int .i64 0, .int .i64 0] 54 (0, 0)) ∧ w3.heap[tb]? = some (.cells #[.int .i64 kd, .slice a1 fl.length c1] 76 (0, 0)) ∧ w3.ownsRow (w.heap.size + 1) 54 2 (.slice a1 fl.length c1) fl.length (ev fl) ∧
        Hid (∃ F', (grO gp most grow rb).J F' (s.room g most grow (1 + (fl.length : Int))).2 w3 ∧ Tn F w F' w3 ∧ ¬ F' w.heap.size ∧ ¬ F' tb ∧ ∀ k, some k = (Value.slice a1 fl.length c1).ownBlock → ¬ F' k)) := fun w2 hb tb a1 c1 e1 e2 ht hr => by
    refine (roomG_any ((grO gp most grow rb).below h hb) hv hG g0 g1 m0 m1).mono ?_
    rintro e w3 ⟨F', rfl, hj, tn⟩
    have nF : ∀ b, w.heap.size ≤ b → b < w2.heap.size → ¬ F' b := fun b h1 h2 c => by
      rcases tn.sub b c with d | d
      · have := lF b d
        omega
      · omega
    have kp : ∀ b, w.heap.size ≤ b → b < w2.heap.size → w3.heap[b]? = w2.heap[b]? := fun b h1 h2 => tn.fr.block b h2 (fun d => by have := lF b d; omega)
    exact ⟨rfl, (kp _ (Nat.le_refl _) (lt_of_some e1)).trans e1, (kp _ ht (lt_of_some e2)).trans e2, row_keep hr (fun k e => kp k (by have := (row_lt hr k e).1; omega) (row_lt hr k e).2), F', hj, (Tn.of hb).trans tn, nF _ (Nat.le_refl _) (lt_of_some e1), nF _ ht (lt_of_some e2), fun k e => nF k (by have := (row_lt hr k e).1; omega) (row_lt hr k e).2⟩
  have HR2 : Hid (∀ (w1 : World) (a1 : Option Addr) (c1 : Nat), w1.ownsRow (w.alloc (.cells #[.int .i64 0, .int .i64 0] 54)).heap.size 54 2 (.slice a1 fl.length c1) fl.length (ev fl) → Below (w.alloc (.cells #[.int .i64 0, .int .i64 0] 54)).heap.size (w.alloc (.cells #[.int .i64 0, .int .i64 0] 54)) w1 →
      ∀ w2, Below (w1.alloc (.cells #[.int .i64 kd, .slice a1 fl.length c1] 76)).heap.size (w1.alloc (.cells #[.int .i64 kd, .slice a1 fl.length c1] 76)) w2 → Calls Tryz.prog 73 #[.pointer (some ⟨gp, 0, none⟩), .int .i64 (1 + (fl.length : Int))] w2 fun e w3 => e = .returned (.int .i64 (s.room g most grow (1 + (fl.length : Int))).1) ∧ w3.heap[w.heap.size]? = some (.cells #[.int .i64 0, .int .i64 0] 54 (0, 0)) ∧ w3.heap[w1.heap.size]? = some (.cells #[.int .i64 kd, .slice a1 fl.length c1] 76 (0, 0)) ∧ w.heap.size < w1.heap.size ∧ Hid (w3.ownsRow (w.heap.size + 1) 54 2 (.slice a1 fl.length c1) fl.length (ev fl)) ∧
        Hid (∃ F', (grO gp most grow rb).J F' (s.room g most grow (1 + (fl.length : Int))).2 w3 ∧ Tn F w F' w3 ∧ ¬ F' w.heap.size ∧ ¬ F' w1.heap.size ∧ ∀ k, some k = (Value.slice a1 fl.length c1).ownBlock → ¬ F' k)) := fun w1 a1 c1 hr hb w2 hb2 => by
    have z1 := hb.size
    have z2 := hb2.size
    simp at z1 z2 hr
    have bw : Below w.heap.size w w2 := ((((Below.refl _ w).alloc (Nat.le_refl _) _).trans (hb.mono (by simp))).alloc (by omega) _).trans (hb2.mono (by simp; omega))
    refine (HR.out w2 bw w1.heap.size a1 c1 ((hb2.block _ (by simp; omega)).trans ((Below.heap_alloc _ _ _ (by omega)).trans ((hb.block _ (by simp)).trans (heap_alloc_new w _)))) ((hb2.block _ (by simp)).trans (heap_alloc_new w1 _)) (by omega) (row_keep hr (fun k e => (hb2.block k (by have := (row_lt hr k e).2; simp; omega)).trans (Below.heap_alloc _ _ _ (row_lt hr k e).2)))).mono ?_
    rintro e w3 ⟨rfl, x1, x2, x3, x4⟩
    exact ⟨rfl, x1, x2, by omega, x3, x4⟩
  clear HR
  have P := cloneV_any (w.alloc (.cells #[.int .i64 0, .int .i64 0] 54)) ad fl cap ⟨hL.lp.below ((Below.refl _ _).alloc (Nat.le_refl _) _), hL.le, hL.nil⟩ (by omega)
  have hW : ∀ (k : Int) (a : Option Addr) (n c : Nat), n ≤ 12 → ∀ w : World, Calls Tryz.prog 31 #[.agg #[.int .i64 k, .slice a n c]] w fun e w' => e = .returned (.int .i64 (1 + n)) ∧ Below w.heap.size w w' := fun k a n c hn w => wordsG_any k a n c (by omega) w
  have HW : Hid (∀ (k : Int) (a : Option Addr) (n c : Nat), n ≤ 12 → ∀ w : World, Calls Tryz.prog 31 #[.agg #[.int .i64 k, .slice a n c]] w fun e w' => e = .returned (.int .i64 (1 + n)) ∧ Below w.heap.size w w') := hW
  have HE : Hid (s.grow g most grow kd fl = if (s.room g most grow (1 + (fl.length : Int))).1 = 0 then ((3, ((s.room g most grow (1 + (fl.length : Int))).2.T.length : Int)), 0, (s.room g most grow (1 + (fl.length : Int))).2.put kd fl) else ((0, 0), (s.room g most grow (1 + (fl.length : Int))).1, (s.room g most grow (1 + (fl.length : Int))).2)) := rfl
  generalize s.grow g most grow kd fl = R at *
  generalize (s.room g most grow (1 + (fl.length : Int))).1 = rc at *
  generalize (s.room g most grow (1 + (fl.length : Int))).2 = s2 at *
  have hwrap : (1 + (fl.length : Int)) ≤ 13 := by omega
  have hs2 : s2.T.length ≤ 10000 := by omega
  clear hW h hv hG hL lF hrl htl
  by_cases hrc : rc = 0
  · subst hrc
    have HE2 : Hid (R = ((3, (s2.T.length : Int)), 0, s2.put kd fl)) := HE.out.trans (if_pos rfl)
    clear HE
    go_enter Tryz.func47, Tryz.ntmps47
    go_wp2_with fail
    refine P.mono ?_
    clear P
    rintro e w1 ⟨a1, c1, rfl, hr1, hb1⟩
    have HB : Hid (_) := HR2.out w1 a1 c1 hr1 hb1
    clear hr1 hb1 HR2
    have P := HW.out kd a1 fl.length c1 hl (w1.alloc (.cells #[.int .i64 kd, .slice a1 fl.length c1] 76))
    go_wp2_with fail
    refine P.mono ?_
    clear P
    rintro e w2 ⟨rfl, hb2⟩
    have P := HB.out w2 hb2
    clear HB hb2
    go_wp2_with fail
    refine P.mono ?_
    clear P
    rintro e w3 ⟨rfl, x1, x2, hlt, HX, HJ⟩
    have HQ : Hid (w3.cell? ⟨gp, 3, none⟩ = some (.int .i64 s2.T.length) ∧ ∀ w4, Below w3.heap.size w3 w4 → ∃ mb w5, ((w4.alloc (.cells #[.int .i64 3, .int .i64 s2.T.length] 54)).cell? ⟨gp, 2, none⟩ = some (.map (some mb)) ∧ (w4.alloc (.cells #[.int .i64 3, .int .i64 s2.T.length] 54)).cell? ⟨gp, 3, none⟩ = some (.int .i64 s2.T.length) ∧ (w4.alloc (.cells #[.int .i64 3, .int .i64 s2.T.length] 54)).cell? ⟨w1.heap.size, 0, none⟩ = some (.int .i64 kd) ∧ (w4.alloc (.cells #[.int .i64 3, .int .i64 s2.T.length] 54)).cell? ⟨w1.heap.size, 1, none⟩ = some (.slice a1 fl.length c1)) ∧
        (Instr.mapUpdate 47 (.map (some mb)) (.int .i64 s2.T.length) (.agg #[.int .i64 kd, .slice a1 fl.length c1])).run Tryz.prog (w4.alloc (.cells #[.int .i64 3, .int .i64 s2.T.length] 54)).drew = .ok () w5 ∧
        (w5.cell? ⟨gp, 2, none⟩ = some (.map (some mb)) ∧ w5.cell? ⟨gp, 3, none⟩ = some (.int .i64 s2.T.length) ∧ w5.cell? ⟨w1.heap.size, 0, none⟩ = some (.int .i64 kd) ∧ w5.cell? ⟨w1.heap.size, 1, none⟩ = some (.slice a1 fl.length c1) ∧ (∀ o, w5.frozen? ⟨gp, o, none⟩ = false)) ∧
        (w5.cell? ⟨w4.heap.size, 0, none⟩ = some (.int .i64 3) ∧ w5.cell? ⟨w4.heap.size, 1, none⟩ = some (.int .i64 s2.T.length)) ∧ w5.heap[w.heap.size]? = some (.cells #[.int .i64 0, .int .i64 0] 54 (0, 0)) ∧ (gp ≠ w.heap.size ∧ gp ≠ w4.heap.size ∧ w4.heap.size ≠ w.heap.size) ∧
        Hid (∃ F', (grO gp most grow rb).J F' (s2.put kd fl) (((w5.setCell ⟨gp, 3, none⟩ (.int .i64 (s2.T.length + 1))).setCell ⟨w.heap.size, 0, none⟩ (.int .i64 3)).setCell ⟨w.heap.size, 1, none⟩ (.int .i64 s2.T.length)) ∧ Tn F w F' (((w5.setCell ⟨gp, 3, none⟩ (.int .i64 (s2.T.length + 1))).setCell ⟨w.heap.size, 0, none⟩ (.int .i64 3)).setCell ⟨w.heap.size, 1, none⟩ (.int .i64 s2.T.length)))) := by
      obtain ⟨F', ⟨l, gv, hrb, hF'⟩, tn, n1, n2, n3⟩ := HJ.out
      have c := gv.cells
      refine ⟨c.2.2.2.1, fun w4 hb4 => ?_⟩
      have lg := c.2.2.2.2.2.2.2.2
      have z3 := tn.fr.size
      have z4 := hb4.size
      have ba : Below w3.heap.size w3 (w4.alloc (.cells #[.int .i64 3, .int .i64 s2.T.length] 54)) := hb4.alloc z4 _
      have gva := gv.below ba
      have ca := gva.cells
      have hx2 := (ba.block w1.heap.size (lt_of_some x2)).trans x2
      obtain ⟨t0_, t1_, _, _⟩ := two_cells hx2
      obtain ⟨w5, hrun, hM, gr⟩ := (gv.below ba.drew).g2.mp.put (t := 47) (e := 76) Tryz.underlying47 (by have := gv.g2.mn; omega) (x := s2.T.length) (by omega) (by omega) (.agg #[.int .i64 kd, .slice a1 fl.length c1])
      have own0 : ∀ b, ¬ F' b → l.own b = 0 := fun b hb => by
        cases e : l.own b
        · rfl
        · exact absurd ((hF' b).2 (by rw [e]; omega)) hb
      have o0 := own0 _ n1
      have o1 := own0 _ n2
      have ngm : gp ≠ l.mb := fun e => by have h1 := gv.bo; rw [e, gv.g2.mo] at h1; omega
      have n0m : w.heap.size ≠ l.mb := fun e => by rw [e, gv.g2.mo] at o0; omega
      have ntm : w1.heap.size ≠ l.mb := fun e => by rw [e, gv.g2.mo] at o1; omega
      have n0g : gp ≠ w.heap.size := fun e => by have h1 := gv.bo; rw [e, o0] at h1; omega
      have lm : l.mb < w3.heap.size := gv.lt _ (by rw [gv.g2.mo]; decide)
      have l0 := lt_of_some x1
      have l1 := lt_of_some x2
      have k5 : ∀ b, b < w4.heap.size + 1 → b ≠ l.mb → w5.heap[b]? = (w4.alloc (.cells #[.int .i64 3, .int .i64 s2.T.length] 54)).heap[b]? := fun b hb hn => gr.block b (by simp; omega) (fun e => hn (Option.some.inj e))
      have k53 : ∀ b, b < w3.heap.size → b ≠ l.mb → w5.heap[b]? = w3.heap[b]? := fun b hb hn => (k5 b (by omega) hn).trans (ba.block b hb)
      have hgp5 := (k53 gp lg ngm).trans gv.blk
      have hn5 := (k5 w4.heap.size (by omega) (by omega)).trans (heap_alloc_new w4 _)
      obtain ⟨y0, y1, _, _⟩ := two_cells hn5
      obtain ⟨t2, t3, _, _⟩ := two_cells ((k53 _ l1 ntm).trans x2)
      have zs : w5.heap.size = (((w5.setCell ⟨gp, 3, none⟩ (.int .i64 (s2.T.length + 1))).setCell ⟨w.heap.size, 0, none⟩ (.int .i64 3)).setCell ⟨w.heap.size, 1, none⟩ (.int .i64 s2.T.length)).heap.size := by simp
      have z5 : w3.heap.size ≤ w5.heap.size := Nat.le_trans (Nat.le_trans z4 (by simp)) gr.size
      have kX : ∀ b, b ≠ gp → b ≠ w.heap.size → (((w5.setCell ⟨gp, 3, none⟩ (.int .i64 (s2.T.length + 1))).setCell ⟨w.heap.size, 0, none⟩ (.int .i64 3)).setCell ⟨w.heap.size, 1, none⟩ (.int .i64 s2.T.length)).heap[b]? = w5.heap[b]? := fun b h1 h2 => (Below.heap_setCell _ _ _ _ h2).trans ((Below.heap_setCell _ _ _ _ h2).trans (Below.heap_setCell _ _ _ _ h1))
      refine ⟨l.mb, w5, ⟨ca.2.2.1, ca.2.2.2.1, t0_, t1_⟩, hrun, ⟨by simp [World.cell?, hgp5], by simp [World.cell?, hgp5], t2, t3, fun o => by simp [World.frozen?, hgp5]⟩, ⟨y0, y1⟩, (k53 _ l0 n0m).trans x1, ⟨n0g, by omega, by omega⟩, ?_⟩
      obtain ⟨l', g1', g2', g3'⟩ := gv.new (kd := kd) (fl := fl) (a := a1) (cp := c1) (Nat.le_trans z5 (Nat.le_of_eq zs)) (fun b h0 h1 h2 => (kX b (fun e => h1 (by rw [e]; exact gv.bo)) (fun e => h0 (by rw [e]; exact o0))).trans (k53 b (gv.lt b h0) (fun e => h2 (by rw [e]; exact gv.g2.mo)))) (by
        rw [Below.heap_setCell _ _ _ _ n0g, Below.heap_setCell _ _ _ _ n0g]
        simp only [World.setCell, Array.getElem?_modify, if_true, hgp5, Option.map_some]
        rfl) (hM.same (kX _ ngm.symm n0m.symm)) (row_keep (row_base HX.out (fun k e => Nat.zero_le _)) (fun k e => by
          have ok := own0 k (n3 k e)
          have hk := row_lt HX.out k e
          exact (kX k (fun d => by have h1 := gv.bo; rw [← d, ok] at h1; omega) (by omega)).trans (k53 k hk.2 (fun d => by have h1 := gv.g2.mo; rw [← d, ok] at h1; omega)))) (fun k e => own0 k (n3 k e))
      refine ⟨fun b => l'.own b ≠ 0, ⟨l', g1', g3'.trans hrb, fun _ => Iff.rfl⟩, ⟨⟨?_, ?_, ?_, by rw [← zs]; omega, fun k hk hn => ?_⟩, fun b hb => ?_⟩⟩
      · exact (show _ = w5.os from rfl).trans (gr.os.trans (ba.os.trans tn.fr.os))
      · exact (show _ = w5.tape from rfl).trans (gr.tape.trans (ba.tape.trans tn.fr.tape))
      · exact (show _ = w5.output from rfl).trans (gr.output.trans (ba.output.trans tn.fr.output))
      · have hgF : ∀ b, F' b → b < w.heap.size → F b := fun b h1 h2 => (tn.sub b h1).resolve_right (by omega)
        exact (kX k (fun e => hn (hgF k ((hF' k).2 (by rw [e, gv.bo]; decide)) hk)) (by omega)).trans ((k53 k (by omega) (fun e => hn (hgF k ((hF' k).2 (by rw [e, gv.g2.mo]; decide)) hk))).trans (tn.fr.block k hk hn))
      · rcases g2' b hb with d | d
        · exact tn.sub b ((hF' b).2 d)
        · exact Or.inr (by have := (row_lt HX.out b d).1; omega)
    clear HX HJ x1 x2
    obtain ⟨d3, HQ2⟩ := HQ.out
    have HQ2 : Hid (_) := HQ2
    clear HQ
    have P := refValue_any s2.T.length w3
    go_wp2_with fail
    refine P.mono ?_
    clear P
    rintro e w4 ⟨rfl, hb4⟩
    obtain ⟨mb, w5, ⟨p2, p3, q0, q1⟩, hrun, ⟨u2, u3, v0, v1, uf⟩, ⟨y0, y1⟩, hn0, ⟨nd1, nd2, nd3⟩, HZ⟩ := HQ2.out w4 hb4
    have uf3 := uf 3
    obtain ⟨e0, e1, f0, lw⟩ := two_cells hn0
    have HN : Hid (_ = _) := hn0
    clear hb4 HQ2 hn0 d3 uf
    go_wp2_with fail
    go_region_held3 (fun w' => w'.cell? ⟨gp, 2, none⟩ = some (.map (some mb)) ∧ w'.cell? ⟨gp, 3, none⟩ = some (.int .i64 s2.T.length) ∧ w'.cell? ⟨w1.heap.size, 0, none⟩ = some (.int .i64 kd) ∧ w'.cell? ⟨w1.heap.size, 1, none⟩ = some (.slice a1 fl.length c1)) (go_keep) (fail)
    all_goals
      clear p2 p3 q0 q1 hrun u2 v0 v1
      go_wp2_with fail
      obtain ⟨r0, r1, _, _⟩ := two_cells (set_two (v1 := .int .i64 3) (v2 := .int .i64 s2.T.length) ((Below.heap_setCell w5 ⟨gp, 3, none⟩ (.int .i64 (s2.T.length + 1)) w.heap.size nd1.symm).trans HN.out))
      obtain ⟨F', hj, tn⟩ := HZ.out
      exact bodyPost_ret (v := .tuple #[.agg #[.int .i64 3, .int .i64 s2.T.length], .int .i64 0]) (by simp [results, Tryz.results47, go_sem, r0, r1]) rfl ⟨F', by rw [HE2.out], by rw [HE2.out]; exact hj, tn⟩
  · have HE2 : Hid (R = ((0, 0), rc, s2)) := HE.out.trans (if_neg hrc)
    clear HE
    go_enter Tryz.func47, Tryz.ntmps47
    go_wp2_with fail
    refine P.mono ?_
    clear P
    rintro e w1 ⟨a1, c1, rfl, hr1, hb1⟩
    have HB : Hid (_) := HR2.out w1 a1 c1 hr1 hb1
    clear hr1 hb1 HR2
    have P := HW.out kd a1 fl.length c1 hl (w1.alloc (.cells #[.int .i64 kd, .slice a1 fl.length c1] 76))
    go_wp2_with fail
    refine P.mono ?_
    clear P
    rintro e w2 ⟨rfl, hb2⟩
    have P := HB.out w2 hb2
    clear HB hb2
    go_wp2_with fail
    refine P.mono ?_
    clear P
    rintro e w3 ⟨rfl, x1, x2, hlt, HX, HJ⟩
    obtain ⟨e0, e1, f0, lw⟩ := two_cells x1
    have HN : Hid (_ = _) := x1
    clear x1 x2 HX
    go_wp2_with fail
    obtain ⟨r0, r1, _, _⟩ := two_cells (set_two (v1 := .int .i64 0) (v2 := .int .i64 0) HN.out)
    obtain ⟨F', hj, tn, n1, _⟩ := HJ.out
    exact bodyPost_ret (v := .tuple #[.agg #[.int .i64 0, .int .i64 0], .int .i64 rc]) (by simp [results, Tryz.results47, go_sem, r0, r1]) rfl ⟨F', by rw [HE2.out], by rw [HE2.out]; exact (grO gp most grow rb).set2 hj n1 _ _, tn.set2 (Nat.le_refl _) _ _⟩
end

end Go.Proofs.YtogknhogphkddaaGreat
