/- Joined: Ws11, Ws12, Ws13, Ws14, Ws18. -/
import Derived.Test.YtmocakafnnkjfabGreatJ30
import Derived.Test.YtmocakafnnkjfabGreatJ31
import Derived.Test.YtmocakafnnkjfabGreatJ32
import Derived.Test.YtmocakafnnkjfabGreatJ26
import Derived.Test.YtmocakafnnkjfabGreatJ05
import Derived.Test.YtmocakafnnkjfabGreatJ06
import Derived.Test.YtmocakafnnkjfabGreatJ25
import Derived.Test.YtmocakafnnkjfabGreatJ21
/- A wood and a world: do, whatever the step; what the world keeps. -/
namespace Go.Proofs.YtmocakafnnkjfabGreat
open Go.RowKit W Kp Stl

def doS (c : Bc) (S : Ww × Wrs) (d A B C : Int) : Ww × Wrs :=
  if d = 0 then boM c S A B C else if d = 1 then boS c S A B C else if d = 2 then boG c S A B C else if d = 3 then boI S A C
  else if d = 4 then (⟨{ S.1.s with rs := S.1.s.rs.set (rtN C) 2 }, S.1.r, S.1.q⟩, { S.2 with rs := S.2.rs.set (rtN C) (0, 0) }) else if d = 5 then boR c S A C else S
def doB (c : Bc) (S : Ww × Wrs) (d A B C : Int) : Bool :=
  if d = 0 then S.2.fB c.most A B == decide (0 ≤ mkR c.a.N S.1.s.y A B) else if d = 1 ∨ d = 2 then fcC c.a.N S.1.s.y S.1.s.g S.1.s.ws (S.1.s.rs.getD (rtN A) 0) B == S.2.gc (rtN A) B
  else if d = 3 then vc 1 A == rc A (-1152921504606846976) else if d = 5 then (S.1.rK c.a (rtN A) (rtN C) && !fulB (S.1.r.length + S.1.q.length)) == (S.2.rc (rtN A) (rtN C) == 0) else true

section
variable {c : Bc} {F : Nat → Prop} {S : Ww × Wrs} {w : World}

theorem do_any (h : (boO c).J F S w) (hB : RB S.2) (m0 : 0 ≤ c.most) (m1 : c.most ≤ 100000) (hM : S.1.s.M.length ≤ 100000) (hr : S.1.r.length ≤ 90000) (hq : S.1.q.length ≤ 90000) (d A B C : Int) :
    Calls Tryz.prog 15 #[.pointer (some ⟨c.pb, 0, none⟩), csV d A B C] w fun e w' => ∃ F', e = .returned (.bool (doB c S d A B C)) ∧ (boO c).J F' (doS c S d A B C) w' ∧ Tn F w F' w' := by
  unfold doB doS
  by_cases e0 : d = 0
  · subst e0
    exact do0_any h hB m0 m1 A B C
  by_cases e1 : d = 1
  · subst e1
    exact do1_any h hB hM A B C
  by_cases e2 : d = 2
  · subst e2
    exact do2_any h hB A B C
  by_cases e3 : d = 3
  · subst e3
    exact do3_any h A B C
  by_cases e4 : d = 4
  · subst e4
    exact do4_any h A B C
  by_cases e5 : d = 5
  · subst e5
    exact do5_any h hB hr hq A B C
  rw [if_neg e0, if_neg e0, if_neg e1, if_neg (fun e => e.elim e1 e2), if_neg e2, if_neg e3, if_neg e3, if_neg e4, if_neg e5, if_neg e5]
  exact do9_any h d A B C (by omega)
end

/-! ### the world alone -/
structure Wok (s : Wrs) : Prop where
  rl : s.rs.length = 12
  rv : ∀ v ∈ s.rs, v.1 = 3 → 0 ≤ v.2 ∧ v.2 < s.T.length
  tv : ∀ t ∈ s.T, ∀ v ∈ t.2.1, v.1 = 3 → 0 ≤ v.2 ∧ v.2 < s.T.length
  tl : ∀ t ∈ s.T, t.2.1.length ≤ 12

theorem mem_set_or {α : Type} {l : List α} {i : Nat} {x y : α} (h : y ∈ l.set i x) : y ∈ l ∨ y = x := List.mem_or_eq_of_mem_set h
theorem getD_mem_or {α : Type} (l : List α) (i : Nat) (x : α) : l.getD i x ∈ l ∨ l.getD i x = x := by
  by_cases h : i < l.length
  · left
    rw [List.getD_eq_getElem?_getD, List.getElem?_eq_getElem h]
    exact List.getElem_mem h
  · right
    rw [List.getD_eq_getElem?_getD, List.getElem?_eq_none (by omega)]
    rfl

theorem Wok.start (n o : Nat) : Wok (bo0 n o).2 := ⟨by simp [bo0], fun v hv e => by
  have h1 := List.eq_of_mem_replicate hv
  subst h1
  exact absurd e (by decide), fun t ht => (by cases ht), fun t ht => (by cases ht)⟩
theorem Wok.th {s : Wrs} (h : Wok s) (i : Nat) (hi : 0 ≤ s.th i) : s.th i < s.T.length := by
  unfold Wrs.th at hi ⊢
  split at hi
  · rename_i e
    rw [if_pos e]
    rcases getD_mem_or s.rs i (0, 0) with d | d
    · exact (h.rv _ d e).2
    · rw [d] at e
      exact absurd e (by decide)
  · omega
theorem Wok.root {s : Wrs} (h : Wok s) (i : Nat) (v : Int × Int) (hv : v.1 = 3 → 0 ≤ v.2 ∧ v.2 < s.T.length) : Wok { s with rs := s.rs.set i v } :=
  ⟨by rw [List.length_set]; exact h.rl, fun x hx e => (mem_set_or hx).elim (fun d => h.rv x d e) (fun d => by subst d; exact hv e), h.tv, h.tl⟩
theorem Wok.field {s : Wrs} (h : Wok s) (A : Nat) (I : Int) (e : (s.gf A I).1 = 3) : 0 ≤ (s.gf A I).2 ∧ (s.gf A I).2 < s.T.length := by
  unfold Wrs.gf at e ⊢
  rcases getD_mem_or s.T (s.th A).toNat (0, [], false, false) with d | d
  · rcases getD_mem_or (s.T.getD (s.th A).toNat (0, [], false, false)).2.1 I.toNat (0, 0) with g | g
    · exact h.tv _ d _ g e
    · rw [g] at e
      exact absurd e (by decide)
  · rw [d] at e
    exact absurd e (by simp)
theorem Wok.set {s : Wrs} (h : Wok s) (A B : Nat) (I : Int) : Wok { s with T := s.sT A B I } := by
  have hlen : (s.sT A B I).length = s.T.length := List.length_set ..
  refine ⟨h.rl, fun v hv e => by have := h.rv v hv e; dsimp only; omega, fun t ht v hv e => ?_, fun t ht => ?_⟩
  · dsimp only at ht ⊢
    rw [hlen]
    rcases mem_set_or ht with d | d
    · exact h.tv t d v hv e
    · subst d
      dsimp only at hv
      rcases mem_set_or hv with g | g
      · rcases getD_mem_or s.T (s.th A).toNat (0, [], false, false) with k | k
        · exact h.tv _ k v g e
        · rw [k] at g
          cases g
      · subst g
        rcases getD_mem_or s.rs B (0, 0) with k | k
        · exact h.rv _ k e
        · rw [k] at e
          exact absurd e (by decide)
  · rcases mem_set_or ht with d | d
    · exact h.tl t d
    · subst d
      dsimp only
      rw [List.length_set]
      rcases getD_mem_or s.T (s.th A).toNat (0, [], false, false) with k | k
      · exact h.tl _ k
      · rw [k]
        simp
theorem Wok.fr {s : Wrs} (h : Wok s) (most : Int) (i : Nat) (k f : Int) : Wok (s.fr most i k f) ∧ (s.fr most i k f).T.length ≤ s.T.length + 1 := by
  unfold Wrs.fr
  split
  · rename_i hb
    have hf := hc_bd k f (of_decide_eq_true hb).1
    refine ⟨⟨by simp [h.rl], fun v hv e => ?_, fun t ht v hv e => ?_, fun t ht => ?_⟩, by simp⟩
    · simp only [List.length_append, List.length_cons, List.length_nil]
      rcases mem_set_or hv with d | d
      · have := h.rv v d e
        omega
      · subst d
        dsimp only
        omega
    · simp only [List.length_append, List.length_cons, List.length_nil]
      rcases List.mem_append.1 ht with d | d
      · have := h.tv t d v hv e
        omega
      · rw [List.mem_singleton] at d
        subst d
        have h1 := List.eq_of_mem_replicate hv
        subst h1
        exact absurd e (by decide)
    · rcases List.mem_append.1 ht with d | d
      · exact h.tl t d
      · rw [List.mem_singleton] at d
        subst d
        dsimp only
        rw [List.length_replicate]
        omega
  · exact ⟨h, by omega⟩

end Go.Proofs.YtmocakafnnkjfabGreat

/- A wood and a world: what the world keeps from step to step. -/
namespace Go.Proofs.YtmocakafnnkjfabGreat
open Go.RowKit W Kp Stl

theorem doS_world {c : Bc} {S : Ww × Wrs} (h : Wok S.2) (d A B C : Int) : Wok (doS c S d A B C).2 ∧ (doS c S d A B C).2.T.length ≤ S.2.T.length + 1 ∧ (doS c S d A B C).2.rg.length ≤ S.2.rg.length + 1 ∧ (doS c S d A B C).2.wt = S.2.wt := by
  unfold doS
  by_cases e0 : d = 0
  · rw [if_pos e0]
    obtain ⟨h1, h2⟩ := h.fr c.most (rtN C) A B
    refine ⟨h1, h2, ?_, ?_⟩
    · show (S.2.fr c.most (rtN C) A B).rg.length ≤ _
      unfold Wrs.fr
      split <;> simp
    · show (S.2.fr c.most (rtN C) A B).wt = _
      unfold Wrs.fr
      split <;> rfl
  rw [if_neg e0]
  by_cases e1 : d = 1
  · rw [if_pos e1]
    unfold boS
    dsimp only
    split
    · exact ⟨h.set (rtN A) (rtN C) B, by simp [Wrs.sT], by simp, rfl⟩
    · exact ⟨h, by omega, by omega, rfl⟩
  rw [if_neg e1]
  by_cases e2 : d = 2
  · rw [if_pos e2]
    unfold boG
    dsimp only
    split
    · exact ⟨h.root _ _ (fun e => h.field _ _ e), by simp, by simp, rfl⟩
    · exact ⟨h, by omega, by omega, rfl⟩
  rw [if_neg e2]
  by_cases e3 : d = 3
  · rw [if_pos e3]
    unfold boI
    dsimp only
    split
    · exact ⟨h.root _ _ (fun e => absurd e (by simp)), by simp, by simp, rfl⟩
    · exact ⟨h, by omega, by omega, rfl⟩
  rw [if_neg e3]
  by_cases e4 : d = 4
  · rw [if_pos e4]
    exact ⟨h.root _ _ (fun e => absurd e (by simp)), by simp, by simp, rfl⟩
  rw [if_neg e4]
  by_cases e5 : d = 5
  · rw [if_pos e5]
    unfold boR
    dsimp only
    split
    · exact ⟨⟨h.rl, h.rv, h.tv, h.tl⟩, by simp, by simp, rfl⟩
    · exact ⟨h, by omega, by omega, rfl⟩
  rw [if_neg e5]
  exact ⟨h, by omega, by omega, rfl⟩

theorem Wok.rb {s : Wrs} (h : Wok s) (h1 : s.T.length ≤ 10000) (h2 : s.rg.length ≤ 10000) (h3 : s.wt.length ≤ 10000) : RB s :=
  ⟨fun i _ hi => h.th i hi, h.tl, h1, h2, h3⟩

end Go.Proofs.YtmocakafnnkjfabGreat

/- Cards: an old thing that leads to a young one has its card marked: kept from step to step. -/
namespace Go.Proofs.YtmocakafnnkjfabGreat
open Go.RowKit W Kp Stl

def CdI (N O y g : Nat) (ws M Y G : List Int) : Prop :=
  ∀ v ∈ G, ∀ i, 0 ≤ i → i < pf (ld N y g ws v) → aB (ld N y g ws (v + 1 + i)) = true → aV (ld N y g ws (v + 1 + i)) ∈ Y → (cB N (nC O) v && M.contains (cN N v)) = true

section
variable {N O y g : Nat} {ws M Y G rs : List Int}

theorem CdI.make (h : WInv N y g ws Y G rs) (hc : CdI N O y g ws M Y G) (hl : ws.length = N + O) {k f : Int} (hm : mkB N y k f = true) : CdI N O (mkY N y k f) g (mkW N y k f ws) M (Y ++ [(y : Int)]) G := by
  obtain ⟨h1, h2⟩ := mkB_yes hm
  have hf := hc_bd k f h1
  have eY : mkY N y k f = y + 1 + f.toNat := by unfold mkY; rw [if_pos hm]
  have eW : mkW N y k f ws = fil ws y (hw k f) f.toNat := by unfold mkW; rw [if_pos hm]
  have hlt : y + f.toNat < ws.length := by omega
  rw [eY, eW]
  intro v hv i i0 i1 ha hy
  have hi := h.full.io v hv
  have e0 : ld N (y + 1 + f.toNat) g (fil ws y (hw k f) f.toNat) v = ld N y g ws v := by
    rw [ld_in (iB_o hi.1 hi.2), ld_in (iB_o hi.1 hi.2), fil_get _ _ _ _ _ hlt, if_neg (by omega), if_neg (by omega)]
  rw [e0] at i1
  have hb := field_o h.full hv i0 i1
  have e1 : ld N (y + 1 + f.toNat) g (fil ws y (hw k f) f.toNat) (v + 1 + i) = ld N y g ws (v + 1 + i) := by
    rw [ld_in (iB_o hb.1 hb.2), ld_in (iB_o hb.1 hb.2), fil_get _ _ _ _ _ hlt, if_neg (by omega), if_neg (by omega)]
  rw [e1] at ha hy
  rcases List.mem_append.1 hy with d | d
  · exact hc v hv i i0 i1 ha d
  · simp at d
    rcases h.fd v (Or.inr hv) i i0 i1 ha with e | e
    · have := (h.full.iy _ e).2
      omega
    · have := (h.full.io _ e).1
      omega

theorem cB_old {v : Int} (h0 : (N : Int) ≤ v) (h1 : v < (N : Int) + g) (hg : g ≤ O) : cB N (nC O) v = true := by
  unfold cB nC
  rw [if_neg (by omega)]
  simp only [Bool.and_eq_true, decide_eq_true_eq]
  omega

theorem fc_no2 {x i z c : Int} (h : fcC N y g ws x i ≠ 0) : stW N y g ws x i z = ws ∧ stM N y g ws x i z c M = M := by
  refine ⟨by unfold stW; rw [if_neg h], ?_⟩
  have e : stB N y g ws x i z = false := by
    unfold stB
    rw [decide_eq_false h]
    rfl
  unfold stM
  rw [e]
  rfl
theorem same_thing (h : Full2 N y g ws Y G) {u v i j : Int} (hu : u ∈ G) (hv : v ∈ G) (i0 : 0 ≤ i) (i1 : i < pf (ld N y g ws u)) (j0 : 0 ≤ j) (j1 : j < pf (ld N y g ws v)) (e : u + 1 + i = v + 1 + j) : u = v := by
  rcases Int.lt_trichotomy u v with d | d | d
  · have := h.to.apart u hu v hv d
    omega
  · exact d
  · have := h.to.apart v hv u hu d
    omega

theorem CdI.set (h : WInv N y g ws Y G rs) (hc : CdI N O y g ws M Y G) (hl : ws.length = N + O) (hN : N ≤ 256) (hy : y ≤ N) (hO : O ≤ 1024) (hg : g ≤ O) (x i z : Int) : CdI N O y g (stW N y g ws x i z) (stM N y g ws x i z (nC O) M) Y G := by
  by_cases hfc : fcC N y g ws x i = 0
  · obtain ⟨t1, t2, t3, t4⟩ := fcC_zero hfc
    obtain ⟨l1, l2⟩ := h.full.lists (O := O) hN hy hO hg
    have hv : aV x ∈ Y ∨ aV x ∈ G := by
      unfold tB at t1
      rw [l1, l2] at t1
      have t5 := (Bool.and_eq_true _ _ ▸ t1 : aB x = true ∧ (Y.contains (aV x) || G.contains (aV x)) = true).2
      simpa using t5
    have hst := h.full.stands hy hv
    rw [hst] at t4
    have hi0 := field_i h.full hv t3 t4
    have hbd := iB_bd (O := O) hi0 hy hg
    have eW : stW N y g ws x i z = ws.set (aV x + 1 + i).toNat z := by
      unfold stW
      rw [if_pos hfc, if_pos hi0]
    obtain ⟨hF, hk⟩ := h.full.set (z := z) hl hy hg hv t3 t4
    rw [eW]
    have hsub : ∀ k, M.contains k = true → (stM N y g ws x i z (nC O) M).contains k = true := fun k hk => by
      unfold stM
      split
      · unfold mkM
        split
        · rw [has_addM, hk]
          rfl
        · exact hk
      · exact hk
    intro v hv' j j0 j1 ha hyo
    rw [hk v (Or.inr hv')] at j1
    have hi := field_i h.full (Or.inr hv') j0 j1
    have hbi := iB_bd (O := O) hi hy hg
    have e1 : ld N y g (ws.set (aV x + 1 + i).toNat z) (v + 1 + j) = if (aV x + 1 + i).toNat = (v + 1 + j).toNat then z else ld N y g ws (v + 1 + j) := by
      rw [ld_in hi, ld_in hi, getD_set _ _ _ _ (by omega)]
    rw [e1] at ha hyo
    have hvo := h.full.io v hv'
    by_cases e : (aV x + 1 + i).toNat = (v + 1 + j).toNat
    · rw [if_pos e] at ha hyo
      have e2 : aV x + 1 + i = v + 1 + j := by omega
      have hz := h.full.iy _ hyo
      have hav : hB N g (aV x) = true := by
        unfold hB
        rw [decide_eq_true_eq]
        rcases hv with d | d
        · have h1 := field_y h.full d t3 t4
          have h2 := field_o h.full hv' j0 j1
          omega
        · have := h.full.io _ d
          omega
      have eo := hB_yes hav
      have hsb : stB N y g ws x i z = true := by
        unfold stB
        rw [ha, hav, decide_eq_true hfc]
        simp only [Bool.true_and, Bool.and_true]
        unfold hB
        rw [decide_eq_true_eq]
        omega
      have hxG : aV x ∈ G := by
        rcases hv with d | d
        · have := h.full.iy _ d
          omega
        · exact d
      have evx : aV x = v := same_thing h.full hxG hv' t3 t4 j0 j1 e2
      rw [Bool.and_eq_true]
      refine ⟨cB_old hvo.1 hvo.2 hg, ?_⟩
      unfold stM
      rw [if_pos hsb, evx, mkM_yes (cB_old hvo.1 hvo.2 hg), has_addM]
      simp
    · rw [if_neg e] at ha hyo
      have h1 := hc v hv' j j0 j1 ha hyo
      rw [Bool.and_eq_true] at h1 ⊢
      exact ⟨h1.1, hsub _ h1.2⟩
  · obtain ⟨e1, e2⟩ := fc_no2 (z := z) (c := nC O) (M := M) hfc
    rw [e1, e2]
    exact hc
end

end Go.Proofs.YtmocakafnnkjfabGreat

/- Cards: what is done keeps the wood in order. -/
namespace Go.Proofs.YtmocakafnnkjfabGreat
open Go.RowKit W Kp Stl

structure Wbd (a : Wc) (s : Wst) : Prop where
  n0 : 16 ≤ a.N
  n1 : a.N ≤ 256
  o1 : a.O ≤ 1024
  y1 : s.y ≤ a.N
  g1 : s.g ≤ a.O
  l1 : s.ws.length = a.N + a.O
  r1 : s.rs.length = 12
structure KInv (a : Wc) (s : Wst) (Y G : List Int) : Prop where
  inv : WInv a.N s.y s.g s.ws Y G s.rs
  cd : CdI a.N a.O s.y s.g s.ws s.M Y G

section
variable {a : Wc} {s : Wst} {Y G : List Int}

theorem KInv.root (h : KInv a s Y G) (k : Nat) (x : Int) (hx : aB x = true → aV x ∈ Y ∨ aV x ∈ G) : KInv a { s with rs := s.rs.set k x } Y G := ⟨h.inv.root k x hx, h.cd⟩
theorem KInv.set (h : KInv a s Y G) (hb : Wbd a s) (k m : Nat) (hk : k < 12) (i : Int) (hm : m < 12) :
    KInv a { s with ws := stW a.N s.y s.g s.ws (s.rs.getD k 0) i (s.rs.getD m 0), M := stM a.N s.y s.g s.ws (s.rs.getD k 0) i (s.rs.getD m 0) (nC a.O) s.M } Y G := by
  refine ⟨?_, CdI.set h.inv h.cd hb.l1 hb.n1 hb.y1 hb.o1 hb.g1 _ _ _⟩
  dsimp only
  by_cases hfc : fcC a.N s.y s.g s.ws (s.rs.getD k 0) i = 0
  · obtain ⟨t1, t2, t3, t4⟩ := fcC_zero hfc
    have hax : aB (s.rs.getD k 0) = true := by
      rw [← h.inv.tb (O := a.O) hb.n1 hb.y1 hb.o1 hb.g1 k (by rw [hb.r1]; exact hk)]
      exact t1
    have hv := h.inv.at k (by rw [hb.r1]; exact hk) hax
    rw [h.inv.full.stands hb.y1 hv] at t4
    have hi := field_i h.inv.full hv t3 t4
    unfold stW
    rw [if_pos hfc, if_pos hi]
    exact h.inv.set hb.l1 hb.y1 hb.g1 hv t3 t4 (fun d => h.inv.at m (by rw [hb.r1]; exact hm) d)
  · rw [(fc_no2 (M := s.M) (c := nC a.O) hfc).1]
    exact h.inv
theorem KInv.get (h : KInv a s Y G) (hb : Wbd a s) (k : Nat) (hk : k < 12) (i : Int) (hfc : fcC a.N s.y s.g s.ws (s.rs.getD k 0) i = 0) (ha : aB (ld a.N s.y s.g s.ws (aV (s.rs.getD k 0) + 1 + i)) = true) : aV (ld a.N s.y s.g s.ws (aV (s.rs.getD k 0) + 1 + i)) ∈ Y ∨ aV (ld a.N s.y s.g s.ws (aV (s.rs.getD k 0) + 1 + i)) ∈ G := by
  obtain ⟨t1, t2, t3, t4⟩ := fcC_zero hfc
  have hax : aB (s.rs.getD k 0) = true := by
    rw [← h.inv.tb (O := a.O) hb.n1 hb.y1 hb.o1 hb.g1 k (by rw [hb.r1]; exact hk)]
    exact t1
  have hv := h.inv.at k (by rw [hb.r1]; exact hk) hax
  rw [h.inv.full.stands hb.y1 hv] at t4
  exact h.inv.fd _ hv i t3 t4 ha
theorem KInv.make (h : KInv a s Y G) (hb : Wbd a s) (k f : Int) (m : Nat) : ∃ Y', KInv a { s with y := mkY a.N s.y k f, ws := mkW a.N s.y k f s.ws, rs := if 0 ≤ mkR a.N s.y k f then s.rs.set m (ew 3 (mkR a.N s.y k f)) else s.rs } Y' G := by
  cases hm : mkB a.N s.y k f
  · refine ⟨Y, ?_⟩
    have e1 : mkY a.N s.y k f = s.y := by unfold mkY; rw [hm]; rfl
    have e2 : mkW a.N s.y k f s.ws = s.ws := by unfold mkW; rw [hm]; rfl
    have e3 : ¬ 0 ≤ mkR a.N s.y k f := by unfold mkR; rw [hm, if_neg (by simp)]; omega
    rw [e1, e2, if_neg e3]
    exact h
  · have e3 : mkR a.N s.y k f = s.y := by unfold mkR; rw [hm]; rfl
    rw [e3, if_pos (by omega)]
    have h1 := h.inv.make (O := a.O) hb.l1 hm
    obtain ⟨z1, z2⟩ := ew_at s.y (by have := hb.y1; have := hb.n1; omega)
    exact ⟨Y ++ [(s.y : Int)], h1.root m _ (fun _ => Or.inl (by rw [z2]; simp)), CdI.make h.inv h.cd hb.l1 hm⟩
end

theorem doS_wood {c : Bc} {S : Ww × Wrs} {Y G : List Int} (h : KInv c.a S.1.s Y G) (hb : Wbd c.a S.1.s) (d A B C : Int) : ∃ Y', KInv c.a (doS c S d A B C).1.s Y' G := by
  unfold doS
  by_cases e0 : d = 0
  · rw [if_pos e0]
    exact h.make hb A B (rtN C)
  rw [if_neg e0]
  by_cases e1 : d = 1
  · rw [if_pos e1]
    exact ⟨Y, h.set hb _ _ (rtN_lt A) B (rtN_lt C)⟩
  rw [if_neg e1]
  by_cases e2 : d = 2
  · rw [if_pos e2]
    refine ⟨Y, ?_⟩
    unfold boG
    dsimp only
    split
    · rename_i hfc
      exact h.root _ _ (fun ha => h.get hb _ (rtN_lt A) B hfc ha)
    · exact h
  rw [if_neg e2]
  by_cases e3 : d = 3
  · rw [if_pos e3]
    refine ⟨Y, ?_⟩
    unfold boI
    dsimp only
    split
    · rename_i hv
      refine h.root _ _ (fun ha => ?_)
      have h1 := (at_enc 1 A hv).1
      rw [h1] at ha
      exact absurd ha (by decide)
    · exact h
  rw [if_neg e3]
  by_cases e4 : d = 4
  · rw [if_pos e4]
    exact ⟨Y, h.root _ _ (fun ha => absurd ha (by decide))⟩
  rw [if_neg e4]
  by_cases e5 : d = 5
  · rw [if_pos e5]
    refine ⟨Y, ?_⟩
    unfold boR Ww.rW
    dsimp only
    split
    · split
      · exact h
      · exact h
    · exact h
  rw [if_neg e5]
  exact ⟨Y, h⟩

end Go.Proofs.YtmocakafnnkjfabGreat

/- How much stands beside, how many cards are marked: from step to step, from cut to cut. -/
namespace Go.Proofs.YtmocakafnnkjfabGreat
open Go.RowKit W Kp Stl

theorem trn_wait {σ : Type} (o : SdOb σ) (is : σ → Int → Bool) (kp : σ → Int → Int × σ) (hl : ∀ s x, (o.wt (kp s x).2).length = (o.wt s).length) : ∀ (n : Nat) (s : σ) (d : List En), (o.wt (trn (cm o is kp) n s d).1).length + (trn (cm o is kp) n s d).2.length = (o.wt s).length + d.length
  | 0, s, d => rfl
  | n + 1, s, d => by
    have h1 := pts_wait o is kp hl s d
    have h2 := pts_len (cm o is kp) s d
    by_cases h : (pts (cm o is kp) s d).1.length = 0
    · rw [trn_stop _ _ _ _ h]
      dsimp only
      omega
    · rw [trn_go _ _ _ _ h, trn_wait o is kp hl n]
      omega
theorem st_len {σ : Type} (o : SdOb σ) (is : σ → Int → Bool) (kp : σ → Int → Int × σ) (nw : σ → Int → Int) (hl : ∀ s x, (o.wt (kp s x).2).length = (o.wt s).length) (s : σ) (r : List En) : (stR o is kp nw s r).length + (stQ o is kp nw s r).length ≤ r.length + (o.wt s).length := by
  have h1 := trn_wait o is kp hl ((r.filter (fun e => !is s e.2)).length + 1) s (r.filter (fun e => !is s e.2))
  have h2 : (stQ o is kp nw s r).length ≤ (o.wt (stS o is kp s r)).length := by
    unfold stQ
    rw [List.length_map]
    exact List.length_filter_le _ _
  have h3 : (stR o is kp nw s r).length ≤ (r.filter (fun e => is s e.2)).length := by
    unfold stR
    rw [List.length_map]
    exact List.length_filter_le _ _
  have h4 : (r.filter (fun e => is s e.2)).length + (r.filter (fun e => !is s e.2)).length = r.length := by
    clear h1 h2 h3
    induction r with
    | nil => rfl
    | cons e r ih =>
      simp only [List.filter_cons]
      cases is s e.2 <;> simp <;> omega
  have h5 : (o.wt (stS o is kp s r)).length ≤ (o.wt s).length + (r.filter (fun e => !is s e.2)).length := by
    unfold stS
    omega
  omega
theorem cut_len (a : Wc) (S : Ww) : (S.cut a).r.length + (S.cut a).q.length ≤ S.r.length + S.q.length := by
  unfold Ww.cut
  split
  · exact Nat.le_refl _
  · have h1 := st_len (noSd Cs) (fun s x => (S.s.k0 a).al s.1 x) (S.s.k0 a).ke (fun s x => (S.s.k0 a).nw s.1 x) (fun s x => ke_len (S.s.k0 a) s x) (S.t3 a) S.r
    have h2 : (S.t3 a).2.length = S.q.length := by
      unfold Ww.t3 Ck.sp
      rw [spr_len]
    dsimp only
    generalize S.t3 a = t at *
    have h3 : (noSd Cs).wt t = t.2 := rfl
    rw [h3] at h1
    unfold Ck.sR Ck.sQ
    omega

theorem doS_len (c : Bc) (S : Ww × Wrs) (d A B C : Int) : (doS c S d A B C).1.s.M.length ≤ S.1.s.M.length + 1 ∧ (doS c S d A B C).1.r.length + (doS c S d A B C).1.q.length ≤ S.1.r.length + S.1.q.length + 1 := by
  unfold doS
  split
  · exact ⟨Nat.le_succ _, Nat.le_succ _⟩
  split
  · exact ⟨stM_len .., Nat.le_succ _⟩
  split
  · exact ⟨Nat.le_succ _, Nat.le_succ _⟩
  split
  · exact ⟨Nat.le_succ _, Nat.le_succ _⟩
  split
  · exact ⟨Nat.le_succ _, Nat.le_succ _⟩
  split
  · unfold boR Ww.rW
    dsimp only
    split
    · split
      · exact ⟨Nat.le_succ _, Nat.le_succ _⟩
      · refine ⟨Nat.le_succ _, ?_⟩
        simp only [List.length_append, List.length_cons, List.length_nil]
        omega
    · exact ⟨Nat.le_succ _, Nat.le_succ _⟩
  · exact ⟨Nat.le_succ _, Nat.le_succ _⟩

end Go.Proofs.YtmocakafnnkjfabGreat
