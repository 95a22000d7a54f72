/- How many words things have, and the nodes of a view: sums, lists alone. -/
import Derived.Test.YtakofbkmhmcnfabGreatJ06
import Derived.Test.YtakofbkmhmcnfabGreatJ23
import Derived.Test.YtakofbkmhmcnfabGreatJ26
namespace Go.Proofs.YtakofbkmhmcnfabGreat
open Go.RowKit W Kp Stl

/-- The sum of sizes. -/
def sumF (g : Int → Nat) (l : List Int) : Nat := (l.map g).sum
theorem sumF_cons (g : Int → Nat) (a : Int) (l : List Int) : sumF g (a :: l) = g a + sumF g l := by simp [sumF]
theorem sumF_app (g : Int → Nat) (l m : List Int) : sumF g (l ++ m) = sumF g l + sumF g m := by simp [sumF]
theorem sumF_same {g h : Int → Nat} : ∀ {l : List Int}, (∀ a ∈ l, g a = h a) → sumF g l = sumF h l
  | [], _ => rfl
  | a :: l, e => by rw [sumF_cons, sumF_cons, e a (by simp), sumF_same (fun b hb => e b (List.mem_cons_of_mem _ hb))]
/-- Each of one list has one of its own in the other. -/
theorem sumF_into {g h : Int → Nat} (R : Int → Int → Prop) (hR : ∀ a b c, R a c → R b c → a = b) : ∀ (l T : List Int), l.Nodup → T.Nodup → (∀ b ∈ l, ∃ a ∈ T, R b a ∧ g b = h a) → sumF g l ≤ sumF h T
  | [], T, _, _, _ => Nat.zero_le _
  | b :: l, T, hl, hT, hx => by
    obtain ⟨a, ha, r, e⟩ := hx b (by simp)
    rw [List.nodup_cons] at hl
    have h1 := sum_less h T a hT ha
    have h2 := sumF_into R hR l (T.filter (fun c => !(c == a))) hl.2 (hT.filter _) (fun c hc => by
      obtain ⟨d, hd, r2, e2⟩ := hx c (List.mem_cons_of_mem _ hc)
      refine ⟨d, List.mem_filter.2 ⟨hd, ?_⟩, r2, e2⟩
      cases q : d == a
      · rfl
      · have q2 : d = a := by simpa using q
        rw [q2] at r2
        exact absurd (hR c b a r2 r ▸ hc) hl.1)
    rw [sumF_cons]
    unfold sumF at h2 ⊢
    omega
theorem sumF_sub {g : Int → Nat} {l T : List Int} (hl : l.Nodup) (hT : T.Nodup) (hs : ∀ a ∈ l, a ∈ T) : sumF g l ≤ sumF g T :=
  sumF_into (fun a b => a = b) (fun _ _ _ h1 h2 => h1.trans h2.symm) l T hl hT (fun b hb => ⟨b, hs b hb, rfl, rfl⟩)

/-- How many words a thing has. -/
def szL (L : Int → Int) (a : Int) : Nat := 1 + (pf (L a)).toNat
theorem Tile.sum {L : Int → Int} {hi : Int} : ∀ {l : List Int} {a : Int}, Tile L hi a l → (sumF (szL L) l : Int) = hi - a
  | [], a, h => by
    have h : a = hi := h
    simp [sumF, h]
  | x :: l, a, h => by
    obtain ⟨rfl, _, h1, ht⟩ := h
    have ih := Tile.sum ht
    have hp := pf_bd (L x)
    rw [sumF_cons]
    unfold szL at ih ⊢
    omega
theorem Tile.nodup {L : Int → Int} {hi : Int} : ∀ {l : List Int} {a : Int}, Tile L hi a l → l.Nodup
  | [], _, _ => List.nodup_nil
  | x :: l, a, h => by
    obtain ⟨rfl, _, _, ht⟩ := h
    rw [List.nodup_cons]
    refine ⟨fun c => ?_, Tile.nodup ht⟩
    have := (ht.mem x c).1
    have hp := pf_bd (L x)
    omega

/-- How many words the nodes of a view have. -/
def szV (ns : List (Int × List (Int × Int))) : Nat := (ns.map (fun nd => 1 + if nd.1 = 5 then 0 else nd.2.length)).sum
theorem szV_of {kd : Int → Int} {z : Int → Nat} : ∀ (ns : List (Int × List (Int × Int))) (l : List Int), ns.length = l.length → (∀ i, i < l.length → (1 + if (ns.getD i (0, [])).1 = 5 then 0 else (ns.getD i (0, [])).2.length) = z (l.getD i 0)) → szV ns = sumF z l
  | [], [], _, _ => rfl
  | [], x :: l, h, _ => by simp at h
  | x :: ns, [], h, _ => by simp at h
  | nd :: ns, a :: l, h, e => by
    have h0 := e 0 (by simp)
    have h1 := szV_of (kd := kd) ns l (by simpa using h) (fun i hi => by
      have := e (i + 1) (by simpa using hi)
      simpa using this)
    rw [sumF_cons, ← h1]
    simp at h0
    simp [szV, h0]
/-- How great a view may be. -/
theorem view_bd (N y g : Nat) (ws : List Int) (Q : List En) (rs : List Int) : (vwL N y g ws Q rs).1.length = rs.length ∧ (vwL N y g ws Q rs).2.2.length ≤ 4000 ∧ ∀ nd ∈ (vwL N y g ws Q rs).2.2, nd.2.length ≤ Q.length + 12 := by
  have hv := vwL_go N y g ws Q rs
  refine ⟨vls_len _ _ _ _, ?_, fun nd hnd => ?_⟩
  · rw [hv.ok.len]
    refine Nat.le_trans hv.ok.le ?_
    rw [List.length_append]
    have h1 : (thY N y g ws).length ≤ 2000 := ths_le _ _
    have h2 : (thO N y g ws).length ≤ 2000 := ths_le _ _
    omega
  · obtain ⟨i, hi, e⟩ := List.mem_iff_getElem.1 hnd
    obtain ⟨nd', q1, _, q3, _⟩ := hv.nw i (Nat.zero_le _) (by rw [← hv.ok.len]; exact hi)
    rw [List.getElem?_eq_getElem hi, e] at q1
    have q1 : nd = nd' := by simpa using q1
    rw [q1, q3]
    exact shL_len N y g ws Q _
section
variable {N O y g : Nat} {ws Y G : List Int}

theorem shL_n (h : Full2 N y g ws Y G) (hy : y ≤ N) (Q : List En) {a : Int} (ha : a ∈ Y ∨ a ∈ G) (h5 : pk (ld N y g ws a) ≠ 5) : ((shL N y g ws Q a).length : Int) = pf (ld N y g ws a) := by
  have hp := pf_bd (ld N y g ws a)
  unfold shL
  rw [if_neg h5, h.stands hy ha]
  simp
  omega
theorem Full2.nd (h : Full2 N y g ws Y G) (hy : y ≤ N) : (Y ++ G).Nodup := by
  rw [List.nodup_append]
  refine ⟨h.ty.nodup, h.to.nodup, fun a ha b hb e => ?_⟩
  have := h.iy a ha
  have := h.io b hb
  omega
/-- No view has more words than are in use. -/
theorem view_size (h : Full2 N y g ws Y G) (hN : N ≤ 256) (hy : y ≤ N) (hO : O ≤ 1024) (hg : g ≤ O) (Q : List En) (rs : List Int) : szV (vwL N y g ws Q rs).2.2 ≤ y + g := by
  have hv := vwL_go N y g ws Q rs
  obtain ⟨e1, e2⟩ := h.lists (O := O) hN hy hO hg
  generalize vwL N y g ws Q rs = r at hv ⊢
  obtain ⟨vs, ms, ns⟩ := r
  rw [e1, e2] at hv
  have hok := hv.ok
  have hl : ns.length = ms.length := hok.len
  have hnd : ms.Nodup := hok.nd
  have hsub : ∀ a ∈ ms, a ∈ Y ++ G := hok.sub
  have key : szV ns = sumF (szL (ld N y g ws)) ms := by
    refine szV_of (kd := fun a => pk (ld N y g ws a)) ns ms hl (fun i hi => ?_)
    obtain ⟨nd, q1, q2, q3, _⟩ := hv.nw i (Nat.zero_le _) hi
    have q0 : ns.getD i (0, []) = nd := by
      rw [List.getD_eq_getElem?_getD]
      have q1 : ns[i]? = some nd := q1
      rw [q1]
      rfl
    rw [q0]
    dsimp only at q2 q3
    have hm : ms.getD i 0 ∈ ms := by
      rw [List.getD_eq_getElem?_getD, List.getElem?_eq_getElem hi]
      exact List.getElem_mem hi
    have hYG : ms.getD i 0 ∈ Y ∨ ms.getD i 0 ∈ G := List.mem_append.1 (hsub _ hm)
    have hp0 : pc (ld N y g ws (ms.getD i 0)) = 0 := by
      rcases hYG with d | d
      · exact (h.ty.mem _ d).2.2
      · exact (h.to.mem _ d).2.2
    unfold szL
    by_cases h5 : nd.1 = 5
    · rw [if_pos h5]
      rw [q2] at h5
      have := pk_all hp0
      omega
    · rw [if_neg h5, q3]
      rw [q2] at h5
      have := shL_n h hy Q hYG h5
      omega
  rw [key]
  have h1 := sumF_sub (g := szL (ld N y g ws)) hnd (h.nd hy) hsub
  rw [sumF_app] at h1
  have h2 := h.ty.sum
  have h3 := h.to.sum
  omega
end

end Go.Proofs.YtakofbkmhmcnfabGreat
