/- The statements' own sets of words as something in memory, and the looks that ask them: contracts. -/
import Derived.Test.YthlfgddhkffilaaSw
import Derived.Test.YthlfgddhkffilaaSm2
namespace Go.Proofs.Ythlfgddhkffilaa
open Go.RowKit W Kp Stl

/-- How many words of a list are not of a set. -/
def out (E A : List Int) : Nat := (E.filter (fun x => !A.contains x)).length
theorem out_le : ∀ (E : List Int) {A B : List Int}, (∀ y ∈ A, y ∈ B) → out E B ≤ out E A
  | [], _, _, _ => by simp [out]
  | e :: E, A, B, h => by
    have ih := out_le E h
    unfold out at ih ⊢
    rw [List.filter_cons, List.filter_cons]
    by_cases ha : e ∈ A
    · have hb := h e ha
      simp [ha, hb]
      simpa using ih
    · by_cases hb : e ∈ B
      · simp [ha, hb]
        simp at ih
        omega
      · simp [ha, hb]
        simpa using ih
theorem out_lt : ∀ (E : List Int) {A B : List Int} {x : Int}, (∀ y ∈ A, y ∈ B) → x ∈ E → x ∉ A → x ∈ B → out E B + 1 ≤ out E A
  | [], _, _, _, _, h, _, _ => by simp at h
  | e :: E, A, B, x, h, hx, ha, hb => by
    have hle := out_le E h
    by_cases he : e = x
    · subst he
      unfold out at hle ⊢
      rw [List.filter_cons, List.filter_cons]
      simp [ha, hb]
      simpa using hle
    · have hx' : x ∈ E := by
        rcases List.mem_cons.1 hx with h | h
        · exact absurd h.symm he
        · exact h
      have ih := out_lt E h hx' ha hb
      unfold out at ih ⊢
      rw [List.filter_cons, List.filter_cons]
      by_cases ha' : e ∈ A
      · have hb' := h e ha'
        simp [ha', hb']
        simpa using ih
      · by_cases hb' : e ∈ B
        · simp [ha', hb']
          simp at ih
          omega
        · simp [ha', hb']
          simp at ih
          omega
theorem out_len (E A : List Int) : out E A ≤ E.length := List.length_filter_le _ _
theorem mu_len (L : Pairs) (A : List Int) : mu L A ≤ L.length := List.length_filter_le _ _

/-- What is kept keeps the bound. -/
theorem keep_bound {L : Pairs} {E A : List Int} {x : Int} {n b : Nat} (hx : x ∈ E) (hn : mu L A < n) (h : A.length + mu L A + out E A ≤ b) : (dfs L n A x).length + mu L (dfs L n A x) + out E (dfs L n A x) ≤ b := by
  by_cases c : x ∈ A
  · obtain ⟨m, rfl⟩ : ∃ m, n = m + 1 := ⟨n - 1, by omega⟩
    rw [dfs_in _ _ _ _ c]
    exact h
  · have k := dfs_kept L n A x hn
    have h1 := out_lt E k.old hx c k.has
    have h2 := dfs_len L n A x hn
    omega

/-- A set of words, and a pointer to it in a block of its own. -/
def wdOb (c bw : Nat) (L : Pairs) (E : List Int) : Ob (List Int) where
  J F A w := ∃ F0, Wd w F0 c A L ∧ w.heap[bw]? = some (.cells #[.pointer (some ⟨c, 0, none⟩)] 98 (0, 0)) ∧ ¬ F0 bw ∧ (∀ k, F k ↔ F0 k ∨ k = bw) ∧ A.length + mu L A + out E A ≤ 20000
  lt := by
    rintro F A w ⟨F0, h1, h2, h3, h4, h5⟩ k hk
    rcases (h4 k).1 hk with h | rfl
    · exact h1.lt k h
    · exact lt_of_some h2
  keep := by
    rintro F A w w' ⟨F0, h1, h2, h3, h4, h5⟩ hs hk
    exact ⟨F0, h1.keep hs (fun k h => hk k ((h4 k).2 (Or.inl h))), (hk bw ((h4 bw).2 (Or.inr rfl))).trans h2, h3, h4, h5⟩

theorem keeps_wd {c bw : Nat} {L : Pairs} {E : List Int} (hL : L.length ≤ 10000) : Keeps (wdOb c bw L E) (fun x => x ∈ E) 78 #[.pointer (some ⟨c, 0, none⟩)] #[] (fun A x => (w1k x, dfs L (L.length + 1) A x)) := by
  rintro F A w x hD ⟨F0, h1, h2, h3, h4, h5⟩
  have hm := mu_len L A
  refine (keep_any hL (L.length + 1) w F0 A x h1 (by omega) (by omega)).mono ?_
  rintro r w' ⟨rfl, F1, hW, hfr, hF1⟩
  have lb := lt_of_some h2
  refine ⟨fun k => F1 k ∨ k = bw, rfl, ⟨F1, hW, (hfr.block bw lb h3).trans h2, fun h => (hF1 bw h).elim h3 (fun h => by omega), fun k => Iff.rfl, keep_bound hD (by omega) h5⟩, hfr.mono (fun k h => (h4 k).2 (Or.inl h)), fun k h => ?_⟩
  rcases h with h | h
  · exact (hF1 k h).imp (fun h => (h4 k).2 (Or.inl h)) id
  · exact Or.inl ((h4 k).2 (Or.inr h))

theorem alives_is {c bw : Nat} {L : Pairs} {E : List Int} (D : Int → Prop) : Alives (wdOb c bw L E) D 75 #[.pointer (some ⟨c, 0, none⟩)] #[] (fun A x => A.contains x) := by
  rintro F A w x hD ⟨F0, h1, h2, h3, h4, h5⟩
  refine (is_any x h1 (by omega)).mono ?_
  rintro r w' ⟨rfl, rfl⟩
  exact ⟨rfl, Below.refl _ _⟩

set_option maxRecDepth 100000 in
set_option maxHeartbeats 400000 in
theorem living_any {w : World} {F : Nat → Prop} {c bw : Nat} {A : List Int} {L : Pairs} (x : Int) (h : Wd w F c A L) (hb : w.cell? ⟨bw, 0, none⟩ = some (.pointer (some ⟨c, 0, none⟩))) (hm : A.length ≤ 100000) :
    Calls Try.prog 74 #[.int .i64 x, .pointer (some ⟨bw, 0, none⟩)] w fun e w' => e = .returned (.bool (isW A x)) ∧ w' = w := by
  by_cases hx : 1000 ≤ x
  · have e : isW A x = true := by unfold isW; rw [decide_eq_true hx]; rfl
    rw [e]
    clear h
    go_enter Try.func74, Try.ntmps74
    go_wp2_with fail
    go_ret
    exact ⟨rfl, rfl⟩
  · rw [isW_in (by omega)]
    have HI := is_any x h hm
    generalize A.contains x = b at HI ⊢
    go_enter Try.func74, Try.ntmps74
    go_wp2_with fail
    refine HI.mono ?_
    clear HI
    rintro e w1 ⟨rfl, hw⟩
    have hw := hw.symm
    subst hw
    go_wp2_with fail
    go_ret
    exact ⟨rfl, rfl⟩
theorem alives_living {c bw : Nat} {L : Pairs} {E : List Int} (D : Int → Prop) : Alives (wdOb c bw L E) D 74 #[] #[.pointer (some ⟨bw, 0, none⟩)] isW := by
  rintro F A w x hD ⟨F0, h1, h2, h3, h4, h5⟩
  refine (living_any x h1 (by simp [World.cell?, h2]) (by omega)).mono ?_
  rintro r w' ⟨rfl, rfl⟩
  exact ⟨rfl, Below.refl _ _⟩

set_option maxRecDepth 100000 in
set_option maxHeartbeats 400000 in
theorem now_any (w : World) (x : Int) : Calls Try.prog 73 #[.int .i64 x] w fun e w' => e = .returned (.int .i64 (nwW x)) ∧ Below w.heap.size w w' := by
  by_cases hx : x < 1000
  · have e : nwW x = w1k x := by unfold nwW; rw [if_pos hx]
    rw [e]
    go_enter Try.func73, Try.ntmps73
    go_wp2_with fail
    go_ret
    exact ⟨rfl, Below.refl _ _⟩
  · have e : nwW x = x := by unfold nwW; rw [if_neg hx]
    rw [e]
    go_enter Try.func73, Try.ntmps73
    go_wp2_with fail
    go_ret
    exact ⟨rfl, Below.refl _ _⟩

theorem ent_keep : Ent 78 := ent_of Try.func78 (by kernel_rfl) rfl

theorem ent_is : Ent 75 := ent_of Try.func75 (by kernel_rfl) rfl

theorem ent_now : Ent 73 := ent_of Try.func73 (by kernel_rfl) rfl

theorem ent_living : Ent 74 := ent_of Try.func74 (by kernel_rfl) rfl

end Go.Proofs.Ythlfgddhkffilaa
