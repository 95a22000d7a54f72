/- SideWakes' looks: contracts. -/
import Derived.Test.YthlfgddhkffilaaSx1
namespace Go.Proofs.Ythlfgddhkffilaa
open Go.RowKit W Kp Stl

theorem ent_livingX : Ent 79 := ent_of Try.func79 (by kernel_rfl) rfl
theorem ent_sameX : Ent 80 := ent_of Try.func80 (by kernel_rfl) rfl

set_option maxRecDepth 100000 in
set_option maxHeartbeats 400000 in
theorem sameX_any (w : World) (x : Int) : Calls Try.prog 80 #[.int .i64 x] w fun r w' => r = .returned (.int .i64 x) ∧ Below w.heap.size w w' := by
  go_enter Try.func80, Try.ntmps80
  go_wp2_with fail
  go_ret
  exact ⟨rfl, Below.refl _ _⟩

set_option maxRecDepth 100000 in
set_option maxHeartbeats 400000 in
theorem livingX_any {w : World} {F : Nat → Prop} {c bw : Nat} {A : List Int} {L : Pairs} (x : Int) (h : Wd w F c A L) (hb : w.cell? ⟨bw, 0, none⟩ = some (.pointer (some ⟨c, 0, none⟩))) (hm : A.length ≤ 100000) :
    Calls Try.prog 79 #[.int .i64 x, .pointer (some ⟨bw, 0, none⟩)] w fun e w' => e = .returned (.bool (isW A x)) ∧ w' = w := by
  by_cases hx : 1000 ≤ x
  · have e : isW A x = true := by unfold isW; rw [decide_eq_true hx]; rfl
    rw [e]
    clear h
    go_enter Try.func79, Try.ntmps79
    go_wp2_with fail
    go_ret
    exact ⟨rfl, rfl⟩
  · rw [isW_in (by omega)]
    have HI := is_any x h hm
    generalize A.contains x = b at HI ⊢
    go_enter Try.func79, Try.ntmps79
    go_wp2_with fail
    refine HI.mono ?_
    clear HI
    rintro e w1 ⟨rfl, hw⟩
    have hw := hw.symm
    subst hw
    go_wp2_with fail
    go_ret
    exact ⟨rfl, rfl⟩
theorem alives_livingX {c bw : Nat} {L : Pairs} {E : List Int} (D : Int → Prop) : Alives (wdOb c bw L E) D 79 #[] #[.pointer (some ⟨bw, 0, none⟩)] isW := by
  rintro F A w x hD ⟨F0, h1, h2, h3, h4, h5⟩
  refine (livingX_any x h1 (by simp [World.cell?, h2]) (by omega)).mono ?_
  rintro r w' ⟨rfl, rfl⟩
  exact ⟨rfl, Below.refl _ _⟩

/-- Wake of a Side whose looks ask a set of words: the document's answer. -/
theorem wakeX_any {c bw p : Nat} {L : Pairs} {q0 q : List En} {A : List Int} {adr : Option Addr} {nr cr : Nat} {F : Nat → Prop} {w : World} (hL : L.length ≤ 10000) (h0 : Smw q0) (hq : Of0 q0 q) (hn : q.length ≤ 1000) (hJ : (mkSd (wdOb c bw L (wordsX q0)) p (.slice adr nr cr)).J F (A, q) w) :
    Calls Try.prog 81 #[.pointer (some ⟨p, 0, none⟩), .agg #[.func (.func 79) #[] #[.pointer (some ⟨bw, 0, none⟩)], .func (.func 78) #[.pointer (some ⟨c, 0, none⟩)] #[], .func (.func 80) #[] #[]]] w fun e w' => ∃ F', e = .returned (.bool (wgo L A q).2.2) ∧ (mkSd (wdOb c bw L (wordsX q0)) p (.slice adr nr cr)).J F' ((wgo L A q).1, (wgo L A q).2.1) w' ∧ Fr F w w' ∧ ∀ k, F' k → F k ∨ w.heap.size ≤ k := by
  have hs := hq.small h0
  have hg : ∀ e ∈ q, e.1 ≤ 999 := fun e he => (hs e he).2.1
  have P := wake_any (mkSd (wdOb c bw L (wordsX q0)) p (.slice adr nr cr)) (sets_mk _ p _) (fun x => x ∈ wordsX q0) ⟨79, #[], #[.pointer (some ⟨bw, 0, none⟩)]⟩ ⟨78, #[.pointer (some ⟨c, 0, none⟩)], #[]⟩ ⟨80, #[], #[]⟩ xIs (xKp L) (fun _ x => x)
    (lks_mk (wdOb c bw L (wordsX q0)) p (.slice adr nr cr) (fun x => x ∈ wordsX q0) ⟨79, #[], #[.pointer (some ⟨bw, 0, none⟩)]⟩ ⟨78, #[.pointer (some ⟨c, 0, none⟩)], #[]⟩ ⟨80, #[], #[]⟩ isW (fun A x => (w1k x, dfs L (L.length + 1) A x)) (fun _ x => x) ent_livingX ent_keep ent_sameX (alives_livingX _) (keeps_wd hL) (fun _ _ w x _ _ => sameX_any w x))
    adr nr cr rfl F (A, q) w (show q.length ≤ 90000 by omega) (fun j hj => by
      have hj : j < q.length := hj
      rw [wkF_wgo (c := c) (bw := bw) (p := p) (L := L) (E := wordsX q0) (vr := .slice adr nr cr) (A := A) hg j (by omega)]
      have hl := wgo_len L A q j (by omega)
      have hm : q.getD j (0, 0) ∈ q := by rw [List.getD_eq_getElem?_getD, List.getElem?_eq_getElem hj]; exact List.getElem_mem _
      have hgd : ((wgo L A (q.take j)).2.1 ++ q.drop j).getD j (0, 0) = q.getD j (0, 0) := by
        rw [List.getD_eq_getElem?_getD, List.getElem?_append_right (by omega), hl, Nat.sub_self, List.getElem?_drop, Nat.add_zero, ← List.getD_eq_getElem?_getD]
      show (((wgo L A (q.take j)).2.1 ++ q.drop j).getD j (0, 0)).1 ∈ wordsX q0 ∧ (((wgo L A (q.take j)).2.1 ++ q.drop j).getD j (0, 0)).2 ∈ wordsX q0
      rw [hgd]
      exact wordsX_mem hq hm) hJ
  have hw : wkF (mkSd (wdOb c bw L (wordsX q0)) p (.slice adr nr cr)) xIs (xKp L) (A, q) ((mkSd (wdOb c bw L (wordsX q0)) p (.slice adr nr cr)).wt (A, q)).length = (((wgo L A q).1, (wgo L A q).2.1), (wgo L A q).2.2) := wkF_all hg
  rw [hw] at P
  exact P

end Go.Proofs.Ythlfgddhkffilaa
