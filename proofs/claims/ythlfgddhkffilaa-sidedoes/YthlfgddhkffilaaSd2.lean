/- told: a contract, over whatever tells. -/
import Derived.Test.YthlfgddhkffilaaSd1
import Derived.Deep.AppendLies
namespace Go.Proofs.Ythlfgddhkffilaa
open Go.RowKit W Kp Stl

/-- Something that tells a word of a word, and changes nothing. -/
def Tells {τ : Type} (o : Ob τ) (D : Int → Prop) (f : Nat) (b c : Array Value) (nw : τ → Int → Int) : Prop :=
  ∀ F t w (x : Int), D x → o.J F t w → Calls Try.prog f (b.push (.int .i64 x) ++ c) w fun r w' => r = .returned (.int .i64 (nw t x)) ∧ Below w.heap.size w w'
/-- Something that tells whether a word is alive, and changes nothing. -/
def Alives {τ : Type} (o : Ob τ) (D : Int → Prop) (f : Nat) (b c : Array Value) (is : τ → Int → Bool) : Prop :=
  ∀ F t w (x : Int), D x → o.J F t w → Calls Try.prog f (b.push (.int .i64 x) ++ c) w fun r w' => r = .returned (.bool (is t x)) ∧ Below w.heap.size w w'
/-- Something that keeps a word, and tells the word that it is then. -/
def Keeps {τ : Type} (o : Ob τ) (D : Int → Prop) (f : Nat) (b c : Array Value) (kp : τ → Int → Int × τ) : Prop :=
  ∀ F t w (x : Int), D x → o.J F t w → Calls Try.prog f (b.push (.int .i64 x) ++ c) w fun r w' => ∃ F', r = .returned (.int .i64 (kp t x).1) ∧ o.J F' (kp t x).2 w' ∧ Fr F w w' ∧ ∀ k, F' k → F k ∨ w.heap.size ≤ k

set_option maxRecDepth 100000 in
set_option maxHeartbeats 1000000 in
theorem told_any {τ : Type} (o : Ob τ) (D : Int → Prop) (f : Nat) (b c : Array Value) (nw : τ → Int → Int) (hf : Ent f) (ht : Tells o D f b c nw) (l : List En) (ad : Option Addr) (cap : Nat) (F : Nat → Prop) (t : τ) (w : World)
    (hD : ∀ e ∈ l, D e.1 ∧ D e.2) (hm : l.length ≤ 100000) (hJ : o.J F t w) (hp : Lp w ad l) :
    Calls Try.prog 116 #[.slice ad l.length cap, .func (.func f) b c] w fun r w' => ∃ a1 c1, r = .returned (.slice a1 l.length c1) ∧ w'.ownsRow w.heap.size 84 2 (.slice a1 l.length c1) l.length (ev (l.map fun e => (nw t e.1, nw t e.2))) ∧ Below w.heap.size w w' := by
  obtain ⟨i0, hi, hz0, hz1, hz2⟩ := info_parts infoEn
  have HT : Hid (Tells o D f b c nw) := ht
  have HP : Hid (Lp w ad l) := hp
  have HJ : Hid (o.J F t w) := hJ
  clear hp ht hJ
  have hcf : ∀ (args : Array Value) (w : World), (callFunc f args).run Try.prog w = .ok (.enter f args) w := hf
  clear hf
  go_enter Try.func116, Try.ntmps116
  go_wp2_with fail
  go_loopw [5, 10] (fun vt iv wr => ∃ (j : Nat) (T : List En) (at1 : Option Addr) (ct : Nat), j ≤ l.length ∧ iv = .int .i64 j ∧ Hid (T = (l.take j).map fun e => (nw t e.1, nw t e.2)) ∧ vt = .slice at1 T.length ct ∧
      wr.ownsRow w.heap.size 84 2 (.slice at1 T.length ct) T.length (ev T) ∧ Below w.heap.size w wr) (fun _ iv _ => l.length - (intOf iv).toNat)
  case atStart => exact ⟨0, [], none, 0, Nat.zero_le _, rfl, rfl, rfl, World.ownsRow_nil _ _ _ _, Below.refl _ _⟩
  case round =>
    obtain ⟨j, T, at1, ct, hj, rfl, HE, rfl, hT, hb⟩ := hrel
    have hTl : T.length ≤ 100000 := by rw [HE.out]; simp; omega
    by_cases hlt : j < l.length
    · obtain ⟨b0, o0, e0, hb0, hc⟩ := HP.out.below hb (by omega)
      obtain ⟨x1, x2⟩ := hc j hlt
      clear hc
      obtain ⟨hdg, hdz⟩ := hD (l.getD j (0, 0)) (by rw [List.getD_eq_getElem?_getD, List.getElem?_eq_getElem hlt]; exact List.getElem_mem hlt)
      have HS : Hid (T ++ [(nw t (l.getD j (0, 0)).1, nw t (l.getD j (0, 0)).2)] = (l.take (j + 1)).map fun e => (nw t e.1, nw t e.2)) := by
        show _ = _
        rw [take_snoc l j hlt (0, 0), List.map_append, HE.out]
        rfl
      generalize (l.getD j (0, 0)).1 = g at x1 HS hdg
      generalize (l.getD j (0, 0)).2 = z at x2 HS hdz
      subst e0
      have hsz := hb.size
      have hB0 : Below w.heap.size w (wr.alloc (.cells #[.int .i64 g, .int .i64 z] 84)) := hb.alloc hsz _
      have hT0 := row_alloc hT (.cells #[.int .i64 g, .int .i64 z] 84)
      go_wp2_with fail
      go_region_held3 (fun w' => w'.cell? ⟨wr.heap.size, 0, none⟩ = some (.int .i64 g) ∧ w'.cell? ⟨wr.heap.size, 1, none⟩ = some (.int .i64 z)) (go_keep)
        (first | (refine (HT.out F t _ g hdg (o.below HJ.out hB0.drew)).mono ?_; rintro e w3 ⟨rfl, hb3⟩; have hB3 : Below w.heap.size w w3 := hB0.drew.trans (hb3.mono (by simp; omega)); have hT3 := row_keep hT0 (fun k e => hb3.block k (row_lt hT0 k e).2); have hs3 := hb3.size; simp at hs3; have y1 : w3.cell? ⟨wr.heap.size, 0, none⟩ = some (.int .i64 g) := (hb3.cell (by simp)).trans (by simp); have y2 : w3.cell? ⟨wr.heap.size, 1, none⟩ = some (.int .i64 z) := (hb3.cell (by simp)).trans (by simp); have hl3 : wr.heap.size < w3.heap.size := (by omega))
                 | (refine (HT.out F t _ z hdz (o.below HJ.out hB3)).mono ?_; rintro e w5 ⟨rfl, hb5⟩; have hB5 : Below w.heap.size w w5 := hB3.trans (hb5.mono (by omega)); have hT5 := row_keep hT3 (fun k e => hb5.block k (row_lt hT3 k e).2); have hs5 := hb5.size; have y3 : w5.cell? ⟨wr.heap.size, 0, none⟩ = some (.int .i64 g) := (hb5.cell hl3).trans y1; have y4 : w5.cell? ⟨wr.heap.size, 1, none⟩ = some (.int .i64 z) := (hb5.cell hl3).trans y2; have hl5 : wr.heap.size < w5.heap.size := (by omega))
                 | (refine step_append_lies _ rfl (.tmp 14) (.tmp 24) 80 rfl w.heap.size 84 i0 (.agg #[.int .i64 0, .int .i64 0]) 2 16 Try.underlying80 hi hz0 hz1 hz2 rfl (by decide) (.slice at1 T.length ct) T.length (ev T) (by simp [Act.eval]) (row_alloc hT5 _) ⟨w5.heap.size, 0, none⟩ 1 1 [.int .i64 (nw t g), .int .i64 (nw t z)] (by simp [Act.eval]) rfl ?_ ?_ (by decide) (by unfold maxLen; omega) (by omega) (by simp; omega) _ rfl ?_; (intro j u hj; match j, hj with | 0, hj => (simp at hj; subst hj; simp [Addr.add]) | 1, hj => (simp at hj; subst hj; simp [Addr.add])); (intro u hu; simp at hu; rcases hu with hu | hu <;> (subst hu; rfl)); intro b6 cap6 w6 hown6 hgrow6 hat6 hlt6; have y5 : w6.cell? ⟨wr.heap.size, 0, none⟩ = some (.int .i64 g) := hgrow6.cell ((((Below.refl w5.heap.size w5).alloc (Nat.le_refl _) _).cell hl5).trans y3) (fun e => absurd (row_lt hT _ e).2 (Nat.lt_irrefl _)); have y6 : w6.cell? ⟨wr.heap.size, 1, none⟩ = some (.int .i64 z) := hgrow6.cell ((((Below.refl w5.heap.size w5).alloc (Nat.le_refl _) _).cell hl5).trans y4) (fun e => absurd (row_lt hT _ e).2 (Nat.lt_irrefl _))))
      have hT6 : w6.ownsRow w.heap.size 84 2 (.slice (some ⟨b6, 0, none⟩) (T ++ [(nw t g, nw t z)]).length cap6) (T ++ [(nw t g, nw t z)]).length (ev (T ++ [(nw t g, nw t z)])) := by
        rw [ev_append]
        simpa [ev] using hown6
      have hB6 := (hB5.alloc hB5.size _).grown hgrow6 (by simp; omega) (fun k e => (row_lt hT k e.symm).1)
      clear hown6 hgrow6 hat6 hlt6 hT0 hT3 hT5 hB0 hB3 hB5 hT hb hb3 hb5 y1 y2 y3 y4 y5 y6 x1 x2
      go_wp2_with fail
      go_roundw
      case rel => exact ⟨j + 1, T ++ [(nw t g, nw t z)], some ⟨b6, 0, none⟩, cap6, by omega, by go_num, HS, by simp, hT6, hB6⟩
      case measure => simp [intOf]; omega
    · obtain rfl : j = l.length := by omega
      rw [List.take_length] at HE
      have hl : T.length = l.length := by rw [HE.out, List.length_map]
      rw [hl] at hT
      have hT : wr.ownsRow w.heap.size 84 2 (.slice at1 l.length ct) l.length (ev (l.map fun e => (nw t e.1, nw t e.2))) := by rw [← HE.out]; exact hT
      clear hTl
      go_wp2_with fail
      go_ret
      exact ⟨at1, ct, by rw [hl]; rfl, hT, hb⟩

end Go.Proofs.Ythlfgddhkffilaa
