/- Joined: Gl1, Gg1, OpenZ. -/
import Derived.Test.YtjhnhbeimjnloaaJ18
import Derived.Test.YtjhnhbeimjnloaaJ19
import Derived.Test.YtjhnhbeimjnloaaJ21
import Derived.Test.YtjhnhbeimjnloaaJ02
import Derived.Lib.SmallJoins
/- A grove that a statement does steps in: Do, View, groveBegun: contracts. -/
namespace Go.Proofs.Ytjhnhbeimjnloaa
open Go.RowKit W Kp Stl

structure Sg (gp rb gb base : Nat) (most grow : Int) (F : Nat → Prop) (s : Wrs) (j : Nat) (w : World) : Prop where
  J : (grO gp most grow rb).J F s w
  gi : Gi s j
  cg : w.heap[gb]? = some (.cells #[.pointer (some ⟨gp, 0, none⟩)] 24 (0, 0))
  nf : ¬ F gb
  lo : ∀ b, F b → base ≤ b
  bl : base ≤ w.heap.size
section
variable {gp rb gb base j : Nat} {most grow : Int} {F : Nat → Prop} {s : Wrs} {w w' : World} {g : Gfn}
theorem Sg.below (h : Sg gp rb gb base most grow F s j w) (hb : Below w.heap.size w w') : Sg gp rb gb base most grow F s j w' :=
  ⟨(grO gp most grow rb).below h.J hb, h.gi, (hb.block gb (lt_of_some h.cg)).trans h.cg, h.nf, h.lo, Nat.le_trans h.bl hb.size⟩
theorem Sg.cell (h : Sg gp rb gb base most grow F s j w) : w.cell? ⟨gb, 0, none⟩ = some (.pointer (some ⟨gp, 0, none⟩)) ∧ gb < w.heap.size := ⟨by simp [World.cell?, h.cg], lt_of_some h.cg⟩
theorem Sg.low (h : Sg gp rb gb base most grow F s j w) {F' : Nat → Prop} (t : Tn F w F' w') : Below base w w' := t.fr.below h.bl (fun k e => h.lo k e)
theorem doS_any (h : Sg gp rb gb base most grow F s j w) (hg : ∀ T wt, Wiv T wt → Gok T wt (g T wt)) (hj : j ≤ 9000) (g0 : -1000000 ≤ grow) (g1 : grow ≤ 1000000) (m0 : -1000000 ≤ most) (m1 : most ≤ 1000000) (k R A B I n : Int) :
    Calls Try.prog 8 #[.pointer (some ⟨gp, 0, none⟩), hsV k R A B I n] w fun e w' => ∃ F', e = .returned (.int .i64 (s.dos g most grow k R A B I n).1) ∧ Sg gp rb gb base most grow F' (s.dos g most grow k R A B I n).2 (j + 1) w' ∧ Tn F w F' w' := by
  have hG := hg _ _ h.gi.iv
  refine (doG_any h.J (h.gi.wcv (by omega)) hG g0 g1 m0 m1 k R A B I n).mono ?_
  rintro e w' ⟨F', rfl, J', t⟩
  have lg := lt_of_some h.cg
  refine ⟨F', rfl, ⟨J', h.gi.dos (by omega) hG k R A B I n, (t.fr.block gb lg h.nf).trans h.cg, fun d => (t.sub gb d).elim h.nf (fun c => by omega), fun b d => (t.sub b d).elim (h.lo b) (fun c => Nat.le_trans h.bl c), Nat.le_trans h.bl t.fr.size⟩, t⟩
theorem viewS_any' (h : Sg gp rb gb base most grow F s j w) (hj : j ≤ 9000) :
    Calls Try.prog 9 #[.pointer (some ⟨gp, 0, none⟩)] w fun e w' => ∃ r2 d2 na nc, e = .returned (.agg #[.slice r2 12 d2, .slice na (Vr4.vwW s.T s.wt s.rs).2.2.length nc]) ∧ LpN w' w.heap.size r2 (Vr4.vwW s.T s.wt s.rs).1 ∧ LnN w' w.heap.size na (Vr4.vwW s.T s.wt s.rs).2.2 ∧ Below w.heap.size w w' := by
  obtain ⟨l, hl, _, _⟩ := h.J
  refine (viewG_any hl (h.gi.wvw (by omega)) h.gi.g5 h.gi.rv).mono ?_
  rintro e w' ⟨r2, d2, na, nn, nc, rfl, h1, h2, rfl, h3⟩
  exact ⟨r2, d2, na, nc, rfl, h1, h2, h3⟩
end

theorem gB_1 (g : Gfn) : ws0.dos g 16 8 4 0 0 0 0 0 = (0, ⟨[(1, [(0, 0), (0, 0)], false, false)], [(3, 0), (0, 0), (0, 0), (0, 0), (0, 0), (0, 0), (0, 0), (0, 0), (0, 0), (0, 0), (0, 0), (0, 0)], [], []⟩) := rfl
theorem gB_2 (g : Gfn) : (⟨[(1, [(0, 0), (0, 0)], false, false)], [(3, 0), (0, 0), (0, 0), (0, 0), (0, 0), (0, 0), (0, 0), (0, 0), (0, 0), (0, 0), (0, 0), (0, 0)], [], []⟩ : Wrs).dos g 16 8 6 1 0 0 0 0 = (0, ⟨[(1, [(0, 0), (0, 0)], false, false), (3, [(3, 0), (3, 0)], false, false)], [(3, 0), (3, 1), (0, 0), (0, 0), (0, 0), (0, 0), (0, 0), (0, 0), (0, 0), (0, 0), (0, 0), (0, 0)], [], []⟩) := rfl
theorem gB_3 (g : Gfn) : (⟨[(1, [(0, 0), (0, 0)], false, false), (3, [(3, 0), (3, 0)], false, false)], [(3, 0), (3, 1), (0, 0), (0, 0), (0, 0), (0, 0), (0, 0), (0, 0), (0, 0), (0, 0), (0, 0), (0, 0)], [], []⟩ : Wrs).dos g 16 8 2 0 0 0 0 0 = (0, ⟨[(1, [(0, 0), (0, 0)], false, false), (3, [(3, 0), (3, 0)], false, false)], [(0, 0), (3, 1), (0, 0), (0, 0), (0, 0), (0, 0), (0, 0), (0, 0), (0, 0), (0, 0), (0, 0), (0, 0)], [], []⟩) := rfl
theorem gB_v : (Vr4.vwW [(1, [(0, 0), (0, 0)], false, false), (3, [(3, 0), (3, 0)], false, false)] [] [(0, 0), (3, 1), (0, 0), (0, 0), (0, 0), (0, 0), (0, 0), (0, 0), (0, 0), (0, 0), (0, 0), (0, 0)]).2.2.length = 2 := by decide +kernel
theorem gB_u : usd [(1, [(0, 0), (0, 0)], false, false), (3, [(3, 0), (3, 0)], false, false)] = (6, 0) := rfl

theorem doJ_any {gp rb j : Nat} {most grow : Int} {F : Nat → Prop} {s : Wrs} {w : World} {g : Gfn} (h : (grO gp most grow rb).J F s w) (hi : Gi s j) (hg : ∀ T wt, Wiv T wt → Gok T wt (g T wt)) (hj : j ≤ 9000) (g0 : -1000000 ≤ grow) (g1 : grow ≤ 1000000) (m0 : -1000000 ≤ most) (m1 : most ≤ 1000000) (k R A B I n : Int) :
    Calls Try.prog 8 #[.pointer (some ⟨gp, 0, none⟩), hsV k R A B I n] w fun e w' => ∃ F', e = .returned (.int .i64 (s.dos g most grow k R A B I n).1) ∧ Hid ((grO gp most grow rb).J F' (s.dos g most grow k R A B I n).2 w' ∧ Gi (s.dos g most grow k R A B I n).2 (j + 1) ∧ Tn F w F' w') := by
  have hG := hg _ _ hi.iv
  refine (doG_any h (hi.wcv (by omega)) hG g0 g1 m0 m1 k R A B I n).mono ?_
  rintro e w' ⟨F', rfl, J', t⟩
  exact ⟨F', rfl, J', hi.dos (by omega) hG k R A B I n, t⟩

set_option maxRecDepth 100000 in
set_option maxHeartbeats 2000000 in
theorem groveBegun_any (w : World) : Calls Try.prog 6 #[] w fun e w' => e = .returned (.bool true) ∧ Below w.heap.size w w' := by
  obtain ⟨g, hg⟩ := gfn_ex
  have P := newG_yes 16 8 w (by decide) (by decide) (by decide)
  have HG : Hid (∀ T wt, Wiv T wt → Gok T wt (g T wt)) := hg
  clear hg
  go_enter Try.func6, Try.ntmps6
  go_wp2_with fail
  refine P.mono ?_
  clear P
  rintro e w1 ⟨gp, rb, F1, rfl, J1, lo1, hb1⟩
  have ba := (Below.refl w1.heap.size w1).alloc (Nat.le_refl _) (.cells #[.int .i64 0, .int .i64 0] 26)
  have J2 := (grO gp 16 8 rb).below J1 ba
  have P1 := doJ_any J2 Gi.start HG.out (by decide) (by decide) (by decide) (by decide) (by decide) 4 0 0 0 0 0
  rw [gB_1 g] at P1
  dsimp only at P1
  have H1 : Hid (Below w.heap.size w (w1.alloc (.cells #[.int .i64 0, .int .i64 0] 26)) ∧ ∀ b, F1 b → w.heap.size ≤ b) := ⟨hb1.trans (ba.mono hb1.size), lo1⟩
  clear J1 J2 lo1 hb1 ba
  go_wp2_with fail
  generalize w1.alloc (.cells #[.int .i64 0, .int .i64 0] 26) = w2 at *
  refine P1.mono ?_
  clear P1
  rintro e w3 ⟨F3, rfl, H3⟩
  have P2 := doJ_any H3.out.1 H3.out.2.1 HG.out (by decide) (by decide) (by decide) (by decide) (by decide) 6 1 0 0 0 0
  rw [gB_2 g] at P2
  dsimp only at P2
  go_wp2_with fail
  refine P2.mono ?_
  clear P2
  rintro e w4 ⟨F4, rfl, H4⟩
  have P3 := doJ_any H4.out.1 H4.out.2.1 HG.out (by decide) (by decide) (by decide) (by decide) (by decide) 2 0 0 0 0 0
  rw [gB_3 g] at P3
  dsimp only at P3
  go_wp2_with fail
  refine P3.mono ?_
  clear P3
  rintro e w5 ⟨F5, rfl, H5⟩
  have HB : Hid (Below w.heap.size w w5) := by
    have t := (H3.out.2.2.trans H4.out.2.2).trans H5.out.2.2
    exact H1.out.1.trans (t.fr.below H1.out.1.size (fun k e => H1.out.2 k e))
  obtain ⟨l, hl, _, _⟩ := H5.out.1
  have P4 := usedG_any hl H5.out.2.1.tl (by have := H5.out.2.1.tj; omega)
  rw [gB_u] at P4
  have HL : Hid (Gvy gp 16 8 l _ w5) := hl
  clear hl
  go_wp2_with fail
  refine P4.mono ?_
  clear P4
  rintro e w6 ⟨rfl, hb6⟩
  have P5 := viewG_any (HL.out.below hb6) (H5.out.2.1.wvw (by decide)) H5.out.2.1.g5 H5.out.2.1.rv
  have HB6 : Hid (Below w.heap.size w w6) := HB.out.trans (hb6.mono HB.out.size)
  clear hb6
  go_wp2_with fail
  refine P5.mono ?_
  clear P5
  rintro e w7 ⟨r2, d2, na, nn, nc, rfl, _, _, hnn, hb7⟩
  have hnn2 : nn = 2 := hnn.trans gB_v
  subst hnn2
  have HB7 : Hid (Below w.heap.size w (w7.alloc (.cells #[.slice r2 12 d2, .slice na 2 nc] 35))) := by
    have := HB6.out.trans (hb7.mono HB6.out.size)
    exact this.trans (((Below.refl w7.heap.size w7).alloc (Nat.le_refl _) _).mono this.size)
  clear hnn hb7
  go_wp2_with fail
  go_ret
  exact ⟨rfl, HB7.out⟩

end Go.Proofs.Ytjhnhbeimjnloaa

/- GroveGuards: what a script leaves of a vector that is registered: lists alone. -/
namespace Go.Proofs.Ytjhnhbeimjnloaa
open Go.RowKit W Kp Stl

theorem Gi.kps {s : Wrs} {j : Nat} (h : Gi s j) {X : Nat → Prop} {i : Nat} (hi : Alv s.T i) {v : Int × Int} (hk : Kps s.T s.wt X i v) : v ∈ (s.T.getD i t0).2.1 ∨ ∃ e ∈ s.wt, v = (3, e.2) := by
  rcases hk with ⟨_, hm⟩ | ⟨k, e⟩ | ⟨k, _, e⟩ | ⟨_, e0, he, _, e⟩
  · exact Or.inl hm
  · exact Or.inl (by rw [e]; exact getD_in (by rw [h.fl i hi (Or.inl k)]; decide))
  · exact Or.inl (by rw [e]; exact getD_in (by rw [h.fl i hi (Or.inr k)]; decide))
  · exact Or.inr ⟨e0, he, e⟩

theorem pass_rep {σ : Type} {is : σ → Int → Bool} {kp : σ → Int → σ} {I : σ → Prop} {e : En} (h0 : ∀ s, I s → is s e.1 = true) (hk : ∀ s, I s → I (kp s e.2)) : ∀ (n : Nat) (s : σ) (C D : List En), I s → (Stl.pass is kp (List.replicate n e) s C D).2 = (C ++ List.replicate n e, D)
  | 0, _, C, D, _ => by simp [Stl.pass]
  | n + 1, s, C, D, h => by
    rw [List.replicate_succ, Stl.pass, if_pos (h0 s h), pass_rep h0 hk n _ _ _ (hk s h)]
    simp
theorem turns_rep {σ : Type} {is : σ → Int → Bool} {kp : σ → Int → σ} {I : σ → Prop} {e : En} (h0 : ∀ s, I s → is s e.1 = true) (hk : ∀ s, I s → I (kp s e.2)) (n : Nat) (s : σ) (h : I s) : (Stl.turns is kp (n + 1) (List.replicate n e) s []).2.1 = List.replicate n e := by
  have hp := pass_rep h0 hk n s [] [] h
  rw [List.nil_append] at hp
  by_cases c : (Stl.pass is kp (List.replicate n e) s [] []).2.1.length = ([] : List En).length
  · rw [turns_stop c, hp]
  · rw [turns_go c, hp]
    cases n with
    | zero => rw [hp] at c; simp at c
    | succ n => rw [turns_stop (by simp [Stl.pass])]; simp [Stl.pass]

def Nv (v : Int × Int) : Prop := v ≠ (3, 0) ∧ v ≠ (3, 1)
theorem Nv.o {v : Int × Int} (h : v.1 ≠ 3) : Nv v := ⟨fun e => h (by rw [e]), fun e => h (by rw [e])⟩
theorem Nv.n {a b : Int} (h : a ≠ 3) : Nv (a, b) := Nv.o h
theorem Nv.t {v : Int × Int} (h : 2 ≤ v.2) : Nv v := ⟨fun e => by rw [e] at h; simp at h, fun e => by rw [e] at h; simp at h⟩
structure Gd (n : Nat) (s : Wrs) : Prop where
  r0 : s.rs.getD 0 (0, 0) = (3, 0)
  rr : ∀ i, 1 ≤ i → Nv (s.rs.getD i (0, 0))
  tt : 2 ≤ s.T.length
  a0 : Alv s.T 0 ∧ (s.T.getD 0 t0).1 = 5
  a1 : 0 < n → Alv s.T 1 ∧ (s.T.getD 1 t0).1 = 2 ∧ (s.T.getD 1 t0).2.1 = [(1, 77), (1, 77), (1, 77)]
  ff : ∀ i, Alv s.T i → ∀ v ∈ (s.T.getD i t0).2.1, Nv v
  ph : (s.rg = List.replicate n (0, 1) ∧ s.wt = [] ∧ (s.T.getD 1 t0).2.2.1 = false) ∨ (s.rg = [] ∧ s.wt = List.replicate n (0, 1))
theorem Gd.rm {n : Nat} {s : Wrs} (h : Gd n s) {v : Int × Int} (hv : v ∈ s.rs) : v = (3, 0) ∨ Nv v := by
  obtain ⟨i, hi, e⟩ := List.mem_iff_getElem.1 hv
  have ed : s.rs.getD i (0, 0) = v := by rw [List.getD_eq_getElem?_getD, List.getElem?_eq_getElem hi, e]; rfl
  cases i with
  | zero => exact Or.inl (ed.symm.trans h.r0)
  | succ i => exact Or.inr (by rw [← ed]; exact h.rr _ (by omega))

section
variable {n j : Nat} {s : Wrs} {g : List Bool → List Bool} {mj : Bool}

theorem Gd.sets (h : Gd n s) (hi : Gi s j) (hj : j ≤ 10000) (hg : Gok s.T s.wt g) (hp : s.wt = []) (hy : (s.T.getD 1 t0).2.2.1 = false) : ¬ Ls_ (s.c0 g mj) 1 := fun c => by
  have hw := hi.wcv hj
  have hG := (c0_ok hw hg mj).1
  refine (hG.lt (fun i => Alv s.T i ∧ i ≠ 1) (fun i _ hX v hk h3 => ?_) (fun k hk => ?_) 1 c).2 rfl
  · rcases hi.kps hX.1 hk with hm | ⟨e, he, _⟩
    · obtain ⟨q0, q1⟩ := (hi.fv i hX.1 v hm).2 h3
      refine ⟨q1, fun e => (h.ff i hX.1 v hm).2 ?_⟩
      have e2 : v.2 = 1 := by omega
      exact Prod.ext h3 e2
    · rw [hp] at he
      cases he
  · obtain ⟨h1, h2⟩ := (frs_in _ _ _ _).1 hk
    rcases h2 with ⟨d1, d2, _⟩ | ⟨v, hv, h3, e⟩
    · refine ⟨⟨h1, d2⟩, fun e => ?_⟩
      rw [e, hy] at d1
      cases d1
    · obtain ⟨q0, q1⟩ := hw.rv v hv h3
      refine ⟨by rw [← e]; exact q1, fun e1 => ?_⟩
      have e2 : v.2 = 1 := by omega
      rcases h.rm hv with d | d
      · rw [d] at e2
        simp at e2
      · exact d.2 (Prod.ext h3 e2)
theorem Gd.root0 (h : Gd n s) (hi : Gi s j) (hj : j ≤ 10000) (hg : Gok s.T s.wt g) : Ls_ (s.c0 g mj) 0 := by
  have hm : ((3, 0) : Int × Int) ∈ s.rs := by rw [← h.r0]; exact getD_in (by rw [hi.rl]; decide)
  exact c0_root (hi.wcv hj) hg mj hm rfl

theorem Gd.cut (h : Gd n s) (hi : Gi s j) (hj : j ≤ 10000) (hg : Gok s.T s.wt g) (grow : Int) : Gd n (s.cut g grow mj) ∧ (s.ccd g grow mj = 0 → (s.cut g grow mj).wt = List.replicate n (0, 1)) := by
  have hw := hi.wcv hj
  unfold Wrs.ccd Wrs.cut
  split
  · exact ⟨h, fun c => by omega⟩
  have hC := cR_ci hw hg mj
  have z0 := h.root0 hi hj hg (mj := mj)
  have hL0 := hC.up 0 z0
  have hrgt : ∀ e ∈ s.rg, e = (0, 1) := fun e he => by
    rcases h.ph with ⟨p, _⟩ | ⟨p, _⟩
    · rw [p] at he
      exact (List.mem_replicate.1 he).2
    · rw [p] at he
      cases he
  -- what comes to wait, and that the vector is kept
  have key : ((s.wt ++ (s.cR g mj).2.1) = List.replicate n (0, 1)) ∧ (s.rg.filter (fun e => isd (s.c0 g mj) e.2 && isd (s.cR g mj).1 e.1)) = [] ∧ (0 < n → Ls_ (s.cR g mj).1 1) := by
    rcases h.ph with ⟨p1, p2, p3⟩ | ⟨p1, p2⟩
    · have hn := h.sets hi hj hg p2 p3 (mj := mj)
      have hf : isd (s.c0 g mj) 1 = false := by
        cases c : isd (s.c0 g mj) 1
        · rfl
        · exact absurd c hn
      have e1 : s.rg.filter (fun e => !isd (s.c0 g mj) e.2) = List.replicate n (0, 1) := by
        rw [p1, List.filter_replicate]
        simp [hf]
      have e2 : (s.cR g mj).2.1 = List.replicate n (0, 1) := by
        cases hn0 : n with
        | zero =>
          have := cR_len s g mj
          rw [e1, hn0] at this
          exact List.eq_nil_of_length_eq_zero (by simpa using this)
        | succ n' =>
          unfold Wrs.cR
          rw [e1, show s.rg.length = n by rw [p1]; simp, ← hn0]
          refine turns_rep (is := isd) (kp := kpg g) (e := ((0 : Int), (1 : Int))) (I := fun L => Sok_ s.T L ∧ Ls_ L 0) (fun L hL => hL.2) (fun L hL => ?_) n _ ⟨(c0_ok hw hg mj).2, z0⟩
          have := hL.1.kpg hg hw.iv (x := 1) (h.a1 (by omega)).1
          exact ⟨this.1, this.2.2 0 hL.2⟩
      refine ⟨by rw [p2, e2, List.nil_append], ?_, fun hp => ?_⟩
      · rw [p1, List.filter_replicate]
        simp [hf]
      · exact (hC.cC (0, 1) (by rw [e2]; exact List.mem_replicate.2 ⟨by omega, rfl⟩)).2.2
    · have e2 : (s.cR g mj).2.1 = [] := by
        have := cR_len s g mj
        rw [p1] at this
        exact List.eq_nil_of_length_eq_zero (by simpa using this)
      refine ⟨by rw [e2, p2, List.append_nil], by rw [p1]; rfl, fun hp => ?_⟩
      exact hC.cl 0 h.a0.1.1 hL0 (3, 1) (Or.inr (Or.inr (Or.inr ⟨h.a0.2, (0, 1), by rw [p2]; exact List.mem_replicate.2 ⟨by omega, rfl⟩, rfl, rfl⟩))) rfl
  obtain ⟨e1, e2, e3⟩ := key
  rw [e1, e2]
  generalize (s.cR g mj).1 = L at *
  have ef : (List.replicate n ((0 : Int), (1 : Int))).filter (fun e => isd L e.1) = List.replicate n (0, 1) := by
    rw [List.filter_replicate, if_pos]
    exact hL0
  rw [ef]
  have av := cu_alv hC.ok
  have gt : ∀ i, Ls_ L i → (cuL L s.T s.T.length).getD i t0 = cuT L i (s.T.getD i t0) := fun i hi => by rw [cuL_at, if_pos (hC.ok.al i hi).1]
  refine ⟨{ r0 := h.r0, rr := h.rr, tt := by dsimp only; rw [cuL_len]; exact h.tt, a0 := ⟨(av 0).2 hL0, by dsimp only; rw [gt 0 hL0, cuT_k]; exact h.a0.2⟩, a1 := fun hp => ?_, ff := fun i hi v hv => ?_, ph := Or.inr ⟨rfl, rfl⟩ }, fun _ => rfl⟩
  · have l1 := e3 hp
    obtain ⟨_, q2, q3⟩ := h.a1 hp
    refine ⟨(av 1).2 l1, by dsimp only; rw [gt 1 l1, cuT_k]; exact q2, ?_⟩
    dsimp only
    rw [gt 1 l1]
    rcases cuT_f (L := L) (i := 1) (t := s.T.getD 1 t0) l1 with ⟨d, _⟩ | ⟨d, _⟩ | ⟨_, d⟩
    · omega
    · omega
    · rw [d]
      exact q3
  · have hi2 := (av i).1 hi
    have ha := hC.ok.al i hi2
    dsimp only at hv
    rw [gt i hi2] at hv
    rcases cuT_f (L := L) (i := i) (t := s.T.getD i t0) hi2 with ⟨_, _, d⟩ | ⟨k3, _, d⟩ | ⟨_, d⟩
    · rw [d] at hv
      have : v = (2, 0) := by simpa using hv
      rw [this]
      exact Nv.n (by decide)
    · rw [d] at hv
      have : v = (2, 0) ∨ v = (s.T.getD i t0).2.1.getD 1 (0, 0) := by simpa using hv
      rcases this with rfl | rfl
      · exact Nv.n (by decide)
      · exact h.ff i ha _ (getD_in (by rw [Gi.fl ‹Gi s j› i ha (Or.inl k3)]; decide))
    · rw [d] at hv
      exact h.ff i ha v hv
end

section
variable {n j : Nat} {s : Wrs} {g : Gfn} {most grow : Int}

theorem Gd.room (h : Gd n s) (hi : Gi s j) (hj : j ≤ 10000) (hg : Gok s.T s.wt (g s.T s.wt)) (m : Int) : Gd n (s.room g most grow m).2 := by
  unfold Wrs.room
  split
  · exact h
  · exact (h.cut hi hj hg _).1
theorem Gd.put (h : Gd n s) {kd : Int} {fl : List (Int × Int)} (hf : ∀ v ∈ fl, Nv v) : Gd n (s.put kd fl) := by
  have av := alv_snoc s.T kd fl
  have gt : ∀ i, i < s.T.length → (s.T ++ [(kd, fl, false, false)]).getD i t0 = s.T.getD i t0 := fun i hi => by rw [getD_snoc, if_neg (by omega)]
  have tt := h.tt
  unfold Wrs.put
  refine { r0 := h.r0, rr := h.rr, tt := by dsimp only; rw [List.length_append]; omega, a0 := ⟨(av 0).2 (Or.inl h.a0.1), by dsimp only; rw [gt 0 (by omega)]; exact h.a0.2⟩, a1 := fun hp => ?_, ff := fun i hi v hv => ?_, ph := by dsimp only; rw [gt 1 (by omega)]; exact h.ph }
  · obtain ⟨q1, q2⟩ := h.a1 hp
    refine ⟨(av 1).2 (Or.inl q1), ?_⟩
    dsimp only
    rw [gt 1 (by omega)]
    exact q2
  · rcases (av i).1 hi with hi | rfl
    · dsimp only at hv
      rw [gt i hi.1] at hv
      exact h.ff i hi v hv
    · dsimp only at hv
      rw [getD_snoc, if_pos rfl] at hv
      exact hf v hv
theorem Gd.grw (h : Gd n s) (hi : Gi s j) (hj : j ≤ 10000) (hg : Gok s.T s.wt (g s.T s.wt)) {kd : Int} {fl : List (Int × Int)} (hf : ∀ v ∈ fl, Nv v) : Gd n (s.grow g most grow kd fl).2.2 ∧ Nv (s.grow g most grow kd fl).1 := by
  have hr := h.room hi hj hg (most := most) (grow := grow) (1 + fl.length)
  unfold Wrs.grow
  split
  · refine ⟨hr.put hf, Nv.t ?_⟩
    have := hr.tt
    dsimp only
    omega
  · exact ⟨hr, Nv.n (by decide)⟩
theorem Gd.root (h : Gd n s) {R : Nat} (hR : 1 ≤ R) {v : Int × Int} (hv : Nv v) : Gd n { s with rs := s.rs.set R v } := by
  refine { h with r0 := ?_, rr := fun i hi => ?_ }
  · dsimp only
    rw [List.getD_eq_getElem?_getD, List.getElem?_set_ne (by omega), ← List.getD_eq_getElem?_getD]
    exact h.r0
  · dsimp only
    by_cases e : R = i
    · subst e
      by_cases c : R < s.rs.length
      · rw [List.getD_eq_getElem?_getD, List.getElem?_set_self c]
        exact hv
      · rw [List.getD_eq_getElem?_getD, List.getElem?_eq_none (by simp; omega)]
        exact Nv.n (by decide)
    · rw [List.getD_eq_getElem?_getD, List.getElem?_set_ne e, ← List.getD_eq_getElem?_getD]
      exact h.rr i hi
theorem Gd.dos (h : Gd n s) (hi : Gi s j) (hj : j ≤ 10000) (hg : Gok s.T s.wt (g s.T s.wt)) (k R A B I m : Int) (k9 : k ≠ 9) (k10 : k ≠ 10) (k15 : k ≠ 15) (k16 : k ≠ 16) (hR : usK k = 1 ∨ usK k = 3 ∨ usK k = 7 → 2 < R) (hA : usK k = 3 ∨ usK k = 6 ∨ usK k = 7 → A ≠ 0) (hB : usK k = 6 ∨ usK k = 7 → B ≠ 0) : Gd n (s.dos g most grow k R A B I m).2 := by
  unfold Wrs.dos
  by_cases hc : ckC k R A B m = 0
  · rw [if_pos hc, if_neg k9]
    have rA : usK k = 3 ∨ usK k = 6 ∨ usK k = 7 → Nv (s.rs.getD A.toNat (0, 0)) := fun hu => h.rr _ (by have := ck_A hc hu; have := hA hu; omega)
    have rB : usK k = 6 ∨ usK k = 7 → Nv (s.rs.getD B.toNat (0, 0)) := fun hu => h.rr _ (by have := ck_B hc hu; have := hB hu; omega)
    by_cases k12 : k = 12
    · rw [if_pos k12]
      subst k12
      unfold Wrs.set
      dsimp only
      split
      · rename_i c
        have hfd : fdb s.T (s.rs.getD A.toNat (0, 0)) = true := by
          cases e : fdb s.T (s.rs.getD A.toNat (0, 0))
          · unfold Wrs.fc at c
            rw [e, if_neg (by simp)] at c
            omega
          · rfl
        obtain ⟨h3, hk5⟩ := fdb_iff.1 hfd
        obtain ⟨q0, ha⟩ := (hi.rt A.toNat).2 h3
        have vA := rA (by decide)
        have vB := rB (by decide)
        have n1 : (s.rs.getD A.toNat (0, 0)).2.toNat ≠ 1 := fun e => vA.2 (Prod.ext h3 (by dsimp only; omega))
        have n0 : (s.rs.getD A.toNat (0, 0)).2.toNat ≠ 0 := fun e => vA.1 (Prod.ext h3 (by dsimp only; omega))
        generalize (s.rs.getD A.toNat (0, 0)).2.toNat = i at *
        have hil := ha.1
        generalize s.rs.getD B.toNat (0, 0) = y at *
        have av := alv_stf s.T i I.toNat y hil
        have gt := fun k => getD_stf s.T i I.toNat y k hil
        refine { r0 := h.r0, rr := h.rr, tt := by dsimp only; rw [List.length_set]; exact h.tt, a0 := ⟨(av 0).2 h.a0.1, by dsimp only; rw [gt 0, if_neg n0.symm]; exact h.a0.2⟩, a1 := fun hp => ?_, ff := fun q hq v hv => ?_, ph := by dsimp only; rw [gt 1, if_neg n1.symm]; exact h.ph }
        · obtain ⟨q1, q2⟩ := h.a1 hp
          refine ⟨(av 1).2 q1, ?_⟩
          dsimp only
          rw [gt 1, if_neg n1.symm]
          exact q2
        · dsimp only at hv
          rw [gt q] at hv
          split at hv
          · rcases List.mem_or_eq_of_mem_set hv with d | d
            · exact h.ff i ha v d
            · rw [d]
              exact vB
          · exact h.ff q ((av q).1 hq) v hv
      · exact h
    rw [if_neg k12, if_neg k15, if_neg k16]
    have hkk : usK k = 1 ∨ usK k = 3 ∨ usK k = 7 := by
      rcases kind_all k with d | d | d | d | d | d | d | d | d | d | d | d | d | d | d | d | d
      case' inr.inr.inr.inr.inr.inr.inr.inr.inr.inr.inr.inr.inr.inr.inr.inr =>
        have := usK_no d
        unfold ckC at hc
        rw [if_pos this] at hc
        omega
      all_goals
        first
          | (subst d; decide)
          | (exfalso; omega)
    have hR2 := hR hkk
    have key : Gd n (s.rt g most grow k A.toNat B.toNat I m).2.2 ∧ Nv (s.rt g most grow k A.toNat B.toNat I m).1 := by
      unfold Wrs.rt
      by_cases k1 : k = 1
      · rw [if_pos k1]
        exact ⟨h, Nv.n (by decide)⟩
      rw [if_neg k1]
      by_cases k3 : k = 3
      · rw [if_pos k3]
        subst k3
        exact ⟨h, rA (by decide)⟩
      rw [if_neg k3]
      have two : usK k = 7 → ∀ v ∈ [s.rs.getD A.toNat (0, 0), s.rs.getD B.toNat (0, 0)], Nv v := fun hu v hv => by
        have : v = s.rs.getD A.toNat (0, 0) ∨ v = s.rs.getD B.toNat (0, 0) := by simpa using hv
        rcases this with rfl | rfl
        · exact rA (Or.inr (Or.inr hu))
        · exact rB (Or.inr hu)
      by_cases k4 : k = 4
      · rw [if_pos k4]
        subst k4
        exact h.grw hi hj hg (two (by decide))
      rw [if_neg k4]
      by_cases k5 : k = 5
      · rw [if_pos k5]
        subst k5
        exact h.grw hi hj hg (fun v hv => by rw [(List.mem_replicate.1 hv).2]; exact rA (by decide))
      rw [if_neg k5]
      by_cases k6 : k = 6
      · rw [if_pos k6]
        subst k6
        exact h.grw hi hj hg (two (by decide))
      rw [if_neg k6]
      by_cases k7 : k = 7
      · rw [if_pos k7]
        subst k7
        exact h.grw hi hj hg (two (by decide))
      rw [if_neg k7]
      by_cases k8 : k = 8
      · rw [if_pos k8]
        exact h.grw hi hj hg (by simp)
      rw [if_neg k8, if_neg k10]
      by_cases k11 : k = 11
      · rw [if_pos k11]
        refine ⟨h, ?_⟩
        dsimp only
        split
        · rename_i c
          by_cases e : fdb s.T (s.rs.getD A.toNat (0, 0)) = true
          · obtain ⟨h3, _⟩ := fdb_iff.1 e
            have ha := ((hi.rt A.toNat).2 h3).2
            by_cases ci : I.toNat < (s.T.getD (s.rs.getD A.toNat (0, 0)).2.toNat t0).2.1.length
            · exact h.ff _ ha _ (getD_in ci)
            · rw [List.getD_eq_getElem?_getD (l := (s.T.getD (s.rs.getD A.toNat (0, 0)).2.toNat t0).2.1), List.getElem?_eq_none (by omega)]
              exact Nv.n (by decide)
          · unfold Wrs.fc at c
            rw [if_neg e] at c
            omega
        · exact Nv.n (by decide)
      rw [if_neg k11]
      by_cases k13 : k = 13
      · rw [if_pos k13]
        split
        · exact ⟨h, Nv.n (by decide)⟩
        · exact ⟨h, Nv.n (by decide)⟩
      rw [if_neg k13]
      by_cases k14 : k = 14
      · rw [if_pos k14]
        exact ⟨h, Nv.n (by decide)⟩
      rw [if_neg k14]
      exact ⟨h, Nv.n (by decide)⟩
    split
    · exact key.1.root (by omega) key.2
    · exact key.1
  · rw [if_neg hc]
    exact h
end

structure Gq (m : Nat) (s : Wrs) : Prop where
  r0 : s.rs.getD 0 (0, 0) = (3, 0)
  rl : s.rs.length = 12
  k0 : (s.T.getD 0 t0).1 = 5
  a1 : 0 < m → (s.T.getD 1 t0).1 = 2 ∧ (s.T.getD 1 t0).2.1 = [(1, 77), (1, 77), (1, 77)]
  wt : s.wt = List.replicate m (0, 1)
theorem Gd.gq {n j : Nat} {s : Wrs} (h : Gd n s) (hi : Gi s j) (hw : s.wt = List.replicate n (0, 1)) : Gq n s := ⟨h.r0, hi.rl, h.a0.2, fun hp => (h.a1 hp).2, hw⟩
section
variable {m : Nat} {s : Wrs} {g : Gfn} {most grow : Int}
theorem dos_yes {k R A B I n : Int} {v : Int × Int} {s2 : Wrs} (hc : ckC k R A B n = 0) (k9 : k ≠ 9) (k12 : k ≠ 12) (k15 : k ≠ 15) (k16 : k ≠ 16) (e : s.rt g most grow k A.toNat B.toNat I n = (v, 0, s2)) : s.dos g most grow k R A B I n = (0, { s2 with rs := s2.rs.set R.toNat v }) := by
  unfold Wrs.dos
  rw [if_pos hc, if_neg k9, if_neg k12, if_neg k15, if_neg k16, e, if_pos rfl]
theorem dos_no {k R A B I n c : Int} {v : Int × Int} {s2 : Wrs} (hc : ckC k R A B n = 0) (k9 : k ≠ 9) (k12 : k ≠ 12) (k15 : k ≠ 15) (k16 : k ≠ 16) (e : s.rt g most grow k A.toNat B.toNat I n = (v, c, s2)) (h0 : c ≠ 0) : s.dos g most grow k R A B I n = (c, s2) := by
  unfold Wrs.dos
  rw [if_pos hc, if_neg k9, if_neg k12, if_neg k15, if_neg k16, e, if_neg h0]
theorem gq_none (h : Gq 0 s) : s.dos g most grow 10 1 0 0 0 0 = (4, s) := by
  have e : s.wt = [] := h.wt
  have hg : gdb s.T (3, 0) = true := gdb_iff.2 ⟨rfl, h.k0⟩
  refine dos_no (v := (0, 0)) (by decide) (by decide) (by decide) (by decide) (by decide) ?_ (by decide)
  show s.pop (s.rs.getD 0 (0, 0)) = _
  rw [h.r0]
  unfold Wrs.pop
  rw [if_pos hg, if_neg (by rw [e]; simp)]
theorem gq_pop (h : Gq (m + 1) s) : s.dos g most grow 10 1 0 0 0 0 = (0, { s with rs := s.rs.set 1 (3, 1), wt := List.replicate m (0, 1) }) := by
  have e := h.wt
  have hg : gdb s.T (3, 0) = true := gdb_iff.2 ⟨rfl, h.k0⟩
  have hp : pqI 0 s.wt = 0 := by
    rw [e, List.replicate_succ]
    unfold pqI
    rw [List.findIdx_cons]
    rfl
  refine dos_yes (v := (3, 1)) (s2 := { s with wt := List.replicate m (0, 1) }) (by decide) (by decide) (by decide) (by decide) (by decide) ?_
  show s.pop (s.rs.getD 0 (0, 0)) = _
  rw [h.r0]
  unfold Wrs.pop
  dsimp only
  rw [if_pos hg, hp, if_pos (by rw [e]; simp)]
  rw [e, List.replicate_succ]
  simp
theorem gq_get (h : Gq (m + 1) s) : ({ s with rs := s.rs.set 1 (3, 1), wt := List.replicate m (0, 1) } : Wrs).dos g most grow 11 1 1 0 2 0 = (0, { s with rs := s.rs.set 1 (1, 77), wt := List.replicate m (0, 1) }) := by
  obtain ⟨q1, q2⟩ := h.a1 (Nat.succ_pos _)
  have hr : (s.rs.set 1 (3, 1)).getD 1 (0, 0) = (3, 1) := by rw [List.getD_eq_getElem?_getD, List.getElem?_set_self (by rw [h.rl]; decide)]; rfl
  have hf : fdb s.T (3, 1) = true := fdb_iff.2 ⟨rfl, by show (s.T.getD 1 t0).1 ≠ 5; omega⟩
  have hfc : ({ s with rs := s.rs.set 1 (3, 1), wt := List.replicate m (0, 1) } : Wrs).fc (3, 1) 2 = 0 := by
    unfold Wrs.fc
    dsimp only
    rw [if_pos hf]
    show (if (2 : Int) < 0 ∨ ((s.T.getD 1 t0).2.1.length : Int) ≤ 2 then (1 : Int) else 0) = 0
    rw [q2]
    rfl
  have e := dos_yes (s := { s with rs := s.rs.set 1 (3, 1), wt := List.replicate m (0, 1) }) (g := g) (most := most) (grow := grow) (k := 11) (R := 1) (A := 1) (B := 0) (I := 2) (n := 0) (v := (1, 77)) (s2 := { s with rs := s.rs.set 1 (3, 1), wt := List.replicate m (0, 1) }) (by decide) (by decide) (by decide) (by decide) (by decide) (by
    show ((if ({ s with rs := s.rs.set 1 (3, 1), wt := List.replicate m (0, 1) } : Wrs).fc ((s.rs.set 1 (3, 1)).getD 1 (0, 0)) 2 = 0 then (s.T.getD ((s.rs.set 1 (3, 1)).getD 1 (0, 0)).2.toNat t0).2.1.getD 2 (0, 0) else (0, 0)), ({ s with rs := s.rs.set 1 (3, 1), wt := List.replicate m (0, 1) } : Wrs).fc ((s.rs.set 1 (3, 1)).getD 1 (0, 0)) 2, _) = _
    rw [hr, hfc, if_pos rfl]
    show ((s.T.getD 1 t0).2.1.getD 2 (0, 0), _, _) = _
    rw [q2]
    rfl)
  rw [e]
  show (_, Wrs.mk _ ((s.rs.set 1 (3, 1)).set 1 (1, 77)) _ _) = _
  rw [List.set_set]
theorem gq_next (h : Gq (m + 1) s) : Gq m { s with rs := s.rs.set 1 (1, 77), wt := List.replicate m (0, 1) } :=
  ⟨by dsimp only; rw [List.getD_eq_getElem?_getD, List.getElem?_set_ne (by decide), ← List.getD_eq_getElem?_getD]; exact h.r0, by dsimp only; rw [List.length_set]; exact h.rl, h.k0, fun _ => h.a1 (Nat.succ_pos _), rfl⟩
abbrev gA (y : Bool) (n : Nat) : Wrs := ⟨[(5, [], false, false), (2, [(1, 77), (1, 77), (1, 77)], false, false)], [(3, 0), if y then (3, 1) else (0, 0), (1, 77), (0, 0), (0, 0), (0, 0), (0, 0), (0, 0), (0, 0), (0, 0), (0, 0), (0, 0)], List.replicate n (0, 1), []⟩
theorem gA_1 (g : Gfn) {most grow : Int} (hm : 16 ≤ most) : (⟨[], List.replicate 12 (0, 0), [], []⟩ : Wrs).dos g most grow 8 0 0 0 0 0 = (0, ⟨[(5, [], false, false)], [(3, 0), (0, 0), (0, 0), (0, 0), (0, 0), (0, 0), (0, 0), (0, 0), (0, 0), (0, 0), (0, 0), (0, 0)], [], []⟩) := by
  refine (dos_yes (v := (3, 0)) (s2 := ⟨[(5, [], false, false)], List.replicate 12 (0, 0), [], []⟩) (by decide) (by decide) (by decide) (by decide) (by decide) ?_).trans rfl
  show Wrs.grow g most grow _ 5 [] = _
  unfold Wrs.grow Wrs.room
  dsimp only
  rw [if_pos (show ((1 : Int) + (([] : List (Int × Int)).length : Int)) ≤ most - (usd []).1 by simp [usd]; omega), if_pos rfl]
  rfl
theorem gA_2 (g : Gfn) {most grow : Int} : (⟨[(5, [], false, false)], [(3, 0), (0, 0), (0, 0), (0, 0), (0, 0), (0, 0), (0, 0), (0, 0), (0, 0), (0, 0), (0, 0), (0, 0)], [], []⟩ : Wrs).dos g most grow 1 2 0 0 0 77 = (0, ⟨[(5, [], false, false)], [(3, 0), (0, 0), (1, 77), (0, 0), (0, 0), (0, 0), (0, 0), (0, 0), (0, 0), (0, 0), (0, 0), (0, 0)], [], []⟩) :=
  (dos_yes (v := (1, 77)) (by decide) (by decide) (by decide) (by decide) (by decide) rfl).trans rfl
theorem gA_3 (g : Gfn) {most grow : Int} (hm : 16 ≤ most) : (⟨[(5, [], false, false)], [(3, 0), (0, 0), (1, 77), (0, 0), (0, 0), (0, 0), (0, 0), (0, 0), (0, 0), (0, 0), (0, 0), (0, 0)], [], []⟩ : Wrs).dos g most grow 5 1 2 0 0 3 = (0, gA true 0) := by
  refine (dos_yes (v := (3, 1)) (s2 := ⟨[(5, [], false, false), (2, [(1, 77), (1, 77), (1, 77)], false, false)], [(3, 0), (0, 0), (1, 77), (0, 0), (0, 0), (0, 0), (0, 0), (0, 0), (0, 0), (0, 0), (0, 0), (0, 0)], [], []⟩) (by decide) (by decide) (by decide) (by decide) (by decide) ?_).trans rfl
  show Wrs.grow g most grow _ 2 [(1, 77), (1, 77), (1, 77)] = _
  unfold Wrs.grow Wrs.room
  dsimp only
  rw [if_pos (show ((1 : Int) + (([(1, 77), (1, 77), (1, 77)] : List (Int × Int)).length : Int)) ≤ most - (usd [(5, [], false, false)]).1 by simp [usd, usP]; omega), if_pos rfl]
  rfl
theorem gA_reg (g : Gfn) {most grow : Int} {n : Nat} (hn : n < 24) : (gA true n).dos g most grow 9 0 1 0 0 0 = (0, gA true (n + 1)) := by
  unfold Wrs.dos
  rw [if_pos (by decide), if_pos rfl]
  show Wrs.reg (gA true n) (3, 1) (3, 0) = _
  unfold Wrs.reg
  rw [if_pos ⟨rfl, by rfl⟩, if_neg (by simp; omega)]
  have e : List.replicate (n + 1) ((0 : Int), (1 : Int)) = List.replicate n (0, 1) ++ [(0, 1)] := List.replicate_succ'
  show (_, Wrs.mk _ _ (List.replicate n (0, 1) ++ [(0, 1)]) _) = (_, Wrs.mk _ _ (List.replicate (n + 1) (0, 1)) _)
  rw [e]
theorem gA_nil (g : Gfn) {most grow : Int} {n : Nat} : (gA true n).dos g most grow 2 1 0 0 0 0 = (0, gA false n) :=
  (dos_yes (v := (0, 0)) (by decide) (by decide) (by decide) (by decide) (by decide) rfl).trans rfl
theorem gA_gd (n : Nat) : Gd n (gA false n) :=
  { r0 := rfl
    rr := fun i hi => by
      match i, hi with
      | 1, _ => exact (show Nv (0, 0) from Nv.n (by decide))
      | 2, _ => exact (show Nv (1, 77) from Nv.n (by decide))
      | 3, _ => exact (show Nv (0, 0) from Nv.n (by decide))
      | 4, _ => exact (show Nv (0, 0) from Nv.n (by decide))
      | 5, _ => exact (show Nv (0, 0) from Nv.n (by decide))
      | 6, _ => exact (show Nv (0, 0) from Nv.n (by decide))
      | 7, _ => exact (show Nv (0, 0) from Nv.n (by decide))
      | 8, _ => exact (show Nv (0, 0) from Nv.n (by decide))
      | 9, _ => exact (show Nv (0, 0) from Nv.n (by decide))
      | 10, _ => exact (show Nv (0, 0) from Nv.n (by decide))
      | 11, _ => exact (show Nv (0, 0) from Nv.n (by decide))
      | i + 12, _ => exact Nv.o (by simp [List.getD_eq_getElem?_getD])
    tt := Nat.le_refl 2
    a0 := ⟨⟨Nat.succ_pos 1, rfl⟩, rfl⟩
    a1 := fun _ => ⟨⟨Nat.lt_succ_self 1, rfl⟩, rfl, rfl⟩
    ff := fun i hi v hv => by
      match i, hi, hv with
      | 0, _, hv => cases hv
      | 1, _, hv =>
        have : v = (1, 77) := by simpa using hv
        rw [this]
        exact Nv.n (by decide)
      | i + 2, hi, _ => exact absurd hi.1 (by simp)
    ph := Or.inl ⟨rfl, rfl, rfl⟩ }
end

end Go.Proofs.Ytjhnhbeimjnloaa

/- Steps of a heap that came in: a list of six numbers each. -/
namespace Go.Proofs.Ytjhnhbeimjnloaa
open Go.ChangeShapes Go.WideShapes Go.ChangeAt Go.RowKit Go.Joins Go.Deep W Stl

theorem cellsStepZ : Try.prog.cellsOf 30 = 6 := by kernel_rfl
theorem cellsIZ : Try.prog.cellsOf 3 = 1 := by kernel_rfl
theorem cellsLZ : Try.prog.cellsOf 2 = 1 := by kernel_rfl

structure S6 where
  k : Int
  R : Int
  A : Int
  B : Int
  I : Int
  n : Int
def s60 : S6 := ⟨0, 0, 0, 0, 0, 0⟩
def K64 (a : Int) : Prop := -9223372036854775808 ≤ a ∧ a ≤ 9223372036854775807
structure C6 (w : World) (b o : Nat) (s : S6) : Prop where
  c0 : w.cell? ⟨b, o, none⟩ = some (.int .i64 s.k)
  c1 : w.cell? ⟨b, o + 1, none⟩ = some (.int .i64 s.R)
  c2 : w.cell? ⟨b, o + 2, none⟩ = some (.int .i64 s.A)
  c3 : w.cell? ⟨b, o + 3, none⟩ = some (.int .i64 s.B)
  c4 : w.cell? ⟨b, o + 4, none⟩ = some (.int .i64 s.I)
  c5 : w.cell? ⟨b, o + 5, none⟩ = some (.int .i64 s.n)
theorem C6.below {w w' : World} {b o B : Nat} {s : S6} (h : C6 w b o s) (hb : Below B w w') (hB : b < B) : C6 w' b o s :=
  ⟨(hb.cell (p := ⟨b, o, none⟩) hB).trans h.c0, (hb.cell (p := ⟨b, o + 1, none⟩) hB).trans h.c1, (hb.cell (p := ⟨b, o + 2, none⟩) hB).trans h.c2, (hb.cell (p := ⟨b, o + 3, none⟩) hB).trans h.c3, (hb.cell (p := ⟨b, o + 4, none⟩) hB).trans h.c4, (hb.cell (p := ⟨b, o + 5, none⟩) hB).trans h.c5⟩
def L6 (w : World) (ad : Option Addr) (l : List S6) : Prop :=
  0 < l.length → ∃ b o, ad = some ⟨b, o, none⟩ ∧ b < w.heap.size ∧ ∀ i, i < l.length → C6 w b (o + i * 6) (l.getD i s60) ∧ K64 (l.getD i s60).k ∧ K64 (l.getD i s60).R ∧ K64 (l.getD i s60).A ∧ K64 (l.getD i s60).B ∧ K64 (l.getD i s60).I ∧ K64 (l.getD i s60).n

theorem list6z {α : Type} {cs : List α} (h : cs.length = 6) : ∃ c0 c1 c2 c3 c4 c5, cs = [c0, c1, c2, c3, c4, c5] := by
  match cs, h with
  | [c0, c1, c2, c3, c4, c5], _ => exact ⟨c0, c1, c2, c3, c4, c5, rfl⟩
theorem kbnd {a : Int} (h : (Lit.int .i64 a).wf = true) : K64 a := by
  have : IntKind.i64.min ≤ a ∧ a ≤ 9223372036854775807 := by simpa [Lit.wf] using h
  exact ⟨this.1, this.2⟩

set_option maxRecDepth 100000 in
theorem open_step6 {H : Type} {enc : TypeId × Value → H} {W : World} {sp : Nat → Bool} {held : Bool} {fuel : Nat} {cs : List Value} {x : DataW H × List MemPlace}
    (hf : DataW.trod enc Try.prog W 0 sp held fuel 30 cs = some x) : ∃ s : S6, cs = [.int .i64 s.k, .int .i64 s.R, .int .i64 s.A, .int .i64 s.B, .int .i64 s.I, .int .i64 s.n] ∧ K64 s.k ∧ K64 s.R ∧ K64 s.A ∧ K64 s.B ∧ K64 s.I ∧ K64 s.n := by
  obtain ⟨xs, m, _, hx, hl, hlen, hg⟩ := DataW.trod_struct Try.underlying30 hf
  rw [cellsStepZ] at hl
  obtain ⟨c0, c1, c2, c3, c4, c5, rfl⟩ := list6z hl
  match xs, hlen with
  | [y0, y1, y2, y3, y4, y5], _ =>
    have t0 := hg 0 _ rfl
    have t1 := hg 1 _ rfl
    have t2 := hg 2 _ rfl
    have t3 := hg 3 _ rfl
    have t4 := hg 4 _ rfl
    have t5 := hg 5 _ rfl
    simp [cellsIZ, cellsLZ] at t0 t1 t2 t3 t4 t5
    obtain ⟨k, e0, _, w0⟩ := DataW.trod_int Try.underlying3 t0
    obtain ⟨R, e1, _, w1⟩ := DataW.trod_int Try.underlying3 t1
    obtain ⟨A, e2, _, w2⟩ := DataW.trod_int Try.underlying3 t2
    obtain ⟨B, e3, _, w3⟩ := DataW.trod_int Try.underlying3 t3
    obtain ⟨I, e4, _, w4⟩ := DataW.trod_int Try.underlying3 t4
    obtain ⟨n, e5, _, w5⟩ := DataW.trod_int Try.underlying2 t5
    simp at e0 e1 e2 e3 e4 e5
    exact ⟨⟨k, R, A, B, I, n⟩, by rw [e0, e1, e2, e3, e4, e5], kbnd w0, kbnd w1, kbnd w2, kbnd w3, kbnd w4, kbnd w5⟩

set_option maxRecDepth 100000 in
theorem open_heaps {H : Type} {enc : TypeId × Value → H} {W : World} {sp : Nat → Bool} {held : Bool} {fuel len cap : Nat} {ad : Option Addr} {x : DataW H × List MemPlace}
    (hf : DataW.trod enc Try.prog W 0 sp held fuel 22 [.slice ad len cap] = some x) : ∃ l : List S6, l.length = len ∧ L6 W ad l := by
  rcases open_slice Try.underlying22 hf with ⟨hcs, _⟩ | ⟨z, l, c, m, n, D, Pl, hcs, hb, hl, hm, hmm, _, hall⟩
  · simp at hcs
    obtain ⟨rfl, rfl, rfl⟩ := hcs
    exact ⟨[], rfl, fun h => by simp at h⟩
  · simp at hcs
    obtain ⟨rfl, rfl, rfl⟩ := hcs
    have hlm : len ≤ m := by rw [hmm]; split <;> omega
    have key : ∀ i, i < len → ∃ s : S6, (W.cell? (z.add (i * 6)) = some (.int .i64 s.k) ∧ W.cell? (z.add (i * 6 + 1)) = some (.int .i64 s.R) ∧ W.cell? (z.add (i * 6 + 2)) = some (.int .i64 s.A) ∧ W.cell? (z.add (i * 6 + 3)) = some (.int .i64 s.B) ∧ W.cell? (z.add (i * 6 + 4)) = some (.int .i64 s.I) ∧ W.cell? (z.add (i * 6 + 5)) = some (.int .i64 s.n)) ∧ K64 s.k ∧ K64 s.R ∧ K64 s.A ∧ K64 s.B ∧ K64 s.I ∧ K64 s.n := by
      intro i hi
      obtain ⟨cs', h1, h2⟩ := hall i (by omega)
      rw [cellsStepZ] at h1
      obtain ⟨_, _, hcell⟩ := World.cells?_some h1
      obtain ⟨s, rfl, hb⟩ := open_step6 h2
      refine ⟨s, ⟨?_, ?_, ?_, ?_, ?_, ?_⟩, hb⟩
      · have := hcell 0 (by omega); rw [add_add] at this; simpa using this
      · have := hcell 1 (by omega); rw [add_add] at this; simpa using this
      · have := hcell 2 (by omega); rw [add_add] at this; simpa using this
      · have := hcell 3 (by omega); rw [add_add] at this; simpa using this
      · have := hcell 4 (by omega); rw [add_add] at this; simpa using this
      · have := hcell 5 (by omega); rw [add_add] at this; simpa using this
    have : Inhabited S6 := ⟨s60⟩
    obtain ⟨S, hS⟩ := choose_lt key
    refine ⟨(List.range len).map S, by simp, fun hp => ?_⟩
    simp only [List.length_map, List.length_range] at hp ⊢
    obtain ⟨b, o, spot⟩ := z
    have h0 := (hS 0 hp).1.1
    have hspot : spot = none := by simpa [Addr.add] using World.cell?_spot h0
    subst hspot
    refine ⟨b, o, rfl, World.block_lt_of_cell? W (⟨b, o, none⟩ : Addr) (by simpa [Addr.add] using h0), fun i hi => ?_⟩
    obtain ⟨⟨k0, k1, k2, k3, k4, k5⟩, k6⟩ := hS i hi
    have ea : ∀ j, (⟨b, o, none⟩ : Addr).add j = ⟨b, o + j, none⟩ := fun j => by simp [Addr.add]
    rw [ea] at k0 k1 k2 k3 k4 k5
    have eg : ((List.range len).map S).getD i s60 = S i := by simp [hi]
    rw [eg]
    exact ⟨⟨k0, by rw [Nat.add_assoc]; exact k1, by rw [Nat.add_assoc]; exact k2, by rw [Nat.add_assoc]; exact k3, by rw [Nat.add_assoc]; exact k4, by rw [Nat.add_assoc]; exact k5⟩, k6⟩

end Go.Proofs.Ytjhnhbeimjnloaa
