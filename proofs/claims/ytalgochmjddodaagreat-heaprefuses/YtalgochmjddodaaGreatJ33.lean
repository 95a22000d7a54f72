/- Joined: He5, He6, He3. -/
import Derived.Test.YtalgochmjddodaaGreatJ32
import Derived.Test.YtalgochmjddodaaGreatJ18
namespace Go.Proofs.YtalgochmjddodaaGreat
set_option maxRecDepth 100000
set_option maxHeartbeats 2000000
open Go.RowKit W Kp Stl
section
variable {a : Wc} {hp : Nat} {F : Nat -> Prop} {S : Ww} {w : World}
theorem kindH_any (h : (heO a hp).J F S w) (x : Int) :
  Calls Tryz.prog 55 #[.pointer (some ⟨a.pw, 0, none⟩), .int .i64 x] w fun e w' => e = .returned (.tuple #[.int .i64 (S.kx a x), .int .i64 (S.fx a x), .int .i64 (S.ex a x)]) /\ Below w.heap.size w w' :=
 kind_any x w (he_lk h).c0 (he_at h).1
theorem isGuardianH_any (h : (heO a hp).J F S w) (x : Int) :
  Calls Tryz.prog 171 #[.pointer (some ⟨hp, 0, none⟩), .int .i64 x] w fun e w' => e = .returned (.bool (S.kx a x == 5)) /\ Below w.heap.size w w' := by
 have P := kindH_any h x
 obtain ⟨h0, _⟩ := he_lk h
 clear h
 generalize S.kx a x = k at *
 generalize S.fx a x = f at *
 generalize S.ex a x = c at *
 go_enter Tryz.func171, Tryz.ntmps171
 go_wp2_with fail
 refine P.mono ?_
 clear P
 rintro e w1 ⟨rfl, hb1⟩
 go_wp2_with fail
 go_ret
 exact ⟨rfl, hb1⟩
theorem pop_idx {q : List En} {g : Int} {i : Nat} (hi : i < q.length) (h1 : (q.getD i (0, 0)).1 = g) (h2 : ∀ e ∈ q.take i, ¬ e.1 = g) : pqI g q = i := by
 unfold pqI
 refine (List.findIdx_eq hi).2 ⟨?_, fun j hj => ?_⟩
 ·rw [List.getD_eq_getElem?_getD, List.getElem?_eq_getElem hi] at h1
  simpa using h1
 ·have := h2 (q[j]'(by omega)) (by
   rw [List.mem_take_iff_getElem]
   exact ⟨j, by omega, rfl⟩)
  simpa using this
theorem popS_any (h : (wsO a).J F S w) (g : Int) (hq : S.q.length <= 90000) :
  Calls Tryz.prog 222 #[.pointer (some ⟨a.sd, 0, none⟩), .int .i64 g] w fun e w' => ∃ F', e = .returned (.tuple #[.int .i64 (if pqI g S.q < S.q.length then (S.q.getD (pqI g S.q) (0, 0)).2 else 0), .bool (decide (pqI g S.q < S.q.length))]) /\ (wsO a).J F' (if pqI g S.q < S.q.length then ⟨S.s, S.r, S.q.take (pqI g S.q) ++ S.q.drop (pqI g S.q + 1)⟩ else S) w' /\ Tn F w F' w' := by
 have hJ := h
 obtain ⟨F0, ar, cr, ⟨F00, ad, cap, h1, h2, h3, h4, h5, h6, h7, h8⟩, r0, r1, hF⟩ := h
 refine (pop_any w a.sd ar ad cr cap S.r S.q g ⟨h2, r0, h3⟩ hq).mono ?_
 rintro e w' (⟨rfl, hn, hb⟩ | ⟨i, b1, c1, rfl, hi, g1, g2, hs, hb1, fr⟩)
 ·have hx : ¬ pqI g S.q < S.q.length := fun c => by
   unfold pqI at c
   have := List.findIdx_getElem (w := c)
   exact hn _ (List.getElem_mem c) (by simpa using this)
  rw [if_neg hx, if_neg hx, decide_eq_false hx]
  exact ⟨F, rfl, (wsO a).below hJ hb, Tn.of hb⟩
 ·have ei := pop_idx hi g1 g2
  rw [ei, if_pos hi, if_pos hi, decide_eq_true hi]
  have lp := lt_of_some h2
  have nq : ∀ b, some b = (Value.slice b1 (S.q.take i ++ S.q.drop (i + 1)).length c1).ownBlock -> w.heap.size <= b := fun b e => by
   cases b1 with
   | none => simp [Value.ownBlock] at e
   | some z =>
    simp [Value.ownBlock] at e
    rw [e]
    exact hb1 z rfl
  have sdr : ∀ b, some b = (Value.slice ar S.r.length cr).ownBlock -> b ≠ a.sd := fun b e e' => r1 b e (by rw [e']; exact h5)
  refine ⟨fun b => (F0 b \/ some b = (Value.slice b1 (S.q.take i ++ S.q.drop (i + 1)).length c1).ownBlock) \/ some b = (Value.slice ar S.r.length cr).ownBlock, rfl, ⟨fun b => F0 b \/ some b = (Value.slice b1 (S.q.take i ++ S.q.drop (i + 1)).length c1).ownBlock, ar, cr, ⟨F00, b1, c1, (wodO a).keep h1 fr.size (fun b d => fr.block b ((wodO a).lt h1 b d) (fun e => h6 (by have e : b = a.sd := e; rw [<- e]; exact d))), hs.blk, hs.q0, fun b d => Or.inl (h4 b d), Or.inl h5, h6, fun b e => ⟨Or.inr e, fun d => by have h9 := (wodO a).lt h1 b d; have h10 := nq b e; omega⟩, fun b d => ?_⟩, hs.r0, fun b e d => ?_, fun b => Iff.rfl⟩, ⟨fr.mono (fun b d => (hF b).2 (Or.inl (by have d : b = a.sd := d; rw [d]; exact h5))), fun b d => ?_⟩⟩
  ·rcases d with d | d
   ·exact Nat.lt_of_lt_of_le (h8 b d) fr.size
   ·exact (row_lt hs.q0 b d).2
  ·rcases d with d | d
   ·exact r1 b e d
   ·have h9 := (row_lt r0 b e).2
    have h10 := nq b d
    omega
  ·rcases d with (d | d) | d
   ·exact Or.inl ((hF b).2 (Or.inl d))
   ·exact Or.inr (nq b d)
   ·exact Or.inl ((hF b).2 (Or.inr d))
theorem same_any (x y : Int) (w : World) :
  Calls Tryz.prog 177 #[.int .i64 x, .int .i64 y] w fun e w' => e = .returned (.tuple #[.int .i64 (if x = y then ew 1 1 else ew 1 0), .int .i64 0]) /\ Below w.heap.size w w' := by
 by_cases e : x = y
 ·subst e
  rw [if_pos rfl]
  have P := numberH_any 1 w
  rw [show vc 1 1 = 0 by decide] at P
  go_enter Tryz.func177, Tryz.ntmps177
  go_wp2_with fail
  refine P.mono ?_
  rintro e w1 ⟨rfl, hb⟩
  go_wp2_with fail
  go_ret2
  exact ⟨rfl, hb⟩
 ·rw [if_neg e]
  have P := numberH_any 0 w
  rw [show vc 1 0 = 0 by decide] at P
  have eb : (x == y) = false := by simpa using e
  go_enter Tryz.func177, Tryz.ntmps177
  go_wp2_with fail
  refine P.mono ?_
  rintro e w1 ⟨rfl, hb⟩
  go_wp2_with fail
  go_ret2
  exact ⟨rfl, hb⟩
theorem lengthH_any (h : (heO a hp).J F S w) (x : Int) :
  Calls Tryz.prog 176 #[.pointer (some ⟨hp, 0, none⟩), .int .i64 x] w fun e w' => e = .returned (.tuple #[.int .i64 (S.len a x).1, .int .i64 (S.len a x).2.1]) /\ Below w.heap.size w w' := by
 have P := kindH_any h x
 obtain ⟨h0, _⟩ := he_lk h
 clear h
 unfold Ww.len
 generalize S.kx a x = k at *
 generalize S.fx a x = f at *
 generalize S.ex a x = c at *
 by_cases hc : c = 0
 ·subst hc
  by_cases hk : k = 5
  ·subst hk
   rw [if_neg (by simp)]
   dsimp only
   go_enter Tryz.func176, Tryz.ntmps176
   go_wp2_with fail
   refine P.mono ?_
   clear P
   rintro e w1 ⟨rfl, hb1⟩
   go_wp2_with fail
   go_ret2
   exact ⟨rfl, hb1⟩
  ·rw [if_pos ⟨rfl, hk⟩]
   dsimp only
   have kb : (k == 5) = false := by simpa using hk
   have PN := fun w => numberH_any f w
   generalize ew 1 f = v at *
   generalize vc 1 f = u at *
   go_enter Tryz.func176, Tryz.ntmps176
   go_wp2_with fail
   refine P.mono ?_
   clear P
   rintro e w1 ⟨rfl, hb1⟩
   go_wp2_with fail
   refine (PN w1).mono ?_
   rintro e w2 ⟨rfl, hb2⟩
   have hb := hb1.trans (hb2.mono hb1.size)
   clear hb1 hb2
   go_wp2_with fail
   go_ret2
   exact ⟨rfl, hb⟩
 ·rw [if_neg (fun d => hc d.1)]
  dsimp only
  have cb : (c == 0) = false := by simpa using hc
  go_enter Tryz.func176, Tryz.ntmps176
  go_wp2_with fail
  refine P.mono ?_
  clear P
  rintro e w1 ⟨rfl, hb1⟩
  go_wp2_with fail
  go_ret2
  exact ⟨rfl, hb1⟩
theorem he_side (h : (heO a hp).J F S w) : w.cell? ⟨a.pw, 2, none⟩ = some (.pointer (some ⟨a.sd, 0, none⟩)) := by
 obtain ⟨FW, h1, _⟩ := he_ws h
 obtain ⟨F0, g1, _⟩ := ws_wod h1
 obtain ⟨_, _, c2, _⟩ := wod_cells g1
 exact c2
theorem popH_any (h : (heO a hp).J F S w) (x : Int) (hq : S.q.length <= 90000) :
  Calls Tryz.prog 175 #[.pointer (some ⟨hp, 0, none⟩), .int .i64 x] w fun e w' => ∃ F', e = .returned (.tuple #[.int .i64 (S.pop a x).1, .int .i64 (S.pop a x).2.1]) /\ (heO a hp).J F' (S.pop a x).2.2 w' /\ Tn F w F' w' := by
 have P := isGuardianH_any h x
 have HJ : Hid ((heO a hp).J F S w) := h
 clear h
 unfold Ww.pop
 by_cases hk : S.kx a x = 5
 ·rw [if_pos hk]
  rw [hk] at P
  have hr : ∀ w1, Below w.heap.size w w1 -> w1.cell? ⟨hp, 0, none⟩ = some (.pointer (some ⟨a.pw, 0, none⟩)) /\ w1.cell? ⟨a.pw, 2, none⟩ = some (.pointer (some ⟨a.sd, 0, none⟩)) /\ Calls Tryz.prog 222 #[.pointer (some ⟨a.sd, 0, none⟩), .int .i64 x] w1 fun e w' => ∃ F', e = .returned (.tuple #[.int .i64 (if pqI x S.q < S.q.length then (S.q.getD (pqI x S.q) (0, 0)).2 else 0), .bool (decide (pqI x S.q < S.q.length))]) /\ (heO a hp).J F' (if pqI x S.q < S.q.length then ⟨S.s, S.r, S.q.take (pqI x S.q) ++ S.q.drop (pqI x S.q + 1)⟩ else S) w' /\ Tn F w F' w' := fun w1 hb1 => by
   have J1 := (heO a hp).below HJ.out hb1
   refine ⟨(he_lk J1).h0, he_side J1, ?_⟩
   obtain ⟨FW, g1, _, g3⟩ := he_ws J1
   refine (popS_any g1 x hq).mono ?_
   rintro e w' ⟨F', rfl, j1, t1⟩
   obtain ⟨F2, j2, t2⟩ := g3 _ _ _ j1 t1
   exact ⟨F2, rfl, j2, (Tn.of hb1).trans t2⟩
  have HR : Hid (∀ w1, Below w.heap.size w w1 -> w1.cell? ⟨hp, 0, none⟩ = some (.pointer (some ⟨a.pw, 0, none⟩)) /\ w1.cell? ⟨a.pw, 2, none⟩ = some (.pointer (some ⟨a.sd, 0, none⟩)) /\ Calls Tryz.prog 222 #[.pointer (some ⟨a.sd, 0, none⟩), .int .i64 x] w1 fun e w' => ∃ F', e = .returned (.tuple #[.int .i64 (if pqI x S.q < S.q.length then (S.q.getD (pqI x S.q) (0, 0)).2 else 0), .bool (decide (pqI x S.q < S.q.length))]) /\ (heO a hp).J F' (if pqI x S.q < S.q.length then ⟨S.s, S.r, S.q.take (pqI x S.q) ++ S.q.drop (pqI x S.q + 1)⟩ else S) w' /\ Tn F w F' w') := hr
  clear hr
  by_cases hi : pqI x S.q < S.q.length
  ·rw [if_pos hi]
   simp only [if_pos hi, decide_eq_true hi] at HR
   dsimp only
   generalize (S.q.getD (pqI x S.q) (0, 0)).2 = v at *
   generalize (⟨S.s, S.r, S.q.take (pqI x S.q) ++ S.q.drop (pqI x S.q + 1)⟩ : Ww) = S2 at *
   clear hi
   go_enter Tryz.func175, Tryz.ntmps175
   go_wp2_with fail
   refine P.mono ?_
   clear P
   rintro e w1 ⟨rfl, hb1⟩
   obtain ⟨k0, k2, P2⟩ := HR.out w1 hb1
   clear hb1 HR
   go_wp2_with fail
   refine P2.mono ?_
   clear P2
   rintro e w2 ⟨F2, rfl, j2, t2⟩
   have HF : Hid ((heO a hp).J F2 S2 w2 /\ Tn F w F2 w2) := ⟨j2, t2⟩
   clear j2 t2 k0 k2
   go_wp2_with fail
   go_ret2
   exact ⟨F2, rfl, HF.out.1, HF.out.2⟩
  ·rw [if_neg hi]
   simp only [if_neg hi, decide_eq_false hi] at HR
   dsimp only
   clear hi
   go_enter Tryz.func175, Tryz.ntmps175
   go_wp2_with fail
   refine P.mono ?_
   clear P
   rintro e w1 ⟨rfl, hb1⟩
   obtain ⟨k0, k2, P2⟩ := HR.out w1 hb1
   clear hb1 HR
   go_wp2_with fail
   refine P2.mono ?_
   clear P2
   rintro e w2 ⟨F2, rfl, j2, t2⟩
   have HF : Hid ((heO a hp).J F2 S w2 /\ Tn F w F2 w2) := ⟨j2, t2⟩
   clear j2 t2 k0 k2
   go_wp2_with fail
   go_ret2
   exact ⟨F2, rfl, HF.out.1, HF.out.2⟩
 ·rw [if_neg hk]
  have kb : (S.kx a x == 5) = false := by simpa using hk
  rw [kb] at P
  dsimp only
  clear kb hk
  go_enter Tryz.func175, Tryz.ntmps175
  go_wp2_with fail
  refine P.mono ?_
  clear P
  rintro e w1 ⟨rfl, hb1⟩
  have HF : Hid ((heO a hp).J F S w1 /\ Tn F w F w1) := ⟨(heO a hp).below HJ.out hb1, Tn.of hb1⟩
  clear hb1
  go_wp2_with fail
  go_ret2
  exact ⟨F, rfl, HF.out.1, HF.out.2⟩
theorem registerH_any (h : (heO a hp).J F S w) (t g : Int) (hr : S.r.length <= 90000) (hq : S.q.length <= 90000) :
  Calls Tryz.prog 86 #[.pointer (some ⟨hp, 0, none⟩), .int .i64 t, .int .i64 g] w fun e w' => ∃ F', e = .returned (.int .i64 (S.reg a t g).1) /\ (heO a hp).J F' (S.reg a t g).2 w' /\ Tn F w F' w' := by
 have P := kindH_any h t
 obtain ⟨h0, _⟩ := he_lk h
 have HJ : Hid ((heO a hp).J F S w) := h
 unfold Ww.reg
 have hG : Hid (∀ w1, Below w.heap.size w w1 -> Calls Tryz.prog 171 #[.pointer (some ⟨hp, 0, none⟩), .int .i64 g] w1 fun e w' => e = .returned (.bool (S.kx a g == 5)) /\ Below w.heap.size w w') := fun w1 hb1 => by
  refine (isGuardianH_any ((heO a hp).below HJ.out hb1) g).mono ?_
  rintro e w' ⟨rfl, hb2⟩
  exact ⟨rfl, hb1.trans (hb2.mono hb1.size)⟩
 have hR : Hid (∀ w1, Below w.heap.size w w1 -> w1.cell? ⟨hp, 0, none⟩ = some (.pointer (some ⟨a.pw, 0, none⟩)) /\ w1.cell? ⟨a.pw, 2, none⟩ = some (.pointer (some ⟨a.sd, 0, none⟩)) /\ Calls Tryz.prog 56 #[.pointer (some ⟨a.sd, 0, none⟩), .agg #[.int .i64 g, .int .i64 t]] w1 fun e w' => ∃ F', e = .returned (.bool (!fulB (S.r.length + S.q.length))) /\ (heO a hp).J F' (if 24 <= S.r.length + S.q.length then S else ⟨S.s, S.r ++ [(g, t)], S.q⟩) w' /\ Tn F w F' w') := fun w1 hb1 => by
  have J1 := (heO a hp).below HJ.out hb1
  refine ⟨(he_lk J1).h0, he_side J1, ?_⟩
  obtain ⟨FW, g1, _, g3⟩ := he_ws J1
  refine (regS_any g1 g t hr hq).mono ?_
  rintro e w' ⟨F', rfl, j1, t1⟩
  obtain ⟨F2, j2, t2⟩ := g3 _ _ _ j1 t1
  exact ⟨F2, rfl, j2, (Tn.of hb1).trans t2⟩
 clear h
 generalize S.fx a t = f at *
 generalize S.kx a t = k at *
 by_cases hc : S.ex a t = 0
 ·rw [if_pos hc]
  rw [hc] at P
  clear hc
  by_cases hk : S.kx a g = 5
  ·rw [if_pos hk]
   rw [hk] at hG
   clear hk
   by_cases hf : 24 <= S.r.length + S.q.length
   ·rw [if_pos hf]
    simp only [if_pos hf, fulB_yes hf] at hR
    clear hf
    dsimp only
    go_enter Tryz.func86, Tryz.ntmps86
    go_wp2_with fail
    refine P.mono ?_
    clear P
    rintro e w1 ⟨rfl, hb1⟩
    have P2 := hG.out w1 hb1
    clear hb1 h0 hG
    go_wp2_with fail
    refine P2.mono ?_
    clear P2
    rintro e w2 ⟨rfl, hb2⟩
    obtain ⟨k0, k2, P3⟩ := hR.out w2 hb2
    clear hb2 hR
    go_wp2_with fail
    refine P3.mono ?_
    clear P3
    rintro e w3 ⟨F2, rfl, j2, t2⟩
    have HF : Hid ((heO a hp).J F2 S w3 /\ Tn F w F2 w3) := ⟨j2, t2⟩
    clear j2 t2 k0 k2
    go_wp2_with fail
    go_ret
    exact ⟨F2, rfl, HF.out.1, HF.out.2⟩
   ·rw [if_neg hf]
    simp only [if_neg hf, fulB_no hf] at hR
    clear hf
    dsimp only
    generalize (⟨S.s, S.r ++ [(g, t)], S.q⟩ : Ww) = S2 at *
    go_enter Tryz.func86, Tryz.ntmps86
    go_wp2_with fail
    refine P.mono ?_
    clear P
    rintro e w1 ⟨rfl, hb1⟩
    have P2 := hG.out w1 hb1
    clear hb1 h0 hG
    go_wp2_with fail
    refine P2.mono ?_
    clear P2
    rintro e w2 ⟨rfl, hb2⟩
    obtain ⟨k0, k2, P3⟩ := hR.out w2 hb2
    clear hb2 hR
    go_wp2_with fail
    refine P3.mono ?_
    clear P3
    rintro e w3 ⟨F2, rfl, j2, t2⟩
    have HF : Hid ((heO a hp).J F2 S2 w3 /\ Tn F w F2 w3) := ⟨j2, t2⟩
    clear j2 t2 k0 k2
    go_wp2_with fail
    go_ret
    exact ⟨F2, rfl, HF.out.1, HF.out.2⟩
  ·rw [if_neg hk]
   have kb : (S.kx a g == 5) = false := by simpa using hk
   simp only [kb] at hG
   clear hk kb hR
   dsimp only
   go_enter Tryz.func86, Tryz.ntmps86
   go_wp2_with fail
   refine P.mono ?_
   clear P
   rintro e w1 ⟨rfl, hb1⟩
   have P2 := hG.out w1 hb1
   clear hb1 h0 hG
   go_wp2_with fail
   refine P2.mono ?_
   clear P2
   rintro e w2 ⟨rfl, hb2⟩
   have HF : Hid ((heO a hp).J F S w2 /\ Tn F w F w2) := ⟨(heO a hp).below HJ.out hb2, Tn.of hb2⟩
   clear hb2
   go_wp2_with fail
   go_ret
   exact ⟨F, rfl, HF.out.1, HF.out.2⟩
 ·rw [if_neg hc]
  have cb : (S.ex a t == 0) = false := by simpa using hc
  generalize S.ex a t = c at *
  clear hc hG hR
  dsimp only
  go_enter Tryz.func86, Tryz.ntmps86
  go_wp2_with fail
  refine P.mono ?_
  clear P
  rintro e w1 ⟨rfl, hb1⟩
  have HF : Hid ((heO a hp).J F S w1 /\ Tn F w F w1) := ⟨(heO a hp).below HJ.out hb1, Tn.of hb1⟩
  clear hb1
  go_wp2_with fail
  go_ret
  exact ⟨F, rfl, HF.out.1, HF.out.2⟩
end
end Go.Proofs.YtalgochmjddodaaGreat

namespace Go.Proofs.YtalgochmjddodaaGreat
set_option maxRecDepth 100000
set_option maxHeartbeats 4000000
open Go.RowKit W Kp Stl
section
variable {a : Wc} {hp : Nat} {F : Nat -> Prop} {S : Ww} {w : World}
theorem cutH_any (h : (heO a hp).J F S w) (hq : S.q.length + S.r.length <= 90000) :
  Calls Tryz.prog 16 #[.pointer (some ⟨a.pw, 0, none⟩)] w fun e w' => ∃ F', e = .returned (.int .i64 (S.code a)) /\ (heO a hp).J F' (S.cut a) w' /\ Tn F w F' w' := by
 obtain ⟨FW, g1, _, g3⟩ := he_ws h
 refine (cutM_any g1 hq).mono ?_
 rintro e w' ⟨F', rfl, j1, t1⟩
 obtain ⟨F2, j2, t2⟩ := g3 _ _ _ j1 t1
 exact ⟨F2, rfl, j2, t2⟩
theorem gcutH_any (h : (heO a hp).J F S w) (hq : S.q.length + S.r.length <= 90000) (hsl : S.jfull a = false -> ∃ G, SlG (S.k5 a) (S.j5 a) G /\ G 0 (S.k5 a, 0)) :
  Calls Tryz.prog 22 #[.pointer (some ⟨a.pw, 0, none⟩)] w fun e w' => ∃ F', e = .returned (.int .i64 (S.gcode a)) /\ (heO a hp).J F' (S.gcut a) w' /\ Tn F w F' w' := by
 obtain ⟨FW, g1, _, g3⟩ := he_ws h
 refine (cutJ_any g1 hq hsl).mono ?_
 rintro e w' ⟨F', rfl, j1, t1⟩
 obtain ⟨F2, j2, t2⟩ := g3 _ _ _ j1 t1
 exact ⟨F2, rfl, j2, t2⟩
theorem makeRoomH_any (h : (heO a hp).J F S w) (m : Int) (hq : S.q.length + S.r.length <= 90000) (hsl : S.jfull a = false -> ∃ G, SlG (S.k5 a) (S.j5 a) G /\ G 0 (S.k5 a, 0)) :
  Calls Tryz.prog 221 #[.pointer (some ⟨hp, 0, none⟩), .int .i64 m] w fun e w' => ∃ F', e = .returned (.int .i64 (S.room a m).1) /\ (heO a hp).J F' (S.room a m).2 w' /\ Tn F w F' w' := by
 unfold Ww.room
 by_cases hm : m <= (a.N : Int) - S.s.y
 ·rw [if_pos hm]
  refine (makeRoomH_no h m hm).mono ?_
  rintro e w' ⟨rfl, hb⟩
  exact ⟨F, rfl, (heO a hp).below h hb, Tn.of hb⟩
 rw [if_neg hm]
 obtain ⟨h0, c0, _⟩ := he_lk h
 have hA := (he_at h).1
 have n1 := hA.hN'
 have n2 := hA.hy
 have n3 := hA.hg
 have n4 := hA.hO
 have P := freeOf_any w hA
 have hU : Hid (∀ w1, Below w.heap.size w w1 -> (w1.cell? ⟨hp, 0, none⟩ = some (.pointer (some ⟨a.pw, 0, none⟩)) /\ w1.cell? ⟨a.pw, 0, none⟩ = some (.pointer (some ⟨a.p, 0, none⟩))) /\ Calls Tryz.prog 24 #[.pointer (some ⟨a.p, 0, none⟩)] w1 fun e w' => e = .returned (.tuple #[.int .i64 S.s.y, .int .i64 S.s.g]) /\ Below w.heap.size w w') := fun w1 hb1 => by
  have J1 := (heO a hp).below h hb1
  obtain ⟨h0, c0, _⟩ := he_lk J1
  refine ⟨⟨h0, c0⟩, ?_⟩
  refine (used_any w1 (he_at J1).1).mono ?_
  rintro e w' ⟨rfl, hb2⟩
  exact ⟨rfl, hb1.trans (hb2.mono hb1.size)⟩
 have hC : Hid (∀ w1, Below w.heap.size w w1 -> w1.cell? ⟨hp, 0, none⟩ = some (.pointer (some ⟨a.pw, 0, none⟩)) /\ (Calls Tryz.prog 16 #[.pointer (some ⟨a.pw, 0, none⟩)] w1 fun e w' => ∃ F', e = .returned (.int .i64 (S.code a)) /\ (heO a hp).J F' (S.cut a) w' /\ Tn F w F' w') /\ (Calls Tryz.prog 22 #[.pointer (some ⟨a.pw, 0, none⟩)] w1 fun e w' => ∃ F', e = .returned (.int .i64 (S.gcode a)) /\ (heO a hp).J F' (S.gcut a) w' /\ Tn F w F' w')) := fun w1 hb1 => by
  have J1 := (heO a hp).below h hb1
  refine ⟨(he_lk J1).h0, (cutH_any J1 hq).mono ?_, (gcutH_any J1 hq hsl).mono ?_⟩
  ·rintro e w' ⟨F', rfl, j1, t1⟩
   exact ⟨F', rfl, j1, (Tn.of hb1).trans t1⟩
  ·rintro e w' ⟨F', rfl, j1, t1⟩
   exact ⟨F', rfl, j1, (Tn.of hb1).trans t1⟩
 clear h hA hsl
 by_cases hy : (S.s.y : Int) <= (a.O : Int) - S.s.g
 ·rw [if_pos hy]
  dsimp only
  generalize S.cut a = S2 at *
  generalize S.code a = cd at *
  go_enter Tryz.func221, Tryz.ntmps221
  go_wp2_with fail
  refine P.mono ?_
  clear P
  rintro e w1 ⟨rfl, hb1⟩
  obtain ⟨⟨g0, g1⟩, P1⟩ := hU.out w1 hb1
  clear hU h0 c0 hb1
  go_wp2_with fail
  refine P1.mono ?_
  clear P1
  rintro e w2 ⟨rfl, hb2⟩
  obtain ⟨k0, P2, _⟩ := hC.out w2 hb2
  clear hC g0 g1 hb2
  go_wp2_with fail
  refine P2.mono ?_
  clear P2
  rintro e w3 ⟨F2, rfl, j2, t2⟩
  have HF : Hid ((heO a hp).J F2 S2 w3 /\ Tn F w F2 w3) := ⟨j2, t2⟩
  clear j2 t2 k0
  go_wp2_with fail
  go_ret
  exact ⟨F2, rfl, HF.out.1, HF.out.2⟩
 ·rw [if_neg hy]
  dsimp only
  generalize S.gcut a = S2 at *
  generalize S.gcode a = cd at *
  go_enter Tryz.func221, Tryz.ntmps221
  go_wp2_with fail
  refine P.mono ?_
  clear P
  rintro e w1 ⟨rfl, hb1⟩
  obtain ⟨⟨g0, g1⟩, P1⟩ := hU.out w1 hb1
  clear hU h0 c0 hb1
  go_wp2_with fail
  refine P1.mono ?_
  clear P1
  rintro e w2 ⟨rfl, hb2⟩
  obtain ⟨k0, _, P2⟩ := hC.out w2 hb2
  clear hC g0 g1 hb2
  go_wp2_with fail
  refine P2.mono ?_
  clear P2
  rintro e w3 ⟨F2, rfl, j2, t2⟩
  have HF : Hid ((heO a hp).J F2 S2 w3 /\ Tn F w F2 w3) := ⟨j2, t2⟩
  clear j2 t2 k0
  go_wp2_with fail
  go_ret
  exact ⟨F2, rfl, HF.out.1, HF.out.2⟩
theorem growH_yes (kd : Int) (rl : List Nat) (va : Option Addr) (cap : Nat) (S1 : Ww) (hl1 : rl.length <= 12) (hk : hc kd rl.length = 0) (room : S1.s.y + 1 + rl.length <= a.N)
  (hv : 0 < rl.length -> ∃ vb, va = some ⟨vb, 0, none⟩ /\ ¬ F vb /\ vb < w.heap.size /\ ∀ i, i < rl.length -> w.cell? ⟨vb, i, none⟩ = some (.int .i64 ((rl.getD i 0 : Nat) : Int))) (hr : ∀ i, i < rl.length -> rl.getD i 0 < 12)
  (h : (heO a hp).J F S w)
  (PM : Calls Tryz.prog 221 #[.pointer (some ⟨hp, 0, none⟩), .int .i64 (1 + rl.length)] w fun e w' => ∃ F', e = .returned (.int .i64 0) /\ (heO a hp).J F' S1 w' /\ Tn F w F' w') :
  Calls Tryz.prog 173 #[.pointer (some ⟨hp, 0, none⟩), .int .i64 kd, .slice va rl.length cap] w fun e w' => ∃ F', e = .returned (.tuple #[.int .i64 (ew 3 S1.s.y), .int .i64 0]) /\ (heO a hp).J F' (S1.put a kd rl) w' /\ Tn F w F' w' := by
 have hmB : mkB a.N S1.s.y kd rl.length = true := by
  unfold mkB
  rw [hk]
  simp
  omega
 have eY : mkY a.N S1.s.y kd rl.length = S1.s.y + 1 + rl.length := by unfold mkY; rw [if_pos hmB]; omega
 have eR : mkR a.N S1.s.y kd rl.length = S1.s.y := by unfold mkR; rw [if_pos hmB]
 have HV : Hid (0 < rl.length -> ∃ vb, va = some ⟨vb, 0, none⟩ /\ ¬ F vb /\ vb < w.heap.size /\ ∀ i, i < rl.length -> w.cell? ⟨vb, i, none⟩ = some (.int .i64 ((rl.getD i 0 : Nat) : Int))) := hv
 have HR : Hid (∀ i, i < rl.length -> rl.getD i 0 < 12) := hr
 have HE : Hid (mkY a.N S1.s.y kd rl.length = S1.s.y + 1 + rl.length /\ mkR a.N S1.s.y kd rl.length = S1.s.y) := ⟨eY, eR⟩
 have HP : Hid (S1.put a kd rl = ⟨{ S1.s with y := S1.s.y + 1 + rl.length, ws := putF S1.s.rs S1.s.y (mkW a.N S1.s.y kd rl.length S1.s.ws) rl rl.length }, S1.r, S1.q⟩) := rfl
 have n1 := (he_at h).1.hN'
 generalize S1.put a kd rl = SP at *
 clear hv hr hmB eY eR hk h
 go_enter Tryz.func173, Tryz.ntmps173
 go_wp2_with fail
 refine PM.mono ?_
 clear PM
 rintro e w1 ⟨F1, rfl, J1, T1⟩
 obtain ⟨h0, c0, _⟩ := he_lk J1
 obtain ⟨hA1, hA2⟩ := he_at J1
 have n2 := hA1.hy
 have n3 := hA1.hg
 have n4 := hA1.hO
 have PK := make_any kd rl.length w1 hA1
 rw [HE.out.1, HE.out.2] at PK
 have HA : Hid (∀ w' y g ws, At w' a.p a.q a.N a.O y g ws -> Sv a.p a.q w1 w' -> ∃ F', (heO a hp).J F' ⟨{ S1.s with y := y, g := g, ws := ws }, S1.r, S1.q⟩ w' /\ Tn F1 w1 F' w') := hA2
 have HB1 : Hid (Tn F w F1 w1) := T1
 clear J1 hA1 hA2 T1
 go_wp2_with fail
 refine PK.mono ?_
 clear PK
 rintro e w2 ⟨rfl, hA3, s3⟩
 obtain ⟨F2, j2, t2⟩ := HA.out _ _ _ _ hA3 s3
 have t2 := HB1.out.trans t2
 have hvk : ∀ (F' : Nat -> Prop) (w' : World), Tn F w F' w' -> ∀ i, i < rl.length -> ∃ vb, va = some ⟨vb, 0, none⟩ /\ w'.cell? ⟨vb, i, none⟩ = some (.int .i64 ((rl.getD i 0 : Nat) : Int)) := fun F' w' t i hi => by
  obtain ⟨vb, e, g1, g2, g3⟩ := HV.out (by omega)
  exact ⟨vb, e, (World.cell?_of_block (a := ⟨vb, i, none⟩) (t.fr.block vb g2 g1)).trans (g3 i hi)⟩
 have HVK : Hid (∀ (F' : Nat -> Prop) (w' : World), Tn F w F' w' -> ∀ i, i < rl.length -> ∃ vb, va = some ⟨vb, 0, none⟩ /\ w'.cell? ⟨vb, i, none⟩ = some (.int .i64 ((rl.getD i 0 : Nat) : Int))) := hvk
 have HJ2 : Hid ((heO a hp).J F2 ⟨{ S1.s with y := S1.s.y + 1 + rl.length, ws := putF S1.s.rs S1.s.y (mkW a.N S1.s.y kd rl.length S1.s.ws) rl 0 }, S1.r, S1.q⟩ w2 /\ Tn F w F2 w2) := ⟨j2, t2⟩
 clear hA3 s3 j2 t2 HA HV hvk HB1 h0 c0
 go_wp2_with fail
 go_loopw [33] (fun iv wr => ∃ (j : Nat) (F' : Nat -> Prop), j <= rl.length /\ iv = .int .i64 j /\ Hid ((heO a hp).J F' ⟨{ S1.s with y := S1.s.y + 1 + rl.length, ws := putF S1.s.rs S1.s.y (mkW a.N S1.s.y kd rl.length S1.s.ws) rl j }, S1.r, S1.q⟩ wr /\ Tn F w F' wr)) (fun iv _ => rl.length - (intOf iv).toNat)
 case atStart => exact ⟨0, F2, Nat.zero_le _, rfl, HJ2⟩
 case round =>
  clear HJ2
  obtain ⟨j, F', hj, rfl, HJ3⟩ := hrel
  by_cases hlt : j < rl.length
  ·obtain ⟨vb, rfl, tc⟩ := HVK.out F' wr HJ3.out.2 j hlt
   have hr12 := HR.out j hlt
   have HS : Hid (putF S1.s.rs S1.s.y (mkW a.N S1.s.y kd rl.length S1.s.ws) rl (j + 1) = (putF S1.s.rs S1.s.y (mkW a.N S1.s.y kd rl.length S1.s.ws) rl j).set (S1.s.y + 1 + j) (S1.s.rs.getD (rl.getD j 0) 0)) := rfl
   generalize rl.getD j 0 = r at *
   have HX : Hid (∀ (F5 : Nat -> Prop) (w5 : World), (∀ i, i < 12 -> w5.cell? ⟨a.nb, i, none⟩ = some (.int .i64 (S1.s.rs.getD i 0)) /\ w5.frozen? ⟨a.nb, i, none⟩ = false) -> w5.cell? ⟨a.nb, r, none⟩ = some (.int .i64 (S1.s.rs.getD r 0))) := fun _ _ g => (g r hr12).1
   have J4 := (heO a hp).below HJ3.out.1 (Below.refl _ wr).drew
   obtain ⟨h0, c0, c3, rt, rl2, lp, lw, ln⟩ := he_lk HJ3.out.1
   obtain ⟨r1, _⟩ := rt r hr12
   obtain ⟨hA1, hA2⟩ := he_at J4
   dsimp only at r1 hA1 hA2
   have hiB : iB a.N (S1.s.y + 1 + rl.length) S1.s.g ((S1.s.y : Int) + 1 + j) = true := iB_y (by omega) (by omega)
   have PS := store_any ((S1.s.y : Int) + 1 + j) (S1.s.rs.getD r 0) wr.drew hA1
   rw [hiB, if_pos rfl, show ((S1.s.y : Int) + 1 + j).toNat = S1.s.y + 1 + j by omega, <- HS.out] at PS
   have HA : Hid (∀ w' y g ws, At w' a.p a.q a.N a.O y g ws -> Sv a.p a.q wr.drew w' -> ∃ F5, (heO a hp).J F5 ⟨{ S1.s with y := y, g := g, ws := ws }, S1.r, S1.q⟩ w' /\ Tn F' wr.drew F5 w') := hA2
   have j0 : (0 : Int) <= (j : Int) := by omega
   have j1 : (j : Int) < (rl.length : Int) := by omega
   have q0 : (0 : Int) <= (r : Int) := by omega
   have q1 : (r : Int) < 12 := by omega
   have b6 : IntKind.i64.wrap ((S1.s.y : Int) + 1) = (S1.s.y : Int) + 1 := by rw [IntKind.wrap_i64]; omega
   have b7 : IntKind.i64.wrap ((S1.s.y : Int) + 1 + (j : Int)) = (S1.s.y : Int) + 1 + j := by rw [IntKind.wrap_i64]; omega
   have HT3 : Hid (Tn F w F' wr.drew) := HJ3.out.2.below (Below.refl _ wr).drew
   clear J4 hA1 hA2 rt hiB HS rl2 HJ3
   generalize S1.s.rs.getD r 0 = x at *
   go_wp2_with fail
   go_region_held3 (fun w' => w'.cell? ⟨hp, 0, none⟩ = some (.pointer (some ⟨a.pw, 0, none⟩)) /\ w'.cell? ⟨a.pw, 0, none⟩ = some (.pointer (some ⟨a.p, 0, none⟩)) /\ w'.cell? ⟨a.pw, 3, none⟩ = some (.slice (some ⟨a.nb, 0, none⟩) 12 12) /\ w'.cell? ⟨a.nb, r, none⟩ = some (.int .i64 x)) (go_keep)
    (first
     | (go_at_call 114; refine PS.mono ?_; clear PS; rintro e w5 ⟨rfl, hA5, s5⟩; obtain ⟨F5, j5, t5⟩ := HA.out _ _ _ _ hA5 s5; have HJ5 : Hid ((heO a hp).J F5 ⟨{ S1.s with y := S1.s.y + 1 + rl.length, ws := putF S1.s.rs S1.s.y (mkW a.N S1.s.y kd rl.length S1.s.ws) rl (j + 1) }, S1.r, S1.q⟩ w5 /\ Tn F w F5 w5) := ⟨j5, HT3.out.trans t5⟩; obtain ⟨g0, g1, g3, grt, _⟩ := he_lk j5; dsimp only at grt; have gx := HX.out F5 w5 grt; clear hA5 s5 j5 t5 grt))
   clear h0 c0 c3 r1 g0 g1 g3 gx tc b6 b7
   go_wp2_with fail
   go_roundw
   case rel => exact ⟨j + 1, F5, by omega, by go_num, HJ5⟩
   case measure => simp [intOf]; omega
  ·obtain rfl : j = rl.length := by omega
   go_wp2_with fail
   refine (ref_any (S1.s.y : Int) wr).mono ?_
   rintro e w6 ⟨rfl, hb6⟩
   have HF : Hid ((heO a hp).J F' SP w6 /\ Tn F w F' w6) := ⟨by rw [HP.out]; exact (heO a hp).below HJ3.out.1 hb6, HJ3.out.2.below hb6⟩
   clear hb6 HJ3
   go_wp2_with fail
   go_ret2
   exact ⟨F', rfl, HF.out.1, HF.out.2⟩
theorem growH_no (kd cd : Int) (n : Nat) (va : Option Addr) (cap : Nat) (S1 : Ww) (hn : n <= 12) (hc : cd ≠ 0)
  (PM : Calls Tryz.prog 221 #[.pointer (some ⟨hp, 0, none⟩), .int .i64 (1 + n)] w fun e w' => ∃ F', e = .returned (.int .i64 cd) /\ (heO a hp).J F' S1 w' /\ Tn F w F' w') :
  Calls Tryz.prog 173 #[.pointer (some ⟨hp, 0, none⟩), .int .i64 kd, .slice va n cap] w fun e w' => ∃ F', e = .returned (.tuple #[.int .i64 0, .int .i64 cd]) /\ (heO a hp).J F' S1 w' /\ Tn F w F' w' := by
 have cb : (cd == 0) = false := by simpa using hc
 clear hc
 go_enter Tryz.func173, Tryz.ntmps173
 go_wp2_with fail
 refine PM.mono ?_
 clear PM
 rintro e w1 ⟨F1, rfl, J1, T1⟩
 have HF : Hid ((heO a hp).J F1 S1 w1 /\ Tn F w F1 w1) := ⟨J1, T1⟩
 clear J1 T1
 go_wp2_with fail
 go_ret2
 exact ⟨F1, rfl, HF.out.1, HF.out.2⟩
theorem growH_all (h : (heO a hp).J F S w) (kd : Int) (rl : List Nat) (va : Option Addr) (cap : Nat) (hq : S.q.length + S.r.length <= 90000) (hsl : S.jfull a = false -> ∃ G, SlG (S.k5 a) (S.j5 a) G /\ G 0 (S.k5 a, 0)) (hk : hc kd rl.length = 0)
  (hv : 0 < rl.length -> ∃ vb, va = some ⟨vb, 0, none⟩ /\ ¬ F vb /\ vb < w.heap.size /\ ∀ i, i < rl.length -> w.cell? ⟨vb, i, none⟩ = some (.int .i64 ((rl.getD i 0 : Nat) : Int))) (hr : ∀ i, i < rl.length -> rl.getD i 0 < 12)
  (room : (S.room a (1 + rl.length)).1 = 0 -> (S.room a (1 + rl.length)).2.s.y + 1 + rl.length <= a.N) :
  Calls Tryz.prog 173 #[.pointer (some ⟨hp, 0, none⟩), .int .i64 kd, .slice va rl.length cap] w fun e w' => ∃ F', e = .returned (.tuple #[.int .i64 (S.grow a kd rl).1, .int .i64 (S.grow a kd rl).2.1]) /\ (heO a hp).J F' (S.grow a kd rl).2.2 w' /\ Tn F w F' w' := by
 have hl1 : rl.length <= 12 := by have := hc_bd kd rl.length hk; omega
 have PM := makeRoomH_any h (1 + rl.length) hq hsl
 unfold Ww.grow
 by_cases c : (S.room a (1 + rl.length)).1 = 0
 ·rw [if_pos c]
  rw [c] at PM
  exact growH_yes kd rl va cap _ hl1 hk (room c) hv hr h PM
 ·rw [if_neg c]
  exact growH_no kd _ rl.length va cap _ hl1 c PM
end
end Go.Proofs.YtalgochmjddodaaGreat

namespace Go.Proofs.YtalgochmjddodaaGreat
set_option maxRecDepth 100000
set_option maxHeartbeats 2000000
open Go.RowKit W Kp Stl
section
variable {a : Wc} {hp : Nat} {F : Nat -> Prop} {S : Ww} {w : World}
theorem rtB_nat {R : Nat} (hR : R < 12) : rtB (R : Int) = true := by unfold rtB; rw [decide_eq_true (by omega), decide_eq_true (by omega)]; rfl
theorem ck_get (R A : Nat) (hR : R < 12) (hA : A < 12) : ckC 11 R A 0 0 = 0 := by
 have e : usK 11 = 3 := rfl
 unfold ckC
 rw [e, if_neg (by decide), rtB_nat hR, rtB_nat hA, if_neg (by simp)]
 rfl
theorem ck_pair (R A B : Nat) (hR : R < 12) (hA : A < 12) (hB : B < 12) : ckC 4 R A B 0 = 0 := by
 have e : usK 4 = 7 := rfl
 unfold ckC
 rw [e, if_neg (by decide), rtB_nat hR, rtB_nat hA, rtB_nat hB, if_neg (by simp)]
 rfl
theorem rootH_get (h : (heO a hp).J F S w) (R I : Int) (A : Nat) (hA : A < 12) :
  Calls Tryz.prog 87 #[.pointer (some ⟨hp, 0, none⟩), hsV 11 R A 0 I 0] w fun e w' => e = .returned (.tuple #[.int .i64 (if fcC a.N S.s.y S.s.g S.s.ws (S.s.rs.getD A 0) I = 0 then ld a.N S.s.y S.s.g S.s.ws (aV (S.s.rs.getD A 0) + 1 + I) else 0), .int .i64 (fcC a.N S.s.y S.s.g S.s.ws (S.s.rs.getD A 0) I)]) /\ Below w.heap.size w w' := by
 have hb0 := (Below.refl w.heap.size w).alloc (Nat.le_refl _) (hsC 11 R A 0 I 0)
 have hx0 := heap_alloc_new w (.cells #[.int .i64 11, .int .i64 R, .int .i64 (A : Int), .int .i64 0, .int .i64 I, .int .i64 0] 65)
 have J0 := (heO a hp).below h hb0
 obtain ⟨h0, c0, c3, rt, _⟩ := he_lk J0
 obtain ⟨r1, _⟩ := rt A hA
 have J1 := (heO a hp).below J0 (Below.refl _ (w.alloc (hsC 11 R A 0 I 0))).drew
 have PG := get_any (S.s.rs.getD A 0) I (w.alloc (hsC 11 R A 0 I 0)).drew (he_lk J1).c0 (he_at J1).1
 obtain ⟨q0, q1, q2, q3, q4, q5⟩ := hs_cells hx0
 have HJ : Hid ((heO a hp).J F S (w.alloc (hsC 11 R A 0 I 0)).drew /\ Below w.heap.size w (w.alloc (hsC 11 R A 0 I 0)).drew /\ (w.alloc (hsC 11 R A 0 I 0)).heap[w.heap.size]? = some (hsC 11 R A 0 I 0)) := ⟨J1, hb0.trans ((Below.refl _ (w.alloc (hsC 11 R A 0 I 0))).drew.mono hb0.size), hx0⟩
 have i0 : (0 : Int) <= (A : Int) := by omega
 have i1 : (A : Int) < 12 := by omega
 have lx : w.heap.size < (w.alloc (hsC 11 R A 0 I 0)).heap.size := lt_of_some hx0
 clear h J0 J1 rt hb0 hx0
 generalize (if fcC a.N S.s.y S.s.g S.s.ws (S.s.rs.getD A 0) I = 0 then ld a.N S.s.y S.s.g S.s.ws (aV (S.s.rs.getD A 0) + 1 + I) else 0) = v at *
 generalize fcC a.N S.s.y S.s.g S.s.ws (S.s.rs.getD A 0) I = cd at *
 have HX : Hid (S.s.rs.getD A 0 = S.s.rs.getD A 0) := rfl
 go_enter Tryz.func87, Tryz.ntmps87
 go_upto_region 20 with fail
 generalize w.alloc (hsC 11 R A 0 I 0) = w0 at *
 generalize hxb : w.heap.size = xb at *
 have HR : Hid (∀ w', Below w0.drew.heap.size w0.drew w' -> (w'.cell? ⟨hp, 0, none⟩ = some (.pointer (some ⟨a.pw, 0, none⟩)) /\ w'.cell? ⟨a.pw, 3, none⟩ = some (.slice (some ⟨a.nb, 0, none⟩) 12 12) /\ w'.cell? ⟨a.nb, A, none⟩ = some (.int .i64 (S.s.rs.getD A 0))) /\ w'.cell? ⟨xb, 2, none⟩ = some (.int .i64 (A : Int)) /\ w'.cell? ⟨xb, 4, none⟩ = some (.int .i64 I)) := fun w' hb => by
  obtain ⟨g0, _, g3, grt, _⟩ := he_lk ((heO a hp).below HJ.out.1 hb)
  exact ⟨⟨g0, g3, (grt A hA).1⟩, (hb.cell (p := ⟨xb, 2, none⟩) lx).trans q2, (hb.cell (p := ⟨xb, 4, none⟩) lx).trans q4⟩
 generalize S.s.rs.getD A 0 = x at *
 go_region_held3 (fun w' => w'.cell? ⟨hp, 0, none⟩ = some (.pointer (some ⟨a.pw, 0, none⟩)) /\ w'.cell? ⟨a.pw, 3, none⟩ = some (.slice (some ⟨a.nb, 0, none⟩) 12 12) /\ w'.cell? ⟨a.nb, A, none⟩ = some (.int .i64 x) /\ w'.cell? ⟨xb, 2, none⟩ = some (.int .i64 (A : Int)) /\ w'.cell? ⟨xb, 4, none⟩ = some (.int .i64 I)) (go_keep)
  (first
   | (go_at_call 52; refine PG.mono ?_; clear PG; rintro e w2 ⟨rfl, hb2⟩; obtain ⟨⟨g0, g3, gr⟩, gx2, gx4⟩ := HR.out w2 hb2; have HB2 : Hid (Below xb w w2) := HJ.out.2.1.trans (hb2.mono (by have := HJ.out.2.1.size; omega)); clear hb2))
 go_wp2_with fail
 go_ret2
 exact ⟨rfl, by rw [hxb]; exact HB2.out⟩
theorem doH_root (h : (heO a hp).J F S w) (k : Int) (R : Nat) (A B I n : Int) (hR : R < 12) (hc : ckC k R A B n = 0) (k1 : k ≠ 9) (k2 : k ≠ 12) (k3 : k ≠ 15) (k4 : k ≠ 16) (v : Int) (S2 : Ww)
  (PR : ∀ F' w', (heO a hp).J F' S w' -> Calls Tryz.prog 87 #[.pointer (some ⟨hp, 0, none⟩), hsV k R A B I n] w' fun e w'' => ∃ F2, e = .returned (.tuple #[.int .i64 v, .int .i64 0]) /\ (heO a hp).J F2 S2 w'' /\ Tn F' w' F2 w'') :
  Calls Tryz.prog 30 #[.pointer (some ⟨hp, 0, none⟩), hsV k R A B I n] w fun e w' => ∃ F', e = .returned (.int .i64 0) /\ (heO a hp).J F' ⟨{ S2.s with rs := S2.s.rs.set R v }, S2.r, S2.q⟩ w' /\ Tn F w F' w' := by
 have hb0 := (Below.refl w.heap.size w).alloc (Nat.le_refl _) (hsC k R A B I n)
 have hx0 := heap_alloc_new w (.cells #[.int .i64 k, .int .i64 (R : Int), .int .i64 A, .int .i64 B, .int .i64 I, .int .i64 n] 65)
 have PC := checkH_any k R A B I n (w.alloc (hsC k R A B I n))
 rw [hc] at PC
 have LN : Hid (a.nb < w.heap.size) := (he_lk h).ln
 have HJ : Hid ((heO a hp).J F S (w.alloc (hsC k R A B I n)) /\ Below w.heap.size w (w.alloc (hsC k R A B I n)) /\ (w.alloc (hsC k R A B I n)).heap[w.heap.size]? = some (hsC k R A B I n) /\ ∀ b, F b -> b < w.heap.size) := ⟨(heO a hp).below h hb0, hb0, hx0, (heO a hp).lt h⟩
 have HPR : Hid (∀ F' w', (heO a hp).J F' S w' -> Calls Tryz.prog 87 #[.pointer (some ⟨hp, 0, none⟩), hsV k R A B I n] w' fun e w'' => ∃ F2, e = .returned (.tuple #[.int .i64 v, .int .i64 0]) /\ (heO a hp).J F2 S2 w'' /\ Tn F' w' F2 w'') := PR
 have k1b : (k == 9) = false := by simpa using k1
 have k2b : (k == 12) = false := by simpa using k2
 have k3b : (k == 15) = false := by simpa using k3
 have k4b : (k == 16) = false := by simpa using k4
 clear h hb0 hx0 PR hc
 go_enter Tryz.func30, Tryz.ntmps30
 go_wp2_with fail
 generalize w.alloc (hsC k R A B I n) = w0 at *
 generalize hxb : w.heap.size = xb at *
 refine PC.mono ?_
 clear PC
 rintro e w1 ⟨rfl, hb1⟩
 have HJ1 : Hid ((heO a hp).J F S w1 /\ Below xb w w1 /\ w1.heap[xb]? = some (hsC k R A B I n) /\ ∀ b, F b -> b < xb) := ⟨(heO a hp).below HJ.out.1 hb1, HJ.out.2.1.trans (hb1.mono (by have := lt_of_some HJ.out.2.2.1; omega)), (hb1.block xb (lt_of_some HJ.out.2.2.1)).trans HJ.out.2.2.1, HJ.out.2.2.2⟩
 obtain ⟨q0, q1, q2, q3, q4, q5⟩ := hs_cells HJ1.out.2.2.1
 clear HJ hb1
 go_wp2_with fail
 refine (HPR.out F w1 HJ1.out.1).mono ?_
 clear HPR
 rintro e w2 ⟨F2, rfl, J2, T2⟩
 have hx2 := (T2.fr.block xb (lt_of_some HJ1.out.2.2.1) (fun d => by have := HJ1.out.2.2.2 xb d; omega)).trans HJ1.out.2.2.1
 obtain ⟨u0, u1, _⟩ := hs_cells hx2
 obtain ⟨h0, c0, c3, rt, rl, lp, lw, ln⟩ := he_lk J2
 obtain ⟨r1, r2⟩ := rt R hR
 have i0 : (0 : Int) <= (R : Int) := by omega
 have i1 : (R : Int) < 12 := by omega
 have lx := lt_of_some hx2
 have nx : a.nb ≠ xb := by have := LN.out; omega
 obtain ⟨n1, n2⟩ := he_ne J2
 have HJ2 : Hid ((heO a hp).J F2 S2 w2.drew /\ Tn F w F2 w2.drew) := ⟨(heO a hp).below J2 (Below.refl _ w2).drew, ((Tn.of (by rw [hxb]; exact HJ1.out.2.1)).trans T2).below (Below.refl _ w2).drew⟩
 clear rt J2 T2 HJ1 q0 q1 q2 q3 q4 q5
 go_wp2_with fail
 go_region_held3 (fun w' => w'.cell? ⟨hp, 0, none⟩ = some (.pointer (some ⟨a.pw, 0, none⟩)) /\ w'.cell? ⟨a.pw, 3, none⟩ = some (.slice (some ⟨a.nb, 0, none⟩) 12 12) /\ w'.cell? ⟨xb, 1, none⟩ = some (.int .i64 (R : Int))) (go_keep) (fail)
 obtain ⟨F3, j3, t3⟩ := he_root HJ2.out.1 R v
 have HF : Hid ((heO a hp).J F3 ⟨{ S2.s with rs := S2.s.rs.set R v }, S2.r, S2.q⟩ (w2.drew.setCell ⟨a.nb, R, none⟩ (.int .i64 v)) /\ Tn F w F3 (w2.drew.setCell ⟨a.nb, R, none⟩ (.int .i64 v))) := ⟨j3, HJ2.out.2.trans t3⟩
 clear j3 t3 HJ2 h0 c0 c3 r1 r2 u0 u1
 go_wp2_with fail
 go_ret
 exact ⟨rfl, F3, HF.out.1, HF.out.2⟩
theorem doH_code (h : (heO a hp).J F S w) (k R A B I n : Int) (hc : ckC k R A B n = 0) (k1 : k ≠ 9) (k2 : k ≠ 12) (k3 : k ≠ 15) (k4 : k ≠ 16) (v cd : Int) (h0 : cd ≠ 0)
  (PR : ∀ F' w', (heO a hp).J F' S w' -> Calls Tryz.prog 87 #[.pointer (some ⟨hp, 0, none⟩), hsV k R A B I n] w' fun e w'' => e = .returned (.tuple #[.int .i64 v, .int .i64 cd]) /\ Below w'.heap.size w' w'') :
  Calls Tryz.prog 30 #[.pointer (some ⟨hp, 0, none⟩), hsV k R A B I n] w fun e w' => e = .returned (.int .i64 cd) /\ Below w.heap.size w w' := by
 have hb0 := (Below.refl w.heap.size w).alloc (Nat.le_refl _) (hsC k R A B I n)
 have hx0 := heap_alloc_new w (.cells #[.int .i64 k, .int .i64 R, .int .i64 A, .int .i64 B, .int .i64 I, .int .i64 n] 65)
 have PC := checkH_any k R A B I n (w.alloc (hsC k R A B I n))
 rw [hc] at PC
 have HJ : Hid ((heO a hp).J F S (w.alloc (hsC k R A B I n)) /\ Below w.heap.size w (w.alloc (hsC k R A B I n)) /\ (w.alloc (hsC k R A B I n)).heap[w.heap.size]? = some (hsC k R A B I n)) := ⟨(heO a hp).below h hb0, hb0, hx0⟩
 have HPR : Hid (∀ F' w', (heO a hp).J F' S w' -> Calls Tryz.prog 87 #[.pointer (some ⟨hp, 0, none⟩), hsV k R A B I n] w' fun e w'' => e = .returned (.tuple #[.int .i64 v, .int .i64 cd]) /\ Below w'.heap.size w' w'') := PR
 have k1b : (k == 9) = false := by simpa using k1
 have k2b : (k == 12) = false := by simpa using k2
 have k3b : (k == 15) = false := by simpa using k3
 have k4b : (k == 16) = false := by simpa using k4
 have h0b : (cd == 0) = false := by simpa using h0
 clear h hb0 hx0 PR hc
 go_enter Tryz.func30, Tryz.ntmps30
 go_wp2_with fail
 generalize w.alloc (hsC k R A B I n) = w0 at *
 generalize hxb : w.heap.size = xb at *
 refine PC.mono ?_
 clear PC
 rintro e w1 ⟨rfl, hb1⟩
 have HJ1 : Hid ((heO a hp).J F S w1 /\ Below xb w w1) := ⟨(heO a hp).below HJ.out.1 hb1, HJ.out.2.1.trans (hb1.mono (by have := lt_of_some HJ.out.2.2; omega))⟩
 obtain ⟨q0, q1, q2, q3, q4, q5⟩ := hs_cells ((hb1.block xb (lt_of_some HJ.out.2.2)).trans HJ.out.2.2)
 clear HJ hb1
 go_wp2_with fail
 refine (HPR.out F w1 HJ1.out.1).mono ?_
 clear HPR
 rintro e w2 ⟨rfl, hb2⟩
 have HF : Hid (Below xb w w2) := HJ1.out.2.trans (hb2.mono (by have := HJ1.out.2.size; omega))
 clear hb2 HJ1 q0 q1 q2 q3 q4 q5
 go_wp2_with fail
 go_ret
 exact ⟨rfl, by rw [hxb]; exact HF.out⟩
theorem rootH_pair (h : (heO a hp).J F S w) (R : Int) (A B : Nat) (hA : A < 12) (hB : B < 12) (room : S.s.y + 3 <= a.N) :
  Calls Tryz.prog 87 #[.pointer (some ⟨hp, 0, none⟩), hsV 4 R A B 0 0] w fun e w' => ∃ F', e = .returned (.tuple #[.int .i64 (ew 3 S.s.y), .int .i64 0]) /\ (heO a hp).J F' ⟨{ S.s with y := S.s.y + 3, ws := putF S.s.rs S.s.y (mkW a.N S.s.y 1 2 S.s.ws) [A, B] 2 }, S.r, S.q⟩ w' /\ Tn F w F' w' := by
 have hb0 := (Below.refl w.heap.size w).alloc (Nat.le_refl _) (hsC 4 R A B 0 0)
 have hb1 := hb0.alloc (by simp) (.cells #[.int .i64 (A : Int), .int .i64 (B : Int)] 3)
 have hx1 := heap_alloc_new (w.alloc (hsC 4 R A B 0 0)) (.cells #[.int .i64 (A : Int), .int .i64 (B : Int)] 3)
 have evb : (w.alloc (hsC 4 R A B 0 0)).heap.size = w.heap.size + 1 := by simp
 rw [evb] at hx1
 have J1 := (heO a hp).below h hb1
 have hlF := (heO a hp).lt h
 have P : Calls Tryz.prog 173 #[.pointer (some ⟨hp, 0, none⟩), .int .i64 1, .slice (some ⟨w.heap.size + 1, 0, none⟩) 2 2] ((w.alloc (hsC 4 R A B 0 0)).alloc (.cells #[.int .i64 (A : Int), .int .i64 (B : Int)] 3)) fun e w' => ∃ F', e = .returned (.tuple #[.int .i64 (ew 3 S.s.y), .int .i64 0]) /\ (heO a hp).J F' ⟨{ S.s with y := S.s.y + 3, ws := putF S.s.rs S.s.y (mkW a.N S.s.y 1 2 S.s.ws) [A, B] 2 }, S.r, S.q⟩ w' /\ Tn F ((w.alloc (hsC 4 R A B 0 0)).alloc (.cells #[.int .i64 (A : Int), .int .i64 (B : Int)] 3)) F' w' := by
  refine growH_any J1 1 [A, B] (w.heap.size + 1) 2 (by simp) (by simp) (fun i hi => ?_) (fun d => by have := hlF _ d; omega) (lt_of_some hx1) (fun i hi => ?_) rfl room
  ·have hi : i < 2 := hi
   rcases (show i = 0 \/ i = 1 by omega) with rfl | rfl <;> simp only [World.cell?, hx1] <;> rfl
  ·have hi : i < 2 := hi
   rcases (show i = 0 \/ i = 1 by omega) with rfl | rfl
   ·exact hA
   ·exact hB
 have HB : Hid (Below w.heap.size w ((w.alloc (hsC 4 R A B 0 0)).alloc (.cells #[.int .i64 (A : Int), .int .i64 (B : Int)] 3))) := hb1
 clear h hb0 hb1 hx1 evb J1 hlF
 go_enter Tryz.func87, Tryz.ntmps87
 go_wp2_with fail
 refine P.mono ?_
 clear P
 rintro e w2 ⟨F2, rfl, J2, T2⟩
 have HF : Hid ((heO a hp).J F2 ⟨{ S.s with y := S.s.y + 3, ws := putF S.s.rs S.s.y (mkW a.N S.s.y 1 2 S.s.ws) [A, B] 2 }, S.r, S.q⟩ w2 /\ Tn F w F2 w2) := ⟨J2, (Tn.of HB.out).trans T2⟩
 clear J2 T2
 go_wp2_with fail
 go_ret2
 exact ⟨F2, rfl, HF.out.1, HF.out.2⟩
end
end Go.Proofs.YtalgochmjddodaaGreat
