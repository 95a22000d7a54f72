/- Joined: Mn17, Wr1. -/
import Derived.Test.YtakofbkmhmcnfabGreatJ16
import Derived.Test.YtakofbkmhmcnfabGreatJ11
/- A small cut: a contract. -/
namespace Go.Proofs.YtakofbkmhmcnfabGreat
open Go.RowKit W Kp Stl

section
variable {a : Wc} {F : Nat → Prop} {S : Ww} {w : World}

set_option maxRecDepth 100000 in
set_option maxHeartbeats 2000000 in
theorem cutM_no (h : (wsO a).J F S w) (hf : S.full a = true) :
    Calls Tryz.prog 16 #[.pointer (some ⟨a.pw, 0, none⟩)] w fun e w' => e = .returned (.int .i64 3) ∧ Below w.heap.size w w' := by
  obtain ⟨F0, ar, cr, h1, _⟩ := h
  obtain ⟨Fw, hw, _⟩ := mkSd_to h1
  obtain ⟨hA, _⟩ := wod_arena hw
  have hA : At w a.p a.q a.N a.O S.s.y S.s.g S.s.ws := hA
  obtain ⟨c0, _, _, _, lpw, _⟩ := wod_cells hw
  have n1 := hA.hg
  have n2 : a.O - S.s.g < S.s.y := by simpa [Ww.full] using hf
  have n3 : (a.O : Int) - S.s.g < S.s.y := by omega
  have n4 := hA.hO
  have n5 := hA.hy
  have n6 := hA.hN'
  have P1 := used_any w hA
  clear h1 hw
  go_enter Tryz.func16, Tryz.ntmps16
  go_wp2_with fail
  refine P1.mono ?_
  clear P1
  rintro e w1 ⟨rfl, hb1⟩
  have c1 := (hb1.cell (p := ⟨a.pw, 0, none⟩) lpw).trans c0
  have P2 := freeOf_any w1 (hA.below hb1 (Nat.le_refl _))
  go_wp2_with fail
  refine P2.mono ?_
  clear P2
  rintro e w2 ⟨rfl, hb2⟩
  have hb := hb1.trans (hb2.mono hb1.size)
  clear hb1 hb2 c0 c1
  go_wp2_with fail
  go_ret
  exact ⟨rfl, hb⟩

set_option maxRecDepth 100000 in
set_option maxHeartbeats 4000000 in
theorem cutM_yes (h : (wsO a).J F S w) (hf : S.full a = false) (hq : S.q.length + S.r.length ≤ 90000) :
    Calls Tryz.prog 16 #[.pointer (some ⟨a.pw, 0, none⟩)] w fun e w' => ∃ F', e = .returned (.int .i64 0) ∧ (wsO a).J F' (S.cut a) w' ∧ Tn F w F' w' := by
  have hmf : ∀ (fn : Fn) (first cap : Array Value) (w : World), (Instr.makeFunc fn first cap).run Tryz.prog w = .ok (.func fn first cap) w := fun _ _ _ _ => rfl
  obtain ⟨F0, ar, cr, h1, hR, hRn, hF⟩ := h
  obtain ⟨Fw, hw, hto⟩ := mkSd_to h1
  obtain ⟨hA, _⟩ := wod_arena hw
  have hA : At w a.p a.q a.N a.O S.s.y S.s.g S.s.ws := hA
  obtain ⟨c0, _, _, _, lpw, _⟩ := wod_cells hw
  have n1 := hA.hg
  have n2 : S.s.y ≤ a.O - S.s.g := by
    unfold Ww.full at hf
    have := of_decide_eq_false hf
    omega
  have n3 : ¬ (a.O : Int) - S.s.g < S.s.y := by omega
  have n4 := hA.hO
  have n5 := hA.hy
  have n6 := hA.hN'
  have HI0 : Hid (CI (S.s.k0 a) (S.s.s0 a)) := CI.start hA.hN hA.hN' hA.hO hA.hy hA.hg hA.hl n2
  have P1 := used_any w hA
  have HW : Hid ((wodO a).J Fw S.s w ∧ At w a.p a.q a.N a.O S.s.y S.s.g S.s.ws) := ⟨hw, hA⟩
  have HTo : Hid (∀ {τ' : Type} (o' : Ob τ') F1 t1 w', o'.J F1 t1 w' → Tn Fw w F1 w' → ∃ F', (mkSd o' a.sd (.slice ar S.r.length cr)).J F' (t1, S.q) w' ∧ Tn F0 w F' w') := hto
  have HR : Hid (w.ownsRow 0 95 2 (.slice ar S.r.length cr) S.r.length (ev S.r) ∧ (∀ b, some b = (Value.slice ar S.r.length cr).ownBlock → ¬ F0 b) ∧ ∀ b, F b ↔ (F0 b ∨ some b = (Value.slice ar S.r.length cr).ownBlock)) := ⟨hR, hRn, hF⟩
  clear h1 hw hA hto hR hRn hF hf
  go_enter Tryz.func16, Tryz.ntmps16
  go_wp2_with fail
  refine P1.mono ?_
  clear P1
  rintro e w1 ⟨rfl, hb1⟩
  have c1 := (hb1.cell (p := ⟨a.pw, 0, none⟩) lpw).trans c0
  have P2 := freeOf_any w1 (HW.out.2.below hb1 (Nat.le_refl _))
  go_wp2_with fail
  refine P2.mono ?_
  clear P2
  rintro e w2 ⟨rfl, hb2⟩
  have hb := hb1.trans (hb2.mono hb1.size)
  have P3 := newCut_any ((wodO a).below HW.out.1 hb)
  have HB : Hid (Below w.heap.size w w2) := hb
  clear hb1 hb2 c0 c1 hb
  go_wp2_with fail
  refine P3.mono ?_
  clear P3
  rintro e w3 ⟨pk, mq, pq, F3, rfl, hJ3, hT3⟩
  have hT3 := (Tn.of (F := Fw) HB.out).trans hT3
  obtain ⟨c, hc⟩ : ∃ c : Cc, c = ⟨pk, mq, a.pw, a.p, a.q, a.pc, pq, a.sd, a.nb, nC a.O, S.s.M⟩ := ⟨_, rfl⟩
  have epk : pk = c.pk := by rw [hc]
  have HC : Hid (c = ⟨pk, mq, a.pw, a.p, a.q, a.pc, pq, a.sd, a.nb, nC a.O, S.s.M⟩ ∧ a.sd = c.sd ∧ c.c = nC a.O ∧ c.M = S.s.M ∧ a.pw = c.pw) := ⟨hc, by rw [hc], by rw [hc], by rw [hc], by rw [hc]⟩
  rw [← hc] at hJ3
  clear hc
  subst epk
  have hJ3 : (cutO c (S.s.k0 a)).J F3 (S.s.s0 a) w3 := hJ3
  have P4 := keepRoots_any hJ3 HI0.out
  clear hJ3
  go_wp2_with fail
  refine P4.mono ?_
  clear P4
  rintro e w4 ⟨rfl, hJ4, hT4⟩
  have hJ4 : (cutO c (S.s.k0 a)).J F3 (S.s.s1 a) w4 := hJ4
  obtain ⟨k1, k2, k3, k4, k5, k6⟩ := HI0.out.kr 12
  have P5 := marked_any hJ4 (s := S.s.s1 a) k1 k3 k4
  have HT4 : Hid (Tn Fw w F3 w4) := hT3.trans hT4
  clear hJ4 hT4 hT3 k1 k2 k3 k4 k5 k6
  go_wp2_with fail
  refine P5.mono ?_
  clear P5
  rintro e w5 ⟨F5, rfl, hJ5, hT5, i5, b5, nx5⟩
  rw [HC.out.2.2.1, HC.out.2.2.2.1] at hJ5 i5 b5
  have hJ5 : (cutO c (S.s.k0 a)).J F5 (S.s.s2 a) w5 := hJ5
  have i5 : CI (S.s.k0 a) (S.s.s2 a) := i5
  have b5 : CB (S.s.k0 a) (S.s.s2 a) := b5
  obtain ⟨F6, hM6, hT6⟩ := HTo.out (cutI c (S.s.k0 a)) F5 (S.s.s2 a) w5 ⟨hJ5, i5, b5⟩ (HT4.out.trans hT5)
  rw [HC.out.2.1] at hM6
  have P6 := spread_any (c := c) rfl hM6 (by show S.q.length ≤ 90000; omega)
  have HT6 : Hid (Tn F0 w F6 w5) := hT6
  clear hJ5 hT5 i5 b5 nx5 hM6 hT6
  go_wp2_with fail
  refine P6.mono ?_
  clear P6
  rintro e w7 ⟨F7, rfl, hM7, hT7⟩
  have hM7 : (mkSd (cutI c (S.s.k0 a)) c.sd (.slice ar S.r.length cr)).J F7 (S.t3 a) w7 := hM7
  have hT7 : Tn F0 w F7 w7 := HT6.out.trans hT7
  obtain ⟨Fi, ⟨⟨vw7, ve7, hJ7⟩, _⟩, _⟩ := mkSd_to hM7
  obtain ⟨d0, _, _, _, _, _, _, d7, _⟩ := cut_cells hJ7
  have l0 := World.block_lt_of_cell? w7 _ d0
  have l7 := World.block_lt_of_cell? w7 _ d7
  have HM7 : Hid ((mkSd (cutI c (S.s.k0 a)) c.sd (.slice ar S.r.length cr)).J F7 (S.t3 a) w7.drew ∧ Tn F0 w F7 w7.drew) := ⟨(mkSd (cutI c (S.s.k0 a)) c.sd (.slice ar S.r.length cr)).below hM7 (Below.refl _ w7).drew, hT7.below (Below.refl _ w7).drew⟩
  have hlq : (S.t3 a).2.length + S.r.length ≤ 90000 := by
    have : (S.t3 a).2.length = S.q.length := spr_len _ _ _
    omega
  clear hM7 hT7 hJ7
  go_wp2_with fail
  go_region_held3 (fun w' => w'.cell? ⟨c.pk, 0, none⟩ = some (.pointer (some ⟨c.pw, 0, none⟩)) ∧ w'.cell? ⟨c.pw, 2, none⟩ = some (.pointer (some ⟨c.sd, 0, none⟩))) (go_keep)
    (first
      | (go_at_call 64; refine (looksM_any (fkM c) w7.drew c.pk).mono ?_; rintro e w8 ⟨rfl, hx8, hb8⟩; have y0 := (hb8.cell (p := ⟨c.pk, 0, none⟩) l0).trans d0; have y7 := (hb8.cell (p := ⟨c.pw, 2, none⟩) l7).trans d7; have HX : Hid (w8.heap[w7.heap.size]? = some (boxC c) ∧ Below w7.drew.heap.size w7.drew w8) := ⟨hx8, hb8⟩; clear hx8 hb8)
      | (go_at_call 63; refine (settleM_any (t := S.t3 a) (r := S.r) rfl ((mkSd (cutI c (S.s.k0 a)) c.sd (.slice ar S.r.length cr)).below HM7.out.1 HX.out.2) (by
            have hf := ((Fr.of (X := F0) HX.out.2))
            exact row_keep HR.out.1 (fun b e => (HX.out.2.block b (Nat.lt_of_lt_of_le (row_lt HR.out.1 b e).2 HM7.out.2.fr.size)).trans (HM7.out.2.fr.block b (row_lt HR.out.1 b e).2 (HR.out.2.1 b e)))) hlq w7.heap.size HX.out.1 (fun d => by have := (mkSd (cutI c (S.s.k0 a)) c.sd (.slice ar S.r.length cr)).lt HM7.out.1 _ d; have e8 : w7.drew.heap.size = w7.heap.size := rfl; omega)).mono ?_; rintro e w9 ⟨a1, c1, F9, rfl, hM9, hR9, hn9, hf9, hs9⟩; obtain ⟨Fj, ⟨⟨vw9, ve9, hJ9⟩, _⟩, _⟩ := mkSd_to hM9; obtain ⟨r0, _, _, _, _, _, _, r7, _⟩ := cut_cells hJ9; have HM9 : Hid ((mkSd (cutI c (S.s.k0 a)) c.sd (.slice a1 ((S.s.k0 a).sR (S.t3 a) S.r).length c1)).J F9 (S.s4 a, (S.s.k0 a).sQ (S.t3 a) S.r) w9 ∧ w9.ownsRow 0 95 2 (.slice a1 ((S.s.k0 a).sR (S.t3 a) S.r).length c1) ((S.s.k0 a).sR (S.t3 a) S.r).length (ev ((S.s.k0 a).sR (S.t3 a) S.r)) ∧ (∀ b, some b = (Value.slice a1 ((S.s.k0 a).sR (S.t3 a) S.r).length c1).ownBlock → ¬ F9 b ∧ w8.heap.size ≤ b) ∧ w.heap.size ≤ w8.heap.size ∧ Tn F0 w F9 w9) := ⟨hM9, hR9, hn9, Nat.le_trans HM7.out.2.fr.size HX.out.2.size, ⟨(HM7.out.2.below HX.out.2).fr.trans hf9 (fun b d => d.elim (HM7.out.2.sub b) (fun d => Or.inr (by have := HM7.out.2.fr.size; have e8 : w7.drew.heap.size = w7.heap.size := rfl; omega))), fun b d => (hs9 b d).elim (HM7.out.2.sub b) (fun d => Or.inr (by have h1 := HM7.out.2.fr.size; have h2 := HX.out.2.size; omega))⟩⟩; clear hM9 hR9 hn9 hf9 hs9 hJ9))
  clear d0 d7 y0 y7 r0 r7 HM7 HX hlq
  obtain ⟨Fj, ⟨hJ9, i9, b9⟩, hto9⟩ := mkSd_to HM9.out.1
  have hJ9 : (cutO c (S.s.k0 a)).J Fj (S.s4 a) w9 := hJ9
  have i9 : CI (S.s.k0 a) (S.s4 a) := i9
  have b9 : CB (S.s.k0 a) (S.s4 a) := b9
  obtain ⟨i10, q10⟩ := i9.mw (l := (S.s4 a).wk) (fun x hx => (i9.wk0 x hx).1)
  have i10 : CI (S.s.k0 a) (S.s5 a) := i10
  have P7 := mendW_any hJ9 i9 (by have := b9.wk; omega)
  have HI10 : Hid (CI (S.s.k0 a) (S.s5 a) ∧ (S.s5 a).ep.length ≤ 10000) := ⟨i10, by have h1 : (S.s5 a).ep = (S.s4 a).ep := q10.ep; rw [h1]; have := b9.ep; omega⟩
  have HTo9 : Hid (∀ {τ' : Type} (o' : Ob τ') F1 t1 w', o'.J F1 t1 w' → Tn Fj w9 F1 w' → ∃ F', (mkSd o' c.sd (.slice a1 ((S.s.k0 a).sR (S.t3 a) S.r).length c1)).J F' (t1, (S.s.k0 a).sQ (S.t3 a) S.r) w' ∧ Tn F9 w9 F' w') := hto9
  clear hJ9 i9 b9 i10 q10 hto9
  go_wp2_with fail
  refine P7.mono ?_
  clear P7
  rintro e w10 ⟨rfl, hJ10, hT10⟩
  have hJ10 : (cutO c (S.s.k0 a)).J Fj (S.s5 a) w10 := hJ10
  have P8 := breakE_any hJ10 HI10.out.1 HI10.out.2
  clear hJ10
  go_wp2_with fail
  refine P8.mono ?_
  clear P8
  rintro e w11 ⟨rfl, hJ11, hT11⟩
  have hJ11 : (cutO c (S.s.k0 a)).J Fj (S.s6 a) w11 := hJ11
  obtain ⟨vw, ve, hV11⟩ := hJ11
  obtain ⟨d0, _, _, _, _, d5, _⟩ := cut_cells hV11
  have hJ11 : (cutO c (S.s.k0 a)).J Fj (S.s6 a) w11 := ⟨vw, ve, hV11⟩
  rw [HC.out.1] at hJ11
  obtain ⟨Fw2, hw11, hsub, hnpk⟩ := cut_wood (pk := c.pk) (a := a) hJ11
  obtain ⟨hA11, hup⟩ := wod_arena hw11
  have hT11 : Tn Fj w9 Fw2 w11 := ⟨(hT10.trans hT11).fr, fun b hb => Or.inl (hsub b hb)⟩
  have P9 := clear_any w11 hA11
  have HU : Hid (Tn Fj w9 Fw2 w11 ∧ ¬ Fw2 c.pk ∧ ∀ w', At w' a.p a.q a.N a.O 0 (S.s6 a).g (S.s6 a).ws → Sv a.p a.q w11 w' → (wodO a).J Fw2 ⟨0, (S.s6 a).g, (S.s6 a).ws, S.s.M, (S.s6 a).rs⟩ w' ∧ Tn Fw2 w11 Fw2 w') := ⟨hT11, hnpk, fun w' h1 h2 => hup w' _ _ _ h1 h2⟩
  have lpk := World.block_lt_of_cell? w11 _ d0
  have epw : c.pw = a.pw := HC.out.2.2.2.2.symm
  have ep : c.p = a.p := by rw [HC.out.1]
  rw [epw] at d0 d5
  rw [ep] at d5
  clear hJ11 hV11 hw11 hA11 hup hsub hnpk hT11 hT10 epw ep
  go_wp2_with fail
  refine P9.mono ?_
  clear P9
  rintro e w12 ⟨rfl, hA12, hs12⟩
  obtain ⟨hw12, hT12⟩ := HU.out.2.2 w12 hA12 hs12
  obtain ⟨pq2, hcd, hcu⟩ := wod_cards hw12
  obtain ⟨_, f1, _⟩ := wod_cells hw12
  have f0 : w12.cell? ⟨c.pk, 0, none⟩ = some (.pointer (some ⟨a.pw, 0, none⟩)) := (World.cell?_of_block (a := ⟨c.pk, 0, none⟩) (hT12.fr.block c.pk lpk HU.out.2.1)).trans d0
  have P10 := clearC_any w12 hcd.hp
  have HU2 : Hid (Tn Fj w9 Fw2 w12 ∧ ∀ w', Cd w' a.pc w12.heap.size a.N (nC a.O) [] → Sv a.pc pq2 w12 w' → ∃ F', (wodO a).J F' ⟨0, (S.s6 a).g, (S.s6 a).ws, [], (S.s6 a).rs⟩ w' ∧ Tn Fw2 w12 F' w') := ⟨HU.out.1.trans hT12, fun w' h1 h2 => hcu w' _ _ h1 h2 (Or.inr (Nat.le_refl _))⟩
  clear hA12 hs12 hw12 hT12 hcd hcu d0 d5
  go_wp2_with fail
  refine P10.mono ?_
  clear P10
  rintro e w13 ⟨rfl, hcd13, hs13⟩
  have HF : Hid (∃ F', (wsO a).J F' (S.cut a) w13 ∧ Tn F w F' w13) := by
    obtain ⟨F13, hw13, hT13⟩ := HU2.out.2 w13 hcd13 ⟨hs13.os, hs13.tape, hs13.output, hs13.size, fun b hb h1 _ => hs13.block b hb h1 h1⟩
    obtain ⟨F14, hM14, hT14⟩ := HTo9.out (wodO a) F13 _ w13 hw13 (HU2.out.1.trans hT13)
    obtain ⟨_, hR9, hn9, h89, hT9⟩ := HM9.out
    have eS : S.cut a = ⟨⟨0, (S.s6 a).g, (S.s6 a).ws, [], (S.s6 a).rs⟩, (S.s.k0 a).sR (S.t3 a) S.r, (S.s.k0 a).sQ (S.t3 a) S.r⟩ := by
      unfold Ww.cut
      rw [if_neg]
      unfold Ww.full
      simp
      omega
    rw [eS]
    rw [← HC.out.2.1] at hM14
    have hT0 := hT9.trans hT14
    refine ⟨fun b => F14 b ∨ some b = (Value.slice a1 ((S.s.k0 a).sR (S.t3 a) S.r).length c1).ownBlock, ⟨F14, a1, c1, hM14, row_fr hR9 hT14.fr (fun b e => (hn9 b e).1), fun b e d => (hT14.sub b d).elim (hn9 b e).1 (fun d => by have := (row_lt hR9 b e).2; omega), fun b => Iff.rfl⟩, ⟨hT0.fr.mono (fun b d => (HR.out.2.2 b).2 (Or.inl d)), fun b d => ?_⟩⟩
    rcases d with d | d
    · exact (hT0.sub b d).imp (fun d => (HR.out.2.2 b).2 (Or.inl d)) id
    · exact Or.inr (Nat.le_trans h89 (hn9 b d).2)
  clear hcd13 hs13 HU2 HTo9 HM9 f0 f1
  go_wp2_with fail
  go_ret
  obtain ⟨F', j1, j2⟩ := HF.out
  exact ⟨F', rfl, j1, j2⟩

theorem cutM_any (h : (wsO a).J F S w) (hq : S.q.length + S.r.length ≤ 90000) :
    Calls Tryz.prog 16 #[.pointer (some ⟨a.pw, 0, none⟩)] w fun e w' => ∃ F', e = .returned (.int .i64 (S.code a)) ∧ (wsO a).J F' (S.cut a) w' ∧ Tn F w F' w' := by
  cases hf : S.full a
  · have e1 : S.code a = 0 := by unfold Ww.code; rw [hf]; rfl
    rw [e1]
    exact cutM_yes h hf hq
  · have e1 : S.code a = 3 := by unfold Ww.code; rw [if_pos hf]
    have e2 : S.cut a = S := by unfold Ww.cut; rw [if_pos hf]
    rw [e1, e2]
    refine (cutM_no h hf).mono ?_
    rintro e w' ⟨rfl, hb⟩
    exact ⟨F, rfl, (wsO a).below h hb, Tn.of hb⟩
end

end Go.Proofs.YtakofbkmhmcnfabGreat

/- The document's world in memory, by labels. -/
namespace Go.Proofs.YtakofbkmhmcnfabGreat
open Go.RowKit W Kp Stl

/-- A thing of it: its kind, its values, is it old, is it dead. -/
abbrev Tw1 := Int × List (Int × Int) × Bool × Bool
/-- .. in memory: where its values lie, for how many there is room. -/
abbrev Tnd := Tw1 × Option Addr × Nat
/-- The cells of things. -/
def tv (m : List Tnd) : List Value := m.flatMap fun x => [.int .i64 x.1.1, .slice x.2.1 x.1.2.1.length x.2.2, .bool x.1.2.2.1, .bool x.1.2.2.2]
theorem tv_append (a b : List Tnd) : tv (a ++ b) = tv a ++ tv b := by simp [tv]
theorem tv_length : ∀ l : List Tnd, (tv l).length = l.length * 4
  | [] => rfl
  | e :: r => by
    have := tv_length r
    simp [tv] at this ⊢
    omega
theorem tv_get : ∀ (l : List Tnd) (i : Nat) (x : Tnd), l[i]? = some x → (tv l)[i * 4]? = some (.int .i64 x.1.1) ∧ (tv l)[i * 4 + 1]? = some (.slice x.2.1 x.1.2.1.length x.2.2) ∧ (tv l)[i * 4 + 2]? = some (.bool x.1.2.2.1) ∧ (tv l)[i * 4 + 3]? = some (.bool x.1.2.2.2)
  | [], i, x, h => by simp at h
  | e :: r, 0, x, h => by
    simp at h
    subst h
    simp [tv]
  | e :: r, i + 1, x, h => by
    have h2 := tv_get r i x (by simpa using h)
    have e1 : (tv (e :: r)) = .int .i64 e.1.1 :: .slice e.2.1 e.1.2.1.length e.2.2 :: .bool e.1.2.2.1 :: .bool e.1.2.2.2 :: tv r := by simp [tv]
    rw [e1, show (i + 1) * 4 = i * 4 + 1 + 1 + 1 + 1 by omega]
    simpa using h2
theorem tv_set : ∀ (l : List Tnd) (i : Nat) (x : Tnd) (ad : Option Addr) (c : Nat) (vs : List (Int × Int)), l[i]? = some x → tv (l.set i ((x.1.1, vs, x.1.2.2), ad, c)) = (tv l).set (i * 4 + 1) (.slice ad vs.length c)
  | [], _, _, _, _, _, _ => rfl
  | e :: l, 0, x, ad, c, vs, h => by
    simp at h
    subst h
    simp [tv]
  | e :: l, i + 1, x, ad, c, vs, h => by
    have ih := tv_set l i x ad c vs (by simpa using h)
    have e1 : (tv (e :: l)) = .int .i64 e.1.1 :: .slice e.2.1 e.1.2.1.length e.2.2 :: .bool e.1.2.2.1 :: .bool e.1.2.2.2 :: tv l := by simp [tv]
    have e2 : (tv (e :: l.set i ((x.1.1, vs, x.1.2.2), ad, c))) = .int .i64 e.1.1 :: .slice e.2.1 e.1.2.1.length e.2.2 :: .bool e.1.2.2.1 :: .bool e.1.2.2.2 :: tv (l.set i ((x.1.1, vs, x.1.2.2), ad, c)) := by simp [tv]
    rw [List.set_cons_succ, e2, e1, ih, show (i + 1) * 4 + 1 = i * 4 + 1 + 1 + 1 + 1 + 1 by omega]
    simp

/-- A world: things, roots, what is registered, what waits. -/
structure Wrs where
  T : List Tw1
  rs : List (Int × Int)
  rg : List En
  wt : List En

/-- A world in memory: 1 world, 2 things, 3 their values, 4 roots, 5 what is registered, 6 what waits. -/
structure Mr (rp rb : Nat) (most grow : Int) (own : Nat → Nat) (s : Wrs) (m : List Tnd) (vT v2 v3 : Value) (w : World) : Prop where
  blk : w.heap[rp]? = some (.cells #[vT, .slice (some ⟨rb, 0, none⟩) 12 12, v2, v3, .int .i64 most, .int .i64 grow] 110 (0, 0))
  b1 : own rp = 1
  row : w.ownsRow 0 116 4 vT m.length (tv m)
  ro : ∀ b, some b = vT.ownBlock → own b = 2
  nd : m.map (fun x => x.1) = s.T
  fl : ∀ x ∈ m, Lp w x.2.1 x.1.2.1 ∧ (0 < x.1.2.1.length → ∃ b o, x.2.1 = some ⟨b, o, none⟩ ∧ own b = 3)
  rt : w.heap[rb]? = some (.cells (ev s.rs).toArray 91 (0, 0))
  rl : s.rs.length = 12
  r1 : own rb = 4
  g2 : w.ownsRow 0 114 2 v2 s.rg.length (ev s.rg)
  g2o : ∀ b, some b = v2.ownBlock → own b = 5
  g3 : w.ownsRow 0 114 2 v3 s.wt.length (ev s.wt)
  g3o : ∀ b, some b = v3.ownBlock → own b = 6
  lt : ∀ b, own b ≠ 0 → b < w.heap.size

section
variable {rp rb : Nat} {most grow : Int} {own : Nat → Nat} {s : Wrs} {m : List Tnd} {vT v2 v3 : Value} {w w' : World}

theorem Lp.at {ad : Option Addr} {l : List (Int × Int)} (h : Lp w ad l) (hs : w.heap.size ≤ w'.heap.size) (hk : ∀ b o, 0 < l.length → ad = some ⟨b, o, none⟩ → w'.heap[b]? = w.heap[b]?) : Lp w' ad l :=
  h.keep hs (fun hp a e => by
    obtain ⟨b, o, e', hb, _⟩ := h hp
    rw [e] at e'
    cases e'
    exact hk _ _ hp e)
/-- Blocks stay but those of labels of L, which are given anew. -/
theorem Mr.but (h : Mr rp rb most grow own s m vT v2 v3 w) (hs : w.heap.size ≤ w'.heap.size) (hk : ∀ b, b < w.heap.size → own b ≠ 0 → w'.heap[b]? = w.heap[b]?) : Mr rp rb most grow own s m vT v2 v3 w' :=
  { blk := (hk _ (lt_of_some h.blk) (by rw [h.b1]; decide)).trans h.blk, b1 := h.b1
    row := row_keep h.row (fun b e => hk b (row_lt h.row b e).2 (by rw [h.ro b e]; decide)), ro := h.ro, nd := h.nd
    fl := fun x hx => ⟨(h.fl x hx).1.at hs (fun b o hp e => by
      obtain ⟨b', o', e', ho⟩ := (h.fl x hx).2 hp
      rw [e] at e'
      cases e'
      exact hk _ (h.lt _ (by rw [ho]; decide)) (by rw [ho]; decide)), (h.fl x hx).2⟩
    rt := (hk _ (lt_of_some h.rt) (by rw [h.r1]; decide)).trans h.rt, rl := h.rl, r1 := h.r1
    g2 := row_keep h.g2 (fun b e => hk b (row_lt h.g2 b e).2 (by rw [h.g2o b e]; decide)), g2o := h.g2o
    g3 := row_keep h.g3 (fun b e => hk b (row_lt h.g3 b e).2 (by rw [h.g3o b e]; decide)), g3o := h.g3o
    lt := fun b hb => Nat.lt_of_lt_of_le (h.lt b hb) hs }
end

def wrO (rp rb : Nat) (most grow : Int) : Ob Wrs where
  J F s w := ∃ own m vT v2 v3, Mr rp rb most grow own s m vT v2 v3 w ∧ ∀ b, F b ↔ own b ≠ 0
  lt := by
    rintro F s w ⟨own, m, vT, v2, v3, h, hF⟩ b hb
    exact h.lt b ((hF b).1 hb)
  keep := by
    rintro F s w w' ⟨own, m, vT, v2, v3, h, hF⟩ hs hk
    exact ⟨own, m, vT, v2, v3, h.but hs (fun b _ hb => hk b ((hF b).2 hb)), hF⟩

section
variable {rp rb : Nat} {most grow : Int} {F : Nat → Prop} {s : Wrs} {w w' : World}

theorem ev_root : ∀ (l : List (Int × Int)) (i : Nat) (x : Int × Int), ev (l.set i x) = ((ev l).set (i * 2) (.int .i64 x.1)).set (i * 2 + 1) (.int .i64 x.2)
  | [], _, _ => rfl
  | e :: l, 0, x => by simp [ev]
  | e :: l, i + 1, x => by
    have ih := ev_root l i x
    have e1 : ev (e :: l) = .int .i64 e.1 :: .int .i64 e.2 :: ev l := by simp [ev]
    have e2 : ev ((e :: l).set (i + 1) x) = .int .i64 e.1 :: .int .i64 e.2 :: ev (l.set i x) := by simp [ev]
    rw [e1, e2, ih, show (i + 1) * 2 = i * 2 + 1 + 1 by omega]
    simp
/-- Its cells. -/
theorem wr_cells (h : (wrO rp rb most grow).J F s w) : w.cell? ⟨rp, 1, none⟩ = some (.slice (some ⟨rb, 0, none⟩) 12 12) ∧ w.cell? ⟨rp, 4, none⟩ = some (.int .i64 most) ∧ w.cell? ⟨rp, 5, none⟩ = some (.int .i64 grow) ∧ rp < w.heap.size ∧ rb < w.heap.size ∧ (∀ o, w.frozen? ⟨rp, o, none⟩ = false) ∧ s.rs.length = 12 ∧
    (∀ i, i < 12 → w.cell? ⟨rb, i * 2, none⟩ = some (.int .i64 (s.rs.getD i (0, 0)).1) ∧ w.cell? ⟨rb, i * 2 + 1, none⟩ = some (.int .i64 (s.rs.getD i (0, 0)).2) ∧ w.frozen? ⟨rb, i * 2, none⟩ = false ∧ w.frozen? ⟨rb, i * 2 + 1, none⟩ = false) := by
  obtain ⟨own, m, vT, v2, v3, h, hF⟩ := h
  have h1 := h.blk
  have h2 := h.rt
  have hl := h.rl
  refine ⟨by simp [World.cell?, h1], by simp [World.cell?, h1], by simp [World.cell?, h1], lt_of_some h1, lt_of_some h2, fun o => by simp [World.frozen?, h1], hl, fun i hi => ?_⟩
  obtain ⟨e1, e2⟩ := ev_get s.rs i (by omega)
  refine ⟨?_, ?_, by simp [World.frozen?, h2], by simp [World.frozen?, h2]⟩
  · simp [World.cell?, h2]
    simpa using e1
  · simp [World.cell?, h2]
    simpa using e2
/-- A root turns. -/
theorem wr_root (h : (wrO rp rb most grow).J F s w) (i : Nat) (x : Int × Int) : (wrO rp rb most grow).J F { s with rs := s.rs.set i x } ((w.setCell ⟨rb, i * 2, none⟩ (.int .i64 x.1)).setCell ⟨rb, i * 2 + 1, none⟩ (.int .i64 x.2)) ∧ Tn F w F ((w.setCell ⟨rb, i * 2, none⟩ (.int .i64 x.1)).setCell ⟨rb, i * 2 + 1, none⟩ (.int .i64 x.2)) := by
  obtain ⟨own, m, vT, v2, v3, h, hF⟩ := h
  have fr : Fr (fun b => b = rb) w ((w.setCell ⟨rb, i * 2, none⟩ (.int .i64 x.1)).setCell ⟨rb, i * 2 + 1, none⟩ (.int .i64 x.2)) := ((Fr.refl (fun b => b = rb) w).set rb _ _ rfl).set rb _ _ rfl
  refine ⟨⟨own, m, vT, v2, v3, ?_, hF⟩, ⟨fr.mono (fun b e => (hF b).2 (by rw [e, h.r1]; decide)), fun _ h => Or.inl h⟩⟩
  generalize hw : (w.setCell ⟨rb, i * 2, none⟩ (.int .i64 x.1)).setCell ⟨rb, i * 2 + 1, none⟩ (.int .i64 x.2) = w' at fr
  have hk : ∀ b, b < w.heap.size → own b ≠ 4 → w'.heap[b]? = w.heap[b]? := fun b hb hn => fr.block b hb (fun e => hn (by rw [e]; exact h.r1))
  exact { blk := (hk _ (lt_of_some h.blk) (by rw [h.b1]; decide)).trans h.blk, b1 := h.b1
          row := row_keep h.row (fun b e => hk b (row_lt h.row b e).2 (by rw [h.ro b e]; decide)), ro := h.ro, nd := h.nd
          fl := fun y hy => ⟨(h.fl y hy).1.at fr.size (fun b o hp e => by
            obtain ⟨b', o', e', ho⟩ := (h.fl y hy).2 hp
            rw [e] at e'
            cases e'
            exact hk _ (h.lt _ (by rw [ho]; decide)) (by rw [ho]; decide)), (h.fl y hy).2⟩
          rt := by
            have hq := h.rt
            rw [← hw]
            simp only [World.setCell, Array.getElem?_modify, if_true, hq, Option.map_some]
            simp [ev_root]
          rl := by rw [List.length_set]; exact h.rl
          r1 := h.r1
          g2 := row_keep h.g2 (fun b e => hk b (row_lt h.g2 b e).2 (by rw [h.g2o b e]; decide)), g2o := h.g2o
          g3 := row_keep h.g3 (fun b e => hk b (row_lt h.g3 b e).2 (by rw [h.g3o b e]; decide)), g3o := h.g3o
          lt := fun b hb => Nat.lt_of_lt_of_le (h.lt b hb) fr.size }
/-- Its things. -/
theorem wr_things (h : (wrO rp rb most grow).J F s w) : ∃ aT cT, w.cell? ⟨rp, 0, none⟩ = some (.slice aT s.T.length cT) ∧ (0 < s.T.length → ∃ b, aT = some ⟨b, 0, none⟩ ∧ b ≠ rp ∧ b ≠ rb) ∧ ∀ (i : Nat) (x : Tw1), s.T[i]? = some x → ∃ b ad cp, aT = some ⟨b, 0, none⟩ ∧ w.cell? ⟨b, i * 4, none⟩ = some (.int .i64 x.1) ∧ w.cell? ⟨b, i * 4 + 1, none⟩ = some (.slice ad x.2.1.length cp) ∧ w.cell? ⟨b, i * 4 + 2, none⟩ = some (.bool x.2.2.1) ∧ w.cell? ⟨b, i * 4 + 3, none⟩ = some (.bool x.2.2.2) ∧ Lp w ad x.2.1 ∧ ∀ fb fo, 0 < x.2.1.length → ad = some ⟨fb, fo, none⟩ → fb ≠ rb ∧ fb ≠ rp ∧ F fb := by
  obtain ⟨own, m, vT, v2, v3, h, hF⟩ := h
  have h1 := h.blk
  obtain ⟨aT, cT, eT⟩ := row_slice h.row
  have el : m.length = s.T.length := by rw [← h.nd]; simp
  refine ⟨aT, cT, by simp [World.cell?, h1, eT, el], fun hp => ?_, fun i x hx => ?_⟩
  · obtain ⟨b, cap, e⟩ := row_shape h.row (by omega)
    rw [eT] at e
    cases e
    have hb := h.ro b (by rw [eT]; rfl)
    exact ⟨b, rfl, fun e => by rw [e, h.b1] at hb; omega, fun e => by rw [e, h.r1] at hb; omega⟩
  · rw [← h.nd] at hx
    obtain ⟨y, hy, rfl⟩ : ∃ y, m[i]? = some y ∧ y.1 = x := by
      simp at hx
      obtain ⟨a, b, c⟩ := hx
      exact ⟨_, c, rfl⟩
    have hi : i < m.length := (List.getElem?_eq_some_iff.1 hy).1
    rcases h.row.2 with ⟨_, h0⟩ | ⟨g, cap', cur, hv, hb, hh, h3, h4, h5, h6⟩
    · omega
    · rw [eT] at hv
      simp at hv
      obtain ⟨rfl, _, rfl⟩ := hv
      obtain ⟨k0, k1, k2, k3⟩ := tv_get m i y hy
      rw [← h6, List.getElem?_take_of_lt (by omega)] at k0 k1 k2 k3
      refine ⟨g, y.2.1, y.2.2, rfl, ?_, ?_, ?_, ?_, (h.fl y (List.mem_of_getElem? hy)).1, fun fb fo hp e => ?_⟩
      · simp [World.cell?, hh]
        simpa using k0
      · simp [World.cell?, hh]
        simpa using k1
      · simp [World.cell?, hh]
        simpa using k2
      · simp [World.cell?, hh]
        simpa using k3
      · obtain ⟨b', o', e', ho⟩ := (h.fl y (List.mem_of_getElem? hy)).2 hp
        rw [e] at e'
        cases e'
        exact ⟨fun c => by rw [c, h.r1] at ho; omega, fun c => by rw [c, h.b1] at ho; omega, (hF _).2 (by rw [ho]; decide)⟩
/-- The row of things, as it stands. -/
theorem wr_row (h : (wrO rp rb most grow).J F s w) : ∃ m vT, m.map (fun x => x.1) = s.T ∧ w.cell? ⟨rp, 0, none⟩ = some vT ∧ w.ownsRow 0 116 4 vT m.length (tv m) ∧ (some rp ≠ vT.ownBlock ∧ some rb ≠ vT.ownBlock) ∧ (∀ b, some b = vT.ownBlock → F b) ∧
    -- one more thing
    (∀ (x : Tnd) (v1 : Value) (w1 : World), Fr (fun b => some b = vT.ownBlock) w w1 → w1.ownsRow 0 116 4 v1 (m ++ [x]).length (tv (m ++ [x])) → (∀ b, some b = v1.ownBlock → some b = vT.ownBlock ∨ w.heap.size ≤ b) → Lp w1 x.2.1 x.1.2.1 → (∀ b o, 0 < x.1.2.1.length → x.2.1 = some ⟨b, o, none⟩ → ¬ F b ∧ some b ≠ v1.ownBlock) →
      (wrO rp rb most grow).J (fun b => F b ∨ some b = v1.ownBlock ∨ (0 < x.1.2.1.length ∧ ∃ o, x.2.1 = some ⟨b, o, none⟩)) { s with T := s.T ++ [x.1] } (w1.setCell ⟨rp, 0, none⟩ v1) ∧ Fr F w (w1.setCell ⟨rp, 0, none⟩ v1)) ∧
    -- other values of a thing
    (∀ (i : Nat) (x : Tnd) (ad : Option Addr) (c : Nat) (vs : List (Int × Int)) (b : Nat), m[i]? = some x → some b = vT.ownBlock → Lp w ad vs → (∀ b o, 0 < vs.length → ad = some ⟨b, o, none⟩ → ¬ F b) →
      (wrO rp rb most grow).J (fun b => F b ∨ (0 < vs.length ∧ ∃ o, ad = some ⟨b, o, none⟩)) { s with T := s.T.set i (x.1.1, vs, x.1.2.2) } (w.setCell ⟨b, i * 4 + 1, none⟩ (.slice ad vs.length c)) ∧ Fr F w (w.setCell ⟨b, i * 4 + 1, none⟩ (.slice ad vs.length c))) := by
  classical
  obtain ⟨own, m, vT, v2, v3, h, hF⟩ := h
  have h1 := h.blk
  have own0 : ∀ b, ¬ F b → own b = 0 := fun b hb => Classical.byContradiction (fun c => hb ((hF b).2 c))
  have rne : some rp ≠ vT.ownBlock ∧ some rb ≠ vT.ownBlock := ⟨fun e => by have := h.ro rp e; rw [h.b1] at this; omega, fun e => by have := h.ro rb e; rw [h.r1] at this; omega⟩
  refine ⟨m, vT, h.nd, by simp [World.cell?, h1], h.row, rne, fun b e => (hF b).2 (by rw [h.ro b e]; decide), fun x v1 w1 f1 ho hn hL hxn => ?_, fun i x ad c vs b hx hb hL hxn => ?_⟩
  · have hnw : ∀ b, some b = v1.ownBlock → own b = 2 ∨ own b = 0 := fun b e => (hn b e).elim (fun e => Or.inl (h.ro b e)) (fun hl => Or.inr (Classical.byContradiction (fun c => by have := h.lt b c; omega)))
    have xnw : ∀ b, (0 < x.1.2.1.length ∧ ∃ o, x.2.1 = some ⟨b, o, none⟩) → own b = 0 ∧ some b ≠ v1.ownBlock := fun b ⟨hp, o, e⟩ => ⟨own0 b (hxn b o hp e).1, (hxn b o hp e).2⟩
    have e1 : ∀ b j, own b = j → j ≠ 0 → j ≠ 2 → (if some b = v1.ownBlock then 2 else if (0 < x.1.2.1.length ∧ ∃ o, x.2.1 = some ⟨b, o, none⟩) then 3 else own b) = j := fun b j e h0 h2 => by
      rw [if_neg (fun c => by rcases hnw b c with c | c <;> omega), if_neg (fun c => by have := (xnw b c).1; omega)]
      exact e
    have sz : (w1.setCell ⟨rp, 0, none⟩ v1).heap.size = w1.heap.size := by simp [World.setCell]
    have hk : ∀ b, b < w.heap.size → own b ≠ 2 → own b ≠ 1 → (w1.setCell ⟨rp, 0, none⟩ v1).heap[b]? = w.heap[b]? := fun b hb h2 h1' => (Below.heap_setCell _ _ _ _ (fun e => h1' (by have e : b = rp := e; rw [e]; exact h.b1))).trans (f1.block b hb (fun e => h2 (h.ro b e)))
    have hrp : ¬ some rp = v1.ownBlock := fun e => by rcases hnw rp e with c | c <;> rw [h.b1] at c <;> omega
    refine ⟨⟨fun b => if some b = v1.ownBlock then 2 else if (0 < x.1.2.1.length ∧ ∃ o, x.2.1 = some ⟨b, o, none⟩) then 3 else own b, m ++ [x], v1, v2, v3, ?_, fun b => ?_⟩, ?_⟩
    · exact { blk := by
                have hq := (f1.block rp (lt_of_some h1) rne.1).trans h1
                simp only [World.setCell, Array.getElem?_modify, if_true, hq, Option.map_some]
                simp
              b1 := e1 _ _ h.b1 (by decide) (by decide)
              row := row_keep ho (fun b e => Below.heap_setCell _ _ _ _ (fun e' => hrp (by have e' : b = rp := e'; rw [← e']; exact e)))
              ro := fun b e => by rw [if_pos e]
              nd := by simp [h.nd]
              fl := fun y hy => by
                rcases List.mem_append.1 hy with hy | hy
                · refine ⟨(h.fl y hy).1.at (by rw [sz]; exact f1.size) (fun b o hp e => ?_), fun hp => ?_⟩
                  · obtain ⟨b', o', e', ho'⟩ := (h.fl y hy).2 hp
                    rw [e] at e'
                    cases e'
                    exact hk _ (h.lt _ (by rw [ho']; decide)) (by rw [ho']; decide) (by rw [ho']; decide)
                  · obtain ⟨b', o', e', ho'⟩ := (h.fl y hy).2 hp
                    exact ⟨b', o', e', e1 _ _ ho' (by decide) (by decide)⟩
                · simp at hy
                  subst hy
                  refine ⟨hL.at (by rw [sz]; exact Nat.le_refl _) (fun b o hp e => Below.heap_setCell _ _ _ _ (fun e' => ?_)), fun hp => ?_⟩
                  · have e' : b = rp := e'
                    have := (xnw b ⟨hp, o, e⟩).1
                    rw [e', h.b1] at this
                    omega
                  · obtain ⟨b, o, e, _⟩ := hL hp
                    exact ⟨b, o, e, by rw [if_neg (xnw b ⟨hp, o, e⟩).2, if_pos ⟨hp, o, e⟩]⟩
              rt := (hk _ (lt_of_some h.rt) (by rw [h.r1]; decide) (by rw [h.r1]; decide)).trans h.rt
              rl := h.rl
              r1 := e1 _ _ h.r1 (by decide) (by decide)
              g2 := row_keep h.g2 (fun b e => hk b (row_lt h.g2 b e).2 (by rw [h.g2o b e]; decide) (by rw [h.g2o b e]; decide)), g2o := fun b e => e1 _ _ (h.g2o b e) (by decide) (by decide)
              g3 := row_keep h.g3 (fun b e => hk b (row_lt h.g3 b e).2 (by rw [h.g3o b e]; decide) (by rw [h.g3o b e]; decide)), g3o := fun b e => e1 _ _ (h.g3o b e) (by decide) (by decide)
              lt := fun b hb => by
                rw [sz]
                by_cases c1 : some b = v1.ownBlock
                · exact (row_lt ho b c1).2
                · by_cases c2 : 0 < x.1.2.1.length ∧ ∃ o, x.2.1 = some ⟨b, o, none⟩
                  · obtain ⟨hp, o, e⟩ := c2
                    obtain ⟨b', o', e', hb', _⟩ := hL hp
                    rw [e] at e'
                    cases e'
                    exact hb'
                  · rw [if_neg c1, if_neg c2] at hb
                    exact Nat.lt_of_lt_of_le (h.lt b hb) f1.size }
    · by_cases c1 : some b = v1.ownBlock
      · simp [c1]
      · by_cases c2 : 0 < x.1.2.1.length ∧ ∃ o, x.2.1 = some ⟨b, o, none⟩
        · simp only [if_neg c1, if_pos c2]
          exact ⟨fun _ => by decide, fun _ => Or.inr (Or.inr c2)⟩
        · simp only [if_neg c1, if_neg c2]
          exact ⟨fun d => d.elim (hF b).1 (fun d => d.elim (fun d => absurd d c1) (fun d => absurd d c2)), fun d => Or.inl ((hF b).2 d)⟩
    · exact (f1.mono (fun b e => (hF b).2 (by rw [h.ro b e]; decide))).trans ((Fr.refl (fun b => b = rp) w1).set rp 0 _ rfl) (fun b e => Or.inl ((hF b).2 (by rw [e, h.b1]; decide)))
  · have ob := h.ro b hb
    have xnw : ∀ b, (0 < vs.length ∧ ∃ o, ad = some ⟨b, o, none⟩) → own b = 0 := fun b ⟨hp, o, e⟩ => own0 b (hxn b o hp e)
    have e1 : ∀ b j, own b = j → j ≠ 0 → (if (0 < vs.length ∧ ∃ o, ad = some ⟨b, o, none⟩) then 3 else own b) = j := fun b j e h0 => by
      rw [if_neg (fun c => by have := xnw b c; omega)]
      exact e
    have sz : (w.setCell ⟨b, i * 4 + 1, none⟩ (.slice ad vs.length c)).heap.size = w.heap.size := by simp [World.setCell]
    have hk : ∀ k, own k ≠ 2 → (w.setCell ⟨b, i * 4 + 1, none⟩ (.slice ad vs.length c)).heap[k]? = w.heap[k]? := fun k h2 => Below.heap_setCell _ _ _ _ (fun e => h2 (by have e : k = b := e; rw [e]; exact ob))
    obtain ⟨aT, cT, eT⟩ := row_slice h.row
    have hrow : (w.setCell ⟨b, i * 4 + 1, none⟩ (.slice ad vs.length c)).ownsRow 0 116 4 vT (m.set i ((x.1.1, vs, x.1.2.2), ad, c)).length (tv (m.set i ((x.1.1, vs, x.1.2.2), ad, c))) := by
      obtain ⟨b', cap, e⟩ := row_shape h.row (Nat.lt_of_le_of_lt (Nat.zero_le i) (List.getElem?_eq_some_iff.1 hx).1)
      have eb : b = b' := by
        rw [e] at hb
        simpa [Value.ownBlock] using hb
      subst eb
      rw [List.length_set, tv_set m i x ad c vs hx]
      have := h.row
      rw [e] at this ⊢
      exact row_put this _ _
    refine ⟨⟨fun b => if (0 < vs.length ∧ ∃ o, ad = some ⟨b, o, none⟩) then 3 else own b, m.set i ((x.1.1, vs, x.1.2.2), ad, c), vT, v2, v3, ?_, fun k => ?_⟩, ?_⟩
    · exact { blk := (hk _ (by rw [h.b1]; decide)).trans h.blk
              b1 := e1 _ _ h.b1 (by decide)
              row := hrow
              ro := fun k e => e1 _ _ (h.ro k e) (by decide)
              nd := by rw [List.map_set, h.nd]
              fl := fun y hy => by
                rcases List.mem_or_eq_of_mem_set hy with hy | hy
                · refine ⟨(h.fl y hy).1.at (by rw [sz]; exact Nat.le_refl _) (fun b o hp e => ?_), fun hp => ?_⟩
                  · obtain ⟨b', o', e', ho'⟩ := (h.fl y hy).2 hp
                    rw [e] at e'
                    cases e'
                    exact hk _ (by rw [ho']; decide)
                  · obtain ⟨b', o', e', ho'⟩ := (h.fl y hy).2 hp
                    exact ⟨b', o', e', e1 _ _ ho' (by decide)⟩
                · subst hy
                  refine ⟨hL.at (by rw [sz]; exact Nat.le_refl _) (fun b o hp e => hk _ (by have := xnw b ⟨hp, o, e⟩; omega)), fun hp => ?_⟩
                  obtain ⟨b, o, e, _⟩ := hL hp
                  exact ⟨b, o, e, by rw [if_pos ⟨hp, o, e⟩]⟩
              rt := (hk _ (by rw [h.r1]; decide)).trans h.rt
              rl := h.rl
              r1 := e1 _ _ h.r1 (by decide)
              g2 := row_keep h.g2 (fun b e => hk b (by rw [h.g2o b e]; decide)), g2o := fun b e => e1 _ _ (h.g2o b e) (by decide)
              g3 := row_keep h.g3 (fun b e => hk b (by rw [h.g3o b e]; decide)), g3o := fun b e => e1 _ _ (h.g3o b e) (by decide)
              lt := fun k hb' => by
                rw [sz]
                by_cases c2 : 0 < vs.length ∧ ∃ o, ad = some ⟨k, o, none⟩
                · obtain ⟨hp, o, e⟩ := c2
                  obtain ⟨b', o', e', hb', _⟩ := hL hp
                  rw [e] at e'
                  cases e'
                  exact hb'
                · rw [if_neg c2] at hb'
                  exact h.lt k hb' }
    · by_cases c2 : 0 < vs.length ∧ ∃ o, ad = some ⟨k, o, none⟩
      · simp only [if_pos c2]
        exact ⟨fun _ => by decide, fun _ => Or.inr c2⟩
      · simp only [if_neg c2]
        exact ⟨fun d => d.elim (hF k).1 (fun d => absurd d c2), fun d => Or.inl ((hF k).2 d)⟩
    · exact (Fr.refl F w).set b _ _ ((hF b).2 (by rw [ob]; decide))
/-- What is registered. -/
theorem wr_regs (h : (wrO rp rb most grow).J F s w) : ∃ v2 v3, w.cell? ⟨rp, 2, none⟩ = some v2 ∧ w.cell? ⟨rp, 3, none⟩ = some v3 ∧ w.ownsRow 0 114 2 v2 s.rg.length (ev s.rg) ∧ w.ownsRow 0 114 2 v3 s.wt.length (ev s.wt) ∧ some rp ≠ v2.ownBlock ∧
    ∀ (l : List En) (v1 : Value) (w1 : World), Fr (fun b => some b = v2.ownBlock) w w1 → w1.ownsRow 0 114 2 v1 l.length (ev l) → (∀ b, some b = v1.ownBlock → some b = v2.ownBlock ∨ w.heap.size ≤ b) →
      (wrO rp rb most grow).J (fun b => F b ∨ some b = v1.ownBlock) { s with rg := l } (w1.setCell ⟨rp, 2, none⟩ v1) ∧ Fr F w (w1.setCell ⟨rp, 2, none⟩ v1) := by
  obtain ⟨own, m, vT, v2, v3, h, hF⟩ := h
  have h1 := h.blk
  have rne : some rp ≠ v2.ownBlock := fun e => by have := h.g2o rp e; rw [h.b1] at this; omega
  refine ⟨v2, v3, by simp [World.cell?, h1], by simp [World.cell?, h1], h.g2, h.g3, rne, fun l v1 w1 f1 ho hn => ?_⟩
  have hnw : ∀ b, some b = v1.ownBlock → own b = 5 ∨ own b = 0 := fun b e => (hn b e).elim (fun e => Or.inl (h.g2o b e)) (fun hl => Or.inr (Classical.byContradiction (fun c => by have := h.lt b c; omega)))
  have e1 : ∀ b j, own b = j → j ≠ 0 → j ≠ 5 → (if some b = v1.ownBlock then 5 else own b) = j := fun b j e h0 h2 => by
    rw [if_neg (fun c => by rcases hnw b c with c | c <;> omega)]
    exact e
  have sz : (w1.setCell ⟨rp, 2, none⟩ v1).heap.size = w1.heap.size := by simp [World.setCell]
  have hk : ∀ b, b < w.heap.size → own b ≠ 5 → own b ≠ 1 → (w1.setCell ⟨rp, 2, none⟩ v1).heap[b]? = w.heap[b]? := fun b hb h2 h1' => (Below.heap_setCell _ _ _ _ (fun e => h1' (by have e : b = rp := e; rw [e]; exact h.b1))).trans (f1.block b hb (fun e => h2 (h.g2o b e)))
  have hrp : ¬ some rp = v1.ownBlock := fun e => by rcases hnw rp e with c | c <;> rw [h.b1] at c <;> omega
  refine ⟨⟨fun b => if some b = v1.ownBlock then 5 else own b, m, vT, v1, v3, ?_, fun b => ?_⟩, ?_⟩
  · exact { blk := by
              have hq := (f1.block rp (lt_of_some h1) rne).trans h1
              simp only [World.setCell, Array.getElem?_modify, if_true, hq, Option.map_some]
              simp
            b1 := e1 _ _ h.b1 (by decide) (by decide)
            row := row_keep h.row (fun b e => hk b (row_lt h.row b e).2 (by rw [h.ro b e]; decide) (by rw [h.ro b e]; decide))
            ro := fun b e => e1 _ _ (h.ro b e) (by decide) (by decide)
            nd := h.nd
            fl := fun y hy => by
              refine ⟨(h.fl y hy).1.at (by rw [sz]; exact f1.size) (fun b o hp e => ?_), fun hp => ?_⟩
              · obtain ⟨b', o', e', ho'⟩ := (h.fl y hy).2 hp
                rw [e] at e'
                cases e'
                exact hk _ (h.lt _ (by rw [ho']; decide)) (by rw [ho']; decide) (by rw [ho']; decide)
              · obtain ⟨b', o', e', ho'⟩ := (h.fl y hy).2 hp
                exact ⟨b', o', e', e1 _ _ ho' (by decide) (by decide)⟩
            rt := (hk _ (lt_of_some h.rt) (by rw [h.r1]; decide) (by rw [h.r1]; decide)).trans h.rt
            rl := h.rl
            r1 := e1 _ _ h.r1 (by decide) (by decide)
            g2 := row_keep ho (fun b e => Below.heap_setCell _ _ _ _ (fun e' => hrp (by have e' : b = rp := e'; rw [← e']; exact e)))
            g2o := fun b e => by rw [if_pos e]
            g3 := row_keep h.g3 (fun b e => hk b (row_lt h.g3 b e).2 (by rw [h.g3o b e]; decide) (by rw [h.g3o b e]; decide)), g3o := fun b e => e1 _ _ (h.g3o b e) (by decide) (by decide)
            lt := fun b hb => by
              rw [sz]
              by_cases c1 : some b = v1.ownBlock
              · exact (row_lt ho b c1).2
              · rw [if_neg c1] at hb
                exact Nat.lt_of_lt_of_le (h.lt b hb) f1.size }
  · by_cases c1 : some b = v1.ownBlock
    · simp [c1]
    · simp [c1, hF b]
  · exact (f1.mono (fun b e => (hF b).2 (by rw [h.g2o b e]; decide))).trans ((Fr.refl (fun b => b = rp) w1).set rp 2 _ rfl) (fun b e => Or.inl ((hF b).2 (by rw [e, h.b1]; decide)))
end

end Go.Proofs.YtakofbkmhmcnfabGreat
