/- Joined: Mn17, Mj22, Mj23, Mj24. -/
import Derived.Test.YtmocakafnnkjfabGreatJ21
import Derived.Test.YtmocakafnnkjfabGreatJ19
/- A small cut: a contract. -/
namespace Go.Proofs.YtmocakafnnkjfabGreat
open Go.RowKit W Kp Stl

section
variable {a : Wc} {F : Nat → Prop} {S : Ww} {w : World}

set_option maxRecDepth 100000 in
set_option maxHeartbeats 2000000 in
theorem cutM_no (h : (wsO a).J F S w) (hf : S.full a = true) :
    Calls Tryz.prog 16 #[.pointer (some ⟨a.pw, 0, none⟩)] w fun e w' => e = .returned (.int .i64 3) ∧ Below w.heap.size w w' := by
  obtain ⟨F0, ar, cr, h1, _⟩ := h
  obtain ⟨Fw, hw, _⟩ := mkSd_to h1
  obtain ⟨hA, _⟩ := wod_arena hw
  have hA : At w a.p a.q a.N a.O S.s.y S.s.g S.s.ws := hA
  obtain ⟨c0, _, _, _, lpw, _⟩ := wod_cells hw
  have n1 := hA.hg
  have n2 : a.O - S.s.g < S.s.y := by simpa [Ww.full] using hf
  have n3 : (a.O : Int) - S.s.g < S.s.y := by omega
  have n4 := hA.hO
  have n5 := hA.hy
  have n6 := hA.hN'
  have P1 := used_any w hA
  clear h1 hw
  go_enter Tryz.func16, Tryz.ntmps16
  go_wp2_with fail
  refine P1.mono ?_
  clear P1
  rintro e w1 ⟨rfl, hb1⟩
  have c1 := (hb1.cell (p := ⟨a.pw, 0, none⟩) lpw).trans c0
  have P2 := freeOf_any w1 (hA.below hb1 (Nat.le_refl _))
  go_wp2_with fail
  refine P2.mono ?_
  clear P2
  rintro e w2 ⟨rfl, hb2⟩
  have hb := hb1.trans (hb2.mono hb1.size)
  clear hb1 hb2 c0 c1
  go_wp2_with fail
  go_ret
  exact ⟨rfl, hb⟩

set_option maxRecDepth 100000 in
set_option maxHeartbeats 4000000 in
theorem cutM_yes (h : (wsO a).J F S w) (hf : S.full a = false) (hq : S.q.length + S.r.length ≤ 90000) :
    Calls Tryz.prog 16 #[.pointer (some ⟨a.pw, 0, none⟩)] w fun e w' => ∃ F', e = .returned (.int .i64 0) ∧ (wsO a).J F' (S.cut a) w' ∧ Tn F w F' w' := by
  have hmf : ∀ (fn : Fn) (first cap : Array Value) (w : World), (Instr.makeFunc fn first cap).run Tryz.prog w = .ok (.func fn first cap) w := fun _ _ _ _ => rfl
  obtain ⟨F0, ar, cr, h1, hR, hRn, hF⟩ := h
  obtain ⟨Fw, hw, hto⟩ := mkSd_to h1
  obtain ⟨hA, _⟩ := wod_arena hw
  have hA : At w a.p a.q a.N a.O S.s.y S.s.g S.s.ws := hA
  obtain ⟨c0, _, _, _, lpw, _⟩ := wod_cells hw
  have n1 := hA.hg
  have n2 : S.s.y ≤ a.O - S.s.g := by
    unfold Ww.full at hf
    have := of_decide_eq_false hf
    omega
  have n3 : ¬ (a.O : Int) - S.s.g < S.s.y := by omega
  have n4 := hA.hO
  have n5 := hA.hy
  have n6 := hA.hN'
  have HI0 : Hid (CI (S.s.k0 a) (S.s.s0 a)) := CI.start hA.hN hA.hN' hA.hO hA.hy hA.hg hA.hl n2
  have P1 := used_any w hA
  have HW : Hid ((wodO a).J Fw S.s w ∧ At w a.p a.q a.N a.O S.s.y S.s.g S.s.ws) := ⟨hw, hA⟩
  have HTo : Hid (∀ {τ' : Type} (o' : Ob τ') F1 t1 w', o'.J F1 t1 w' → Tn Fw w F1 w' → ∃ F', (mkSd o' a.sd (.slice ar S.r.length cr)).J F' (t1, S.q) w' ∧ Tn F0 w F' w') := hto
  have HR : Hid (w.ownsRow 0 95 2 (.slice ar S.r.length cr) S.r.length (ev S.r) ∧ (∀ b, some b = (Value.slice ar S.r.length cr).ownBlock → ¬ F0 b) ∧ ∀ b, F b ↔ (F0 b ∨ some b = (Value.slice ar S.r.length cr).ownBlock)) := ⟨hR, hRn, hF⟩
  clear h1 hw hA hto hR hRn hF hf
  go_enter Tryz.func16, Tryz.ntmps16
  go_wp2_with fail
  refine P1.mono ?_
  clear P1
  rintro e w1 ⟨rfl, hb1⟩
  have c1 := (hb1.cell (p := ⟨a.pw, 0, none⟩) lpw).trans c0
  have P2 := freeOf_any w1 (HW.out.2.below hb1 (Nat.le_refl _))
  go_wp2_with fail
  refine P2.mono ?_
  clear P2
  rintro e w2 ⟨rfl, hb2⟩
  have hb := hb1.trans (hb2.mono hb1.size)
  have P3 := newCut_any ((wodO a).below HW.out.1 hb)
  have HB : Hid (Below w.heap.size w w2) := hb
  clear hb1 hb2 c0 c1 hb
  go_wp2_with fail
  refine P3.mono ?_
  clear P3
  rintro e w3 ⟨pk, mq, pq, F3, rfl, hJ3, hT3⟩
  have hT3 := (Tn.of (F := Fw) HB.out).trans hT3
  obtain ⟨c, hc⟩ : ∃ c : Cc, c = ⟨pk, mq, a.pw, a.p, a.q, a.pc, pq, a.sd, a.nb, nC a.O, S.s.M⟩ := ⟨_, rfl⟩
  have epk : pk = c.pk := by rw [hc]
  have HC : Hid (c = ⟨pk, mq, a.pw, a.p, a.q, a.pc, pq, a.sd, a.nb, nC a.O, S.s.M⟩ ∧ a.sd = c.sd ∧ c.c = nC a.O ∧ c.M = S.s.M ∧ a.pw = c.pw) := ⟨hc, by rw [hc], by rw [hc], by rw [hc], by rw [hc]⟩
  rw [← hc] at hJ3
  clear hc
  subst epk
  have hJ3 : (cutO c (S.s.k0 a)).J F3 (S.s.s0 a) w3 := hJ3
  have P4 := keepRoots_any hJ3 HI0.out
  clear hJ3
  go_wp2_with fail
  refine P4.mono ?_
  clear P4
  rintro e w4 ⟨rfl, hJ4, hT4⟩
  have hJ4 : (cutO c (S.s.k0 a)).J F3 (S.s.s1 a) w4 := hJ4
  obtain ⟨k1, k2, k3, k4, k5, k6⟩ := HI0.out.kr 12
  have P5 := marked_any hJ4 (s := S.s.s1 a) k1 k3 k4
  have HT4 : Hid (Tn Fw w F3 w4) := hT3.trans hT4
  clear hJ4 hT4 hT3 k1 k2 k3 k4 k5 k6
  go_wp2_with fail
  refine P5.mono ?_
  clear P5
  rintro e w5 ⟨F5, rfl, hJ5, hT5, i5, b5, nx5⟩
  rw [HC.out.2.2.1, HC.out.2.2.2.1] at hJ5 i5 b5
  have hJ5 : (cutO c (S.s.k0 a)).J F5 (S.s.s2 a) w5 := hJ5
  have i5 : CI (S.s.k0 a) (S.s.s2 a) := i5
  have b5 : CB (S.s.k0 a) (S.s.s2 a) := b5
  obtain ⟨F6, hM6, hT6⟩ := HTo.out (cutI c (S.s.k0 a)) F5 (S.s.s2 a) w5 ⟨hJ5, i5, b5⟩ (HT4.out.trans hT5)
  rw [HC.out.2.1] at hM6
  have P6 := spread_any (c := c) rfl hM6 (by show S.q.length ≤ 90000; omega)
  have HT6 : Hid (Tn F0 w F6 w5) := hT6
  clear hJ5 hT5 i5 b5 nx5 hM6 hT6
  go_wp2_with fail
  refine P6.mono ?_
  clear P6
  rintro e w7 ⟨F7, rfl, hM7, hT7⟩
  have hM7 : (mkSd (cutI c (S.s.k0 a)) c.sd (.slice ar S.r.length cr)).J F7 (S.t3 a) w7 := hM7
  have hT7 : Tn F0 w F7 w7 := HT6.out.trans hT7
  obtain ⟨Fi, ⟨⟨vw7, ve7, hJ7⟩, _⟩, _⟩ := mkSd_to hM7
  obtain ⟨d0, _, _, _, _, _, _, d7, _⟩ := cut_cells hJ7
  have l0 := World.block_lt_of_cell? w7 _ d0
  have l7 := World.block_lt_of_cell? w7 _ d7
  have HM7 : Hid ((mkSd (cutI c (S.s.k0 a)) c.sd (.slice ar S.r.length cr)).J F7 (S.t3 a) w7.drew ∧ Tn F0 w F7 w7.drew) := ⟨(mkSd (cutI c (S.s.k0 a)) c.sd (.slice ar S.r.length cr)).below hM7 (Below.refl _ w7).drew, hT7.below (Below.refl _ w7).drew⟩
  have hlq : (S.t3 a).2.length + S.r.length ≤ 90000 := by
    have : (S.t3 a).2.length = S.q.length := spr_len _ _ _
    omega
  clear hM7 hT7 hJ7
  go_wp2_with fail
  go_region_held3 (fun w' => w'.cell? ⟨c.pk, 0, none⟩ = some (.pointer (some ⟨c.pw, 0, none⟩)) ∧ w'.cell? ⟨c.pw, 2, none⟩ = some (.pointer (some ⟨c.sd, 0, none⟩))) (go_keep)
    (first
      | (go_at_call 64; refine (looksM_any (fkM c) w7.drew c.pk).mono ?_; rintro e w8 ⟨rfl, hx8, hb8⟩; have y0 := (hb8.cell (p := ⟨c.pk, 0, none⟩) l0).trans d0; have y7 := (hb8.cell (p := ⟨c.pw, 2, none⟩) l7).trans d7; have HX : Hid (w8.heap[w7.heap.size]? = some (boxC c) ∧ Below w7.drew.heap.size w7.drew w8) := ⟨hx8, hb8⟩; clear hx8 hb8)
      | (go_at_call 63; refine (settleM_any (t := S.t3 a) (r := S.r) rfl ((mkSd (cutI c (S.s.k0 a)) c.sd (.slice ar S.r.length cr)).below HM7.out.1 HX.out.2) (by
            have hf := ((Fr.of (X := F0) HX.out.2))
            exact row_keep HR.out.1 (fun b e => (HX.out.2.block b (Nat.lt_of_lt_of_le (row_lt HR.out.1 b e).2 HM7.out.2.fr.size)).trans (HM7.out.2.fr.block b (row_lt HR.out.1 b e).2 (HR.out.2.1 b e)))) hlq w7.heap.size HX.out.1 (fun d => by have := (mkSd (cutI c (S.s.k0 a)) c.sd (.slice ar S.r.length cr)).lt HM7.out.1 _ d; have e8 : w7.drew.heap.size = w7.heap.size := rfl; omega)).mono ?_; rintro e w9 ⟨a1, c1, F9, rfl, hM9, hR9, hn9, hf9, hs9⟩; obtain ⟨Fj, ⟨⟨vw9, ve9, hJ9⟩, _⟩, _⟩ := mkSd_to hM9; obtain ⟨r0, _, _, _, _, _, _, r7, _⟩ := cut_cells hJ9; have HM9 : Hid ((mkSd (cutI c (S.s.k0 a)) c.sd (.slice a1 ((S.s.k0 a).sR (S.t3 a) S.r).length c1)).J F9 (S.s4 a, (S.s.k0 a).sQ (S.t3 a) S.r) w9 ∧ w9.ownsRow 0 95 2 (.slice a1 ((S.s.k0 a).sR (S.t3 a) S.r).length c1) ((S.s.k0 a).sR (S.t3 a) S.r).length (ev ((S.s.k0 a).sR (S.t3 a) S.r)) ∧ (∀ b, some b = (Value.slice a1 ((S.s.k0 a).sR (S.t3 a) S.r).length c1).ownBlock → ¬ F9 b ∧ w8.heap.size ≤ b) ∧ w.heap.size ≤ w8.heap.size ∧ Tn F0 w F9 w9) := ⟨hM9, hR9, hn9, Nat.le_trans HM7.out.2.fr.size HX.out.2.size, ⟨(HM7.out.2.below HX.out.2).fr.trans hf9 (fun b d => d.elim (HM7.out.2.sub b) (fun d => Or.inr (by have := HM7.out.2.fr.size; have e8 : w7.drew.heap.size = w7.heap.size := rfl; omega))), fun b d => (hs9 b d).elim (HM7.out.2.sub b) (fun d => Or.inr (by have h1 := HM7.out.2.fr.size; have h2 := HX.out.2.size; omega))⟩⟩; clear hM9 hR9 hn9 hf9 hs9 hJ9))
  clear d0 d7 y0 y7 r0 r7 HM7 HX hlq
  obtain ⟨Fj, ⟨hJ9, i9, b9⟩, hto9⟩ := mkSd_to HM9.out.1
  have hJ9 : (cutO c (S.s.k0 a)).J Fj (S.s4 a) w9 := hJ9
  have i9 : CI (S.s.k0 a) (S.s4 a) := i9
  have b9 : CB (S.s.k0 a) (S.s4 a) := b9
  obtain ⟨i10, q10⟩ := i9.mw (l := (S.s4 a).wk) (fun x hx => (i9.wk0 x hx).1)
  have i10 : CI (S.s.k0 a) (S.s5 a) := i10
  have P7 := mendW_any hJ9 i9 (by have := b9.wk; omega)
  have HI10 : Hid (CI (S.s.k0 a) (S.s5 a) ∧ (S.s5 a).ep.length ≤ 10000) := ⟨i10, by have h1 : (S.s5 a).ep = (S.s4 a).ep := q10.ep; rw [h1]; have := b9.ep; omega⟩
  have HTo9 : Hid (∀ {τ' : Type} (o' : Ob τ') F1 t1 w', o'.J F1 t1 w' → Tn Fj w9 F1 w' → ∃ F', (mkSd o' c.sd (.slice a1 ((S.s.k0 a).sR (S.t3 a) S.r).length c1)).J F' (t1, (S.s.k0 a).sQ (S.t3 a) S.r) w' ∧ Tn F9 w9 F' w') := hto9
  clear hJ9 i9 b9 i10 q10 hto9
  go_wp2_with fail
  refine P7.mono ?_
  clear P7
  rintro e w10 ⟨rfl, hJ10, hT10⟩
  have hJ10 : (cutO c (S.s.k0 a)).J Fj (S.s5 a) w10 := hJ10
  have P8 := breakE_any hJ10 HI10.out.1 HI10.out.2
  clear hJ10
  go_wp2_with fail
  refine P8.mono ?_
  clear P8
  rintro e w11 ⟨rfl, hJ11, hT11⟩
  have hJ11 : (cutO c (S.s.k0 a)).J Fj (S.s6 a) w11 := hJ11
  obtain ⟨vw, ve, hV11⟩ := hJ11
  obtain ⟨d0, _, _, _, _, d5, _⟩ := cut_cells hV11
  have hJ11 : (cutO c (S.s.k0 a)).J Fj (S.s6 a) w11 := ⟨vw, ve, hV11⟩
  rw [HC.out.1] at hJ11
  obtain ⟨Fw2, hw11, hsub, hnpk⟩ := cut_wood (pk := c.pk) (a := a) hJ11
  obtain ⟨hA11, hup⟩ := wod_arena hw11
  have hT11 : Tn Fj w9 Fw2 w11 := ⟨(hT10.trans hT11).fr, fun b hb => Or.inl (hsub b hb)⟩
  have P9 := clear_any w11 hA11
  have HU : Hid (Tn Fj w9 Fw2 w11 ∧ ¬ Fw2 c.pk ∧ ∀ w', At w' a.p a.q a.N a.O 0 (S.s6 a).g (S.s6 a).ws → Sv a.p a.q w11 w' → (wodO a).J Fw2 ⟨0, (S.s6 a).g, (S.s6 a).ws, S.s.M, (S.s6 a).rs⟩ w' ∧ Tn Fw2 w11 Fw2 w') := ⟨hT11, hnpk, fun w' h1 h2 => hup w' _ _ _ h1 h2⟩
  have lpk := World.block_lt_of_cell? w11 _ d0
  have epw : c.pw = a.pw := HC.out.2.2.2.2.symm
  have ep : c.p = a.p := by rw [HC.out.1]
  rw [epw] at d0 d5
  rw [ep] at d5
  clear hJ11 hV11 hw11 hA11 hup hsub hnpk hT11 hT10 epw ep
  go_wp2_with fail
  refine P9.mono ?_
  clear P9
  rintro e w12 ⟨rfl, hA12, hs12⟩
  obtain ⟨hw12, hT12⟩ := HU.out.2.2 w12 hA12 hs12
  obtain ⟨pq2, hcd, hcu⟩ := wod_cards hw12
  obtain ⟨_, f1, _⟩ := wod_cells hw12
  have f0 : w12.cell? ⟨c.pk, 0, none⟩ = some (.pointer (some ⟨a.pw, 0, none⟩)) := (World.cell?_of_block (a := ⟨c.pk, 0, none⟩) (hT12.fr.block c.pk lpk HU.out.2.1)).trans d0
  have P10 := clearC_any w12 hcd.hp
  have HU2 : Hid (Tn Fj w9 Fw2 w12 ∧ ∀ w', Cd w' a.pc w12.heap.size a.N (nC a.O) [] → Sv a.pc pq2 w12 w' → ∃ F', (wodO a).J F' ⟨0, (S.s6 a).g, (S.s6 a).ws, [], (S.s6 a).rs⟩ w' ∧ Tn Fw2 w12 F' w') := ⟨HU.out.1.trans hT12, fun w' h1 h2 => hcu w' _ _ h1 h2 (Or.inr (Nat.le_refl _))⟩
  clear hA12 hs12 hw12 hT12 hcd hcu d0 d5
  go_wp2_with fail
  refine P10.mono ?_
  clear P10
  rintro e w13 ⟨rfl, hcd13, hs13⟩
  have HF : Hid (∃ F', (wsO a).J F' (S.cut a) w13 ∧ Tn F w F' w13) := by
    obtain ⟨F13, hw13, hT13⟩ := HU2.out.2 w13 hcd13 ⟨hs13.os, hs13.tape, hs13.output, hs13.size, fun b hb h1 _ => hs13.block b hb h1 h1⟩
    obtain ⟨F14, hM14, hT14⟩ := HTo9.out (wodO a) F13 _ w13 hw13 (HU2.out.1.trans hT13)
    obtain ⟨_, hR9, hn9, h89, hT9⟩ := HM9.out
    have eS : S.cut a = ⟨⟨0, (S.s6 a).g, (S.s6 a).ws, [], (S.s6 a).rs⟩, (S.s.k0 a).sR (S.t3 a) S.r, (S.s.k0 a).sQ (S.t3 a) S.r⟩ := by
      unfold Ww.cut
      rw [if_neg]
      unfold Ww.full
      simp
      omega
    rw [eS]
    rw [← HC.out.2.1] at hM14
    have hT0 := hT9.trans hT14
    refine ⟨fun b => F14 b ∨ some b = (Value.slice a1 ((S.s.k0 a).sR (S.t3 a) S.r).length c1).ownBlock, ⟨F14, a1, c1, hM14, row_fr hR9 hT14.fr (fun b e => (hn9 b e).1), fun b e d => (hT14.sub b d).elim (hn9 b e).1 (fun d => by have := (row_lt hR9 b e).2; omega), fun b => Iff.rfl⟩, ⟨hT0.fr.mono (fun b d => (HR.out.2.2 b).2 (Or.inl d)), fun b d => ?_⟩⟩
    rcases d with d | d
    · exact (hT0.sub b d).imp (fun d => (HR.out.2.2 b).2 (Or.inl d)) id
    · exact Or.inr (Nat.le_trans h89 (hn9 b d).2)
  clear hcd13 hs13 HU2 HTo9 HM9 f0 f1
  go_wp2_with fail
  go_ret
  obtain ⟨F', j1, j2⟩ := HF.out
  exact ⟨F', rfl, j1, j2⟩

theorem cutM_any (h : (wsO a).J F S w) (hq : S.q.length + S.r.length ≤ 90000) :
    Calls Tryz.prog 16 #[.pointer (some ⟨a.pw, 0, none⟩)] w fun e w' => ∃ F', e = .returned (.int .i64 (S.code a)) ∧ (wsO a).J F' (S.cut a) w' ∧ Tn F w F' w' := by
  cases hf : S.full a
  · have e1 : S.code a = 0 := by unfold Ww.code; rw [hf]; rfl
    rw [e1]
    exact cutM_yes h hf hq
  · have e1 : S.code a = 3 := by unfold Ww.code; rw [if_pos hf]
    have e2 : S.cut a = S := by unfold Ww.cut; rw [if_pos hf]
    rw [e1, e2]
    refine (cutM_no h hf).mono ?_
    rintro e w' ⟨rfl, hb⟩
    exact ⟨F, rfl, (wsO a).below h hb, Tn.of hb⟩
end

end Go.Proofs.YtmocakafnnkjfabGreat

/- A great cut in memory: slide: a contract. -/
namespace Go.Proofs.YtmocakafnnkjfabGreat
open Go.RowKit W Kp Stl

def Jk.slS (s : Js) (t : Jk × Int) (a : Int) : Jk × Int := (t.1.mov (s.f a).toNat a.toNat (1 + (pf (t.1.ld a)).toNat), t.2 + (1 + pf (t.1.ld a)))
def Jk.slL (k : Jk) (s : Js) (l : List Int) : Jk × Int := ejL (fun _ a => s.f a) (Jk.slS s) (k, 0) l
def Jk.cpL (k : Jk) (s : Js) (l : List Int) : Jk := ejL (fun (_ : Jk) a => s.f a) (fun k a => k.cop a) k l
def Jk.cdc (k : Jk) : Jk := { k with s := { k.s with M := [] } }
def Jk.sl1 (k : Jk) (s : Js) : Jk := (k.slL s k.G).1.ar (k.slL s k.G).1.s.y (k.slL s k.G).2.toNat (k.slL s k.G).1.s.ws
def Jk.sl2 (k : Jk) (s : Js) : Jk := (k.sl1 s).cpL s k.Y
def Jk.sl (k : Jk) (s : Js) : Jk := ((k.sl2 s).ar 0 (k.sl2 s).s.g (k.sl2 s).s.ws).cdc

theorem ent_sl1 : Ent 155 := ent_of Tryz.func155 (by kernel_rfl) rfl
theorem ent_sl2 : Ent 158 := ent_of Tryz.func158 (by kernel_rfl) rfl

section
variable {c : Jc} {k0 k : Jk} {vt ve vr : Value} {F : Nat → Prop} {s : Js} {w : World} {bp bn : Nat}

theorem mt_cutA (h : (mtO c k0 s vt ve).J F k w) (n : Int) (h0 : 0 ≤ n) (h1 : n ≤ k0.a.O) : Calls Tryz.prog 157 #[.pointer (some ⟨k0.a.p, 0, none⟩), .int .i64 n] w fun e w' => ∃ F', e = .returned (.tuple #[]) ∧ (mtO c k0 s vt ve).J F' (k.ar k.s.y n.toNat k.s.ws) w' ∧ Tn F w F' w' := by
  obtain ⟨h, ea, eY, eG⟩ := h
  obtain ⟨hA, hU⟩ := mj_ar h
  have P := cut_any n w hA h0 (by rw [ea]; exact h1)
  rw [← ea]
  refine P.mono ?_
  rintro e w2 ⟨rfl, hA2, hs2⟩
  obtain ⟨F2, h2, t2⟩ := hU w2 _ _ _ hA2 hs2
  exact ⟨F2, rfl, ⟨h2, ea, eY, eG⟩, t2⟩
theorem mt_clear (h : (mtO c k0 s vt ve).J F k w) : Calls Tryz.prog 68 #[.pointer (some ⟨k0.a.p, 0, none⟩)] w fun e w' => ∃ F', e = .returned (.tuple #[]) ∧ (mtO c k0 s vt ve).J F' (k.ar 0 k.s.g k.s.ws) w' ∧ Tn F w F' w' := by
  obtain ⟨h, ea, eY, eG⟩ := h
  obtain ⟨hA, hU⟩ := mj_ar h
  have P := clear_any w hA
  rw [← ea]
  refine P.mono ?_
  rintro e w2 ⟨rfl, hA2, hs2⟩
  obtain ⟨F2, h2, t2⟩ := hU w2 _ _ _ hA2 hs2
  exact ⟨F2, rfl, ⟨h2, ea, eY, eG⟩, t2⟩
theorem mt_cards (h : (mtO c k0 s vt ve).J F k w) : w.cell? ⟨k0.a.pw, 1, none⟩ = some (.pointer (some ⟨k0.a.pc, 0, none⟩)) ∧ Calls Tryz.prog 69 #[.pointer (some ⟨k0.a.pc, 0, none⟩)] w fun e w' => ∃ F', e = .returned (.tuple #[]) ∧ (mtO c k0 s vt ve).J F' k.cdc w' ∧ Tn F w F' w' := by
  obtain ⟨h, ea, eY, eG⟩ := h
  obtain ⟨FW, g1, g2⟩ := mj_turn h
  obtain ⟨_, c1, _⟩ := wod_cells g1
  obtain ⟨pq, hc, hU⟩ := wod_cards g1
  have P := clearC_any w hc.hp
  rw [ea] at c1 P
  refine ⟨c1, P.mono ?_⟩
  rintro e w2 ⟨rfl, hC2, hs2⟩
  rw [← ea] at hC2 hs2
  obtain ⟨F1, j1, t1⟩ := hU w2 _ _ hC2 ⟨hs2.os, hs2.tape, hs2.output, hs2.size, fun b hb h1 _ => hs2.block b hb h1 h1⟩ (Or.inr (Nat.le_refl _))
  obtain ⟨F2, j2, t2⟩ := g2 _ _ _ j1 t1
  exact ⟨F2, rfl, ⟨j2, ea, eY, eG⟩, t2⟩
theorem mt_lists (h : (mtO c k0 s vt ve).J F k w) : w.cell? ⟨c.pk, 1, none⟩ = some c.yv ∧ w.cell? ⟨c.pk, 2, none⟩ = some c.ov ∧ w.ownsRow 0 3 1 c.yv k0.Y.length (k0.Y.map (Value.int .i64)) ∧ w.ownsRow 0 3 1 c.ov k0.G.length (k0.G.map (Value.int .i64)) := by
  obtain ⟨h, ea, eY, eG⟩ := h
  obtain ⟨_, d1, d2, _⟩ := mj_cells h
  obtain ⟨y, g⟩ := mj_things h
  rw [eY] at y
  rw [eG] at g
  exact ⟨d1, d2, y, g⟩

def SlG (k0 : Jk) (s : Js) (G : Nat → Jk × Int → Prop) : Prop :=
  (∀ j t, j < k0.G.length → G j t → s.f (k0.G.getD j 0) ≠ -1 → 0 ≤ s.f (k0.G.getD j 0) ∧ s.f (k0.G.getD j 0) + (1 + pf (t.1.ld (k0.G.getD j 0))) ≤ k0.a.N + k0.a.O ∧ k0.G.getD j 0 + (1 + pf (t.1.ld (k0.G.getD j 0))) ≤ k0.a.N + k0.a.O ∧ 0 ≤ t.2 ∧ t.2 ≤ 100000) ∧
  (∀ j t, j < k0.G.length → G j t → G (j + 1) (ejS (fun _ a => s.f a) (Jk.slS s) t (k0.G.getD j 0))) ∧ (∀ t, G k0.G.length t → 0 ≤ t.2 ∧ t.2 ≤ k0.a.O)

theorem slideE1_any {G : Nat → Jk × Int → Prop} (hG : SlG k0 s G) {t : Jk × Int} (h0 : G 0 t) (h : (obN (obX (mtO c k0 s vt ve) bp (boxJ c)) bn).J F t w) (hl : k0.G.length ≤ 4000) (hp : ∀ a ∈ k0.G, 0 ≤ a ∧ a ≤ 2000) {ad : Option Addr} {d : Nat} (hv : c.ov = .slice ad k0.G.length d) :
    Calls Tryz.prog 151 #[.pointer (some ⟨c.pk, 0, none⟩), .slice ad k0.G.length d, .func (.func 155) #[] #[.pointer (some ⟨bp, 0, none⟩), .pointer (some ⟨bn, 0, none⟩)]] w fun e w' => ∃ F', e = .returned (.tuple #[]) ∧ (obN (obX (mtO c k0 s vt ve) bp (boxJ c)) bn).J F' (ejL (fun _ a => s.f a) (Jk.slS s) t k0.G) w' ∧ Tn F w F' w' ∧ G k0.G.length (ejL (fun _ a => s.f a) (Jk.slS s) t k0.G) := by
  have hT : ∀ a ∈ k0.G, a ∈ k0.T := fun a ha => List.mem_append.2 (Or.inl ha)
  refine eachJ0_any (obN (obX (mtO c k0 s vt ve) bp (boxJ c)) bn) (fun _ a => s.f a) (fun t a => pf (t.1.ld a)) (Jk.slS s) G k0.T c.pk k0.a.pw k0.a.p c.mq 155 #[.pointer (some ⟨bp, 0, none⟩), .pointer (some ⟨bn, 0, none⟩)] ent_sl1 k0.G ad d F t w
    (by
      rintro F t w9 a h9
      obtain ⟨_, h8, _⟩ := obN_in h9
      obtain ⟨_, h1, _⟩ := obX_in h8
      have ea : t.1.a = k0.a := h1.2.1
      obtain ⟨c0, c3, c5, hM, hA⟩ := mt_cells h1
      refine ⟨c0, c3, c5, hM, (thing_any a w9 hA).mono ?_⟩
      rintro r w' ⟨rfl, hb⟩
      have el : pf (t.1.ld a) = pf (ld k0.a.N t.1.s.y t.1.s.g t.1.s.ws a) := by unfold Jk.ld; rw [ea]
      exact ⟨pk (ld k0.a.N t.1.s.y t.1.s.g t.1.s.ws a), pc (ld k0.a.N t.1.s.y t.1.s.g t.1.s.ws a), by rw [el], hb⟩)
    (fun t a => pf_bd _) (fun a ha => ⟨by have := hp a ha; omega, hT a ha⟩) (by omega)
    (by
      rintro j F t w9 hj hg hJ hf
      have hm : k0.G.getD j 0 ∈ k0.G := by rw [List.getD_eq_getElem?_getD, List.getElem?_eq_getElem hj]; exact List.getElem_mem hj
      have h1 := hp _ hm
      have h2 := pf_bd (t.1.ld (k0.G.getD j 0))
      obtain ⟨a1, a2, a3, a4, a5⟩ := hG.1 j t hj hg hf
      have e1 : ((1 + (pf (t.1.ld (k0.G.getD j 0))).toNat : Nat) : Int) = 1 + pf (t.1.ld (k0.G.getD j 0)) := by omega
      have P := slide1J_any (k := t.1) (u := t.2) hJ (k0.G.getD j 0) (1 + (pf (t.1.ld (k0.G.getD j 0))).toNat) (hT _ hm) h1 a1 (by rw [e1]; exact a2) (by rw [e1]; exact a3) ⟨a4, a5⟩ (by omega)
      rw [e1] at P
      exact P)
    hG.2.1 h0 h (fun F' t' w' hJ _ => ?_)
  obtain ⟨_, h8, _⟩ := obN_in hJ
  obtain ⟨_, h1, _⟩ := obX_in h8
  have hr := (mt_lists h1).2.2.2
  rw [hv] at hr
  exact row_ints hr
theorem slideE2_any (h : (obX (mtO c k0 s vt ve) bp (boxJ c)).J F k w) (hl : k0.Y.length ≤ 4000) (hp : ∀ a ∈ k0.Y, 0 ≤ a ∧ a ≤ 2000) {ad : Option Addr} {d : Nat} (hv : c.yv = .slice ad k0.Y.length d) :
    Calls Tryz.prog 151 #[.pointer (some ⟨c.pk, 0, none⟩), .slice ad k0.Y.length d, .func (.func 158) #[] #[.pointer (some ⟨bp, 0, none⟩)]] w fun e w' => ∃ F', e = .returned (.tuple #[]) ∧ (obX (mtO c k0 s vt ve) bp (boxJ c)).J F' (k.cpL s k0.Y) w' ∧ Tn F w F' w' := by
  have hT : ∀ a ∈ k0.Y, a ∈ k0.T := fun a ha => List.mem_append.2 (Or.inr ha)
  have E := eachJ0_any (obX (mtO c k0 s vt ve) bp (boxJ c)) (fun (_ : Jk) a => s.f a) (fun t a => pf (t.ld a)) (fun k a => k.cop a) (fun _ _ => True) k0.T c.pk k0.a.pw k0.a.p c.mq 158 #[.pointer (some ⟨bp, 0, none⟩)] ent_sl2 k0.Y ad d F k w
    (by
      rintro F t w9 a h9
      obtain ⟨_, h1, _⟩ := obX_in h9
      have ea : t.a = k0.a := h1.2.1
      obtain ⟨c0, c3, c5, hM, hA⟩ := mt_cells h1
      refine ⟨c0, c3, c5, hM, (thing_any a w9 hA).mono ?_⟩
      rintro r w' ⟨rfl, hb⟩
      have el : pf (t.ld a) = pf (ld k0.a.N t.s.y t.s.g t.s.ws a) := by unfold Jk.ld; rw [ea]
      exact ⟨pk (ld k0.a.N t.s.y t.s.g t.s.ws a), pc (ld k0.a.N t.s.y t.s.g t.s.ws a), by rw [el], hb⟩)
    (fun t a => pf_bd _) (fun a ha => ⟨by have := hp a ha; omega, hT a ha⟩) (by omega)
    (fun j F t w9 _ _ hJ _ => slide2J_any hJ _ _)
    (fun _ _ _ _ => trivial) trivial h (fun F' t' w' hJ _ => by
      obtain ⟨_, h1, _⟩ := obX_in hJ
      have hr := (mt_lists h1).2.2.1
      rw [hv] at hr
      exact row_ints hr)
  refine E.mono ?_
  rintro r w' ⟨F', rfl, h1, h2, _⟩
  exact ⟨F', rfl, h1, h2⟩
end

end Go.Proofs.YtmocakafnnkjfabGreat

/- A great cut in memory: slide: a contract. -/
namespace Go.Proofs.YtmocakafnnkjfabGreat
open Go.RowKit W Kp Stl

theorem Tn.less {X F F' : Nat → Prop} {w w' : World} (h : Tn X w F w') (hs : ∀ b, F' b → F b) : Tn X w F' w' := ⟨h.fr, fun b d => h.sub b (hs b d)⟩

theorem obX_in2 {τ : Type} {o : Ob τ} {bx : Nat} {x : Obj} {F : Nat → Prop} {w : World} {t : τ} (h : (obX o bx x).J F t w) : ∃ F0, o.J F0 t w ∧ w.heap[bx]? = some x ∧ bx < w.heap.size ∧ (∀ F1 t1 w1, o.J F1 t1 w1 → Tn F0 w F1 w1 → (obX o bx x).J (fun b => F1 b ∨ b = bx) t1 w1 ∧ Tn F w (fun b => F1 b ∨ b = bx) w1) ∧ ∀ b, F0 b → F b := by
  obtain ⟨F0, h, g2, g3, g4⟩ := h
  refine ⟨F0, h, g2, lt_of_some g2, fun F1 t1 w1 h1 hT => ⟨⟨F1, h1, (hT.fr.block bx (lt_of_some g2) g3).trans g2, fun d => (hT.sub bx d).elim g3 (fun d => by have := lt_of_some g2; omega), fun b => Iff.rfl⟩, ⟨hT.fr.mono (fun b hb => (g4 b).2 (Or.inl hb)), fun b hb => ?_⟩⟩, fun b hb => (g4 b).2 (Or.inl hb)⟩
  rcases hb with hb | hb
  · exact (hT.sub b hb).imp (fun d => (g4 b).2 (Or.inl d)) id
  · exact Or.inl ((g4 b).2 (Or.inr hb))

section
variable {c : Jc} {k : Jk} {vt ve : Value} {F : Nat → Prop} {s : Js} {w : World}

set_option maxRecDepth 100000 in
set_option maxHeartbeats 4000000 in
theorem slideJ_any {G : Nat → Jk × Int → Prop} (hG : SlG k s G) (hg0 : G 0 (k, 0)) (h : (mjV c k vt ve).J F s w) (hl : k.T.length ≤ 4000) (hp : ∀ a ∈ k.T, 0 ≤ a ∧ a ≤ 2000) :
    Calls Tryz.prog 92 #[.pointer (some ⟨c.pk, 0, none⟩)] w fun e w' => ∃ F', e = .returned (.tuple #[]) ∧ (mjV c (k.sl s) vt ve).J F' s w' ∧ Tn F w F' w' := by
  have hmf : ∀ (fn : Fn) (first cap : Array Value) (w : World), (Instr.makeFunc fn first cap).run Tryz.prog w = .ok (.func fn first cap) w := fun _ _ _ _ => rfl
  have hlT : k.T.length = k.G.length + k.Y.length := by unfold Jk.T; rw [List.length_append]
  have HG : Hid (SlG k s G ∧ G 0 (k, 0) ∧ (∀ a ∈ k.G, 0 ≤ a ∧ a ≤ 2000) ∧ (∀ a ∈ k.Y, 0 ≤ a ∧ a ≤ 2000) ∧ k.G.length ≤ 4000 ∧ k.Y.length ≤ 4000) := ⟨hG, hg0, fun a ha => hp a (List.mem_append.2 (Or.inl ha)), fun a ha => hp a (List.mem_append.2 (Or.inr ha)), by omega, by omega⟩
  have nF : ∀ b, F b → b < w.heap.size := (mjV c k vt ve).lt h
  obtain ⟨w0, hw0⟩ : ∃ w0, w.alloc (boxJ c) = w0 := ⟨_, rfl⟩
  have hb0 : Below w.heap.size w w0 := by rw [← hw0]; exact (Below.refl w.heap.size w).alloc (Nat.le_refl _) (boxJ c)
  have hs0 : w0.heap.size = w.heap.size + 1 := by rw [← hw0]; simp
  have hx0 : w0.heap[w.heap.size]? = some (boxJ c) := by rw [← hw0]; exact heap_alloc_new _ _
  obtain ⟨w1, hw1⟩ : ∃ w1, w0.alloc (boxI 0) = w1 := ⟨_, rfl⟩
  have hb1 : Below w0.heap.size w0 w1 := by rw [← hw1]; exact (Below.refl w0.heap.size w0).alloc (Nat.le_refl _) (boxI 0)
  have hx1 : w1.heap[w0.heap.size]? = some (boxI 0) := by rw [← hw1]; exact heap_alloc_new _ _
  have hbA : Below w.heap.size w w1 := hb0.trans (hb1.mono (by omega))
  have hJ1 : (mtO c k s vt ve).J F k w1 := ⟨(mjV c k vt ve).below h hbA, rfl, rfl, rfl⟩
  have hX1 : (obX (mtO c k s vt ve) w.heap.size (boxJ c)).J (fun b => F b ∨ b = w.heap.size) k w1 := ⟨F, hJ1, (hb1.block _ (by omega)).trans hx0, fun d => by have := nF _ d; omega, fun b => Iff.rfl⟩
  have hN1 : (obN (obX (mtO c k s vt ve) w.heap.size (boxJ c)) (w.heap.size + 1)).J (fun b => (F b ∨ b = w.heap.size) ∨ b = w.heap.size + 1) (k, 0) w1 := ⟨_, hX1, by rw [← hs0]; exact hx1, fun d => d.elim (fun d => by have := nF _ d; omega) (fun d => by omega), fun b => Iff.rfl⟩
  have e2 : w.cell? ⟨c.pk, 2, none⟩ = some c.ov := (mj_cells h).2.2.1
  have lk : c.pk < w.heap.size := (mj_cells h).2.2.2.2.2.2.2.2
  obtain ⟨_, d2o, yr, gr⟩ := mt_lists hJ1
  obtain ⟨ya, yc, ey⟩ := row_slice yr
  obtain ⟨ga, gc, eg⟩ := row_slice gr
  have d2 : w1.cell? ⟨c.pk, 2, none⟩ = some (.slice ga k.G.length gc) := by rw [d2o, eg]
  clear d2o
  rw [eg] at e2
  have EY : Hid (c.yv = .slice ya k.Y.length yc) := ey
  have EG : Hid (c.ov = .slice ga k.G.length gc) := eg
  have x0 : w1.cell? ⟨w.heap.size, 0, none⟩ = some (.pointer (some ⟨c.pk, 0, none⟩)) := by
    have e : w1.heap[w.heap.size]? = some (boxJ c) := (hb1.block _ (by omega)).trans hx0
    simp [World.cell?, e]
  have hd := (Below.refl w1.heap.size w1).drew
  have HN : Hid (Tn F w (fun b => (F b ∨ b = w.heap.size) ∨ b = w.heap.size + 1) w1.drew) := ⟨(Fr.of (X := F) hbA).trans (Fr.of (X := F) hd) (fun b d => Or.inl d), fun b d => d.elim (fun d => d.imp id (fun e => by omega)) (fun e => Or.inr (by omega))⟩
  have P1 := slideE1_any HG.out.1 HG.out.2.1 ((obN (obX (mtO c k s vt ve) w.heap.size (boxJ c)) (w.heap.size + 1)).below hN1 hd) HG.out.2.2.2.2.1 HG.out.2.2.1 eg
  obtain ⟨t1, ht1⟩ : ∃ t1, ejL (fun _ a => s.f a) (Jk.slS s) (k, 0) k.G = t1 := ⟨_, rfl⟩
  rw [ht1] at P1
  have HS1 : Hid (k.sl1 s = t1.1.ar t1.1.s.y t1.2.toNat t1.1.s.ws) := by
    show k.sl1 s = _
    unfold Jk.sl1 Jk.slL
    rw [ht1]
  have HE : Hid (k.sl s = ((k.sl2 s).ar 0 (k.sl2 s).s.g (k.sl2 s).s.ws).cdc ∧ k.sl2 s = (k.sl1 s).cpL s k.Y) := ⟨rfl, rfl⟩
  generalize k.sl s = k9 at HE ⊢
  generalize k.sl2 s = k3 at HE
  generalize k.sl1 s = k2 at HE HS1
  clear hG hg0 h hb0 hx0 hb1 hx1 hbA hJ1 hX1 hN1 yr gr ey eg hd ht1 nF hp hl hlT hs0
  subst hw1
  subst hw0
  have d2' : ((w.alloc (.cells #[.pointer (some ⟨c.pk, 0, none⟩)] 143 (0, 0))).alloc (.cells #[.int .i64 0] 3 (0, 0))).cell? ⟨c.pk, 2, none⟩ = some (.slice ga k.G.length gc) := d2
  go_enter Tryz.func92, Tryz.ntmps92
  go_wp2_with fail
  go_region_held3 (fun w' => w'.cell? ⟨w.heap.size, 0, none⟩ = some (.pointer (some ⟨c.pk, 0, none⟩)) ∧ w'.cell? ⟨c.pk, 2, none⟩ = some (.slice ga k.G.length gc)) (go_keep)
    (first
      | (go_at_call 151; refine P1.mono ?_; clear P1; rintro e w3 ⟨F3, rfl, j3, t3, g3⟩; have H3 : Hid ((obN (obX (mtO c k s vt ve) w.heap.size (boxJ c)) (w.heap.size + 1)).J F3 t1 w3 ∧ Tn F w F3 w3 ∧ 0 ≤ t1.2 ∧ t1.2 ≤ k.a.O) := ⟨j3, HN.out.trans t3, HG.out.1.2.2 _ g3⟩; obtain ⟨_, q1, _⟩ := obN_in j3; obtain ⟨_, q2, q3, _⟩ := obX_in q1; obtain ⟨_, y2o, _⟩ := mt_lists q2; have y0 : w3.cell? ⟨w.heap.size, 0, none⟩ = some (.pointer (some ⟨c.pk, 0, none⟩)) := (by simp [World.cell?, q3]); have y2 : w3.cell? ⟨c.pk, 2, none⟩ = some (.slice ga k.G.length gc) := (by rw [y2o, EG.out]); clear y2o j3 t3 g3 q1 q2 q3))
  all_goals
    have HP : Hid (∃ F4, (obX (mtO c k s vt ve) w.heap.size (boxJ c)).J F4 t1.1 w3.drew ∧ Tn F w F4 w3.drew ∧ ¬ F4 (w.heap.size + 1) ∧ w.heap.size + 1 < w3.heap.size) := by
      obtain ⟨F4, j4, j5, j6, j7⟩ := H3.out.1
      exact ⟨F4, (obX (mtO c k s vt ve) w.heap.size (boxJ c)).below j4 (Below.refl _ w3).drew, (H3.out.2.1.less (fun b d => (j7 b).2 (Or.inl d))).below (Below.refl _ w3).drew, j6, lt_of_some j5⟩
    obtain ⟨F4, j4, t4, n4, l4⟩ := HP.out
    obtain ⟨F5, j5, hx5, lb5, U5, i5⟩ := obX_in2 j4
    obtain ⟨v0o, _, v5o, _, _⟩ := mt_cells j5
    have v6 := (obN_cell H3.out.1).1
    have PC := mt_cutA j5 t1.2 H3.out.2.2.1 H3.out.2.2.2
    rw [← HS1.out] at PC
    have v0 : w3.cell? ⟨c.pk, 0, none⟩ = some (.pointer (some ⟨k.a.pw, 0, none⟩)) := v0o
    have v5 : w3.cell? ⟨k.a.pw, 0, none⟩ = some (.pointer (some ⟨k.a.p, 0, none⟩)) := v5o
    clear v0o v5o
    have HU5 : Hid (∀ F1 t1 w1, (mtO c k s vt ve).J F1 t1 w1 → Tn F5 w3.drew F1 w1 → (obX (mtO c k s vt ve) w.heap.size (boxJ c)).J (fun b => F1 b ∨ b = w.heap.size) t1 w1 ∧ Tn F w (fun b => F1 b ∨ b = w.heap.size) w1) := fun F1 t1 w1 h1 h2 => ⟨(U5 F1 t1 w1 h1 h2).1, t4.trans (U5 F1 t1 w1 h1 h2).2⟩
    have l6 : w.heap.size + 1 < w3.heap.size ∧ ¬ F5 (w.heap.size + 1) := ⟨l4, fun d => n4 (i5 _ d)⟩
    clear j4 t4 j5 hx5 lb5 U5 HP n4 l4 i5
    go_wp2_with fail
    go_region_held3 (fun w' => w'.cell? ⟨w.heap.size, 0, none⟩ = some (.pointer (some ⟨c.pk, 0, none⟩)) ∧ w'.cell? ⟨c.pk, 0, none⟩ = some (.pointer (some ⟨k.a.pw, 0, none⟩)) ∧ w'.cell? ⟨k.a.pw, 0, none⟩ = some (.pointer (some ⟨k.a.p, 0, none⟩)) ∧ w'.cell? ⟨w.heap.size + 1, 0, none⟩ = some (.int .i64 t1.2)) (go_keep)
      (first
        | (go_at_call 157; refine PC.mono ?_; clear PC; rintro e w4 ⟨F6, rfl, j6, t6⟩; obtain ⟨r0, _, r5, _, _⟩ := mt_cells j6; obtain ⟨j7, t7⟩ := HU5.out F6 _ w4 j6 t6; obtain ⟨_, _, e7, _⟩ := obX_in j7; have r1 : w4.cell? ⟨w.heap.size, 0, none⟩ = some (.pointer (some ⟨c.pk, 0, none⟩)) := (by simp [World.cell?, e7]); have r2 : w4.cell? ⟨w.heap.size + 1, 0, none⟩ = some (.int .i64 t1.2) := (World.cell?_of_block (a := ⟨w.heap.size + 1, 0, none⟩) (t6.fr.block _ (by simpa using l6.1) l6.2)).trans v6; have H7 : Hid ((obX (mtO c k s vt ve) w.heap.size (boxJ c)).J (fun b => F6 b ∨ b = w.heap.size) k2 w4 ∧ Tn F w (fun b => F6 b ∨ b = w.heap.size) w4) := ⟨j7, t7⟩; clear j6 t6 j7 t7 e7))
    all_goals
      clear r5 r2 v0 v5 v6 y0 y2 l6 HU5 H3
      have HP : Hid ((obX (mtO c k s vt ve) w.heap.size (boxJ c)).J (fun b => F6 b ∨ b = w.heap.size) k2 w4.drew ∧ Tn F w (fun b => F6 b ∨ b = w.heap.size) w4.drew) := ⟨(obX (mtO c k s vt ve) w.heap.size (boxJ c)).below H7.out.1 (Below.refl _ w4).drew, H7.out.2.below (Below.refl _ w4).drew⟩
      have PE := slideE2_any HP.out.1 HG.out.2.2.2.2.2 HG.out.2.2.2.1 EY.out
      rw [← HE.out.2] at PE
      have f1 : w4.cell? ⟨c.pk, 1, none⟩ = some (.slice ya k.Y.length yc) := by
        obtain ⟨_, q2, _⟩ := obX_in H7.out.1
        exact (mt_lists q2).1.trans (by rw [EY.out])
      clear H7 r0
      go_wp2_with fail
      go_region_held3 (fun w' => w'.cell? ⟨w.heap.size, 0, none⟩ = some (.pointer (some ⟨c.pk, 0, none⟩)) ∧ w'.cell? ⟨c.pk, 1, none⟩ = some (.slice ya k.Y.length yc)) (go_keep)
        (first
          | (go_at_call 151; refine PE.mono ?_; clear PE; rintro e w5 ⟨F8, rfl, j8, t8⟩; obtain ⟨_, q2, q3, _⟩ := obX_in j8; have m0 : w5.cell? ⟨w.heap.size, 0, none⟩ = some (.pointer (some ⟨c.pk, 0, none⟩)) := (by simp [World.cell?, q3]); have m1 : w5.cell? ⟨c.pk, 1, none⟩ = some (.slice ya k.Y.length yc) := (mt_lists q2).1.trans (by rw [EY.out]); have H8 : Hid ((obX (mtO c k s vt ve) w.heap.size (boxJ c)).J F8 k3 w5 ∧ Tn F w F8 w5) := ⟨j8, HP.out.2.trans t8⟩; clear j8 t8 q2 q3))
      all_goals
        clear f1 r1 m1 HP
        obtain ⟨F9, j9, hx9, lb9, U9⟩ := obX_in H8.out.1
        obtain ⟨v0, _, v5, _, _⟩ := mt_cells j9
        have PC := mt_clear j9
        have HU9 : Hid (∀ F1 t1 w1, (mtO c k s vt ve).J F1 t1 w1 → Tn F9 w5 F1 w1 → (obX (mtO c k s vt ve) w.heap.size (boxJ c)).J (fun b => F1 b ∨ b = w.heap.size) t1 w1 ∧ Tn F w (fun b => F1 b ∨ b = w.heap.size) w1) := fun F1 t1 w1 h1 h2 => ⟨(U9 F1 t1 w1 h1 h2).1, H8.out.2.trans (U9 F1 t1 w1 h1 h2).2⟩
        clear j9 hx9 lb9 U9 H8
        go_wp2_with fail
        refine PC.mono ?_
        clear PC
        rintro e w6 ⟨F10, rfl, j10, t10⟩
        obtain ⟨j11, t11⟩ := HU9.out F10 _ w6 j10 t10
        obtain ⟨F12, j12, hx12, lb12, U12⟩ := obX_in j11
        have z0 : w6.cell? ⟨w.heap.size, 0, none⟩ = some (.pointer (some ⟨c.pk, 0, none⟩)) := by simp [World.cell?, hx12]
        obtain ⟨z1, _, _, _, _⟩ := mt_cells j12
        obtain ⟨z2, PD⟩ := mt_cards j12
        rw [← HE.out.1] at PD
        have HU12 : Hid (∀ F1 t1 w1, (mtO c k s vt ve).J F1 t1 w1 → Tn F12 w6 F1 w1 → (obX (mtO c k s vt ve) w.heap.size (boxJ c)).J (fun b => F1 b ∨ b = w.heap.size) t1 w1 ∧ Tn F w (fun b => F1 b ∨ b = w.heap.size) w1) := fun F1 t1 w1 h1 h2 => ⟨(U12 F1 t1 w1 h1 h2).1, t11.trans (U12 F1 t1 w1 h1 h2).2⟩
        clear j10 t10 j11 t11 j12 hx12 lb12 U12 HU9 v0 v5 m0
        go_wp2_with fail
        refine PD.mono ?_
        clear PD
        rintro e w7 ⟨F13, rfl, j13, t13⟩
        have HF : Hid ((mjV c k9 vt ve).J F13 s w7 ∧ Tn F w F13 w7) := ⟨j13.1, (HU12.out F13 _ w7 j13 t13).2.less (fun b d => Or.inl d)⟩
        clear j13 t13 HU12 z0 z1 z2
        go_wp2_with fail
        go_end0
        exact ⟨F13, rfl, HF.out.1, HF.out.2⟩
end

end Go.Proofs.YtmocakafnnkjfabGreat

/- IndexFunc over a list of numbers; whole's closure: contracts. -/
namespace Go.Proofs.YtmocakafnnkjfabGreat
open Go.RowKit W Kp Stl

set_option maxRecDepth 100000 in
set_option maxHeartbeats 400000 in
theorem indexFI_any (f : Nat) (c : Array Value) (p : Int → Bool) (hf : Ent f) (w : World) (l : List Int)
    (hl : ∀ (w' : World) (x : Int), x ∈ l → Below w.heap.size w w' → Calls Tryz.prog f (#[.int .i64 x] ++ c) w' fun r w'' => r = .returned (.bool (p x)) ∧ Below w'.heap.size w' w'')
    (ad : Option Addr) (cap : Nat) (hm : l.length ≤ 100000) (hp : Ls w ad l) :
    Calls Tryz.prog 193 #[.slice ad l.length cap, .func (.func f) #[] c] w fun r w' => Below w.heap.size w w' ∧ ((r = .returned (.int .i64 (-1)) ∧ ∀ e ∈ l, p e = false) ∨ ∃ i : Nat, r = .returned (.int .i64 i) ∧ i < l.length ∧ p (l.getD i 0) = true ∧ ∀ e ∈ l.take i, p e = false) := by
  have HL : Hid (∀ (w' : World) (x : Int), x ∈ l → Below w.heap.size w w' → Calls Tryz.prog f (#[.int .i64 x] ++ c) w' fun r w'' => r = .returned (.bool (p x)) ∧ Below w'.heap.size w' w'') := hl
  have HP : Hid (Ls w ad l) := hp
  have hcf : ∀ (args : Array Value) (w : World), (callFunc f args).run Tryz.prog w = .ok (.enter f args) w := hf
  clear hl hp hf
  go_enter Tryz.func193, Tryz.ntmps193
  go_wp2_with fail
  go_loopw [8] (fun iv wr => ∃ j : Nat, j ≤ l.length ∧ iv = .int .i64 j ∧ Hid (∀ e ∈ l.take j, p e = false) ∧ Below w.heap.size w wr) (fun iv _ => l.length - (intOf iv).toNat)
  case atStart => exact ⟨0, Nat.zero_le _, rfl, by simp [Hid], Below.refl _ _⟩
  case round =>
    obtain ⟨j, hj, rfl, HE, hb⟩ := hrel
    by_cases hlt : j < l.length
    · obtain ⟨b0, o0, e0, hb0, hc⟩ := HP.out.below hb (by omega)
      have x1 := hc j hlt
      have hd : l.getD j 0 ∈ l := by rw [List.getD_eq_getElem?_getD, List.getElem?_eq_getElem hlt]; exact List.getElem_mem hlt
      obtain ⟨x, hx⟩ : ∃ x, l.getD j 0 = x := ⟨_, rfl⟩
      have HG : Hid (l.getD j 0 = x) := hx
      rw [hx] at x1 hd
      have P := HL.out wr x hd hb
      clear hc hx hd
      subst e0
      go_wp2_with fail
      refine P.mono ?_
      clear P
      rintro r w1 ⟨rfl, hb1⟩
      have hb2 := hb.trans (hb1.mono hb.size)
      clear hb hb1
      cases hp : p x
      · have HE' : Hid (∀ e ∈ l.take (j + 1), p e = false) := fun e he => by
          rw [take_snoc l j hlt 0, List.mem_append, List.mem_singleton] at he
          rcases he with he | he
          · exact HE.out e he
          · rw [he, HG.out]; exact hp
        clear hp
        go_wp2_with fail
        go_roundw
        case rel => exact ⟨j + 1, by omega, by go_num, HE', hb2⟩
        case measure => simp [intOf]; omega
      · have HPt : Hid (p (l.getD j 0) = true) := by show _ = _; rw [HG.out]; exact hp
        clear hp
        go_wp2_with fail
        go_ret
        exact ⟨hb2, Or.inr ⟨j, rfl, hlt, HPt.out, HE.out⟩⟩
    · obtain rfl : j = l.length := by omega
      rw [List.take_length] at HE
      go_wp2_with fail
      go_ret
      exact ⟨hb, Or.inl ⟨rfl, HE.out⟩⟩

theorem ent_wh1 : Ent 181 := ent_of Tryz.func181 (by kernel_rfl) rfl
set_option maxRecDepth 100000 in
set_option maxHeartbeats 400000 in
theorem whole1J_any {pk pw p q N O y g bx be : Nat} {ws : List Int} {e : Int} (w : World) (hA : At w p q N O y g ws) (c0 : w.cell? ⟨bx, 0, none⟩ = some (.pointer (some ⟨pk, 0, none⟩))) (c1 : w.cell? ⟨pk, 0, none⟩ = some (.pointer (some ⟨pw, 0, none⟩))) (c2 : w.cell? ⟨pw, 0, none⟩ = some (.pointer (some ⟨p, 0, none⟩))) (c3 : w.cell? ⟨be, 0, none⟩ = some (.int .i64 e)) (a : Int) (ha : 0 ≤ a ∧ a ≤ 100000) :
    Calls Tryz.prog 181 #[.int .i64 a, .pointer (some ⟨bx, 0, none⟩), .pointer (some ⟨be, 0, none⟩)] w fun r w' => r = .returned (.bool (decide (e ≤ a + pf (ld N y g ws a)))) ∧ Below w.heap.size w w' := by
  have P := thing_any a w hA
  have hf := pf_bd (ld N y g ws a)
  have lb := World.block_lt_of_cell? w _ c3
  generalize pf (ld N y g ws a) = m at P hf ⊢
  generalize W.pk (ld N y g ws a) = m1 at P
  generalize pc (ld N y g ws a) = m2 at P
  clear hA
  go_enter Tryz.func181, Tryz.ntmps181
  go_wp2_with fail
  refine P.mono ?_
  clear P
  rintro r w1 ⟨rfl, hb1⟩
  have d3 := (hb1.cell (p := ⟨be, 0, none⟩) lb).trans c3
  clear c0 c1 c2 c3
  go_wp2_with fail
  go_ret
  exact ⟨by first | rfl | (congr 2; simp; done) | (congr 2; simp; omega), hb1⟩

end Go.Proofs.YtmocakafnnkjfabGreat
