/- Joined: Sd5, Gr2. -/
import Derived.Test.YtogknhogphkddaaGreatJ07
import Derived.Test.YtogknhogphkddaaGreatJ06
import Derived.Test.YtogknhogphkddaaGreatJ03
/- What Settle does of what it may do wholly: a contract, over whatever looks. -/
namespace Go.Proofs.YtogknhogphkddaaGreat
open Go.RowKit W Kp Stl

theorem ent_settle1 : Ent 99 := ent_of Tryz.func99 (by kernel_rfl) rfl
theorem ent_settle2 : Ent 100 := ent_of Tryz.func100 (by kernel_rfl) rfl
theorem ent_settle31 : Ent 104 := ent_of Tryz.func104 (by kernel_rfl) rfl

def sln : Value → Nat
  | .slice _ n _ => n
  | _ => 0

def msr (n m : Nat) : Nat := if n = 0 then 0 else m + 1
theorem msr_lt {c d y n : Nat} (hc : ¬ c = 0) (h : y + n = d) : msr y n < msr c d := by
  unfold msr
  rw [if_neg hc]
  split <;> omega

theorem cell_set {w : World} {a : Addr} {p i : Nat} {v : Value} (h : a.block ≠ p) : (w.setCell ⟨p, i, none⟩ v).cell? a = w.cell? a := World.cell?_of_block (Below.heap_setCell _ _ _ _ h)
theorem set_two {w : World} {p : Nat} {x y v1 v2 : Value} {T : TypeId} (h : w.heap[p]? = some (.cells #[x, y] T (0, 0))) : ((w.setCell ⟨p, 0, none⟩ v1).setCell ⟨p, 1, none⟩ v2).heap[p]? = some (.cells #[v1, v2] T (0, 0)) := by
  simp only [World.setCell, Array.getElem?_modify, if_true, h, Option.map_some]
  simp
theorem Fr.unbox {F : Nat → Prop} {w w' : World} {p bl bg bs : Nat} {fa fk fn : Fv} (h : Fr (fun k => F k ∨ k = bl ∨ k = bg ∨ k = bs) w w') (hB : Bxs w p bl bg bs fa fk fn) (hB' : Bxs w' p bl bg bs fa fk fn) : Fr F w w' :=
  ⟨h.os, h.tape, h.output, h.size, fun k hk hx => by
    by_cases e1 : k = bl
    · rw [e1, hB.l, hB'.l]
    by_cases e2 : k = bg
    · rw [e2, hB.g, hB'.g]
    by_cases e3 : k = bs
    · rw [e3, hB.s, hB'.s]
    exact h.block k hk (by simp [hx, e1, e2, e3])⟩

set_option maxRecDepth 100000 in
set_option maxHeartbeats 2000000 in
theorem settle3_any {σ : Type} (o : SdOb σ) (D : Int → Prop) (fa fk fn : Fv) (is : σ → Int → Bool) (kp : σ → Int → Int × σ) (nw : σ → Int → Int) (hL : Lks o D fa fk fn is kp nw) (r : List En) (adr : Option Addr) (cr : Nat) (hvr : o.vr = .slice adr r.length cr) (hr : r.length ≤ 90000) (hD : ∀ e ∈ r, D e.1 ∧ D e.2)
    (F : Nat → Prop) (s : σ) (w : World) (hwS : ∀ e ∈ o.wt (stS o is kp s r), D e.1 ∧ D e.2) (hqr : (o.wt s).length + r.length ≤ 90000) (bl bg bs bc : Nat) (hJ : o.J F s w) (hB : Bxs w o.p bl bg bs fa fk fn) (hbc : w.heap[bc]? = some (.cells #[comesV bg bl bs] 99 (0, 0))) (h1 : ¬ F bl) (h2 : ¬ F bg) (h3 : ¬ F bs) (h4 : ¬ F bc) (h5 : bc ≠ bl ∧ bc ≠ bg ∧ bc ≠ bs) (hlp : Lp w adr r) :
    Calls Tryz.prog 102 #[.pointer (some ⟨bs, 0, none⟩), .pointer (some ⟨bl, 0, none⟩), .pointer (some ⟨bc, 0, none⟩), .pointer (some ⟨bg, 0, none⟩)] w fun e w' => ∃ a1 c1 a2 c2 F1 wm, e = .returned (.bool true) ∧ o.J F1 (stS o is kp s r) wm ∧ Fr (fun k => k = o.p) wm w' ∧
      w'.heap[o.p]? = some (.cells #[.slice a1 (stR o is kp nw s r).length c1, .slice a2 (stQ o is kp nw s r).length c2] 51 (0, 0)) ∧ w'.ownsRow w.heap.size 100 2 (.slice a1 (stR o is kp nw s r).length c1) (stR o is kp nw s r).length (ev (stR o is kp nw s r)) ∧
      w'.ownsRow w.heap.size 100 2 (.slice a2 (stQ o is kp nw s r).length c2) (stQ o is kp nw s r).length (ev (stQ o is kp nw s r)) ∧ Fr F w w' ∧ (∀ k, F1 k → F k ∨ w.heap.size ≤ k) ∧ (∀ k, some k = (Value.slice a1 (stR o is kp nw s r).length c1).ownBlock → ¬ F1 k) ∧ (∀ k, some k = (Value.slice a2 (stQ o is kp nw s r).length c2).ownBlock → ¬ F1 k) ∧ (∀ k, some k = (Value.slice a1 (stR o is kp nw s r).length c1).ownBlock → some k ≠ (Value.slice a2 (stQ o is kp nw s r).length c2).ownBlock) := by
  obtain ⟨ad0, cap0, hp, _, hFp, _⟩ := o.side hJ
  rw [hvr] at hp
  have c3 : w.cell? ⟨bs, 0, none⟩ = some (.pointer (some ⟨o.p, 0, none⟩)) := by simp [World.cell?, hB.s]
  have c4 : w.cell? ⟨o.p, 0, none⟩ = some (.slice adr r.length cr) := by simp [World.cell?, hp]
  have l1 : bl < w.heap.size := lt_of_some hB.l
  have l2 : bg < w.heap.size := lt_of_some hB.g
  have l3 : bs < w.heap.size := lt_of_some hB.s
  have l4 : bc < w.heap.size := lt_of_some hbc
  have HL : Hid (Lks o D fa fk fn is kp nw) := hL
  have HB : Hid (Bxs w o.p bl bg bs fa fk fn) := hB
  have HD : Hid (∀ e ∈ r, D e.1 ∧ D e.2) := hD
  have HW : Hid (∀ e ∈ o.wt (stS o is kp s r), D e.1 ∧ D e.2) := hwS
  have HC : Hid (w.heap[bc]? = some (.cells #[comesV bg bl bs] 99 (0, 0))) := hbc
  have c0 : w.cell? ⟨bl, 0, none⟩ = some fa.v := by simp [World.cell?, hB.l]
  have P1 := parted_pure (fun e => D e.1 ∧ D e.2) 104 #[] #[.pointer (some ⟨bl, 0, none⟩)] (fun e => is s e.2) ent_settle31 w (fun w' e hd hs hk => lives_any o.toOb D fa is hL.ea hL.ha F s w' bl e hd.2 (o.keep hJ hs (fun k h => hk k (o.lt hJ k h))) ((World.cell?_of_block (a := ⟨bl, 0, none⟩) (hk bl l1)).trans c0)) r adr cr hD (by omega) hlp
  obtain ⟨A, HA⟩ : ∃ A, Hid (A = r.filter (fun e => is s e.2)) := ⟨_, rfl⟩
  obtain ⟨B, HBd⟩ : ∃ B, Hid (B = r.filter (fun e => !is s e.2)) := ⟨_, rfl⟩
  rw [← HA.out, ← HBd.out] at P1
  have hAl : A.length ≤ 90000 := by rw [HA.out]; exact Nat.le_trans (List.length_filter_le _ _) hr
  have hBl : B.length ≤ 90000 := by rw [HBd.out]; exact Nat.le_trans (List.length_filter_le _ _) hr
  have hqB : (o.wt s).length + B.length ≤ 90000 := by have := List.length_filter_le (fun e => !is s e.2) r; rw [HBd.out]; omega
  have HS : Hid ((trn (cm o is kp) (B.length + 1) s B).1 = stS o is kp s r) := by show _ = _; rw [HBd.out]; rfl
  have HDA : Hid (∀ e ∈ A, D e.1 ∧ D e.2) := fun e he => hD e (by rw [HA.out] at he; exact (List.mem_filter.1 he).1)
  have HDB : Hid (∀ e ∈ B, D e.1 ∧ D e.2) := fun e he => hD e (by rw [HBd.out] at he; exact (List.mem_filter.1 he).1)
  have HJ : Hid ((boxed o bl bg bs fa fk fn).J (fun k => F k ∨ k = bl ∨ k = bg ∨ k = bs) s w) := ⟨F, hJ, hB, h1, h2, h3, fun k => Iff.rfl⟩
  clear hL hJ hp hvr hlp hbc hD hB c0
  go_enter Tryz.func102, Tryz.ntmps102
  go_wp2_with fail
  refine P1.mono ?_
  clear P1
  rintro e w1 ⟨a1, ca1, a2, ca2, rfl, hA1, hB1, hb1⟩
  have hfr1 : Fr (fun k => F k ∨ k = bl ∨ k = bg ∨ k = bs) w w1 := Fr.of hb1
  have hJ1 := (boxed o bl bg bs fa fk fn).below HJ.out hb1
  have HF1 : Hid (∀ k, (F k ∨ k = bl ∨ k = bg ∨ k = bs) → (F k ∨ k = bl ∨ k = bg ∨ k = bs) ∨ w.heap.size ≤ k) := fun k h => Or.inl h
  have hlt := (boxed o bl bg bs fa fk fn).lt HJ.out
  have HA2 : Hid (∀ k, some k = (Value.slice a1 A.length ca1).ownBlock → ¬ (F k ∨ k = bl ∨ k = bg ∨ k = bs)) := fun k e h => by have := (row_lt hA1 k e).1; have := hlt k h; omega
  have HB2 : Hid (∀ k, some k = (Value.slice a2 B.length ca2).ownBlock → ¬ (F k ∨ k = bl ∨ k = bg ∨ k = bs)) := fun k e h => by have := (row_lt hB1 k e).1; have := hlt k h; omega
  clear hlt hb1
  go_wp2_with fail
  go_loopw [6, 7] (fun vd vc wr => ∃ (d C : List En) (ad ac : Option Addr) (cd cc n : Nat) (F2 : Nat → Prop) (s2 : σ), vd = .slice ad d.length cd ∧ vc = .slice ac C.length cc ∧ Hid (C.length = 0 → s2 = stS o is kp s r) ∧ Hid (¬ C.length = 0 → (trn (cm o is kp) n s2 d).1 = stS o is kp s r ∧ d.length < n) ∧ Hid (∀ e ∈ d, D e.1 ∧ D e.2) ∧ d.length ≤ 90000 ∧ C.length ≤ 90000 ∧ (o.wt s2).length + d.length ≤ 90000 ∧
      wr.ownsRow w.heap.size 100 2 (.slice ad d.length cd) d.length (ev d) ∧ wr.ownsRow w.heap.size 100 2 (.slice a1 A.length ca1) A.length (ev A) ∧ (boxed o bl bg bs fa fk fn).J F2 s2 wr ∧ Fr (fun k => F k ∨ k = bl ∨ k = bg ∨ k = bs) w wr ∧ Hid (∀ k, F2 k → (F k ∨ k = bl ∨ k = bg ∨ k = bs) ∨ w.heap.size ≤ k) ∧
      Hid (∀ k, some k = (Value.slice a1 A.length ca1).ownBlock → ¬ F2 k) ∧ Hid (∀ k, some k = (Value.slice ad d.length cd).ownBlock → ¬ F2 k)) (fun vd vc _ => msr (sln vc) (sln vd))
  case atStart =>
    refine ⟨B, B, a2, a2, ca2, ca2, B.length + 1, (fun k => F k ∨ k = bl ∨ k = bg ∨ k = bs), s, rfl, rfl, fun h => ?_, fun _ => ⟨HS.out, Nat.lt_succ_self _⟩, HDB, hBl, hBl, hqB, hB1, hA1, hJ1, hfr1, HF1, HA2, HB2⟩
    rw [← HS.out, List.eq_nil_of_length_eq_zero h]
    rfl
  case round =>
    clear hA1 hB1 hJ1 hfr1 HF1 HA2 HB2
    obtain ⟨d, C, ad, ac, cd, cc, n, F2, s2, rfl, rfl, H0, HN, HDd, hdl, hCl, hqd, hd, hA, hJ2, hfr, HF2, HA2, Hd2⟩ := hrel
    by_cases hC : C.length = 0
    · have HS2 : Hid (s2 = stS o is kp s r) := H0.out hC
      obtain ⟨F0, j0, hBx, n1, n2, n3, hF0⟩ := hJ2
      have x2 : wr.cell? ⟨bg, 0, none⟩ = some (.func (.func 99) #[] #[.pointer (some ⟨bl, 0, none⟩)]) := by simp [World.cell?, hBx.g]
      have x0 : wr.cell? ⟨bl, 0, none⟩ = some fa.v := by simp [World.cell?, hBx.l]
      have x5 : wr.cell? ⟨bl, 2, none⟩ = some (.func (.func fn.f) fn.b fn.c) := by simp [World.cell?, hBx.l]
      have x3 : wr.cell? ⟨bs, 0, none⟩ = some (.pointer (some ⟨o.p, 0, none⟩)) := by simp [World.cell?, hBx.s]
      obtain ⟨ad5, cap5, hp5, hLi5, hFp5, hFa5⟩ := o.side j0
      have x4 : wr.cell? ⟨o.p, 1, none⟩ = some (.slice ad5 (o.wt s2).length cap5) := by simp [World.cell?, hp5]
      have m1 := lt_of_some hBx.l
      have m2 := lt_of_some hBx.g
      have m3 := lt_of_some hBx.s
      have m4 := lt_of_some hp5
      have hsz := hfr.size
      have HG : Hid (∀ (w' : World) (e : En), D e.1 ∧ D e.2 → wr.heap.size ≤ w'.heap.size → (∀ k, k < wr.heap.size → w'.heap[k]? = wr.heap[k]?) → Calls Tryz.prog 99 ((#[] : Array Value).push (en e) ++ #[.pointer (some ⟨bl, 0, none⟩)]) w' fun r w'' => r = .returned (.bool (is s2 e.1)) ∧ Below w'.heap.size w' w'') :=
        fun w' e hd hs hk => guarded_any o.toOb D fa is HL.out.ea HL.out.ha F0 s2 w' bl e hd.1 (o.keep j0 hs (fun k h => hk k (o.lt j0 k h))) ((World.cell?_of_block (a := ⟨bl, 0, none⟩) (hk bl m1)).trans x0)
      have P3 := parted_pure (fun e => D e.1 ∧ D e.2) 99 #[] #[.pointer (some ⟨bl, 0, none⟩)] (fun e => is s2 e.1) ent_settle1 wr HG.out A a1 ca1 HDA.out (by omega) (row_pairs hA)
      obtain ⟨R0, HR0⟩ : ∃ R0, Hid (R0 = A.filter (fun e => is s2 e.1)) := ⟨_, rfl⟩
      rw [← HR0.out] at P3
      have hRl : R0.length ≤ 90000 := by rw [HR0.out]; exact Nat.le_trans (List.length_filter_le _ _) hAl
      have HDR : Hid (∀ e ∈ R0, D e.1 ∧ D e.2) := fun e he => HDA.out e (by rw [HR0.out] at he; exact (List.mem_filter.1 he).1)
      have hql : (o.wt s2).length ≤ 90000 := by omega
      have HDQ : Hid (∀ e ∈ o.wt s2, D e.1 ∧ D e.2) := by rw [HS2.out]; exact HW
      obtain ⟨Q0, HQ0⟩ : ∃ Q0, Hid (Q0 = (o.wt s2).filter (fun e => is s2 e.1)) := ⟨_, rfl⟩
      have hQl : Q0.length ≤ 90000 := by rw [HQ0.out]; exact Nat.le_trans (List.length_filter_le _ _) hql
      have HDQ0 : Hid (∀ e ∈ Q0, D e.1 ∧ D e.2) := fun e he => HDQ.out e (by rw [HQ0.out] at he; exact (List.mem_filter.1 he).1)
      have HBx : Hid (Bxs wr o.p bl bg bs fa fk fn) := hBx
      have HJ0 : Hid (o.J F0 s2 wr) := j0
      have HLi : Hid (Li wr ad5 (o.wt s2) cap5) := hLi5
      have HFr : Hid (Fr (fun k => F k ∨ k = bl ∨ k = bg ∨ k = bs) w wr) := hfr
      clear hd hA hBx j0 hLi5 hfr H0 HN HA2 Hd2 hFa5
      go_wp2_with fail
      refine P3.mono ?_
      clear P3
      rintro e w3 ⟨b1, cb1, b2, cb2, rfl, hR, _, hb3⟩
      have P4 := parted_pure (fun e => D e.1 ∧ D e.2) 99 #[] #[.pointer (some ⟨bl, 0, none⟩)] (fun e => is s2 e.1) ent_settle1 w3.drew (fun w' e hd hs hk => HG.out w' e hd (Nat.le_trans hb3.size hs) (fun k h => (hk k (Nat.lt_of_lt_of_le h hb3.size)).trans (hb3.block k h))) (o.wt s2) ad5 cap5 HDQ.out (by omega) (HLi.out.lp.below hb3.drew)
      rw [← HQ0.out] at P4
      have y2 := (hb3.cell (p := ⟨bg, 0, none⟩) m2).trans x2
      have y3 := (hb3.cell (p := ⟨bs, 0, none⟩) m3).trans x3
      have y4 := (hb3.cell (p := ⟨o.p, 1, none⟩) m4).trans x4
      have y5 := (hb3.cell (p := ⟨bl, 2, none⟩) m1).trans x5
      go_wp2_with fail
      have lz := hb3.size
      go_region_held3 (fun w' => w'.cell? ⟨bs, 0, none⟩ = some (.pointer (some ⟨o.p, 0, none⟩)) ∧ w'.cell? ⟨o.p, 1, none⟩ = some (.slice ad5 (o.wt s2).length cap5) ∧ w'.cell? ⟨bg, 0, none⟩ = some (.func (.func 99) #[] #[.pointer (some ⟨bl, 0, none⟩)])) (go_keep)
        (first | (go_at_call 103; refine P4.mono ?_; rintro e w5 ⟨d1, cd1, d2, cd2, rfl, hQ, _, hb5⟩; have z2 := (hb5.cell (p := ⟨bg, 0, none⟩) (Nat.lt_of_lt_of_le m2 lz)).trans y2; have z3 := (hb5.cell (p := ⟨bs, 0, none⟩) (Nat.lt_of_lt_of_le m3 lz)).trans y3; have z4 := (hb5.cell (p := ⟨o.p, 1, none⟩) (Nat.lt_of_lt_of_le m4 lz)).trans y4; have z5 := (hb5.cell (p := ⟨bl, 2, none⟩) (Nat.lt_of_lt_of_le m1 lz)).trans y5))
      have hbw5 : Below wr.heap.size wr w5 := hb3.drew.trans (hb5.mono lz)
      have l5 : w3.heap.size ≤ w5.heap.size := hb5.size
      have hR5 := row_keep (w := w3) hR (fun k e => hb5.block k (row_lt hR k e).2)
      have hJ5 := o.below HJ0.out hbw5
      have hp6 := (hbw5.block o.p m4).trans hp5
      have np1 : o.p ≠ bs := fun e => n3 (by rw [← e]; exact hFp5)
      have np2 : o.p ≠ bl := fun e => n1 (by rw [← e]; exact hFp5)
      have np3 : o.p ≠ bg := fun e => n2 (by rw [← e]; exact hFp5)
      have HF0 : Hid (∀ k, F0 k → F k ∨ w.heap.size ≤ k) := fun k h => by
        rcases HF2.out k ((hF0 k).2 (Or.inl h)) with (c | c | c | c) | c
        · exact Or.inl c
        · exact absurd (by rw [← c]; exact h) n1
        · exact absurd (by rw [← c]; exact h) n2
        · exact absurd (by rw [← c]; exact h) n3
        · exact Or.inr c
      have HFp : Hid (F0 o.p) := hFp5
      have lq : o.p < w5.heap.size := lt_of_some hp6
      have ls5 : bs < w5.heap.size := by omega
      have lb5 : bl < w5.heap.size := by omega
      have hR9 : R0.length ≤ 100000 := by omega
      have hQ9 : Q0.length ≤ 100000 := by omega
      have hPR := row_pairs hR5
      have hPQ := row_pairs hQ
      have hJd := o.below hJ5 (Below.refl w5.heap.size w5).drew
      have hPd := hPR.below (Below.refl w5.heap.size w5).drew
      have hQd := hPQ.below (Below.refl w5.heap.size w5).drew
      clear hR hb5 hb3 y2 y3 y4 y5 x0 x2 x3 x4 x5 P4 z2 z4 hp5 hFp5 n1 n2 n3 hF0
      go_wp2_with fail
      go_region_held3 (fun w' => w'.cell? ⟨bs, 0, none⟩ = some (.pointer (some ⟨o.p, 0, none⟩)) ∧ w'.cell? ⟨bl, 2, none⟩ = some (.func (.func fn.f) fn.b fn.c)) (first | exact ⟨z3, z5⟩ | exact ⟨u3, u5⟩ | exact ⟨v3, v5⟩ | exact ⟨(cell_set np1.symm).trans v3, (cell_set np2.symm).trans v5⟩ | exact ⟨(cell_set np1.symm).trans ((cell_set np1.symm).trans v3), (cell_set np2.symm).trans ((cell_set np2.symm).trans v5)⟩)
        (first | (have hb8 := hb7; go_at_call 105; refine (told_any o.toOb D fn.f fn.b fn.c nw HL.out.en HL.out.ht Q0 d1 cd1 F0 s2 _ HDQ0.out hQ9 (o.below hJd hb7) (hQd.below hb7)).mono ?_; rintro e w9 ⟨e2, ce2, rfl, hT2, hb9⟩; have l9 := hb9.size; have v3 := (hb9.cell (p := ⟨bs, 0, none⟩) (Nat.lt_of_lt_of_le ls5 l7)).trans u3; have v5 := (hb9.cell (p := ⟨bl, 2, none⟩) (Nat.lt_of_lt_of_le lb5 l7)).trans u5; have hp9 := (hb9.block o.p (Nat.lt_of_lt_of_le lq l7)).trans ((hb7.block o.p lq).trans hp6); have q0 : w9.cell? ⟨o.p, 0, none⟩ = some o.vr := (by simp [World.cell?, hp9]); have q1 : w9.cell? ⟨o.p, 1, none⟩ = some (.slice ad5 (o.wt s2).length cap5) := (by simp [World.cell?, hp9]); have f0 : w9.frozen? ⟨o.p, 0, none⟩ = false := (by simp [World.frozen?, hp9]); have f1 : w9.frozen? ⟨o.p, 1, none⟩ = false := (by simp [World.frozen?, hp9]))
               | (go_at_call 105; refine (told_any o.toOb D fn.f fn.b fn.c nw HL.out.en HL.out.ht R0 b1 cb1 F0 s2 _ HDR.out hR9 hJd hPd).mono ?_; rintro e w7 ⟨e1, ce1, rfl, hT1, hb7⟩; have l7 := hb7.size; have u3 := (hb7.cell (p := ⟨bs, 0, none⟩) ls5).trans z3; have u5 := (hb7.cell (p := ⟨bl, 2, none⟩) lb5).trans z5))
      have hb57 : Below w5.heap.size w5 w7 := (Below.refl w5.heap.size w5).drew.trans (hb7.mono (Nat.le_refl _))
      have hb59 : Below w5.heap.size w5 w9 := hb57.trans (hb9.mono l7)
      have hbw9 : Below wr.heap.size wr w9 := hbw5.trans (hb59.mono hbw5.size)
      have hJ9 := o.below hJ5 hb59
      have HT1 : Hid (w7.ownsRow w5.heap.size 100 2 (.slice e1 R0.length ce1) R0.length (ev (R0.map fun e => (nw s2 e.1, nw s2 e.2)))) := hT1
      have HT2 : Hid (w9.ownsRow w5.heap.size 100 2 (.slice e2 Q0.length ce2) Q0.length (ev (Q0.map fun e => (nw s2 e.1, nw s2 e.2)))) := row_base hT2 (fun k e => Nat.le_trans l7 (row_lt hT2 k e).1)
      have HB9 : Hid (Below w7.heap.size w7 w9) := hb9
      have HNE : Hid (∀ k, some k = (Value.slice e1 R0.length ce1).ownBlock → some k ≠ (Value.slice e2 Q0.length ce2).ownBlock) := fun k e e' => by
        have h1 := (row_lt hT1 k e).2
        have h2 := (row_lt hT2 k e').1
        omega
      clear hT1 hT2 hb7 hb9 hPd hQd hJd hPR hPQ hR5 hQ u3 u5 v3 v5 z3 z5 q0 q1 f0 f1
      go_wp2_with fail
      go_ret
      have eR : stR o is kp nw s r = R0.map fun e => (nw s2 e.1, nw s2 e.2) := by
        unfold stR
        rw [← HS2.out, ← HA.out, ← HR0.out]
      have eQ : stQ o is kp nw s r = Q0.map fun e => (nw s2 e.1, nw s2 e.2) := by
        unfold stQ
        rw [← HS2.out, ← HQ0.out]
      have kp9 : ∀ k, k ≠ o.p → ((w9.setCell ⟨o.p, 0, none⟩ (.slice e1 R0.length ce1)).setCell ⟨o.p, 1, none⟩ (.slice e2 Q0.length ce2)).heap[k]? = w9.heap[k]? := fun k hk => (Below.heap_setCell _ _ _ _ hk).trans (Below.heap_setCell _ _ _ _ hk)
      have hT1 := HT1.out
      have hT2 := HT2.out
      have hsw := HFr.out.size
      have hsr := hbw5.size
      have hBx9 : Bxs ((w9.setCell ⟨o.p, 0, none⟩ (.slice e1 R0.length ce1)).setCell ⟨o.p, 1, none⟩ (.slice e2 Q0.length ce2)) o.p bl bg bs fa fk fn :=
        ⟨(kp9 bl np2.symm).trans ((hbw9.block bl m1).trans HBx.out.l), (kp9 bg np3.symm).trans ((hbw9.block bg m2).trans HBx.out.g), (kp9 bs np1.symm).trans ((hbw9.block bs m3).trans HBx.out.s)⟩
      have hfp : Fr (fun k => k = o.p) w9 ((w9.setCell ⟨o.p, 0, none⟩ (.slice e1 R0.length ce1)).setCell ⟨o.p, 1, none⟩ (.slice e2 Q0.length ce2)) := ((Fr.refl (fun k => k = o.p) w9).set o.p 0 _ rfl).set o.p 1 _ rfl
      rw [eR, eQ, List.length_map, List.length_map, ← HS2.out]
      refine ⟨e1, ce1, e2, ce2, F0, w9, rfl, hJ9, hfp, set_two hp9, ?_, ?_, ?_, HF0.out, fun k e h => ?_, fun k e h => ?_, HNE.out⟩
      · refine row_base (row_keep hT1 (fun k e => ?_)) (fun k e => Nat.le_trans (Nat.le_trans hsw hsr) (row_lt hT1 k e).1)
        have := row_lt hT1 k e
        exact (kp9 k (by omega)).trans (HB9.out.block k this.2)
      · refine row_base (row_keep hT2 (fun k e => ?_)) (fun k e => Nat.le_trans (Nat.le_trans hsw hsr) (row_lt hT2 k e).1)
        have := row_lt hT2 k e
        exact kp9 k (by omega)
      · exact ((HFr.out.trans (Fr.of (X := fun _ => False) hbw9) (fun _ c => c.elim)).trans hfp (fun i c => by rw [c]; exact (HF0.out o.p HFp.out).imp Or.inl id)).unbox HB.out hBx9
      · have := o.lt hJ5 k h
        have := (row_lt hT1 k e).1
        omega
      · have := o.lt hJ5 k h
        have := (row_lt hT2 k e).1
        omega
    · have x1 : wr.cell? ⟨bc, 0, none⟩ = some (comesV bg bl bs) := by
        have hk := hfr.block bc l4 (by simp [h4, h5])
        simp [World.cell?, hk, HC.out]
      have hG : ∀ j, j < d.length → ∀ x, (o.wt (kp (pts (cm o is kp) s2 (d.take j)).2.2 x).2).length ≤ 90000 := fun j hj x => by
        have h1 := pts_wait o is kp HL.out.hl s2 (d.take j)
        have h2 := pts_len (cm o is kp) s2 (d.take j)
        rw [HL.out.hl, h1]
        simp at h2
        omega
      have P2 := parted_any (boxed o bl bg bs fa fk fn) (fun e => D e.1 ∧ D e.2) (fun s => ∀ x, (o.wt (kp s x).2).length ≤ 90000) 100 #[] #[.pointer (some ⟨bg, 0, none⟩), .pointer (some ⟨bl, 0, none⟩), .pointer (some ⟨bs, 0, none⟩)] (cm o is kp) ent_settle2 (looks_comes o bl bg bs D fa fk fn is kp HL.out.ea HL.out.ek HL.out.ha HL.out.hk) d ad cd F2 s2 wr HDd.out hG (by omega) hJ2 ((row_pairs hd).apart (fun _ z e => Hd2.out z.block (by rw [e]; rfl)))
      obtain ⟨Y, N, s3, HE⟩ : ∃ Y N s3, Hid (pts (cm o is kp) s2 d = (Y, N, s3)) := ⟨_, _, _, rfl⟩
      have hYN := pts_len (cm o is kp) s2 d
      have hWt := pts_wait o is kp HL.out.hl s2 d
      have HM := pts_mem (cm o is kp) s2 d
      rw [HE.out] at P2 hYN HM hWt
      dsimp only at P2 hYN HM hWt
      have hqN : (o.wt s3).length + N.length ≤ 90000 := by omega
      clear hWt hG
      obtain ⟨n, rfl⟩ : ∃ m, n = m + 1 := ⟨n - 1, by have := (HN.out hC).2; omega⟩
      have H0' : Hid (Y.length = 0 → s3 = stS o is kp s r) := fun h => by
        have e := trn_stop (cm o is kp) n s2 d (by rw [HE.out]; exact h)
        rw [← (HN.out hC).1, e, HE.out]
      have HN' : Hid (¬ Y.length = 0 → (trn (cm o is kp) n s3 N).1 = stS o is kp s r ∧ N.length < n) := fun h => by
        have e := trn_go (cm o is kp) n s2 d (by rw [HE.out]; exact h)
        refine ⟨?_, ?_⟩
        · rw [← (HN.out hC).1, e, HE.out]
        · have := (HN.out hC).2
          omega
      have HDN : Hid (∀ e ∈ N, D e.1 ∧ D e.2) := fun e he => HDd.out e (HM e (Or.inr he))
      clear HM
      go_wp2_with fail
      refine P2.mono ?_
      clear P2
      rintro e w2 ⟨b1, cb1, b2, cb2, F3, rfl, hY, hN, hJ3, hfr3, hF3, hY2, hN2⟩
      have hsz := hfr.size
      have HF3 : Hid (∀ k, F3 k → (F k ∨ k = bl ∨ k = bg ∨ k = bs) ∨ w.heap.size ≤ k) := fun k h => (hF3 k h).elim (HF2.out k) (fun h => Or.inr (by omega))
      have HA3 : Hid (∀ k, some k = (Value.slice a1 A.length ca1).ownBlock → ¬ F3 k) := fun k e h => (hF3 k h).elim (HA2.out k e) (fun h => by have := (row_lt hA k e).2; omega)
      have HN3 : Hid (∀ k, some k = (Value.slice b2 N.length cb2).ownBlock → ¬ F3 k) := hN2
      have hA3 := row_fr hA hfr3 HA2.out
      have hfr4 := hfr.trans hfr3 HF2.out
      have hN4 := row_base hN (base' := w.heap.size) (fun k e => Nat.le_trans hsz (row_lt hN k e).1)
      clear hF3 hY2 hN2 hY hN hA hfr hfr3 hJ2 HF2 HA2 Hd2 hd H0 HN x1
      go_wp2_with fail
      go_roundw
      case rel => exact ⟨N, Y, b2, b1, cb2, cb1, n, F3, s3, rfl, rfl, H0', HN', HDN, by omega, by omega, hqN, hN4, hA3, hJ3, hfr4, HF3, HA3, HN3⟩
      case measure =>
        exact msr_lt hC hYN

end Go.Proofs.YtogknhogphkddaaGreat

/- The document's world: inSet, and what Grown adds by: contracts. -/
namespace Go.Proofs.YtogknhogphkddaaGreat
open Go.RowKit W Kp Stl

set_option maxRecDepth 100000 in
set_option maxHeartbeats 1000000 in
theorem inSet_any (w : World) (ad : Option Addr) (c : Nat) (L : List Bool) (v : Int × Int) (h : Lb w ad L) (hv : v.1 = 3 → 0 ≤ v.2 ∧ v.2 < L.length) (hm : L.length ≤ 100000) :
    Calls Tryz.prog 54 #[.slice ad L.length c, .agg #[.int .i64 v.1, .int .i64 v.2]] w fun e w' => e = .returned (.bool (inS L v)) ∧ Below w.heap.size w w' := by
  obtain ⟨k, n⟩ := v
  dsimp only at hv ⊢
  have hb0 := (Below.refl w.heap.size w).alloc (Nat.le_refl _) (.cells #[.int .i64 k, .int .i64 n] 54)
  by_cases hk : k = 3
  · subst hk
    obtain ⟨n0, n1⟩ := hv rfl
    obtain ⟨n, rfl⟩ := Int.eq_ofNat_of_zero_le n0
    obtain ⟨b, rfl, hb, hc⟩ := h (by omega)
    have e : inS L (3, (n : Int)) = L.getD n false := by
      unfold inS
      simp
    rw [e]
    have x1 := (hb0.cell (p := ⟨b, n, none⟩) hb).trans (hc n (by omega))
    have n2 : (0 : Int) ≤ (n : Int) := by omega
    clear hc hv e n0
    generalize L.getD n false = r at *
    go_enter Tryz.func54, Tryz.ntmps54
    go_wp2_with fail
    go_ret
    exact ⟨rfl, hb0⟩
  · have e : inS L (k, n) = true := by
      unfold inS
      simp [hk]
    rw [e]
    have kb : (k != 3) = true := by simpa using hk
    have kb2 : (k == 3) = false := by simpa using hk
    clear hv e h
    go_enter Tryz.func54, Tryz.ntmps54
    go_wp2_with fail
    go_ret
    exact ⟨rfl, hb0⟩

set_option maxRecDepth 100000 in
set_option maxHeartbeats 1000000 in
theorem add_any (w : World) (ob : Nat) (ad : Option Addr) (c base : Nat) (L : List Bool) (v : Int × Int) (h : Bbx w ob ad c base L) (hv : v.1 = 3 → 0 ≤ v.2 ∧ v.2 < L.length) (hm : L.length ≤ 100000) :
    Calls Tryz.prog 76 #[.agg #[.int .i64 v.1, .int .i64 v.2], .pointer (some ⟨ob, 0, none⟩)] w fun e w' => e = .returned (.bool (!inS L v)) ∧ Bbx w' ob ad c base (adS L v) ∧ Fr (fun k => some k = (Value.slice ad L.length c).ownBlock) w w' := by
  have hb0 := (Below.refl w.heap.size w).alloc (Nat.le_refl _) (.cells #[.int .i64 v.1, .int .i64 v.2] 54)
  have hx0 := heap_alloc_new w (.cells #[.int .i64 v.1, .int .i64 v.2] 54)
  have B0 := h.below hb0
  have PI := inSet_any (w.alloc (.cells #[.int .i64 v.1, .int .i64 v.2] 54)) ad c L v (row_bools B0.row) hv hm
  have c0 : (w.alloc (.cells #[.int .i64 v.1, .int .i64 v.2] 54)).cell? ⟨ob, 0, none⟩ = some (.slice ad L.length c) := by simp [World.cell?, B0.blk]
  have lo := lt_of_some h.blk
  have HB : Hid (Below w.heap.size w (w.alloc (.cells #[.int .i64 v.1, .int .i64 v.2] 54)) ∧ Bbx (w.alloc (.cells #[.int .i64 v.1, .int .i64 v.2] 54)) ob ad c base L ∧ (w.alloc (.cells #[.int .i64 v.1, .int .i64 v.2] 54)).heap[w.heap.size]? = some (.cells #[.int .i64 v.1, .int .i64 v.2] 54 (0, 0))) := ⟨hb0, B0, hx0⟩
  clear hb0 B0 hx0
  cases hs : inS L v
  · obtain ⟨k3, g2⟩ := inS_no hs
    obtain ⟨n0, n1⟩ := hv k3
    have eA : adS L v = L.set v.2.toNat true := by unfold adS; rw [if_neg (by rw [hs]; simp)]
    rw [hs] at PI
    rw [eA]
    obtain ⟨k, n⟩ := v
    dsimp only at *
    subst k3
    obtain ⟨n, rfl⟩ := Int.eq_ofNat_of_zero_le n0
    rw [Int.toNat_natCast]
    obtain ⟨b, cap, e1⟩ := row_shape h.row (by omega)
    cases e1
    have n2 : (0 : Int) ≤ (n : Int) := by omega
    clear h hv hs eA g2 n0
    go_enter Tryz.func76, Tryz.ntmps76
    go_wp2_with fail
    generalize w.alloc (.cells #[.int .i64 3, .int .i64 (n : Int)] 54) = w0 at *
    generalize hxb : w.heap.size = xb at *
    refine PI.mono ?_
    clear PI
    rintro e w1 ⟨rfl, hb1⟩
    have B1 := HB.out.2.1.below hb1
    have hx1 := (hb1.block xb (lt_of_some HB.out.2.2)).trans HB.out.2.2
    have q1 : w1.cell? ⟨xb, 1, none⟩ = some (.int .i64 (n : Int)) := by simp [World.cell?, hx1]
    have c1 : w1.cell? ⟨ob, 0, none⟩ = some (.slice (some ⟨b, 0, none⟩) L.length c) := by simp [World.cell?, B1.blk]
    have hg : (L.map Value.bool)[n]? = some (.bool (L.getD n false)) := by
      rw [List.getElem?_map, List.getElem?_eq_getElem (by omega : n < L.length), List.getD_eq_getElem?_getD, List.getElem?_eq_getElem (by omega : n < L.length)]
      rfl
    obtain ⟨y1, y2⟩ := row_cell B1.row hg
    have R2 := row_put B1.row n (.bool true)
    have ne := B1.ne b rfl
    have hbt : Below xb w w1 := HB.out.1.trans (hb1.mono (by have := lt_of_some HB.out.2.2; omega))
    have HF : Hid (Bbx (w1.setCell ⟨b, n, none⟩ (.bool true)) ob (some ⟨b, 0, none⟩) c base (L.set n true) ∧ Fr (fun k => some k = (Value.slice (some ⟨b, 0, none⟩) L.length c).ownBlock) w (w1.setCell ⟨b, n, none⟩ (.bool true))) := by
      refine ⟨⟨?_, ?_⟩, (Fr.of (by rw [hxb]; exact hbt)).set b n _ rfl⟩
      · rw [List.length_set]
        exact (Below.heap_setCell _ _ _ _ (fun e => ne (Eq.symm e))).trans B1.blk
      · rw [List.length_set, List.map_set]
        exact R2
    clear hb1 B1 hx1 R2 hg hbt
    go_wp2_with fail
    go_ret
    exact ⟨rfl, HF.out.1, HF.out.2⟩
  · have eA : adS L v = L := by unfold adS; rw [if_pos hs]
    rw [hs] at PI
    rw [eA]
    clear h hv hs eA
    obtain ⟨k, n⟩ := v
    dsimp only at *
    go_enter Tryz.func76, Tryz.ntmps76
    go_wp2_with fail
    refine PI.mono ?_
    clear PI
    rintro e w1 ⟨rfl, hb1⟩
    have HF : Hid (Bbx w1 ob ad c base L ∧ Fr (fun k => some k = (Value.slice ad L.length c).ownBlock) w w1) := ⟨HB.out.2.1.below hb1, Fr.of (HB.out.1.trans (hb1.mono HB.out.1.size))⟩
    clear hb1
    go_wp2_with fail
    go_ret
    exact ⟨rfl, HF.out.1, HF.out.2⟩

end Go.Proofs.YtogknhogphkddaaGreat
