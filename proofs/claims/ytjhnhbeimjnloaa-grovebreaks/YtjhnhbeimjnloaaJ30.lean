/- Joined: Gw5, Gi3, Gl1, Gb10. -/
import Derived.Test.YtjhnhbeimjnloaaJ29
import Derived.Test.YtjhnhbeimjnloaaJ07
import Derived.Test.YtjhnhbeimjnloaaJ24
import Derived.Test.YtjhnhbeimjnloaaJ27
import Derived.Test.YtjhnhbeimjnloaaJ28
import Derived.Test.YtjhnhbeimjnloaaJ08
import Derived.Test.YtjhnhbeimjnloaaJ10
import Derived.Test.YtjhnhbeimjnloaaJ15
/- A grove: View: a contract, with where what it tells lies: in blocks that are new. -/
namespace Go.Proofs.Ytjhnhbeimjnloaa
open Go.RowKit W Kp Stl

section
variable {gp : Nat} {most grow : Int} {l : Gl} {S : Wrs} {w : World}

set_option maxRecDepth 100000 in
set_option maxHeartbeats 1000000 in
theorem viewG_any (hg : Gvy gp most grow l S w) (hv : Wvw S.T S.wt) (h5 : ∀ i, Alv S.T i → (S.T.getD i t0).1 = 5 → (S.T.getD i t0).2.1 = []) (hr : ∀ v ∈ S.rs, Vq S.T v) :
    Calls Try.prog 9 #[.pointer (some ⟨gp, 0, none⟩)] w fun e w' => ∃ r2 d2 na nn nc, e = .returned (.agg #[.slice r2 12 d2, .slice na nn nc]) ∧ LpN w' w.heap.size r2 (Vr4.vwW S.T S.wt S.rs).1 ∧ LnN w' w.heap.size na (Vr4.vwW S.T S.wt S.rs).2.2 ∧ nn = (Vr4.vwW S.T S.wt S.rs).2.2.length ∧ Below w.heap.size w w' := by
  have hmm := @run_makeMap Try.prog
  have ba := (Below.refl w.heap.size w).alloc (Nat.le_refl _) (.cells #[.slice none 0 0, .slice none 0 0] 35)
  have hr0 := heap_alloc_new w (.cells #[.slice none 0 0, .slice none 0 0] 35)
  have hg0 := hg.below ba
  have hl12 := hg.g4.rl
  obtain ⟨_, _, _, _, _, _, c6, _, lgp⟩ := hg0.cells
  have hLv : Lv (w.alloc (.cells #[.slice none 0 0, .slice none 0 0] 35)) (some ⟨l.rb, 0, none⟩) S.rs := by
    have c := hg0.g4.cells
    refine ⟨fun hp => ⟨l.rb, 0, rfl, c.1, fun i hi => ?_⟩, fun hp => ⟨l.rb, 0, _, rfl, hg0.g4.rt⟩⟩
    have := c.2.2 i (by omega)
    rw [Nat.zero_add]
    exact ⟨this.1, this.2.1⟩
  have lr0 : w.heap.size < (w.alloc (.cells #[.slice none 0 0, .slice none 0 0] 35)).heap.size := by simp
  have hM0 := Mh.made (w.alloc (.cells #[.slice none 0 0, .slice none 0 0] 35))
  have e0 : mtF [] = fun _ => none := by
    funext x
    exact mtF_no (by simp)
  rw [← e0] at hM0
  have b2 := ((Below.refl _ (w.alloc (.cells #[.slice none 0 0, .slice none 0 0] 35))).alloc (Nat.le_refl _) (.map #[] 0)).alloc (by simp) (.cells #[.pointer (some ⟨gp, 0, none⟩), .map (some (w.heap.size + 1)), .slice none 0 0] 75)
  have hk2 := alloc_snd (w.alloc (.cells #[.slice none 0 0, .slice none 0 0] 35)) (.map #[] 0) (.cells #[.pointer (some ⟨gp, 0, none⟩), .map (some (w.heap.size + 1)), .slice none 0 0] 75)
  have sz0 : (w.alloc (.cells #[.slice none 0 0, .slice none 0 0] 35)).heap.size = w.heap.size + 1 := by simp
  rw [sz0] at hM0 hk2
  have hM2 := hM0.same (w' := ((w.alloc (.cells #[.slice none 0 0, .slice none 0 0] 35)).alloc (.map #[] 0)).alloc (.cells #[.pointer (some ⟨gp, 0, none⟩), .map (some (w.heap.size + 1)), .slice none 0 0] 75)) (Below.heap_alloc _ _ _ (by simp))
  have H1 : Hid (Wkg (w.alloc (.cells #[.slice none 0 0, .slice none 0 0] 35)) (((w.alloc (.cells #[.slice none 0 0, .slice none 0 0] 35)).alloc (.map #[] 0)).alloc (.cells #[.pointer (some ⟨gp, 0, none⟩), .map (some (w.heap.size + 1)), .slice none 0 0] 75)) (w.heap.size + 1 + 1) (w.heap.size + 1) gp ([], []) (.slice none 0 0) []) :=
    ⟨hk2, ⟨by rw [sz0]; omega, by rw [sz0]; exact Nat.le_refl _⟩, hM2, World.ownsRow_nil _ _ _ _, rfl, fun x hx => by simp at hx, b2⟩
  have x6 := (b2.cell (p := ⟨gp, 6, none⟩) lgp).trans c6
  have hs1 : w.heap.size ≤ (((w.alloc (.cells #[.slice none 0 0, .slice none 0 0] 35)).alloc (.map #[] 0)).alloc (.cells #[.pointer (some ⟨gp, 0, none⟩), .map (some (w.heap.size + 1)), .slice none 0 0] 75)).heap.size := by simp; omega
  have KV := valuesG_any (meetG_any hg0 hv h5 S.T.length) (met_go _) H1.out (VOk.start _) (by simp) hv.l1 S.rs hr (some ⟨l.rb, 0, none⟩) 12 (hLv.kg (Kg.of (B := 0) b2)) (by omega)
  have hvl : Hid ((Vr4.vwW S.T S.wt S.rs).1.length = 12) := by
    show _ = _
    unfold Vr4.vwW
    rw [vls_len, List.length_map]
    exact hl12
  change Calls _ _ _ _ (fun e w' => ∃ vn' m' a2 c2, e = .returned (.slice a2 S.rs.length c2) ∧ w'.ownsRow _ 41 2 (.slice a2 S.rs.length c2) S.rs.length (ev (Vr4.vwW S.T S.wt S.rs).1) ∧ Wkg _ w' _ _ gp (Vr4.vwW S.T S.wt S.rs).2 vn' m' ∧ Kvg _ _ [] w' m' ∧ (∀ k, Fb m' k → some k ≠ (Value.slice a2 S.rs.length c2).ownBlock)) at KV
  rw [hl12] at KV
  clear hg hg0 hv h5 hr hLv hM0 hM2 hk2 e0 c6 H1 hl12
  generalize Vr4.vwW S.T S.wt S.rs = R at *
  obtain ⟨V, s⟩ := R
  dsimp only at *
  have HBA : Hid (_) := ba
  clear ba
  go_enter Try.func9, Try.ntmps9
  go_wp2_with fail
  refine KV.mono ?_
  clear KV
  rintro e w2 ⟨vn, m, a2, c2, rfl, hr2, hW2, hK2, _⟩
  obtain ⟨na, nc, e2⟩ := row_slice hW2.row
  subst e2
  have z2 := hW2.cells.2.2.1
  have hb2 := HBA.out.trans (hW2.bel.mono HBA.out.size)
  have hr3 := (hW2.bel.block _ lr0).trans hr0
  have y0 : w2.cell? ⟨w.heap.size, 0, none⟩ = some (.slice none 0 0) := by simp [World.cell?, hr3]
  have y1 : w2.cell? ⟨w.heap.size, 1, none⟩ = some (.slice none 0 0) := by simp [World.cell?, hr3]
  have f0 : w2.frozen? ⟨w.heap.size, 0, none⟩ = false := by simp [World.frozen?, hr3]
  have f1 : w2.frozen? ⟨w.heap.size, 1, none⟩ = false := by simp [World.frozen?, hr3]
  have l2 : w.heap.size < w2.heap.size := lt_of_some hr3
  have HW2 : Hid (_ ∧ _) := ⟨hW2, hr2⟩
  have hml : Hid (m.length = s.2.length) := hW2.len
  have HB2 : Hid (_) := hb2
  have HR3 : Hid (_ = _) := hr3
  have HFB : Hid (∀ k, Fb m k → w.heap.size ≤ k) := fun k hk => (hK2.2 k hk).elim (fun ⟨x, hx, _⟩ => by cases hx) (fun d => Nat.le_trans hs1 d)
  have HS1 : Hid (_ ≤ _) := hs1
  clear hW2 hr2 hK2 hb2 hr3 hr0 x6 HBA b2 hs1 sz0 lr0
  go_wp2_with fail
  obtain ⟨W0, hW0⟩ : ∃ W0, W0 = (w2.setCell ⟨w.heap.size, 0, none⟩ (.slice a2 12 c2)).setCell ⟨w.heap.size, 1, none⟩ (.slice na m.length nc) := ⟨_, rfl⟩
  rw [← hW0]
  have g0 : W0.cell? ⟨w.heap.size, 0, none⟩ = some (.slice a2 12 c2) := by
    rw [hW0, World.cell?_setCell_other _ _ _ _ (by simp)]
    exact World.cell?_setCell_same _ _ _ y0
  have g1 : W0.cell? ⟨w.heap.size, 1, none⟩ = some (.slice na m.length nc) := by
    rw [hW0]
    exact World.cell?_setCell_same _ _ _ ((World.cell?_setCell_other w2 ⟨w.heap.size, 0, none⟩ ⟨w.heap.size, 1, none⟩ _ (by simp)).trans y1)
  have hF : Fr (fun k => k = w.heap.size) w2 W0 := by rw [hW0]; exact ((Fr.refl (fun k => k = w.heap.size) w2).set w.heap.size 0 _ rfl).set w.heap.size 1 _ rfl
  clear hW0
  obtain ⟨hW2, hr2⟩ := HW2.out
  have eL : ∀ {ad : Option Addr} {L : List (Int × Int)}, Lv w2 ad L → Lp W0 ad L := fun {ad L} h => h.1.keep hF.size (fun hp b e => by
    obtain ⟨b0, o0, cs, e0, hb⟩ := h.2 hp
    rw [e0] at e
    cases e
    refine hF.block _ (lt_of_some hb) (fun c => ?_)
    have c : b0 = w.heap.size := c
    rw [c, HR3.out] at hb
    simp at hb)
  refine bodyPost_ret (v := .agg #[.slice a2 12 c2, .slice na m.length nc]) (by simp [results, Try.results9, go_sem, g0, g1]) rfl ⟨a2, c2, na, m.length, nc, rfl, ⟨eL (Lv.of (by rw [hvl.out]; exact hr2)), fun hp => ?_⟩, ⟨m, hW2.nd, fun x hx => eL (hW2.fl x hx), HFB.out, fun hp => ?_⟩, hml.out, HB2.out.trans (hF.below (Nat.le_of_lt l2) (fun k e => Nat.le_of_eq (Eq.symm e)))⟩
  · obtain ⟨b, cap, e⟩ := row_shape hr2 (by decide)
    cases e
    exact ⟨b, 0, rfl, Nat.le_trans HS1.out (row_lt hr2 b rfl).1⟩
  obtain ⟨b, cap, e⟩ := row_shape hW2.row hp
  cases e
  have hbs := (row_lt hW2.row b rfl).1
  simp at hbs
  obtain ⟨cur, hcur⟩ := row_type hW2.row b rfl
  have hne : b ≠ w.heap.size := fun c => by
    rw [c, HR3.out] at hcur
    simp at hcur
  refine ⟨b, 0, rfl, by omega, Nat.lt_of_lt_of_le (lt_of_some hcur) hF.size, fun i x hx => ?_⟩
  obtain ⟨n1, n2⟩ := nv_get m i x hx
  rw [Nat.zero_add]
  exact ⟨(World.cell?_of_block (a := ⟨b, i * 2, none⟩) (hF.block b (lt_of_some hcur) hne)).trans (row_cell hW2.row n1).1, (World.cell?_of_block (a := ⟨b, i * 2 + 1, none⟩) (hF.block b (lt_of_some hcur) hne)).trans (row_cell hW2.row n2).1⟩
end

end Go.Proofs.Ytjhnhbeimjnloaa

/- What holds of the document's world, step by step: lists alone. -/
namespace Go.Proofs.Ytjhnhbeimjnloaa
open Go.RowKit W Kp Stl

theorem getD_snoc (T : List Tw1) (t : Tw1) (i : Nat) : (T ++ [t]).getD i t0 = if i = T.length then t else T.getD i t0 := by
  rw [List.getD_eq_getElem?_getD, List.getD_eq_getElem?_getD, List.getElem?_append]
  by_cases h : i < T.length
  · rw [if_pos h, if_neg (by omega)]
  · rw [if_neg h]
    by_cases e : i = T.length
    · subst e
      simp
    · rw [if_neg e, List.getElem?_eq_none (by simp; omega), List.getElem?_eq_none (by omega)]
theorem alv_snoc (T : List Tw1) (k : Int) (fl : List (Int × Int)) (i : Nat) : Alv (T ++ [(k, fl, false, false)]) i ↔ Alv T i ∨ i = T.length := by
  unfold Alv
  rw [getD_snoc, List.length_append, List.length_singleton]
  by_cases e : i = T.length
  · rw [if_pos e]
    exact ⟨fun _ => Or.inr e, fun _ => ⟨by omega, rfl⟩⟩
  · rw [if_neg e]
    exact ⟨fun h => Or.inl ⟨by omega, h.2⟩, fun h => h.elim (fun h => ⟨by omega, h.2⟩) (fun h => absurd h e)⟩
theorem cut_rts (g : List Bool → List Bool) (s : Wrs) (grow : Int) (mj : Bool) : (s.cut g grow mj).rs = s.rs := by
  unfold Wrs.cut
  split <;> rfl
theorem room_rts (g : Gfn) (most grow : Int) (s : Wrs) (m : Int) : (s.room g most grow m).2.rs = s.rs := by
  unfold Wrs.room
  split
  · rfl
  · exact cut_rts _ _ _ _
theorem ckn {k R A B n : Int} (h : ckC k R A B n = 0) : ckN k n = 0 := by
  unfold ckC at h
  split at h
  · omega
  · split at h
    · omega
    · exact h
theorem ck_vc {R A B n : Int} (h : ckC 5 R A B n = 0) : 0 ≤ n ∧ n ≤ 12 := by
  have h5 := ckn h
  unfold ckN at h5
  rw [if_neg (by decide), if_pos rfl] at h5
  unfold hc at h5
  rw [if_neg (by decide), if_neg (by decide), if_neg (by decide), if_pos rfl] at h5
  split at h5
  · omega
  · split at h5 <;> omega
theorem ck_in {R A B n : Int} (h : ckC 1 R A B n = 0) : vc 1 n = 0 := by
  have h5 := ckn h
  unfold ckN at h5
  rwa [if_pos rfl] at h5

section
variable {s : Wrs} {j : Nat} {g : Gfn} {most grow : Int}

theorem Gi.room (h : Gi s j) (hj : j ≤ 10000) (hg : Gok s.T s.wt (g s.T s.wt)) (m : Int) : Gi (s.room g most grow m).2 j := by
  unfold Wrs.room
  split
  · exact h
  · exact h.cut hj hg _ _
theorem Gi.put (h : Gi s j) {kd : Int} {fl : List (Int × Int)} (h1 : 1 ≤ kd) (h2 : kd ≤ 5) (h3 : kd = 3 ∨ kd = 4 → fl.length = 2) (h4 : kd = 5 → fl = []) (hf : ∀ v ∈ fl, Vq s.T v) (hl : fl.length ≤ 12) : Gi (s.put kd fl) (j + 1) := by
  have av := alv_snoc s.T kd fl
  have tr : ∀ v, Vq s.T v → Vq (s.T ++ [(kd, fl, false, false)]) v := fun v hv => hv.mono (fun _ ha => (av _).2 (Or.inl ha))
  have gt : ∀ i, Alv s.T i → (s.T ++ [(kd, fl, false, false)]).getD i t0 = s.T.getD i t0 := fun i hi => by rw [getD_snoc, if_neg (by have := hi.1; omega)]
  have ge : (s.T ++ [(kd, fl, false, false)]).getD s.T.length t0 = (kd, fl, false, false) := by rw [getD_snoc, if_pos rfl]
  have ev : ∀ e, Evw s.T e → Evw (s.T ++ [(kd, fl, false, false)]) e := fun e he => ⟨⟨he.1.1, (av _).2 (Or.inl he.1.2)⟩, by rw [gt _ he.1.2]; exact he.2.1, he.2.2.1, (av _).2 (Or.inl he.2.2.2)⟩
  unfold Wrs.put
  refine { kd := fun i hi => ?_, fl := fun i hi hk => ?_, g5 := fun i hi hk => ?_, fv := fun i hi v hv => ?_, tl := fun i => ?_, rv := fun v hv => tr v (h.rv v hv), rl := h.rl, gv := fun e he => ev e (h.gv e he), wv := fun e he => ev e (h.wv e he), en := h.en, tj := ?_ }
  · rcases (av i).1 hi with hi | rfl
    · dsimp only
      rw [gt i hi]
      exact h.kd i hi
    · dsimp only
      rw [ge]
      exact ⟨h1, h2⟩
  · rcases (av i).1 hi with hi | rfl
    · dsimp only at hk ⊢
      rw [gt i hi] at hk ⊢
      exact h.fl i hi hk
    · dsimp only at hk ⊢
      rw [ge] at hk ⊢
      exact h3 hk
  · rcases (av i).1 hi with hi | rfl
    · dsimp only at hk ⊢
      rw [gt i hi] at hk ⊢
      exact h.g5 i hi hk
    · dsimp only at hk ⊢
      rw [ge] at hk ⊢
      exact h4 hk
  · rcases (av i).1 hi with hi | rfl
    · dsimp only at hv ⊢
      rw [gt i hi] at hv
      exact tr v (h.fv i hi v hv)
    · dsimp only at hv ⊢
      rw [ge] at hv
      exact tr v (hf v hv)
  · dsimp only
    rw [getD_snoc]
    split
    · exact hl
    · exact h.tl i
  · dsimp only
    rw [List.length_append, List.length_singleton]
    have := h.tj
    omega
theorem Gi.grw (h : Gi s j) (hj : j ≤ 10000) (hg : Gok s.T s.wt (g s.T s.wt)) {kd : Int} {fl : List (Int × Int)} (h1 : 1 ≤ kd) (h2 : kd ≤ 5) (h3 : kd = 3 ∨ kd = 4 → fl.length = 2) (h4 : kd = 5 → fl = []) (hf : ∀ v ∈ fl, v ∈ s.rs ∨ v = (0, 0)) (hl : fl.length ≤ 12) :
    Gi (s.grow g most grow kd fl).2.2 (j + 1) ∧ Vq (s.grow g most grow kd fl).2.2.T (s.grow g most grow kd fl).1 := by
  have hr := h.room hj hg (most := most) (grow := grow) (1 + fl.length)
  have hs := room_rts g most grow s (1 + fl.length)
  unfold Wrs.grow
  generalize s.room g most grow (1 + fl.length) = p at *
  obtain ⟨c, s1⟩ := p
  dsimp only at *
  split
  · dsimp only
    refine ⟨hr.put h1 h2 h3 h4 (fun v hv => ?_) hl, ?_⟩
    · rcases hf v hv with d | d
      · exact hr.rv v (by rw [hs]; exact d)
      · rw [d]
        exact vq_nil _
    · have hl2 := hr.tj
      refine ⟨vc3_in _ (by omega) (by omega), fun _ => ⟨by dsimp only; omega, ?_⟩⟩
      unfold Wrs.put
      exact (alv_snoc _ _ _ _).2 (Or.inr (by dsimp only; omega))
  · exact ⟨hr.more (Nat.le_succ _), vq_nil _⟩
theorem Gi.pop (h : Gi s j) (hj : j ≤ 10000) (v : Int × Int) : Gi (s.pop v).2.2 j ∧ Vq (s.pop v).2.2.T (s.pop v).1 := by
  unfold Wrs.pop
  split
  · split
    · rename_i c
      have he := h.wv _ (getD_in (x := (0, 0)) c)
      have hb := he.2.2.2.1
      have ht := h.tj
      refine ⟨{ h with wv := fun e hm => ?_, en := ?_ }, vc3_in _ he.2.2.1 (by dsimp only; omega), fun _ => he.2.2⟩
      · refine h.wv e ?_
        rcases List.mem_append.1 hm with d | d
        · exact List.mem_of_mem_take d
        · exact List.mem_of_mem_drop d
      · have := h.en
        dsimp only
        rw [List.length_append, List.length_take, List.length_drop]
        omega
    · exact ⟨h, vq_nil _⟩
  · exact ⟨h, vq_nil _⟩
theorem gdb_in {T : List Tw1} {v : Int × Int} (hv : Vq T v) (h : gdb T v = true) : (0 ≤ v.2 ∧ Alv T v.2.toNat) ∧ (T.getD v.2.toNat t0).1 = 5 := by
  obtain ⟨h1, h2⟩ := gdb_iff.1 h
  exact ⟨hv.2 h1, h2⟩
theorem Gi.reg (h : Gi s j) {t d : Int × Int} (ht : Vq s.T t) (hd : Vq s.T d) : Gi (s.reg t d).2 j := by
  unfold Wrs.reg
  split
  · rename_i c
    split
    · exact h
    · obtain ⟨q1, q2⟩ := gdb_in hd c.2
      refine { h with gv := fun e he => ?_, en := ?_ }
      · rcases List.mem_append.1 he with he | he
        · exact h.gv e he
        · rw [List.mem_singleton.1 he]
          exact ⟨q1, q2, ht.2 c.1⟩
      · dsimp only
        rw [List.length_append, List.length_singleton]
        omega
  · exact h
theorem getD_stf (T : List Tw1) (i q : Nat) (y : Int × Int) (k : Nat) (hi : i < T.length) : (stf T i q y).getD k t0 = if k = i then ((T.getD i t0).1, (T.getD i t0).2.1.set q y, (T.getD i t0).2.2) else T.getD k t0 := by
  unfold stf
  rw [List.getD_eq_getElem?_getD, List.getElem?_set]
  by_cases e : i = k
  · subst e
    rw [if_pos rfl, if_pos hi, if_pos rfl]
    rfl
  · rw [if_neg e, if_neg (fun c => e c.symm), ← List.getD_eq_getElem?_getD]
theorem alv_stf (T : List Tw1) (i q : Nat) (y : Int × Int) (hi : i < T.length) (k : Nat) : Alv (stf T i q y) k ↔ Alv T k := by
  unfold Alv
  rw [getD_stf T i q y k hi, List.length_set]
  split
  · rename_i e
    rw [e]
  · exact Iff.rfl
theorem Gi.set (h : Gi s j) {v y : Int × Int} (I : Int) (hv : Vq s.T v) (hy : Vq s.T y) : Gi (s.set v I y).2 j := by
  unfold Wrs.set
  dsimp only
  split
  · rename_i c
    have hfd : fdb s.T v = true := by
      cases e : fdb s.T v
      · unfold Wrs.fc at c
        rw [e, if_neg (by simp)] at c
        omega
      · rfl
    obtain ⟨h3, hk5⟩ := fdb_iff.1 hfd
    obtain ⟨_, ha⟩ := hv.2 h3
    generalize v.2.toNat = i at *
    have hi := ha.1
    have av := alv_stf s.T i I.toNat y hi
    have gt := fun k => getD_stf s.T i I.toNat y k hi
    have tr : ∀ v, Vq s.T v → Vq (stf s.T i I.toNat y) v := fun v hv => hv.mono (fun _ ha => (av _).2 ha)
    have k1 : ∀ k, ((stf s.T i I.toNat y).getD k t0).1 = (s.T.getD k t0).1 := fun k => by
      rw [gt k]
      split
      · rename_i e
        rw [e]
      · rfl
    have l1 : ∀ k, ((stf s.T i I.toNat y).getD k t0).2.1.length = (s.T.getD k t0).2.1.length := fun k => by
      rw [gt k]
      split
      · rename_i e
        rw [e, List.length_set]
      · rfl
    have ev : ∀ e, Evw s.T e → Evw (stf s.T i I.toNat y) e := fun e he => ⟨⟨he.1.1, (av _).2 he.1.2⟩, by rw [k1]; exact he.2.1, he.2.2.1, (av _).2 he.2.2.2⟩
    refine { kd := fun k hk => ?_, fl := fun k hk hq => ?_, g5 := fun k hk hq => ?_, fv := fun k hk x hx => ?_, tl := fun k => ?_, rv := fun x hx => tr x (h.rv x hx), rl := h.rl, gv := fun e he => ev e (h.gv e he), wv := fun e he => ev e (h.wv e he), en := h.en, tj := ?_ }
    · dsimp only
      rw [k1]
      exact h.kd k ((av k).1 hk)
    · dsimp only at hq ⊢
      rw [k1] at hq
      rw [l1]
      exact h.fl k ((av k).1 hk) hq
    · dsimp only at hq ⊢
      rw [k1] at hq
      have e0 : k ≠ i := fun e => hk5 (by rw [← e]; exact hq)
      rw [gt k, if_neg e0]
      exact h.g5 k ((av k).1 hk) hq
    · dsimp only at hx ⊢
      rw [gt k] at hx
      split at hx
      · rename_i e
        rcases List.mem_or_eq_of_mem_set hx with d | d
        · exact tr x (h.fv i ha x d)
        · rw [d]
          exact tr y hy
      · exact tr x (h.fv k ((av k).1 hk) x hx)
    · dsimp only
      rw [l1]
      exact h.tl k
    · dsimp only
      rw [List.length_set]
      exact h.tj
  · exact h
theorem Gi.root (h : Gi s j) (R : Nat) {v : Int × Int} (hv : Vq s.T v) : Gi { s with rs := s.rs.set R v } j :=
  { h with
    rv := fun x hx => (List.mem_or_eq_of_mem_set hx).elim (h.rv x) (fun e => by rw [e]; exact hv)
    rl := by dsimp only; rw [List.length_set]; exact h.rl }
theorem rt_mem (s : Wrs) (i : Nat) : s.rs.getD i (0, 0) ∈ s.rs ∨ s.rs.getD i (0, 0) = (0, 0) := by
  by_cases c : i < s.rs.length
  · exact Or.inl (getD_in c)
  · rw [List.getD_eq_getElem?_getD, List.getElem?_eq_none (by omega)]
    exact Or.inr rfl
theorem Gi.rts (h : Gi s j) (hj : j ≤ 10000) (hg : Gok s.T s.wt (g s.T s.wt)) {k R A B n : Int} (hc : ckC k R A B n = 0) (I : Int) : Gi (s.rt g most grow k A.toNat B.toNat I n).2.2 (j + 1) ∧ Vq (s.rt g most grow k A.toNat B.toNat I n).2.2.T (s.rt g most grow k A.toNat B.toNat I n).1 := by
  have hs := h.more (Nat.le_succ j)
  have two : ∀ v ∈ [s.rs.getD A.toNat (0, 0), s.rs.getD B.toNat (0, 0)], v ∈ s.rs ∨ v = (0, 0) := fun v hv => by
    have : v = s.rs.getD A.toNat (0, 0) ∨ v = s.rs.getD B.toNat (0, 0) := by simpa using hv
    rcases this with rfl | rfl
    · exact rt_mem s _
    · exact rt_mem s _
  have vn : ∀ x : Int, -1152921504606846976 ≤ x → x < 1152921504606846976 → Vq s.T (1, x) := fun x h1 h2 => ⟨by simp [vc, rc]; omega, fun h => by cases h⟩
  unfold Wrs.rt
  by_cases k1 : k = 1
  · rw [if_pos k1]
    subst k1
    exact ⟨hs, ck_in hc, fun h => by cases h⟩
  rw [if_neg k1]
  by_cases k3 : k = 3
  · rw [if_pos k3]
    exact ⟨hs, h.rt _⟩
  rw [if_neg k3]
  by_cases k4 : k = 4
  · rw [if_pos k4]
    exact h.grw hj hg (by decide) (by decide) (by simp) (by simp) two (by simp)
  rw [if_neg k4]
  by_cases k5 : k = 5
  · rw [if_pos k5]
    subst k5
    have hn := ck_vc hc
    exact h.grw hj hg (by decide) (by decide) (by simp) (by simp) (fun v hv => by rw [(List.mem_replicate.1 hv).2]; exact rt_mem s _) (by rw [List.length_replicate]; omega)
  rw [if_neg k5]
  by_cases k6 : k = 6
  · rw [if_pos k6]
    exact h.grw hj hg (by decide) (by decide) (by simp) (by simp) two (by simp)
  rw [if_neg k6]
  by_cases k7 : k = 7
  · rw [if_pos k7]
    exact h.grw hj hg (by decide) (by decide) (by simp) (by simp) two (by simp)
  rw [if_neg k7]
  by_cases k8 : k = 8
  · rw [if_pos k8]
    exact h.grw hj hg (by decide) (by decide) (by simp) (by simp) (by simp) (by simp)
  rw [if_neg k8]
  by_cases k10 : k = 10
  · rw [if_pos k10]
    have := h.pop hj (s.rs.getD A.toNat (0, 0))
    exact ⟨this.1.more (Nat.le_succ _), this.2⟩
  rw [if_neg k10]
  by_cases k11 : k = 11
  · rw [if_pos k11]
    refine ⟨hs, ?_⟩
    dsimp only
    split
    · rename_i c
      by_cases e : fdb s.T (s.rs.getD A.toNat (0, 0)) = true
      · obtain ⟨h3, _⟩ := fdb_iff.1 e
        have ha := ((h.rt A.toNat).2 h3).2
        by_cases ci : I.toNat < (s.T.getD (s.rs.getD A.toNat (0, 0)).2.toNat t0).2.1.length
        · exact h.fv _ ha _ (getD_in ci)
        · rw [List.getD_eq_getElem?_getD (l := (s.T.getD (s.rs.getD A.toNat (0, 0)).2.toNat t0).2.1), List.getElem?_eq_none (by omega)]
          exact vq_nil _
      · unfold Wrs.fc at c
        rw [if_neg e] at c
        omega
    · exact vq_nil _
  rw [if_neg k11]
  by_cases k13 : k = 13
  · rw [if_pos k13]
    split
    · refine ⟨hs, vn _ (by omega) ?_⟩
      have := h.tl (s.rs.getD A.toNat (0, 0)).2.toNat
      omega
    · exact ⟨hs, vq_nil _⟩
  rw [if_neg k13]
  by_cases k14 : k = 14
  · rw [if_pos k14]
    refine ⟨hs, ?_⟩
    dsimp only
    split
    · exact vn _ (by decide) (by decide)
    · exact vn _ (by decide) (by decide)
  rw [if_neg k14]
  exact ⟨hs, vq_nil _⟩
theorem Gi.dos (h : Gi s j) (hj : j ≤ 10000) (hg : Gok s.T s.wt (g s.T s.wt)) (k R A B I n : Int) : Gi (s.dos g most grow k R A B I n).2 (j + 1) := by
  have hs := Nat.le_succ j
  unfold Wrs.dos
  by_cases hc : ckC k R A B n = 0
  · rw [if_pos hc]
    split
    · exact (h.reg (h.rt _) (h.rt _)).more hs
    · split
      · exact (h.set I (h.rt _) (h.rt _)).more hs
      · split
        · exact (h.cut hj hg _ _).more hs
        · split
          · exact (h.cut hj hg _ _).more hs
          · have hr := h.rts hj hg hc I (most := most) (grow := grow)
            split
            · exact hr.1.root _ hr.2
            · exact hr.1
  · rw [if_neg hc]
    exact h.more hs
end

theorem Gi.start : Gi ⟨[], List.replicate 12 (0, 0), [], []⟩ 0 :=
  ⟨fun i hi => absurd hi.1 (by simp), fun i hi => absurd hi.1 (by simp), fun i hi => absurd hi.1 (by simp), fun i hi => absurd hi.1 (by simp), fun i => by simp [t0], fun v hv => by rw [(List.mem_replicate.1 hv).2]; exact vq_nil _, by simp, fun e he => by simp at he, fun e he => by simp at he, by simp, by simp⟩

end Go.Proofs.Ytjhnhbeimjnloaa

/- A grove that a statement does steps in: Do, View, groveBegun: contracts. -/
namespace Go.Proofs.Ytjhnhbeimjnloaa
open Go.RowKit W Kp Stl

structure Sg (gp rb gb base : Nat) (most grow : Int) (F : Nat → Prop) (s : Wrs) (j : Nat) (w : World) : Prop where
  J : (grO gp most grow rb).J F s w
  gi : Gi s j
  cg : w.heap[gb]? = some (.cells #[.pointer (some ⟨gp, 0, none⟩)] 24 (0, 0))
  nf : ¬ F gb
  lo : ∀ b, F b → base ≤ b
  bl : base ≤ w.heap.size
section
variable {gp rb gb base j : Nat} {most grow : Int} {F : Nat → Prop} {s : Wrs} {w w' : World} {g : Gfn}
theorem doS_any (h : Sg gp rb gb base most grow F s j w) (hg : ∀ T wt, Wiv T wt → Gok T wt (g T wt)) (hj : j ≤ 9000) (g0 : -1000000 ≤ grow) (g1 : grow ≤ 1000000) (m0 : -1000000 ≤ most) (m1 : most ≤ 1000000) (k R A B I n : Int) :
    Calls Try.prog 8 #[.pointer (some ⟨gp, 0, none⟩), hsV k R A B I n] w fun e w' => ∃ F', e = .returned (.int .i64 (s.dos g most grow k R A B I n).1) ∧ Sg gp rb gb base most grow F' (s.dos g most grow k R A B I n).2 (j + 1) w' ∧ Tn F w F' w' := by
  have hG := hg _ _ h.gi.iv
  refine (doG_any h.J (h.gi.wcv (by omega)) hG g0 g1 m0 m1 k R A B I n).mono ?_
  rintro e w' ⟨F', rfl, J', t⟩
  have lg := lt_of_some h.cg
  refine ⟨F', rfl, ⟨J', h.gi.dos (by omega) hG k R A B I n, (t.fr.block gb lg h.nf).trans h.cg, fun d => (t.sub gb d).elim h.nf (fun c => by omega), fun b d => (t.sub b d).elim (h.lo b) (fun c => Nat.le_trans h.bl c), Nat.le_trans h.bl t.fr.size⟩, t⟩
end

theorem gB_1 (g : Gfn) : ws0.dos g 16 8 4 0 0 0 0 0 = (0, ⟨[(1, [(0, 0), (0, 0)], false, false)], [(3, 0), (0, 0), (0, 0), (0, 0), (0, 0), (0, 0), (0, 0), (0, 0), (0, 0), (0, 0), (0, 0), (0, 0)], [], []⟩) := rfl
theorem gB_2 (g : Gfn) : (⟨[(1, [(0, 0), (0, 0)], false, false)], [(3, 0), (0, 0), (0, 0), (0, 0), (0, 0), (0, 0), (0, 0), (0, 0), (0, 0), (0, 0), (0, 0), (0, 0)], [], []⟩ : Wrs).dos g 16 8 6 1 0 0 0 0 = (0, ⟨[(1, [(0, 0), (0, 0)], false, false), (3, [(3, 0), (3, 0)], false, false)], [(3, 0), (3, 1), (0, 0), (0, 0), (0, 0), (0, 0), (0, 0), (0, 0), (0, 0), (0, 0), (0, 0), (0, 0)], [], []⟩) := rfl
theorem gB_3 (g : Gfn) : (⟨[(1, [(0, 0), (0, 0)], false, false), (3, [(3, 0), (3, 0)], false, false)], [(3, 0), (3, 1), (0, 0), (0, 0), (0, 0), (0, 0), (0, 0), (0, 0), (0, 0), (0, 0), (0, 0), (0, 0)], [], []⟩ : Wrs).dos g 16 8 2 0 0 0 0 0 = (0, ⟨[(1, [(0, 0), (0, 0)], false, false), (3, [(3, 0), (3, 0)], false, false)], [(0, 0), (3, 1), (0, 0), (0, 0), (0, 0), (0, 0), (0, 0), (0, 0), (0, 0), (0, 0), (0, 0), (0, 0)], [], []⟩) := rfl
theorem gB_v : (Vr4.vwW [(1, [(0, 0), (0, 0)], false, false), (3, [(3, 0), (3, 0)], false, false)] [] [(0, 0), (3, 1), (0, 0), (0, 0), (0, 0), (0, 0), (0, 0), (0, 0), (0, 0), (0, 0), (0, 0), (0, 0)]).2.2.length = 2 := by decide +kernel
theorem gB_u : usd [(1, [(0, 0), (0, 0)], false, false), (3, [(3, 0), (3, 0)], false, false)] = (6, 0) := rfl

theorem doJ_any {gp rb j : Nat} {most grow : Int} {F : Nat → Prop} {s : Wrs} {w : World} {g : Gfn} (h : (grO gp most grow rb).J F s w) (hi : Gi s j) (hg : ∀ T wt, Wiv T wt → Gok T wt (g T wt)) (hj : j ≤ 9000) (g0 : -1000000 ≤ grow) (g1 : grow ≤ 1000000) (m0 : -1000000 ≤ most) (m1 : most ≤ 1000000) (k R A B I n : Int) :
    Calls Try.prog 8 #[.pointer (some ⟨gp, 0, none⟩), hsV k R A B I n] w fun e w' => ∃ F', e = .returned (.int .i64 (s.dos g most grow k R A B I n).1) ∧ Hid ((grO gp most grow rb).J F' (s.dos g most grow k R A B I n).2 w' ∧ Gi (s.dos g most grow k R A B I n).2 (j + 1) ∧ Tn F w F' w') := by
  have hG := hg _ _ hi.iv
  refine (doG_any h (hi.wcv (by omega)) hG g0 g1 m0 m1 k R A B I n).mono ?_
  rintro e w' ⟨F', rfl, J', t⟩
  exact ⟨F', rfl, J', hi.dos (by omega) hG k R A B I n, t⟩

set_option maxRecDepth 100000 in
set_option maxHeartbeats 2000000 in
theorem groveBegun_any (w : World) : Calls Try.prog 6 #[] w fun e w' => e = .returned (.bool true) ∧ Below w.heap.size w w' := by
  obtain ⟨g, hg⟩ := gfn_ex
  have P := newG_yes 16 8 w (by decide) (by decide) (by decide)
  have HG : Hid (∀ T wt, Wiv T wt → Gok T wt (g T wt)) := hg
  clear hg
  go_enter Try.func6, Try.ntmps6
  go_wp2_with fail
  refine P.mono ?_
  clear P
  rintro e w1 ⟨gp, rb, F1, rfl, J1, lo1, hb1⟩
  have ba := (Below.refl w1.heap.size w1).alloc (Nat.le_refl _) (.cells #[.int .i64 0, .int .i64 0] 26)
  have J2 := (grO gp 16 8 rb).below J1 ba
  have P1 := doJ_any J2 Gi.start HG.out (by decide) (by decide) (by decide) (by decide) (by decide) 4 0 0 0 0 0
  rw [gB_1 g] at P1
  dsimp only at P1
  have H1 : Hid (Below w.heap.size w (w1.alloc (.cells #[.int .i64 0, .int .i64 0] 26)) ∧ ∀ b, F1 b → w.heap.size ≤ b) := ⟨hb1.trans (ba.mono hb1.size), lo1⟩
  clear J1 J2 lo1 hb1 ba
  go_wp2_with fail
  generalize w1.alloc (.cells #[.int .i64 0, .int .i64 0] 26) = w2 at *
  refine P1.mono ?_
  clear P1
  rintro e w3 ⟨F3, rfl, H3⟩
  have P2 := doJ_any H3.out.1 H3.out.2.1 HG.out (by decide) (by decide) (by decide) (by decide) (by decide) 6 1 0 0 0 0
  rw [gB_2 g] at P2
  dsimp only at P2
  go_wp2_with fail
  refine P2.mono ?_
  clear P2
  rintro e w4 ⟨F4, rfl, H4⟩
  have P3 := doJ_any H4.out.1 H4.out.2.1 HG.out (by decide) (by decide) (by decide) (by decide) (by decide) 2 0 0 0 0 0
  rw [gB_3 g] at P3
  dsimp only at P3
  go_wp2_with fail
  refine P3.mono ?_
  clear P3
  rintro e w5 ⟨F5, rfl, H5⟩
  have HB : Hid (Below w.heap.size w w5) := by
    have t := (H3.out.2.2.trans H4.out.2.2).trans H5.out.2.2
    exact H1.out.1.trans (t.fr.below H1.out.1.size (fun k e => H1.out.2 k e))
  obtain ⟨l, hl, _, _⟩ := H5.out.1
  have P4 := usedG_any hl H5.out.2.1.tl (by have := H5.out.2.1.tj; omega)
  rw [gB_u] at P4
  have HL : Hid (Gvy gp 16 8 l _ w5) := hl
  clear hl
  go_wp2_with fail
  refine P4.mono ?_
  clear P4
  rintro e w6 ⟨rfl, hb6⟩
  have P5 := viewG_any (HL.out.below hb6) (H5.out.2.1.wvw (by decide)) H5.out.2.1.g5 H5.out.2.1.rv
  have HB6 : Hid (Below w.heap.size w w6) := HB.out.trans (hb6.mono HB.out.size)
  clear hb6
  go_wp2_with fail
  refine P5.mono ?_
  clear P5
  rintro e w7 ⟨r2, d2, na, nn, nc, rfl, _, _, hnn, hb7⟩
  have hnn2 : nn = 2 := hnn.trans gB_v
  subst hnn2
  have HB7 : Hid (Below w.heap.size w (w7.alloc (.cells #[.slice r2 12 d2, .slice na 2 nc] 35))) := by
    have := HB6.out.trans (hb7.mono HB6.out.size)
    exact this.trans (((Below.refl w7.heap.size w7).alloc (Nat.le_refl _) _).mono this.size)
  clear hnn hb7
  go_wp2_with fail
  go_ret
  exact ⟨rfl, HB7.out⟩

end Go.Proofs.Ytjhnhbeimjnloaa

/- GroveBreaks: whether a value is dead; the view that is cut, in memory. -/
namespace Go.Proofs.Ytjhnhbeimjnloaa
open Go.RowKit W Kp Stl

theorem dos16 (s : Wrs) (g : Gfn) (most grow : Int) : s.dos g most grow 16 0 0 0 0 0 = (s.ccd (g s.T s.wt) grow true, s.cut (g s.T s.wt) grow true) := by
  unfold Wrs.dos
  rw [if_pos (by decide), if_neg (by decide), if_neg (by decide), if_neg (by decide), if_pos rfl]
theorem Gi.nvw {s : Wrs} {j : Nat} (h : Gi s j) (hj : j ≤ 10000) (hn : Nrg s) : Nvw (Vr4.vwW s.T s.wt s.rs).1 (Vr4.vwW s.T s.wt s.rs).2.2 := by
  have hw := h.wvw hj
  rw [hn.2] at hw ⊢
  exact (vis_of hw h.rv).nvw hw h.rv h.rl h.kd h.fl h.g5
theorem ccd_03 (s : Wrs) (g : List Bool → List Bool) (grow : Int) (mj : Bool) : s.ccd g grow mj = 0 ∨ (s.ccd g grow mj = 3 ∧ s.cut g grow mj = s) := by
  unfold Wrs.ccd Wrs.cut
  by_cases c : s.cF g grow mj = true
  · rw [if_pos c, if_pos c]
    exact Or.inr ⟨rfl, rfl⟩
  · rw [if_neg c]
    exact Or.inl rfl

set_option maxRecDepth 100000 in
set_option maxHeartbeats 1000000 in
theorem dead_any {w : World} {ib c n : Nat} {ad : Option Addr} {L : List Bool} {base : Nat} (hb : w.heap[ib]? = some (.cells #[.slice ad n c] 38 (0, 0))) (hr : w.ownsRow base 4 1 (.slice ad n c) n (L.map Value.bool)) (hn : L.length = n) (v : Int × Int) (hv : v.1 = 3 → 0 ≤ v.2 ∧ v.2 < n) (hm : n ≤ 100000) :
    Calls Try.prog 12 #[.agg #[.int .i64 v.1, .int .i64 v.2], .pointer (some ⟨ib, 0, none⟩)] w fun e w' => e = .returned (.bool (!inS L v)) ∧ Below w.heap.size w w' := by
  subst hn
  obtain ⟨k, n⟩ := v
  dsimp only at hv ⊢
  have hb0 := (Below.refl w.heap.size w).alloc (Nat.le_refl _) (.cells #[.int .i64 k, .int .i64 n] 41)
  have c0 : (w.alloc (.cells #[.int .i64 k, .int .i64 n] 41)).cell? ⟨ib, 0, none⟩ = some (.slice ad L.length c) := by simp [World.cell?, (hb0.block ib (lt_of_some hb)).trans hb]
  by_cases hk : k = 3
  · subst hk
    obtain ⟨n0, n1⟩ := hv rfl
    obtain ⟨n, rfl⟩ := Int.eq_ofNat_of_zero_le n0
    obtain ⟨b, rfl, hbl, hc⟩ := row_bools hr (by omega)
    have e : inS L (3, (n : Int)) = L.getD n false := by
      unfold inS
      simp
    rw [e]
    have x1 := (hb0.cell (p := ⟨b, n, none⟩) hbl).trans (hc n (by omega))
    have n2 : (0 : Int) ≤ (n : Int) := by omega
    clear hc hv e n0 hr hb
    generalize L.getD n false = r at *
    go_enter Try.func12, Try.ntmps12
    go_wp2_with fail
    go_ret
    exact ⟨rfl, hb0⟩
  · have e : inS L (k, n) = true := by
      unfold inS
      simp [hk]
    rw [e]
    have kb : (k == 3) = false := by simpa using hk
    clear hv e hr hb
    go_enter Try.func12, Try.ntmps12
    go_wp2_with fail
    go_ret
    exact ⟨rfl, hb0⟩

def brk (L : List Bool) (n : Int × List (Int × Int)) : Bool := n.1 == 4 && !inS L (n.2.getD 0 (0, 0))
def elx (L : List Bool) (n : Int × List (Int × Int)) (x : Int × Int) : Int × Int := if brk L n = true ∨ inS L x = false then (2, 0) else x
theorem cNd_el (L : List Bool) (n : Int × List (Int × Int)) : cNd L n = (n.1, n.2.map (elx L n)) := by
  unfold cNd elx brk
  congr 1
  refine List.map_congr_left (fun x _ => ?_)
  have e : ((n.1 == 4 && !inS L (n.2.getD 0 (0, 0))) = true ∨ inS L x = false) ↔ ((n.1 = 4 ∧ inS L (n.2.getD 0 (0, 0)) = false) ∨ inS L x = false) := by
    generalize inS L (n.2.getD 0 (0, 0)) = b
    cases b <;> simp
  by_cases c : (n.1 = 4 ∧ inS L (n.2.getD 0 (0, 0)) = false) ∨ inS L x = false
  · rw [if_pos c, if_pos (e.2 c)]
  · rw [if_neg c, if_neg (fun d => c (e.1 d))]

structure Ct (w0 w : World) (cb : Nat) (vr vn : Value) (m : List Vnd) : Prop where
  be : Below w0.heap.size w0 w
  lo : w0.heap.size ≤ cb
  cc : w.heap[cb]? = some (.cells #[vr, vn] 35 (0, 0))
  row : w.ownsRow w0.heap.size 44 2 vn m.length (nv m)
  fl : ∀ x ∈ m, Lv w x.2.1 x.2.2.2
section
variable {w0 w w' w1 : World} {cb : Nat} {vr vn : Value} {m : List Vnd}
theorem Ct.below (h : Ct w0 w cb vr vn m) (b : Below w.heap.size w w') : Ct w0 w' cb vr vn m :=
  ⟨h.be.trans (b.mono h.be.size), h.lo, (b.block cb (lt_of_some h.cc)).trans h.cc, row_keep h.row (fun k e => b.block k (row_lt h.row k e).2), fun x hx => (h.fl x hx).kw (Kw.of (B := 0) b)⟩
theorem Ct.push (h : Ct w0 w cb vr vn m) {v1 : Value} {x : Vnd} (f : Fr (fun k => some k = vn.ownBlock) w w1) (hr : w1.ownsRow w0.heap.size 44 2 v1 (m ++ [x]).length (nv (m ++ [x]))) (hx : Lv w x.2.1 x.2.2.2) : Ct w0 (w1.setCell ⟨cb, 1, none⟩ v1) cb vr v1 (m ++ [x]) ∧ w1.heap[cb]? = some (.cells #[vr, vn] 35 (0, 0)) := by
  have hty : ∀ k, some k = vn.ownBlock → ∃ cs, w.heap[k]? = some (.cells cs 44 (0, 0)) := fun k e => row_type h.row k e
  have f2 : Fr (fun k => some k = vn.ownBlock ∨ k = cb) w (w1.setCell ⟨cb, 1, none⟩ v1) := (f.mono (fun _ d => Or.inl d)).set cb _ _ (Or.inr rfl)
  have kw : Kw w0.heap.size w (w1.setCell ⟨cb, 1, none⟩ v1) := Kw.fr f2 (fun k d => by
    rcases d with d | d
    · refine ⟨(row_lt h.row k d).1, fun cs e mm hc => ?_⟩
      obtain ⟨cs2, h3⟩ := hty k d
      rw [hc] at h3
      simp at h3
      exact Or.inr (Or.inr (Or.inr h3.2.1))
    · refine ⟨by rw [d]; exact h.lo, fun cs e mm hc => ?_⟩
      rw [d, h.cc] at hc
      simp at hc
      exact Or.inr (Or.inl hc.2.1.symm))
  have hq : w1.heap[cb]? = some (.cells #[vr, vn] 35 (0, 0)) := (f.block cb (lt_of_some h.cc) (fun e => by
      obtain ⟨cs2, h3⟩ := hty cb e
      rw [h.cc] at h3
      simp at h3)).trans h.cc
  refine ⟨⟨h.be.trans (kw.below h.be.size), h.lo, ?_, row_keep hr (fun k e => Below.heap_setCell _ _ _ _ (fun e' => ?_)), fun y hy => ?_⟩, hq⟩
  · simp only [World.setCell, Array.getElem?_modify, if_true, hq, Option.map_some]
    simp
  · have e' : k = cb := e'
    obtain ⟨cs, hc⟩ := row_type hr k e
    rw [e', hq] at hc
    simp at hc
  · rcases List.mem_append.1 hy with hy | hy
    · exact (h.fl y hy).kw kw
    · rw [List.mem_singleton.1 hy]
      exact hx.kw kw
theorem Ct.nodes {ad : Option Addr} {n c : Nat} (h : Ct w0 w cb vr (.slice ad n c) m) {T : List Tw1} (hT : T = nT (nds m)) : ∀ i, i < T.length → ∃ b o fa fc, ad = some ⟨b, o, none⟩ ∧ b < w.heap.size ∧ w.cell? ⟨b, o + i * 2, none⟩ = some (.int .i64 (T.getD i t0).1) ∧ w.cell? ⟨b, o + i * 2 + 1, none⟩ = some (.slice fa (T.getD i t0).2.1.length fc) ∧ Lp w fa (T.getD i t0).2.1 := by
  intro i hi
  subst hT
  have hl : (nds m).length = m.length := by simp [nds]
  rw [nT_len, hl] at hi
  obtain ⟨x, hx⟩ : ∃ x, m[i]? = some x := ⟨_, List.getElem?_eq_getElem hi⟩
  have en : (nT (nds m)).getD i t0 = (x.1, x.2.2.2, false, false) := by
    rw [nT_at _ _ (by omega), List.getD_eq_getElem?_getD, nds, List.getElem?_map, hx]
    rfl
  obtain ⟨n1, n2⟩ := nv_get m i x hx
  obtain ⟨b, cap, e⟩ := row_shape h.row (by omega)
  cases e
  rw [en]
  refine ⟨b, 0, x.2.1, x.2.2.1, rfl, (row_lt h.row b rfl).2, ?_, ?_, (h.fl x (List.mem_of_getElem? hx)).1⟩
  · rw [Nat.zero_add]
    exact (row_cell h.row n1).1
  · rw [Nat.zero_add]
    exact (row_cell h.row n2).1
end

structure Nb (w7 w : World) (nb : Nat) (kd : Int) (fa : Option Addr) (fc : Nat) (L : List (Int × Int)) : Prop where
  be : Below w7.heap.size w7 w
  lo : w7.heap.size ≤ nb
  nc : w.heap[nb]? = some (.cells #[.int .i64 kd, .slice fa L.length fc] 44 (0, 0))
  row : w.ownsRow w7.heap.size 41 2 (.slice fa L.length fc) L.length (ev L)
section
variable {w7 w w' w1 : World} {nb : Nat} {kd : Int} {fa : Option Addr} {fc : Nat} {L : List (Int × Int)}
theorem Nb.below (h : Nb w7 w nb kd fa fc L) (b : Below w.heap.size w w') : Nb w7 w' nb kd fa fc L :=
  ⟨h.be.trans (b.mono h.be.size), h.lo, (b.block nb (lt_of_some h.nc)).trans h.nc, row_keep h.row (fun k e => b.block k (row_lt h.row k e).2)⟩
theorem Nb.turn (h : Nb w7 w nb kd fa fc L) {xb : Nat} {cs : Array Value} (f : Fr (fun k => k = xb) w w') (hx : w7.heap.size ≤ xb) (hn : some xb ≠ (Value.slice fa L.length fc).ownBlock) (hc : w.heap[xb]? = some (.cells cs 41 (0, 0))) : Nb w7 w' nb kd fa fc L := by
  refine ⟨h.be.trans (f.below h.be.size (fun k e => by rw [e]; exact hx)), h.lo, (f.block nb (lt_of_some h.nc) (fun e => ?_)).trans h.nc, row_keep h.row (fun k e => f.block k (row_lt h.row k e).2 (fun d => hn (by rw [← (show k = xb from d)]; exact e)))⟩
  have e : nb = xb := e
  rw [← e, h.nc] at hc
  simp at hc
theorem Nb.push (h : Nb w7 w nb kd fa fc L) {wq w10 : World} (hq : Below w.heap.size w wq) {v : Int × Int} {fa' : Option Addr} {fc' : Nat} (hg : wq.grownBy w10 (Value.slice fa L.length fc).ownBlock) (ho : w10.ownsRow w7.heap.size 41 2 (.slice fa' (L.length + 1) fc') (L.length + 1) (ev L ++ ev [v])) :
    Nb w7 (w10.setCell ⟨nb, 1, none⟩ (.slice fa' (L.length + 1) fc')) nb kd fa' fc' (L ++ [v]) ∧ w10.heap[nb]? = some (.cells #[.int .i64 kd, .slice fa L.length fc] 44 (0, 0)) := by
  have fr : Fr (fun k => some k = (Value.slice fa L.length fc).ownBlock) w w10 := (Fr.of hq).grown hg (fun k e => Or.inl (by simpa using e.symm))
  have hk : w10.heap[nb]? = some (.cells #[.int .i64 kd, .slice fa L.length fc] 44 (0, 0)) := (fr.block nb (lt_of_some h.nc) (fun e => by
    obtain ⟨cs, hc⟩ := row_type h.row nb e
    rw [h.nc] at hc
    simp at hc)).trans h.nc
  have h1 : (L ++ [v]).length = L.length + 1 := by simp
  have h2 : ev (L ++ [v]) = ev L ++ ev [v] := by simp [ev]
  have f2 : Fr (fun k => some k = (Value.slice fa L.length fc).ownBlock ∨ k = nb) w (w10.setCell ⟨nb, 1, none⟩ (.slice fa' (L.length + 1) fc')) := (fr.mono (fun _ d => Or.inl d)).set nb _ _ (Or.inr rfl)
  refine ⟨⟨h.be.trans (f2.below h.be.size (fun k e => by
    rcases e with e | e
    · exact (row_lt h.row k e).1
    · rw [e]
      exact h.lo)), h.lo, ?_, ?_⟩, hk⟩
  · rw [h1]
    simp only [World.setCell, Array.getElem?_modify, if_true, hk, Option.map_some]
    simp
  · rw [h1, h2]
    refine row_keep ho (fun k e => Below.heap_setCell _ _ _ _ (fun e' => ?_))
    have e' : k = nb := e'
    obtain ⟨cs, hc⟩ := row_type ho k e
    rw [e', hk] at hc
    simp at hc
end
theorem nodeS_src {w : World} (x : Int) (fa : Option Addr) (n fc : Nat) (fs : List (Int × Int)) (hn : fs.length = n) : ∀ ad, (some ⟨w.heap.size, 0, none⟩ : Option Addr) = some ad → ∀ k u, (nv [(x, fa, fc, fs)])[k]? = some u → (w.alloc (.cells #[.int .i64 x, .slice fa n fc] 44)).cell? (ad.add k) = some u := fun ad e k u hk => by
  have hsr := heap_alloc_new w (.cells #[.int .i64 x, .slice fa n fc] 44)
  cases e
  have hlk : k < 2 := by
    have := (List.getElem?_eq_some_iff.1 hk).1
    simpa [nv] using this
  rcases (show k = 0 ∨ k = 1 by omega) with rfl | rfl
  · simp [nv] at hk
    subst hk
    show World.cell? _ ⟨w.heap.size, 0, none⟩ = _
    unfold World.cell?
    rw [hsr]
    rfl
  · simp [nv] at hk
    subst hk
    show World.cell? _ ⟨w.heap.size, 1, none⟩ = _
    unfold World.cell?
    rw [hsr, ← hn]
    rfl

end Go.Proofs.Ytjhnhbeimjnloaa
