/- Joined: Vw6, Vw7, Mj25. -/
import Derived.Test.YtmocakafnnkjfabGreatJ12
import Derived.Test.YtmocakafnnkjfabGreatJ22
import Derived.Test.YtmocakafnnkjfabGreatJ13
import Derived.Lib.SliceRun
/- A walk: values over whatever meets: a contract. -/
namespace Go.Proofs.YtmocakafnnkjfabGreat
open Go.RowKit W Kp Stl

def Lq (w : World) (ad : Option Addr) (l : List Int) : Prop := Ls w ad l ∧ (0 < l.length → ∃ b o cs, ad = some ⟨b, o, none⟩ ∧ w.heap[b]? = some (.cells cs 2 (0, 0)))
theorem Lq.kf {B : Nat} {w w' : World} {ad : Option Addr} {l : List Int} (h : Lq w ad l) (k : Kf B w w') : Lq w' ad l := by
  have hk : 0 < l.length → ∀ b, ad = some b → w'.heap[b.block]? = w.heap[b.block]? := fun hp b e => by
    obtain ⟨b0, o0, cs, e0, hb⟩ := h.2 hp
    rw [e0] at e
    cases e
    exact k.oth _ _ _ _ hb (by decide) (by decide)
  refine ⟨h.1.keep k.size hk, fun hp => ?_⟩
  obtain ⟨b0, o0, cs, e0, hb⟩ := h.2 hp
  exact ⟨b0, o0, cs, e0, (hk hp _ e0).trans hb⟩
theorem Lq.of {w : World} {base cap : Nat} {ad : Option Addr} {l : List Int} (h : w.ownsRow base 2 1 (.slice ad l.length cap) l.length (l.map (Value.int .i64))) : Lq w ad l := by
  refine ⟨row_ints h, fun hp => ?_⟩
  obtain ⟨b0, c0, e0⟩ := row_shape h hp
  obtain ⟨cs, hc⟩ := row_type h b0 (by rw [e0]; rfl)
  cases e0
  exact ⟨b0, 0, cs, rfl, hc⟩

section
variable {w0 w : World} {kb mq pw n : Nat} {T : List Int} {kd : Int → Int} {sh : Int → List Int} {M : Vst → Int → Vst} {s : Vst} {vn : Value} {m : List Vnd}

set_option maxRecDepth 100000 in
set_option maxHeartbeats 1000000 in
theorem values_any (hM : Meets w0 kb mq pw T M n) (hV : Vmet T kd sh n M) (h : Wk w0 w kb mq pw T s vn m) (ho : VOk T s) (hn : T.length ≤ s.1.length + n) (l : List Int) (ad : Option Addr) (cap : Nat) (hl : Lq w ad l) (hm : l.length ≤ 100000) :
    Calls Tryz.prog 74 #[.pointer (some ⟨kb, 0, none⟩), .slice ad l.length cap] w fun e w' => ∃ vn' m' a2 c2, e = .returned (.slice a2 l.length c2) ∧ w'.ownsRow w.heap.size 91 2 (.slice a2 l.length c2) l.length (ev (vls M T s l).1) ∧ Wk w0 w' kb mq pw T (vls M T s l).2 vn' m' ∧ Kv w0 w m w' m' ∧ (∀ k, Fb m' k → some k ≠ (Value.slice a2 l.length c2).ownBlock) := by
  obtain ⟨i0, hi, hz0, hz1, hz2⟩ := info_parts infoVal
  have HM : Hid (Meets w0 kb mq pw T M n) := hM
  have HV : Hid (Vmet T kd sh n M) := hV
  have HL : Hid (Lq w ad l) := hl
  have HW : Hid (Wk w0 w kb mq pw T s vn m) := h
  have HO : Hid (VOk T s) := ho
  clear hM hV hl h ho
  go_enter Tryz.func74, Tryz.ntmps74
  go_wp2_with (at_make; refine wpList_make_own _ rfl _ _ 47 rfl w.heap.size 91 i0 (.agg #[.int .i64 0, .int .i64 0]) 2 Tryz.underlying47 hi hz0 hz1 .i64 .i64 _ l.length rfl rfl rfl (by rw [hz2]; omega) (by unfold maxLen; omega) (Nat.le_refl _) ?_; intro w1 hown1 hgrow1)
  have hb1 : Below w.heap.size w w1 := (Below.refl w.heap.size w).grown hgrow1 (Nat.le_refl _) (fun k e => by cases e)
  go_loopw [5, 13] (fun tv iv wr => ∃ (j : Nat) (V : List (Int × Int)) (s1 : Vst) (vn1 : Value) (m1 : List Vnd) (a2 : Option Addr) (c2 : Nat), j ≤ l.length ∧ iv = .int .i64 j ∧ Hid (vls M T s (l.take j) = (V, s1)) ∧ tv = .slice a2 j c2 ∧ wr.ownsRow w.heap.size 91 2 (.slice a2 j c2) j (ev V) ∧ Hid (Wk w0 wr kb mq pw T s1 vn1 m1) ∧ Hid (Kv w0 w m wr m1) ∧ Hid (∀ k, Fb m1 k → some k ≠ (Value.slice a2 j c2).ownBlock) ∧ Hid (VOk T s1 ∧ T.length ≤ s1.1.length + n)) (fun _ iv _ => l.length - (intOf iv).toNat)
  case atStart => exact ⟨0, [], s, vn, m, _, _, Nat.zero_le _, rfl, rfl, rfl, hown1, HW.out.below hb1, Kv.of hb1, fun k hk e => by
    have := HW.out.fb k hk
    simp [Value.ownBlock] at e
    omega, ⟨HO.out, hn⟩⟩
  case round =>
    obtain ⟨j, V, s1, vn1, m1, a2, c2, hj, rfl, HE, rfl, hT, HW1, HK1, HF1, HO1⟩ := hrel
    clear hown1 hgrow1 hb1
    by_cases hlt : j < l.length
    · obtain ⟨b0, o0, e0, hb0, hc⟩ := (HL.out.kf HK1.out.1).1 (by omega)
      have x1 := hc j hlt
      subst e0
      clear hc
      have HS := vls_snoc M T s (l.take j) (l.getD j 0)
      rw [← take_snoc l j hlt 0, HE.out] at HS
      have HS : Hid (vls M T s (l.take (j + 1)) = (V ++ [(vst M T s1 (l.getD j 0)).1], (vst M T s1 (l.getD j 0)).2)) := HS
      generalize l.getD j 0 = x at x1 HS
      have P := value_any HM.out HW1.out HO1.out.1 HO1.out.2 x
      have G := vst_go HV.out HO1.out.1 HO1.out.2 x
      have HO2 : Hid (VOk T (vst M T s1 x).2 ∧ T.length ≤ (vst M T s1 x).2.1.length + n) := ⟨G.ok, by have := G.le; have := HO1.out.2; omega⟩
      clear G
      generalize (vst M T s1 x).2 = s2 at P HS HO2
      obtain ⟨u, v, huv⟩ : ∃ u v, (vst M T s1 x).1 = (u, v) := ⟨_, _, rfl⟩
      rw [huv] at P HS
      clear huv
      go_wp2_with fail
      refine P.mono ?_
      clear P
      rintro e w2 ⟨vn2, m2, rfl, hW2, hK2⟩
      have hT2 := row_keep hT (fun k hk => by
        obtain ⟨cs, hcs⟩ := row_type hT k hk
        exact hK2.1.oth k _ _ _ hcs (by decide) (by decide))
      have HF2 : Hid (∀ k, Fb m2 k → some k ≠ (Value.slice a2 j c2).ownBlock) := fun k hk e => (hK2.2 k hk).elim (fun c => HF1.out k c e) (fun c => by have := (row_lt hT k e).2; omega)
      have HK2 : Hid (Kv w0 w m w2 m2) := HK1.out.trans hK2
      have hs2 := HK2.out.1.size
      have HW2 : Hid (Wk w0 w2 kb mq pw T s2 vn2 m2) := hW2
      clear hT hK2 HK1 HF1 HW1 HO1 x1 hW2
      have HT2 : Hid (w2.ownsRow w.heap.size 91 2 (.slice a2 j c2) j (ev V)) := hT2
      go_wp2_with (at_builtin; refine wpList_append_own_at _ rfl _ _ 47 rfl w.heap.size 91 i0 (.agg #[.int .i64 0, .int .i64 0]) 2 16 Tryz.underlying47 hi hz0 hz1 hz2 rfl (by decide) (.slice a2 j c2) j (ev V) rfl (row_alloc hT2 _) ⟨w2.heap.size, 0, none⟩ 1 1 [.int .i64 u, .int .i64 v] rfl rfl ?_ ?_ ?_ ?_ ?_ ?_; (intro j u hj; match j, hj with | 0, hj => (simp at hj; subst hj; simp [Addr.add]) | 1, hj => (simp at hj; subst hj; simp [Addr.add])); (intro u hu; simp at hu; rcases hu with hu | hu <;> (subst hu; rfl)); (unfold maxLen; omega); omega; (simp; omega); intro v' w4 hown4 hgrow4 _ hloc4; obtain ⟨b4, cap4, ev4⟩ := row_shape hown4 (Nat.succ_pos _); subst ev4)
      have hT4 : w4.ownsRow w.heap.size 91 2 (.slice (some ⟨b4, 0, none⟩) (j + 1) cap4) (j + 1) (ev (V ++ [(u, v)])) := by
        rw [ev_append]
        simpa [ev] using hown4
      have hba := (Below.refl w2.heap.size w2).alloc (Nat.le_refl _) (.cells #[.int .i64 u, .int .i64 v] 91)
      have hfr : Fr (fun k => some k = (Value.slice a2 j c2).ownBlock) (w2.alloc (.cells #[.int .i64 u, .int .i64 v] 91)) w4 := (Fr.refl _ _).grown hgrow4 (fun k e => Or.inl e.symm)
      have HW4 : Hid (Wk w0 w4 kb mq pw T s2 vn2 m2) := (HW2.out.below hba).but hfr (fun k _ e => by
        obtain ⟨cs, hcs⟩ := row_type HT2.out k e
        exact ⟨⟨cs, (hba.block k (row_lt HT2.out k e).2).trans hcs⟩, fun c => HF2.out k c e, Nat.le_trans HW.out.bel.size (row_lt HT2.out k e).1⟩)
      have HK4 : Hid (Kv w0 w m w4 m2) := (HK2.out.trans (Kv.of hba)).new hfr (fun k e => (row_lt HT2.out k e).1)
      have hbl4 : some b4 = (Value.slice a2 j c2).ownBlock ∨ b4 = w2.heap.size + 1 := hloc4.imp id (fun e => by simpa [Value.ownBlock] using e)
      have HF4 : Hid (∀ k, Fb m2 k → some k ≠ some b4) := fun k hk e => hbl4.elim (fun c => HF2.out k hk (e.trans c)) (fun c => by have := HW2.out.fb k hk; simp at e; omega)
      clear hown4 hgrow4 hloc4 hbl4 hba hfr HT2 hT2 HF2 HK2 HW2
      go_wp2_with fail
      go_roundw
      case rel => exact ⟨j + 1, V ++ [(u, v)], s2, vn2, m2, some ⟨b4, 0, none⟩, cap4, by omega, by go_num, HS, rfl, hT4, HW4, HK4, HF4, HO2⟩
      case measure => simp [intOf]; omega
    · obtain rfl : j = l.length := by omega
      rw [List.take_length] at HE
      go_wp2_with fail
      go_ret
      rw [HE.out]
      exact ⟨vn1, m1, a2, c2, rfl, hT, HW1.out, HK1.out, HF1.out⟩
end

end Go.Proofs.YtmocakafnnkjfabGreat

/- A walk: a thing is met: a contract. -/
namespace Go.Proofs.YtmocakafnnkjfabGreat
open Go.RowKit W Kp Stl

theorem infoNode : (Tryz.prog.info? 134).map (fun i => (i.zero, i.size, i.bytes)) = some (some (.agg #[.int .i64 0, .slice none 0 0]), 2, 32) := by kernel_rfl

section
variable {w0 w w' w'' : World} {kb mq pw n : Nat} {T : List Int} {s : Vst} {vn : Value} {m : List Vnd}

theorem Wk.turned (h : Wk w0 w kb mq pw T s vn m) (f : Fr (fun k => k = mq) w w') : Kf w0.heap.size w w' ∧ w'.heap[kb]? = some (.cells #[.pointer (some ⟨pw, 0, none⟩), .map (some mq), vn] 127 (0, 0)) ∧ w'.ownsRow w0.heap.size 134 2 vn m.length (nv m) ∧ (∀ x ∈ m, Lv w' x.2.1 x.2.2.2) ∧ Below w0.heap.size w0 w' := by
  obtain ⟨D, o1, _⟩ := h.mp
  obtain ⟨es, clock, hb, _⟩ := o1
  have hk : Kf w0.heap.size w w' := ⟨f.os, f.tape, f.output, f.size, fun k hk hl => f.block k hk (fun e => by have e : k = mq := e; have := h.lo.2; omega), fun k cs e mm hk _ _ => f.block k (lt_of_some hk) (fun c => by
    have c : k = mq := c
    rw [c, hb] at hk
    simp at hk)⟩
  refine ⟨hk, (f.block kb (lt_of_some h.blk) (fun c => ?_)).trans h.blk, row_keep h.row (fun k e => f.block k (row_lt h.row k e).2 (fun c => ?_)), fun x hx => (h.fl x hx).kf hk, h.bel.trans (hk.below h.bel.size)⟩
  · have c : kb = mq := c
    have := h.blk
    rw [c, hb] at this
    simp at this
  · have c : k = mq := c
    obtain ⟨cur, hcur⟩ := row_type h.row k e
    rw [c, hb] at hcur
    simp at hcur
end

theorem Wk.grown {w0 w w3 w4 : World} {kb mq pw : Nat} {T : List Int} {ms : List Int} {ns : List (Int × List (Int × Int))} {vn v4 : Value} {m : List Vnd} {kd : Int}
    (hk : w.heap[kb]? = some (.cells #[.pointer (some ⟨pw, 0, none⟩), .map (some mq), vn] 127 (0, 0))) (lo : w0.heap.size ≤ kb ∧ w0.heap.size ≤ mq) (hm : Nm w mq T ms) (hr : w.ownsRow w0.heap.size 134 2 vn m.length (nv m)) (hnd : nds m = ns) (hf : ∀ x ∈ m, Lv w x.2.1 x.2.2.2) (hb : Below w0.heap.size w0 w)
    (h3 : Below w.heap.size w w3) (h4 : w4.ownsRow w0.heap.size 134 2 v4 (m.length + 1) (nv m ++ [.int .i64 kd, .slice none 0 0])) (g4 : w3.grownBy w4 vn.ownBlock) :
    Wk w0 (w4.setCell ⟨kb, 2, none⟩ v4) kb mq pw T (ms, ns ++ [(kd, [])]) v4 (m ++ [(kd, none, 0, [])]) ∧ Kv w0 w m (w4.setCell ⟨kb, 2, none⟩ v4) (m ++ [(kd, none, 0, [])]) ∧ w4.heap[kb]? = some (.cells #[.pointer (some ⟨pw, 0, none⟩), .map (some mq), vn] 127 (0, 0)) := by
  have hmN := hm
  obtain ⟨D, o1, _⟩ := hm
  obtain ⟨es, clock, hmb, _⟩ := o1
  have kf4 : Kf w0.heap.size w w4 := (Kf.of h3).trans (Kf.grown g4 (fun k e => ⟨(row_lt hr k e.symm).1, fun cs ty mm hc => by
    obtain ⟨cur, hcur⟩ := row_type hr k e.symm
    have := (h3.block k (lt_of_some hcur)).trans hcur
    rw [this] at hc
    simp at hc
    exact Or.inr hc.2.1.symm⟩))
  have hk4 : w4.heap[kb]? = some (.cells #[.pointer (some ⟨pw, 0, none⟩), .map (some mq), vn] 127 (0, 0)) := (g4.block kb (Nat.lt_of_lt_of_le (lt_of_some hk) h3.size) (fun e => by
    obtain ⟨cur, hcur⟩ := row_type hr kb e
    rw [hk] at hcur
    simp at hcur)).trans ((h3.block kb (lt_of_some hk)).trans hk)
  have kf5 : Kf w0.heap.size w (w4.setCell ⟨kb, 2, none⟩ v4) := kf4.trans (Kf.set hk4 (Or.inl rfl) lo.1)
  have nmk : mq ≠ kb := fun e => by rw [e, hk] at hmb; simp at hmb
  have e5 : (nv (m ++ [(kd, none, 0, [])] : List Vnd)) = nv m ++ [.int .i64 kd, .slice none 0 0] := by rw [nv_append]; rfl
  refine ⟨⟨?_, lo, ?_, ?_, ?_, fun x hx => ?_, hb.trans (kf5.below hb.size)⟩, ⟨kf5, fun k hk => ?_⟩, hk4⟩
  · simp only [World.setCell, Array.getElem?_modify, if_true, hk4, Option.map_some]
    rfl
  · refine hmN.same ((Below.heap_setCell _ _ _ _ nmk).trans ((g4.block mq (Nat.lt_of_lt_of_le (lt_of_some hmb) h3.size) (fun e => ?_)).trans (h3.block mq (lt_of_some hmb))))
    obtain ⟨cur, hcur⟩ := row_type hr mq e
    rw [hmb] at hcur
    simp at hcur
  · rw [e5, List.length_append]
    refine row_keep h4 (fun k e => Below.heap_setCell _ _ _ _ (fun c => ?_))
    have c : k = kb := c
    obtain ⟨cur, hcur⟩ := row_type h4 k e
    rw [c, hk4] at hcur
    simp at hcur
  · simp [nds] at hnd ⊢
    exact hnd
  · rcases List.mem_append.1 hx with hx | hx
    · exact (hf x hx).kf kf5
    · simp at hx
      subst hx
      exact Lv.nil
  · obtain ⟨x, hx, hl, o, e⟩ := hk
    rcases List.mem_append.1 hx with hx | hx
    · exact Or.inl ⟨x, hx, hl, o, e⟩
    · simp at hx
      subst hx
      simp at hl

theorem row_cell {w : World} {base size n g cap : Nat} {e : TypeId} {xs : List Value} (h : w.ownsRow base e size (.slice (some ⟨g, 0, none⟩) n cap) n xs) {i : Nat} {u : Value} (hi : xs[i]? = some u) : w.cell? ⟨g, i, none⟩ = some u ∧ w.frozen? ⟨g, i, none⟩ = false := by
  rcases h.2 with ⟨hv, _⟩ | ⟨g', cap', cur, hv, hb, hg, h1, h2, h3, h4⟩
  · simp at hv
  · simp at hv
    obtain ⟨rfl, rfl⟩ := hv
    rw [← h4] at hi
    have hlt : i < n * size := by
      rcases Nat.lt_or_ge i (n * size) with c | c
      · exact c
      · rw [List.getElem?_take, if_neg (by omega)] at hi
        simp at hi
    rw [List.getElem?_take_of_lt hlt] at hi
    constructor
    · simp [World.cell?, hg]
      simpa using hi
    · simp [World.frozen?, hg]

theorem Wk.filled {w0 w : World} {kb mq pw g cap len : Nat} {T : List Int} {s : Vst} {m : List Vnd} (h : Wk w0 w kb mq pw T s (.slice (some ⟨g, 0, none⟩) len cap) m) {i : Nat} {k0 : Int} {v0 : List (Int × Int)} (hi : s.2[i]? = some (k0, v0)) {base c2 : Nat} {a2 : Option Addr} {vs : List (Int × Int)}
    (hr : w.ownsRow base 91 2 (.slice a2 vs.length c2) vs.length (ev vs)) :
    Wk w0 (w.setCell ⟨g, i * 2 + 1, none⟩ (.slice a2 vs.length c2)) kb mq pw T (s.1, s.2.set i (k0, vs)) (.slice (some ⟨g, 0, none⟩) len cap) (m.set i (k0, a2, c2, vs)) ∧ Kf w0.heap.size w (w.setCell ⟨g, i * 2 + 1, none⟩ (.slice a2 vs.length c2)) ∧ (∀ k, Fb (m.set i (k0, a2, c2, vs)) k → Fb m k ∨ base ≤ k) := by
  obtain ⟨cur, hcur⟩ := row_type h.row g rfl
  have hg := (row_lt h.row g rfl).1
  have hkf : Kf w0.heap.size w (w.setCell ⟨g, i * 2 + 1, none⟩ (.slice a2 vs.length c2)) := Kf.set hcur (Or.inr rfl) hg
  obtain ⟨x, hx, hxe⟩ : ∃ x : Vnd, m[i]? = some x ∧ (x.1, x.2.2.2) = (k0, v0) := by
    have := hi
    rw [← h.nd, nds, List.getElem?_map] at this
    obtain ⟨x, hx, e⟩ := Option.map_eq_some_iff.1 this
    exact ⟨x, hx, e⟩
  have e1 : x.1 = k0 := congrArg Prod.fst hxe
  have hlen : len = m.length := by
    rcases h.row.2 with ⟨hv, _⟩ | ⟨g', cap', cur', hv, _⟩
    · simp at hv
    · simp at hv
      exact hv.2.1
  refine ⟨⟨(Below.heap_setCell _ _ _ _ (fun c => ?_)).trans h.blk, h.lo, h.mp.same (Below.heap_setCell _ _ _ _ (fun c => ?_)), ?_, ?_, fun y hy => ?_, h.bel.trans (hkf.below h.bel.size)⟩, hkf, fun k hk => ?_⟩
  · have c : kb = g := c
    have := h.blk
    rw [c, hcur] at this
    simp at this
  · have c : mq = g := c
    obtain ⟨D, ⟨es, clock, hb, _⟩, _⟩ := h.mp
    rw [c, hcur] at hb
    simp at hb
  · rw [List.length_set, ← e1, nv_set m i x a2 c2 vs hx]
    have := h.row
    rw [← hlen] at this ⊢
    exact row_put this _ _
  · rw [nds, List.map_set]
    show ((nds m).set i (k0, vs)) = _
    rw [h.nd]
  · rcases List.mem_or_eq_of_mem_set hy with hy | hy
    · exact (h.fl y hy).kf hkf
    · subst hy
      exact (Lv.of hr).kf hkf
  · obtain ⟨y, hy, hl, o, e⟩ := hk
    rcases List.mem_or_eq_of_mem_set hy with hy | hy
    · exact Or.inl ⟨y, hy, hl, o, e⟩
    · subst hy
      have e : a2 = some ⟨k, o, none⟩ := e
      exact Or.inr (row_lt hr k (by rw [e]; rfl)).1

section
variable {w0 : World} {kb mq pw p q N O y g : Nat} {ws : List Int} {sd : Nat} {v0 : Value} {a1 : Option Addr} {k1 : Nat} {Q : List En} {T : List Int}

set_option maxRecDepth 100000 in
set_option maxHeartbeats 2000000 in
theorem meet_next (hq : Wq w0 pw p q N O y g ws sd v0 a1 k1 Q) (hT : ∀ a ∈ T, 0 ≤ a ∧ a < 2000) (hTl : T.length ≤ 100000) (n : Nat) (M : Vst → Int → Vst) (hM : Meets w0 kb mq pw T M n) (hV : Vmet T (fun a => pk (ld N y g ws a)) (shL N y g ws Q) n M) :
    Meets w0 kb mq pw T (fun s a => ((vls M T (s.1 ++ [a], s.2 ++ [(pk (ld N y g ws a), [])]) (shL N y g ws Q a)).2.1, (vls M T (s.1 ++ [a], s.2 ++ [(pk (ld N y g ws a), [])]) (shL N y g ws Q a)).2.2.set s.1.length (pk (ld N y g ws a), (vls M T (s.1 ++ [a], s.2 ++ [(pk (ld N y g ws a), [])]) (shL N y g ws Q a)).1))) (n + 1) := by
  intro w s vn m a h ho ha hn hl
  obtain ⟨i0, hi, hz0, hz1, hz2⟩ := info_parts infoNode
  have hlt := ho.lt ha hn
  have hbd := hT a ha
  have hml : m.length = s.1.length := by rw [h.len, ho.len]
  have ho2 := ho.more ha hn (pk (ld N y g ws a), [])
  have hlen := vls_len M T (s.1 ++ [a], s.2 ++ [(pk (ld N y g ws a), [])]) (shL N y g ws Q a)
  have G := vls_go hV ho2 (by simp; omega) (shL N y g ws Q a)
  have hsl := shL_len N y g ws Q a
  have hQ := hq.hm
  have hGo : (vls M T (s.1 ++ [a], s.2 ++ [(pk (ld N y g ws a), [])]) (shL N y g ws Q a)).2.2[s.1.length]? = some (pk (ld N y g ws a), []) := by
    rw [G.old s.1.length (by simp), List.getElem?_append_right (by rw [ho.len]; exact Nat.le_refl _), ho.len]
    simp
  have hGl : s.1.length < (vls M T (s.1 ++ [a], s.2 ++ [(pk (ld N y g ws a), [])]) (shL N y g ws Q a)).2.1.length := by
    have := G.le
    simp at this
    omega
  have hGk : (vls M T (s.1 ++ [a], s.2 ++ [(pk (ld N y g ws a), [])]) (shL N y g ws Q a)).2.2.length = (vls M T (s.1 ++ [a], s.2 ++ [(pk (ld N y g ws a), [])]) (shL N y g ws Q a)).2.1.length := G.ok.len
  have KV : Hid (∀ (w5 : World) (vn5 : Value) (m5 : List Vnd) (ad : Option Addr) (cap : Nat), Wk w0 w5 kb mq pw T (s.1 ++ [a], s.2 ++ [(pk (ld N y g ws a), [])]) vn5 m5 → Lq w5 ad (shL N y g ws Q a) →
      Calls Tryz.prog 74 #[.pointer (some ⟨kb, 0, none⟩), .slice ad (shL N y g ws Q a).length cap] w5 fun e w' => ∃ vn' m' a2 c2, e = .returned (.slice a2 (shL N y g ws Q a).length c2) ∧ w'.ownsRow w5.heap.size 91 2 (.slice a2 (shL N y g ws Q a).length c2) (shL N y g ws Q a).length (ev (vls M T (s.1 ++ [a], s.2 ++ [(pk (ld N y g ws a), [])]) (shL N y g ws Q a)).1) ∧ Wk w0 w' kb mq pw T (vls M T (s.1 ++ [a], s.2 ++ [(pk (ld N y g ws a), [])]) (shL N y g ws Q a)).2 vn' m' ∧ Kv w0 w5 m5 w' m' ∧ (∀ k, Fb m' k → some k ≠ (Value.slice a2 (shL N y g ws Q a).length c2).ownBlock)) :=
    fun w5 vn5 m5 ad cap h5 hl5 => values_any hM hV h5 ho2 (by simp; omega) _ ad cap hl5 (by omega)
  have KT : Hid (∀ w1, Below w0.heap.size w0 w1 → Calls Tryz.prog 25 #[.pointer (some ⟨p, 0, none⟩), .int .i64 a] w1 fun e w' => e = .returned (.tuple #[.int .i64 (pk (ld N y g ws a)), .int .i64 (pf (ld N y g ws a)), .int .i64 (pc (ld N y g ws a))]) ∧ Below w1.heap.size w1 w') := fun w1 hb => thing_any a w1 (hq.low hb).ar
  have KS : Hid (∀ w1, Below w0.heap.size w0 w1 → w1.cell? ⟨kb, 0, none⟩ = some (.pointer (some ⟨pw, 0, none⟩)) → Calls Tryz.prog 198 #[.pointer (some ⟨kb, 0, none⟩), .int .i64 a, .int .i64 (pk (ld N y g ws a)), .int .i64 (pf (ld N y g ws a))] w1 fun e w' => ∃ ad cap, e = .returned (.slice ad (shL N y g ws Q a).length cap) ∧ w'.ownsRow w1.heap.size 2 1 (.slice ad (shL N y g ws Q a).length cap) (shL N y g ws Q a).length ((shL N y g ws Q a).map (Value.int .i64)) ∧ Below w1.heap.size w1 w') :=
    fun w1 hb hc => shown_any (hq.low hb) kb hc a hbd.1 (by omega)
  have lpw := World.block_lt_of_cell? w0 _ hq.c0
  have cpw : Hid (∀ w1, Below w0.heap.size w0 w1 → w1.cell? ⟨pw, 0, none⟩ = some (.pointer (some ⟨p, 0, none⟩))) := fun w1 hb => (hq.low hb).c0
  have hky := keyI (a := a) (by omega) (by omega)
  have hvl := elI (s.1.length : Int) (WalkArith.wf_i64 ⟨by omega, by omega⟩)
  clear hM hV G ho2 hsl hQ hq hT
  dsimp only
  generalize hvv : vls M T (s.1 ++ [a], s.2 ++ [(pk (ld N y g ws a), [])]) (shL N y g ws Q a) = R at *
  clear hvv
  generalize shL N y g ws Q a = SL at *
  obtain ⟨vs, s7⟩ := R
  dsimp only at *
  generalize pk (ld N y g ws a) = kd at *
  generalize pf (ld N y g ws a) = f at *
  generalize pc (ld N y g ws a) = cc at *
  have H : Hid (Wk w0 w kb mq pw T s vn m) := h
  obtain ⟨nA, nC, hvn⟩ := row_slice h.row
  subst hvn
  obtain ⟨c0, c1, c2, lk⟩ := h.cells
  obtain ⟨D, o1, o2, o3⟩ := h.mp
  have hlo := h.lo
  have HN : Hid (∀ (w1 : World) (k : Nat), w1.ownsMap Tryz.prog 3 (plainElem Tryz.prog 3) mq k (D.put (.int .i64 a) (.lit (.int .i64 (s.1.length : Int)))) → Nm w1 mq T (s.1 ++ [a])) := fun w1 k h4 => Nm.put o1 o2 o3 ha hn h4
  have HD : Hid (nds m = s.2) := h.nd
  clear h o2 o3 ho ha hn
  generalize s.1.length = L at *
  subst hml
  go_enter Tryz.func192, Tryz.ntmps192
  go_wp2_with (at_mapUpdate; refine wpList_mapUpdate_own _ rfl _ _ _ 98 rfl 3 3 lawI Tryz.underlying98 (plainElem (H := Unit) Tryz.prog 3) mq T.length D rfl o1 (by unfold maxLen; omega) _ _ _ rfl rfl hky _ [] hvl ?_; intro w1 hown1 hgrow1; (have hfr1 : Fr (fun k => k = mq) w w1 := (Fr.refl _ _).grown hgrow1 (fun k e => Or.inl (by cases e; rfl))); (have TR : Hid (_ ∧ _ ∧ _ ∧ _ ∧ _) := H.out.turned hfr1); (have N1 : Hid (Nm w1 mq T (s.1 ++ [a])) := HN.out w1 _ hown1); (have y0 : w1.cell? ⟨kb, 0, none⟩ = some (.pointer (some ⟨pw, 0, none⟩)) := by simp [World.cell?, TR.out.2.1]); (have y1 := cpw.out w1 TR.out.2.2.2.2); clear hown1 hgrow1 hfr1 c0 c1 c2 o1 HN)
  refine (KT.out w1 TR.out.2.2.2.2).mono ?_
  clear KT
  rintro e w2 ⟨rfl, hb2⟩
  have hk2 := (hb2.block kb (lt_of_some TR.out.2.1)).trans TR.out.2.1
  have z2 : w2.cell? ⟨kb, 2, none⟩ = some (.slice nA m.length nC) := by simp [World.cell?, hk2]
  have HK2 : Hid (_ = _) := hk2
  have N2 : Hid (Nm w2 mq T (s.1 ++ [a])) := N1.out.same (by obtain ⟨D', o', _⟩ := N1.out; exact hb2.block mq o'.lt)
  have R2 := row_keep TR.out.2.2.1 (fun k hk => hb2.block k (row_lt TR.out.2.2.1 k hk).2)
  have HR2 : Hid (_) := R2
  have F2 : Hid (∀ x ∈ m, Lv w2 x.2.1 x.2.2.2) := fun x hx => (TR.out.2.2.2.1 x hx).kf (Kf.of (B := 0) hb2)
  have B2 : Hid (Below w0.heap.size w0 w2) := TR.out.2.2.2.2.trans (hb2.mono TR.out.2.2.2.2.size)
  have K2 : Hid (Kv w0 w m w2 m) := (show Kv w0 w m w1 m from ⟨TR.out.1, fun k h => Or.inl h⟩).trans (Kv.of hb2)
  have hs2 := B2.out.size
  clear TR N1 hk2 y0 y1 hb2 lk
  go_wp2_with (at_builtin; refine wpList_append_own_at _ rfl _ _ 48 rfl w0.heap.size 134 i0 (.agg #[.int .i64 0, .slice none 0 0]) 2 32 Tryz.underlying48 hi hz0 hz1 hz2 rfl (by decide) (.slice nA m.length nC) m.length (nv m) rfl (row_alloc R2 _) ⟨w2.heap.size, 0, none⟩ 1 1 [.int .i64 kd, .slice none 0 0] rfl rfl ?_ ?_ ?_ ?_ ?_ ?_; (intro j u hj; match j, hj with | 0, hj => (simp at hj; subst hj; simp [Addr.add]) | 1, hj => (simp at hj; subst hj; simp [Addr.add])); (intro u hu; simp at hu; rcases hu with hu | hu <;> (subst hu; rfl)); (unfold maxLen; omega); omega; (simp; omega); intro v' w4 hown4 hgrow4 _ hloc4; obtain ⟨b4, cap4, ev4⟩ := row_shape hown4 (Nat.succ_pos _); subst ev4; (have WG : Hid (_ ∧ _ ∧ _) := Wk.grown HK2.out hlo N2.out HR2.out HD.out F2.out B2.out ((Below.refl w2.heap.size w2).alloc (Nat.le_refl _) _) hown4 hgrow4); (have u0 : w4.cell? ⟨kb, 2, none⟩ = some (.slice nA m.length nC) := by simp [World.cell?, WG.out.2.2]); (have u1 : w4.frozen? ⟨kb, 2, none⟩ = false := by simp [World.frozen?, WG.out.2.2]); clear hown4 hgrow4 hloc4 z2 R2 HK2 N2 HR2 HD F2 B2)
  obtain ⟨WG1, WG2, _⟩ := WG.out
  have KK5 : Hid (Kv w0 w m (w4.setCell ⟨kb, 2, none⟩ (.slice (some ⟨b4, 0, none⟩) (m.length + 1) cap4)) (m ++ [(kd, none, 0, [])])) := K2.out.trans WG2
  have W5 : Hid (Wk w0 (w4.setCell ⟨kb, 2, none⟩ (.slice (some ⟨b4, 0, none⟩) (m.length + 1) cap4)) kb mq pw T (s.1 ++ [a], s.2 ++ [(kd, [])]) (.slice (some ⟨b4, 0, none⟩) (m.length + 1) cap4) (m ++ [(kd, none, 0, [])])) := WG1
  clear WG WG1 WG2 u0 u1 K2
  generalize w4.setCell ⟨kb, 2, none⟩ (.slice (some ⟨b4, 0, none⟩) (m.length + 1) cap4) = w5 at KK5 W5 ⊢
  refine (KS.out w5 W5.out.bel W5.out.cells.1).mono ?_
  clear KS
  rintro e w6 ⟨ad, cap, rfl, hr6, hb6⟩
  go_wp2_with fail
  refine (KV.out w6 _ _ ad cap (W5.out.below hb6) (Lq.of hr6)).mono ?_
  clear KV
  rintro e w7 ⟨vn7, m7, a2, c7, rfl, hr7, hW7, hK7, hF7⟩
  have hm7 : m7.length = s7.1.length := hW7.len.trans hGk
  obtain ⟨g7, cap7, e7⟩ := row_shape hW7.row (by omega)
  subst e7
  have z2 := hW7.cells.2.2.1
  have hlt7 : m.length < m7.length := by omega
  obtain ⟨zc, zf⟩ := row_cell hW7.row ((nv_get m7 m.length _ (List.getElem?_eq_getElem hlt7)).2)
  rw [← hlen] at hr7
  have FI : Hid (_ ∧ _ ∧ _) := hW7.filled hGo hr7
  have K7 : Hid (Kv w0 w m w7 m7) := (KK5.out.trans (Kv.of hb6)).trans hK7
  have hs7 := ((KK5.out.trans (Kv.of hb6)).1).size
  generalize (m7[m.length]).2.1 = q1 at zc
  generalize (m7[m.length]).2.2.2.length = q2 at zc
  generalize (m7[m.length]).2.2.1 = q3 at zc
  rw [hlen] at FI
  clear hr6 hb6 hr7 hW7 hK7 hF7 KK5 W5 hGo hlen hvl hky
  go_wp2_with fail
  go_ret
  exact ⟨_, _, rfl, FI.out.1, K7.out.1.trans FI.out.2.1, fun k hk => (FI.out.2.2 k hk).elim (K7.out.2 k) (fun c => Or.inr (Nat.le_trans hs7 c))⟩

theorem meet_any (hq : Wq w0 pw p q N O y g ws sd v0 a1 k1 Q) (hT : ∀ a ∈ T, 0 ≤ a ∧ a < 2000) (hTl : T.length ≤ 100000) : ∀ n, Meets w0 kb mq pw T (met T (fun a => pk (ld N y g ws a)) (shL N y g ws Q) n) n
  | 0 => fun w s vn m a _ ho ha hn hl => by
    have := ho.lt ha hn
    omega
  | n + 1 => meet_next hq hT hTl n _ (meet_any hq hT hTl n) (met_go n)
end

end Go.Proofs.YtmocakafnnkjfabGreat

/- DeleteFunc over a list of numbers, for what only looks: a contract. -/
namespace Go.Proofs.YtmocakafnnkjfabGreat
open Go.RowKit W Kp Stl

def kpL (p : Int → Bool) (l : List Int) : List Int := l.filter (fun x => !p x)
theorem kpL_snoc (p : Int → Bool) (l : List Int) (x : Int) : kpL p (l ++ [x]) = if p x = true then kpL p l else kpL p l ++ [x] := by
  unfold kpL
  rw [List.filter_append]
  cases h : p x <;> simp [h]
theorem kpL_none {p : Int → Bool} {l : List Int} (h : ∀ e ∈ l, p e = false) : kpL p l = l := by
  unfold kpL
  rw [List.filter_eq_self]
  intro a ha
  rw [h a ha]
  rfl
theorem row_sets {base size n g cap i : Nat} {e : TypeId} : ∀ (vs : List Value) (o : Nat) {w : World} {xs : List Value}, w.ownsRow base e size (.slice (some ⟨g, 0, none⟩) n cap) n xs → i ≤ o → ∃ xs', (w.setCells g o vs).ownsRow base e size (.slice (some ⟨g, 0, none⟩) n cap) n xs' ∧ xs'.take i = xs.take i
  | [], o, w, xs, h, _ => ⟨xs, h, rfl⟩
  | v :: vs, o, w, xs, h, hi => by
    obtain ⟨xs', h1, h2⟩ := row_sets vs (o + 1) (row_set h o v) (by omega : i ≤ o + 1)
    refine ⟨xs', h1, h2.trans ?_⟩
    rw [List.take_set_of_le hi]
theorem fr_sets {g : Nat} : ∀ (vs : List Value) (o : Nat) (w : World), Fr (fun b => b = g) w (w.setCells g o vs)
  | [], _, w => Fr.refl _ w
  | v :: vs, o, w => ((Fr.refl (fun b => b = g) w).set g o v rfl).trans (fr_sets vs (o + 1) _) (fun _ e => Or.inl e)

set_option maxRecDepth 100000 in
set_option maxHeartbeats 2000000 in
theorem delFI_any (f : Nat) (c : Array Value) (p : Int → Bool) (hf : Ent f) (w : World) (l : List Int) (g cap B : Nat)
    (hl : ∀ (w' : World) (x : Int), x ∈ l → Fr (fun b => b = g) w w' → Calls Tryz.prog f (#[.int .i64 x] ++ c) w' fun r w'' => r = .returned (.bool (p x)) ∧ Below w'.heap.size w' w'')
    (hm : l.length ≤ 100000) (hr : w.ownsRow B 3 1 (.slice (some ⟨g, 0, none⟩) l.length cap) l.length (l.map (Value.int .i64))) :
    Calls Tryz.prog 180 #[.slice (some ⟨g, 0, none⟩) l.length cap, .func (.func f) #[] c] w fun r w' => r = .returned (.slice (some ⟨g, 0, none⟩) (kpL p l).length cap) ∧ w'.ownsRow B 3 1 (.slice (some ⟨g, 0, none⟩) (kpL p l).length cap) (kpL p l).length ((kpL p l).map (Value.int .i64)) ∧ Fr (fun b => b = g) w w' := by
  have HL : Hid (∀ (w' : World) (x : Int), x ∈ l → Fr (fun b => b = g) w w' → Calls Tryz.prog f (#[.int .i64 x] ++ c) w' fun r w'' => r = .returned (.bool (p x)) ∧ Below w'.heap.size w' w'') := hl
  have P := indexFI_any f c p hf w l (fun w' x hx hb => HL.out w' x hx (Fr.of hb)) (some ⟨g, 0, none⟩) cap hm (row_ints hr)
  have HR : Hid (w.ownsRow B 3 1 (.slice (some ⟨g, 0, none⟩) l.length cap) l.length (l.map (Value.int .i64))) := hr
  have hcp := row_caps hr
  have hcf : ∀ (args : Array Value) (w : World), (callFunc f args).run Tryz.prog w = .ok (.enter f args) w := hf
  clear hl hr hf
  go_enter Tryz.func180, Tryz.ntmps180
  go_wp2_with fail
  refine P.mono ?_
  clear P
  rintro r w1 ⟨hb1, ⟨rfl, hn⟩ | ⟨i0, rfl, hi0, hpi, hn⟩⟩
  · have HF : Hid (kpL p l = l ∧ w1.ownsRow B 3 1 (.slice (some ⟨g, 0, none⟩) l.length cap) l.length (l.map (Value.int .i64)) ∧ Fr (fun b => b = g) w w1) := ⟨kpL_none hn, row_keep HR.out (fun b e => hb1.block b (row_lt HR.out b e).2), Fr.of hb1⟩
    clear hb1 hn
    go_wp2_with fail
    go_ret
    rw [HF.out.1]
    exact ⟨rfl, HF.out.2⟩
  · have i0' : (i0 : Int) < l.length := by omega
    have HE0 : Hid (kpL p (l.take (i0 + 1)) = l.take i0 ∧ w1.ownsRow B 3 1 (.slice (some ⟨g, 0, none⟩) l.length cap) l.length (l.map (Value.int .i64)) ∧ Fr (fun b => b = g) w w1) := by
      refine ⟨?_, row_keep HR.out (fun b e => hb1.block b (row_lt HR.out b e).2), Fr.of hb1⟩
      rw [take_snoc l i0 hi0 0, kpL_snoc, if_pos hpi, kpL_none hn]
    clear hn hpi hb1
    go_wp2_with fail
    have e12 : ((i0 : Int) == -1) = false := by rw [beq_eq_false_iff_ne]; omega
    rw [e12]
    clear e12
    go_loopw [5, 6] (fun iv jv wr => ∃ (i j : Nat), i < j ∧ j ≤ l.length ∧ iv = .int .i64 i ∧ jv = .int .i64 j ∧ Hid ((kpL p (l.take j)).length = i ∧ wr.ownsRow B 3 1 (.slice (some ⟨g, 0, none⟩) l.length cap) l.length ((kpL p (l.take j) ++ l.drop i).map (Value.int .i64)) ∧ Fr (fun b => b = g) w wr)) (fun _ jv _ => l.length - (intOf jv).toNat)
    case atStart =>
      refine ⟨i0, i0 + 1, by omega, by omega, rfl, by go_num, ?_⟩
      obtain ⟨h1, h2, h3⟩ := HE0.out
      refine ⟨by rw [h1, List.length_take]; omega, ?_, h3⟩
      rw [h1, List.take_append_drop]
      exact h2
    case round =>
      clear HE0 hi0 i0'
      obtain ⟨i, j, hij, hj, rfl, rfl, HI⟩ := hrel
      by_cases hlt : j < l.length
      · have hd : l.getD j 0 ∈ l := by rw [List.getD_eq_getElem?_getD, List.getElem?_eq_getElem hlt]; exact List.getElem_mem hlt
        have hx : ((kpL p (l.take j) ++ l.drop i).map (Value.int .i64))[j]? = some (.int .i64 (l.getD j 0)) := by
          have e := HI.out.1
          rw [List.getElem?_map, List.getElem?_append_right (by omega), List.getElem?_drop, e, show i + (j - i) = j from by omega, List.getElem?_eq_getElem hlt, List.getD_eq_getElem?_getD, List.getElem?_eq_getElem hlt]
          rfl
        have x1 := (row_cell HI.out.2.1 hx).1
        have P := HL.out wr (l.getD j 0) hd HI.out.2.2
        have HT : Hid (l.take (j + 1) = l.take j ++ [l.getD j 0]) := take_snoc l j hlt 0
        generalize l.getD j 0 = x at x1 P HT
        have j0 : (0 : Int) ≤ (j : Int) := by omega
        have j1 : (j : Int) < l.length := by omega
        have i0 : (0 : Int) ≤ (i : Int) := by omega
        have i1 : (i : Int) < l.length := by omega
        clear hx hd
        go_wp2_with fail
        refine P.mono ?_
        clear P x1
        rintro r w2 ⟨rfl, hb2⟩
        have HR2 : Hid (w2.ownsRow B 3 1 (.slice (some ⟨g, 0, none⟩) l.length cap) l.length ((kpL p (l.take j) ++ l.drop i).map (Value.int .i64)) ∧ Fr (fun b => b = g) w w2) := ⟨row_keep HI.out.2.1 (fun b e => hb2.block b (row_lt HI.out.2.1 b e).2), HI.out.2.2.trans (Fr.of (X := fun b => b = g) hb2) (fun _ d => Or.inl d)⟩
        clear hb2
        cases hp : p x
        · have hy : ∃ y, ((kpL p (l.take j) ++ l.drop i).map (Value.int .i64))[i]? = some (Value.int .i64 y) := by
            have e := HI.out.1
            have hil : i < l.length := by omega
            refine ⟨l[i], ?_⟩
            rw [List.getElem?_map, List.getElem?_append_right (by omega), List.getElem?_drop, e, Nat.sub_self, Nat.add_zero, List.getElem?_eq_getElem hil]
            rfl
          obtain ⟨y, hy⟩ := hy
          obtain ⟨y1, y2⟩ := row_cell HR2.out.1 hy
          have HI' : Hid ((kpL p (l.take (j + 1))).length = i + 1 ∧ (w2.setCell ⟨g, i, none⟩ (.int .i64 x)).ownsRow B 3 1 (.slice (some ⟨g, 0, none⟩) l.length cap) l.length ((kpL p (l.take (j + 1)) ++ l.drop (i + 1)).map (Value.int .i64)) ∧ Fr (fun b => b = g) w (w2.setCell ⟨g, i, none⟩ (.int .i64 x))) := by
            have e := HI.out.1
            have hil : i < l.length := by omega
            have ek : kpL p (l.take (j + 1)) = kpL p (l.take j) ++ [x] := by rw [HT.out, kpL_snoc, hp]; rfl
            refine ⟨by rw [ek, List.length_append, e]; rfl, ?_, HR2.out.2.trans ((Fr.refl (fun b => b = g) w2).set g i _ rfl) (fun _ d => Or.inl d)⟩
            have h5 := row_set HR2.out.1 i (Value.int .i64 x)
            have e6 : ((kpL p (l.take j) ++ l.drop i).map (Value.int .i64)).set i (.int .i64 x) = (kpL p (l.take (j + 1)) ++ l.drop (i + 1)).map (Value.int .i64) := by
              rw [ek, ← List.map_set, List.set_append_right _ _ (by omega), e, Nat.sub_self, List.drop_eq_getElem_cons hil, List.set_cons_zero, List.append_assoc]
              rfl
            rw [e6] at h5
            exact h5
          clear hp hy HI HR2 HT
          go_wp2_with fail
          go_roundw
          case rel => exact ⟨i + 1, j + 1, by omega, by omega, by go_num, by go_num, HI'⟩
          case measure => simp [intOf]; omega
        · have HI' : Hid ((kpL p (l.take (j + 1))).length = i ∧ w2.ownsRow B 3 1 (.slice (some ⟨g, 0, none⟩) l.length cap) l.length ((kpL p (l.take (j + 1)) ++ l.drop i).map (Value.int .i64)) ∧ Fr (fun b => b = g) w w2) := by
            have ek : kpL p (l.take (j + 1)) = kpL p (l.take j) := by rw [HT.out, kpL_snoc, hp]; rfl
            rw [ek]
            exact ⟨HI.out.1, HR2.out⟩
          clear hp HI HR2 HT
          go_wp2_with fail
          go_roundw
          case rel => exact ⟨i, j + 1, by omega, by omega, rfl, by go_num, HI'⟩
          case measure => simp [intOf]; omega
      · obtain rfl : j = l.length := by omega
        have hlen : ((kpL p (l.take l.length) ++ l.drop i).map (Value.int .i64)).length = l.length := by
          have e := HI.out.1
          rw [List.length_map, List.length_append, e, List.length_drop]
          omega
        have hcl : ∀ ty, (Builtin.clear_ #[56] ty #[.slice (some ⟨g, i, none⟩) (l.length - i) (cap - i)]).run Tryz.prog wr = .ok (.tuple #[]) (wr.setCells g i (List.replicate (l.length - i) (.int .i64 0))) := fun ty =>
          Lib.run_clear_slice wr _ _ ty _ Tryz.underlying56 (fun w => zeroI w) rfl rfl g i _ _ (by omega) (fun k hk => by
            rw [(row_cell HI.out.2.1 (List.getElem?_eq_getElem (by rw [hlen]; omega : i + k < _))).1]; rfl) (fun k hk => (row_cell HI.out.2.1 (List.getElem?_eq_getElem (by rw [hlen]; omega : i + k < _))).2)
        have HZ : Hid ((kpL p l).length = i ∧ (wr.setCells g i (List.replicate (l.length - i) (.int .i64 0))).ownsRow B 3 1 (.slice (some ⟨g, 0, none⟩) i cap) i ((kpL p l).map (Value.int .i64)) ∧ Fr (fun b => b = g) w (wr.setCells g i (List.replicate (l.length - i) (.int .i64 0)))) := by
          obtain ⟨h1, h2, h3⟩ := HI.out
          rw [List.take_length] at h1 h2
          refine ⟨h1, ?_, h3.trans (fr_sets _ _ _) (fun _ d => Or.inl d)⟩
          obtain ⟨xs, h4, h5⟩ := row_sets (i := i) (List.replicate (l.length - i) (Value.int .i64 0)) i h2 (Nat.le_refl _)
          have h6 := row_front h4 i (by omega)
          rw [h5, List.map_append, List.take_append_of_le_length (by simp; omega), List.take_of_length_le (by simp; omega)] at h6
          exact h6
        have i0 : (0 : Int) ≤ (i : Int) := by omega
        have i1 : (i : Int) < l.length := by omega
        clear hlt HI hlen
        go_wp2_with fail
        go_ret
        rw [HZ.out.1]
        exact ⟨rfl, HZ.out.2⟩

end Go.Proofs.YtmocakafnnkjfabGreat
