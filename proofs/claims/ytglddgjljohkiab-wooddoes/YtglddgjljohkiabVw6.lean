/- A walk: values over whatever meets: a contract. -/
import Derived.Test.YtglddgjljohkiabVw5
namespace Go.Proofs.Ytglddgjljohkiab
open Go.RowKit W Kp Stl

/-- Words lie at an address, in a block of words. -/
def Lq (w : World) (ad : Option Addr) (l : List Int) : Prop := Ls w ad l ∧ (0 < l.length → ∃ b o cs, ad = some ⟨b, o, none⟩ ∧ w.heap[b]? = some (.cells cs 2 (0, 0)))
theorem Lq.kf {B : Nat} {w w' : World} {ad : Option Addr} {l : List Int} (h : Lq w ad l) (k : Kf B w w') : Lq w' ad l := by
  have hk : 0 < l.length → ∀ b, ad = some b → w'.heap[b.block]? = w.heap[b.block]? := fun hp b e => by
    obtain ⟨b0, o0, cs, e0, hb⟩ := h.2 hp
    rw [e0] at e
    cases e
    exact k.oth _ _ _ _ hb (by decide) (by decide)
  refine ⟨h.1.keep k.size hk, fun hp => ?_⟩
  obtain ⟨b0, o0, cs, e0, hb⟩ := h.2 hp
  exact ⟨b0, o0, cs, e0, (hk hp _ e0).trans hb⟩
theorem Lq.of {w : World} {base cap : Nat} {ad : Option Addr} {l : List Int} (h : w.ownsRow base 2 1 (.slice ad l.length cap) l.length (l.map (Value.int .i64))) : Lq w ad l := by
  refine ⟨row_ints h, fun hp => ?_⟩
  obtain ⟨b0, c0, e0⟩ := row_shape h hp
  obtain ⟨cs, hc⟩ := row_type h b0 (by rw [e0]; rfl)
  cases e0
  exact ⟨b0, 0, cs, rfl, hc⟩

section
variable {w0 w : World} {kb mq pw n : Nat} {T : List Int} {kd : Int → Int} {sh : Int → List Int} {M : Vst → Int → Vst} {s : Vst} {vn : Value} {m : List Vnd}

set_option maxRecDepth 100000 in
set_option maxHeartbeats 1000000 in
theorem values_any (hM : Meets w0 kb mq pw T M n) (hV : Vmet T kd sh n M) (h : Wk w0 w kb mq pw T s vn m) (ho : VOk T s) (hn : T.length ≤ s.1.length + n) (l : List Int) (ad : Option Addr) (cap : Nat) (hl : Lq w ad l) (hm : l.length ≤ 100000) :
    Calls Try.prog 78 #[.pointer (some ⟨kb, 0, none⟩), .slice ad l.length cap] w fun e w' => ∃ vn' m' a2 c2, e = .returned (.slice a2 l.length c2) ∧ w'.ownsRow w.heap.size 85 2 (.slice a2 l.length c2) l.length (ev (vls M T s l).1) ∧ Wk w0 w' kb mq pw T (vls M T s l).2 vn' m' ∧ Kv w0 w m w' m' ∧ (∀ k, Fb m' k → some k ≠ (Value.slice a2 l.length c2).ownBlock) := by
  obtain ⟨i0, hi, hz0, hz1, hz2⟩ := info_parts infoVal
  have HM : Hid (Meets w0 kb mq pw T M n) := hM
  have HV : Hid (Vmet T kd sh n M) := hV
  have HL : Hid (Lq w ad l) := hl
  have HW : Hid (Wk w0 w kb mq pw T s vn m) := h
  have HO : Hid (VOk T s) := ho
  clear hM hV hl h ho
  go_enter Try.func78, Try.ntmps78
  go_wp2_with (at_make; refine wpList_make_own _ rfl _ _ 77 rfl w.heap.size 85 i0 (.agg #[.int .i64 0, .int .i64 0]) 2 Try.underlying77 hi hz0 hz1 .i64 .i64 _ l.length rfl rfl rfl (by rw [hz2]; omega) (by unfold maxLen; omega) (Nat.le_refl _) ?_; intro w1 hown1 hgrow1)
  have hb1 : Below w.heap.size w w1 := (Below.refl w.heap.size w).grown hgrow1 (Nat.le_refl _) (fun k e => by cases e)
  go_loopw [5, 13] (fun tv iv wr => ∃ (j : Nat) (V : List (Int × Int)) (s1 : Vst) (vn1 : Value) (m1 : List Vnd) (a2 : Option Addr) (c2 : Nat), j ≤ l.length ∧ iv = .int .i64 j ∧ Hid (vls M T s (l.take j) = (V, s1)) ∧ tv = .slice a2 j c2 ∧ wr.ownsRow w.heap.size 85 2 (.slice a2 j c2) j (ev V) ∧ Hid (Wk w0 wr kb mq pw T s1 vn1 m1) ∧ Hid (Kv w0 w m wr m1) ∧ Hid (∀ k, Fb m1 k → some k ≠ (Value.slice a2 j c2).ownBlock) ∧ Hid (VOk T s1 ∧ T.length ≤ s1.1.length + n)) (fun _ iv _ => l.length - (intOf iv).toNat)
  case atStart => exact ⟨0, [], s, vn, m, _, _, Nat.zero_le _, rfl, rfl, rfl, hown1, HW.out.below hb1, Kv.of hb1, fun k hk e => by
    have := HW.out.fb k hk
    simp [Value.ownBlock] at e
    omega, ⟨HO.out, hn⟩⟩
  case round =>
    obtain ⟨j, V, s1, vn1, m1, a2, c2, hj, rfl, HE, rfl, hT, HW1, HK1, HF1, HO1⟩ := hrel
    clear hown1 hgrow1 hb1
    by_cases hlt : j < l.length
    · obtain ⟨b0, o0, e0, hb0, hc⟩ := (HL.out.kf HK1.out.1).1 (by omega)
      have x1 := hc j hlt
      subst e0
      clear hc
      have HS := vls_snoc M T s (l.take j) (l.getD j 0)
      rw [← take_snoc l j hlt 0, HE.out] at HS
      have HS : Hid (vls M T s (l.take (j + 1)) = (V ++ [(vst M T s1 (l.getD j 0)).1], (vst M T s1 (l.getD j 0)).2)) := HS
      generalize l.getD j 0 = x at x1 HS
      have P := value_any HM.out HW1.out HO1.out.1 HO1.out.2 x
      have G := vst_go HV.out HO1.out.1 HO1.out.2 x
      have HO2 : Hid (VOk T (vst M T s1 x).2 ∧ T.length ≤ (vst M T s1 x).2.1.length + n) := ⟨G.ok, by have := G.le; have := HO1.out.2; omega⟩
      clear G
      generalize (vst M T s1 x).2 = s2 at P HS HO2
      obtain ⟨u, v, huv⟩ : ∃ u v, (vst M T s1 x).1 = (u, v) := ⟨_, _, rfl⟩
      rw [huv] at P HS
      clear huv
      go_wp2_with fail
      refine P.mono ?_
      clear P
      rintro e w2 ⟨vn2, m2, rfl, hW2, hK2⟩
      have hT2 := row_keep hT (fun k hk => by
        obtain ⟨cs, hcs⟩ := row_type hT k hk
        exact hK2.1.oth k _ _ _ hcs (by decide) (by decide))
      have HF2 : Hid (∀ k, Fb m2 k → some k ≠ (Value.slice a2 j c2).ownBlock) := fun k hk e => (hK2.2 k hk).elim (fun c => HF1.out k c e) (fun c => by have := (row_lt hT k e).2; omega)
      have HK2 : Hid (Kv w0 w m w2 m2) := HK1.out.trans hK2
      have hs2 := HK2.out.1.size
      have HW2 : Hid (Wk w0 w2 kb mq pw T s2 vn2 m2) := hW2
      clear hT hK2 HK1 HF1 HW1 HO1 x1 hW2
      have HT2 : Hid (w2.ownsRow w.heap.size 85 2 (.slice a2 j c2) j (ev V)) := hT2
      go_wp2_with (at_builtin; refine wpList_append_own_at _ rfl _ _ 77 rfl w.heap.size 85 i0 (.agg #[.int .i64 0, .int .i64 0]) 2 16 Try.underlying77 hi hz0 hz1 hz2 rfl (by decide) (.slice a2 j c2) j (ev V) rfl (row_alloc hT2 _) ⟨w2.heap.size, 0, none⟩ 1 1 [.int .i64 u, .int .i64 v] rfl rfl ?_ ?_ ?_ ?_ ?_ ?_; (intro j u hj; match j, hj with | 0, hj => (simp at hj; subst hj; simp [Addr.add]) | 1, hj => (simp at hj; subst hj; simp [Addr.add])); (intro u hu; simp at hu; rcases hu with hu | hu <;> (subst hu; rfl)); (unfold maxLen; omega); omega; (simp; omega); intro v' w4 hown4 hgrow4 _ hloc4; obtain ⟨b4, cap4, ev4⟩ := row_shape hown4 (Nat.succ_pos _); subst ev4)
      have hT4 : w4.ownsRow w.heap.size 85 2 (.slice (some ⟨b4, 0, none⟩) (j + 1) cap4) (j + 1) (ev (V ++ [(u, v)])) := by
        rw [ev_append]
        simpa [ev] using hown4
      have hba := (Below.refl w2.heap.size w2).alloc (Nat.le_refl _) (.cells #[.int .i64 u, .int .i64 v] 85)
      have hfr : Fr (fun k => some k = (Value.slice a2 j c2).ownBlock) (w2.alloc (.cells #[.int .i64 u, .int .i64 v] 85)) w4 := (Fr.refl _ _).grown hgrow4 (fun k e => Or.inl e.symm)
      have HW4 : Hid (Wk w0 w4 kb mq pw T s2 vn2 m2) := (HW2.out.below hba).but hfr (fun k _ e => by
        obtain ⟨cs, hcs⟩ := row_type HT2.out k e
        exact ⟨⟨cs, (hba.block k (row_lt HT2.out k e).2).trans hcs⟩, fun c => HF2.out k c e, Nat.le_trans HW.out.bel.size (row_lt HT2.out k e).1⟩)
      have HK4 : Hid (Kv w0 w m w4 m2) := (HK2.out.trans (Kv.of hba)).new hfr (fun k e => (row_lt HT2.out k e).1)
      have hbl4 : some b4 = (Value.slice a2 j c2).ownBlock ∨ b4 = w2.heap.size + 1 := hloc4.imp id (fun e => by simpa [Value.ownBlock] using e)
      have HF4 : Hid (∀ k, Fb m2 k → some k ≠ some b4) := fun k hk e => hbl4.elim (fun c => HF2.out k hk (e.trans c)) (fun c => by have := HW2.out.fb k hk; simp at e; omega)
      clear hown4 hgrow4 hloc4 hbl4 hba hfr HT2 hT2 HF2 HK2 HW2
      go_wp2_with fail
      go_roundw
      case rel => exact ⟨j + 1, V ++ [(u, v)], s2, vn2, m2, some ⟨b4, 0, none⟩, cap4, by omega, by go_num, HS, rfl, hT4, HW4, HK4, HF4, HO2⟩
      case measure => simp [intOf]; omega
    · obtain rfl : j = l.length := by omega
      rw [List.take_length] at HE
      go_wp2_with fail
      go_ret
      rw [HE.out]
      exact ⟨vn1, m1, a2, c2, rfl, hT, HW1.out, HK1.out, HF1.out⟩
end

end Go.Proofs.Ytglddgjljohkiab
