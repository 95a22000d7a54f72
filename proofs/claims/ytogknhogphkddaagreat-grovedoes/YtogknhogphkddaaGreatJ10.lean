/- Joined: Gr4, Gp6, Gr6, Gr8. -/
import Derived.Test.YtogknhogphkddaaGreatGr3
import Derived.Test.YtogknhogphkddaaGreatJ04
import Derived.Test.YtogknhogphkddaaGreatJ06
import Derived.Test.YtogknhogphkddaaGreatJ02
import Derived.Deep.DeepCutAuto
import Derived.Deep.LoopGhost
import Derived.Test.YtogknhogphkddaaGreatJ03
/- The document's world: First: a contract. -/
namespace Go.Proofs.YtogknhogphkddaaGreat
open Go.RowKit W Kp Stl

section
variable {rp rb : Nat} {most grow : Int} {F : Nat → Prop} {s : Wrs} {w : World}

def frI (mj : Bool) (T : List Tw1) (i : Nat) : List Bool := (T.take i).map (fr0 mj) ++ List.replicate (T.length - i) false
theorem frI_len (mj : Bool) (T : List Tw1) (i : Nat) (hi : i ≤ T.length) : (frI mj T i).length = T.length := by
  unfold frI
  simp
  omega
theorem frI_next (mj : Bool) (T : List Tw1) (i : Nat) (hi : i < T.length) : (frI mj T i).set i (fr0 mj (T.getD i t0)) = frI mj T (i + 1) := by
  unfold frI
  have hl : ((T.take i).map (fr0 mj)).length = i := by simp; omega
  rw [List.set_append_right _ _ (by omega), hl, Nat.sub_self, List.take_succ_eq_append_getElem hi, List.map_append, show T.length - i = (T.length - (i + 1)) + 1 by omega, List.replicate_succ, List.set_cons_zero, List.append_assoc]
  congr 1
  rw [List.getD_eq_getElem?_getD, List.getElem?_eq_getElem hi]
  rfl

set_option maxRecDepth 100000 in
set_option maxHeartbeats 4000000 in
theorem first_any (h : (wrO rp rb most grow).J F s w) (mj : Bool) (hl : s.T.length ≤ 10000) (hr : ∀ v ∈ s.rs, v.1 = 3 → 0 ≤ v.2 ∧ v.2 < s.T.length) :
    Calls Tryz.prog 53 #[.pointer (some ⟨rp, 0, none⟩), .bool mj] w fun e w' => ∃ b, e = .returned (.slice (some ⟨b, 0, none⟩) s.T.length s.T.length) ∧ w'.ownsRow w.heap.size 4 1 (.slice (some ⟨b, 0, none⟩) s.T.length s.T.length) s.T.length ((frs s.T s.rs mj).map Value.bool) ∧ Below w.heap.size w w' := by
  obtain ⟨i0, hi0, hz0, hz1, hz2⟩ := info_parts infoB
  have HJ : Hid ((wrO rp rb most grow).J F s w) := h
  have HR : Hid (∀ v ∈ s.rs, v.1 = 3 → 0 ≤ v.2 ∧ v.2 < s.T.length) := hr
  obtain ⟨aT, cT, c0, _⟩ := wr_things h
  clear h hr
  go_enter Tryz.func53, Tryz.ntmps53
  go_wp2_with (at_make; refine wpList_make_full _ rfl _ _ 107 rfl w.heap.size 4 i0 (.bool false) 1 Tryz.underlying107 hi0 hz0 hz1 .i64 .i64 _ _ s.T.length rfl rfl (by omega) (by omega) (by rw [hz2]; omega) (by unfold maxLen; omega) (Nat.le_refl _) ?_; intro w1 hown hgrow)
  have hb1 : Below w.heap.size w w1 := (Below.refl _ w).grown hgrow (Nat.le_refl _) (fun _ h => by cases h)
  have H1 : Hid (w1.ownsRow w.heap.size 4 1 (.slice (some ⟨w.heap.size, 0, none⟩) s.T.length s.T.length) s.T.length ((frI mj s.T 0).map Value.bool) ∧ Below w.heap.size w w1) := ⟨by
    have e : frI mj s.T 0 = List.replicate s.T.length false := by unfold frI; simp
    rw [e]
    exact made_rowB hown, hb1⟩
  have HWG : Hid (∀ w', Below w.heap.size w w' → (wrO rp rb most grow).J F s w') := fun w' hb => (wrO rp rb most grow).below HJ.out hb
  clear hown hgrow hb1 c0 HJ
  go_loopw [6] (fun iv wr => ∃ i : Nat, i ≤ s.T.length ∧ iv = .int .i64 i ∧ Hid (wr.ownsRow w.heap.size 4 1 (.slice (some ⟨w.heap.size, 0, none⟩) s.T.length s.T.length) s.T.length ((frI mj s.T i).map Value.bool) ∧ Below w.heap.size w wr)) (fun iv _ => s.T.length - (intOf iv).toNat)
  case atStart => exact ⟨0, Nat.zero_le _, rfl, H1⟩
  case round =>
    clear H1
    obtain ⟨i, hi, rfl, H⟩ := hrel
    have hJ := HWG.out wr H.out.2
    obtain ⟨aT, cT, c0, _, hT⟩ := wr_things hJ
    by_cases hlt : i < s.T.length
    · obtain ⟨t, ht⟩ : ∃ t, s.T[i]? = some t := ⟨_, List.getElem?_eq_getElem hlt⟩
      obtain ⟨b, fa, fc, rfl, y0, y1, y2, y3, _⟩ := hT i t ht
      have et : s.T.getD i t0 = t := by rw [List.getD_eq_getElem?_getD, ht]; rfl
      have HX : Hid ((frI mj s.T i).set i (fr0 mj t) = frI mj s.T (i + 1)) := by
        show _ = _
        rw [← et]
        exact frI_next mj s.T i hlt
      have hlen := frI_len mj s.T i hi
      have hci : ((frI mj s.T i).map Value.bool)[i]? = some (.bool ((frI mj s.T i).getD i false)) := by
        rw [List.getElem?_map, List.getElem?_eq_getElem (by omega), List.getD_eq_getElem?_getD, List.getElem?_eq_getElem (by omega)]
        rfl
      obtain ⟨u0, u1⟩ := row_cell H.out.1 hci
      have HP : Hid (∀ v : Bool, (wr.setCell ⟨w.heap.size, i, none⟩ (.bool v)).ownsRow w.heap.size 4 1 (.slice (some ⟨w.heap.size, 0, none⟩) s.T.length s.T.length) s.T.length (((frI mj s.T i).set i v).map Value.bool) ∧ Below w.heap.size w (wr.setCell ⟨w.heap.size, i, none⟩ (.bool v))) := fun v => ⟨by
        rw [List.map_set]
        exact row_put H.out.1 i _, H.out.2.trans (((Fr.refl (fun k => k = w.heap.size) wr).set w.heap.size i _ rfl).below H.out.2.size (fun k e => Nat.le_of_eq (Eq.symm e)))⟩
      have q0 : (0 : Int) ≤ (i : Int) := by omega
      have q1 : (i : Int) < (s.T.length : Int) := by omega
      obtain ⟨kd, fs, od, dd⟩ := t
      dsimp only at *
      have HQ := HP.out (fr0 mj (kd, fs, od, dd))
      rw [HX.out] at HQ
      have HQ2 : Hid _ := HQ
      clear hT hJ et HX hci hlen HQ HP H ht
      unfold fr0 at HQ2
      dsimp only at HQ2
      cases od
      · simp only [Bool.false_and] at HQ2
        go_wp2_with fail
        go_roundw
        case rel => exact ⟨i + 1, by omega, by go_num, HQ2⟩
        case measure => simp [intOf]; omega
      · cases dd
        · cases mj
          · simp only [Bool.not_false, Bool.and_self] at HQ2
            go_wp2_with fail
            go_roundw
            case rel => exact ⟨i + 1, by omega, by go_num, HQ2⟩
            case measure => simp [intOf]; omega
          · simp only [Bool.not_false, Bool.not_true, Bool.and_self, Bool.and_false] at HQ2
            go_wp2_with fail
            go_roundw
            case rel => exact ⟨i + 1, by omega, by go_num, HQ2⟩
            case measure => simp [intOf]; omega
        · simp only [Bool.not_true, Bool.and_false, Bool.false_and] at HQ2
          go_wp2_with fail
          go_roundw
          case rel => exact ⟨i + 1, by omega, by go_num, HQ2⟩
          case measure => simp [intOf]; omega
    · obtain rfl : i = s.T.length := by omega
      have H2 : Hid (wr.ownsRow w.heap.size 4 1 (.slice (some ⟨w.heap.size, 0, none⟩) s.T.length s.T.length) s.T.length ((((s.rs.take 0).foldl frR (s.T.map (fr0 mj)))).map Value.bool) ∧ Below w.heap.size w wr) := ⟨by
        have e : frI mj s.T s.T.length = s.T.map (fr0 mj) := by unfold frI; simp
        have := H.out.1
        rw [e] at this
        simpa using this, H.out.2⟩
      have HRL : Hid (s.rs.length = 12) := (wr_cells hJ).2.2.2.2.2.2.1
      clear hT hJ H
      go_wp2_with fail
      go_loopw [7] (fun kv wr => ∃ k : Nat, k ≤ 12 ∧ kv = .int .i64 k ∧ Hid (wr.ownsRow w.heap.size 4 1 (.slice (some ⟨w.heap.size, 0, none⟩) s.T.length s.T.length) s.T.length ((((s.rs.take k).foldl frR (s.T.map (fr0 mj)))).map Value.bool) ∧ Below w.heap.size w wr)) (fun kv _ => 12 - (intOf kv).toNat)
      case atStart => exact ⟨0, by omega, rfl, H2⟩
      case round =>
        clear H2 c0
        obtain ⟨k, hk, rfl, H⟩ := hrel
        have hJ := HWG.out wr H.out.2
        obtain ⟨c1, _, _, _, _, _, _, hrt⟩ := wr_cells hJ
        by_cases hlk : k < 12
        · obtain ⟨x0, x1, _⟩ := hrt k hlk
          have hkl : k < s.rs.length := by rw [HRL.out]; exact hlk
          have hv := HR.out (s.rs.getD k (0, 0)) (getD_in hkl)
          have HX : Hid (∀ L0 : List Bool, (s.rs.take (k + 1)).foldl frR L0 = frR ((s.rs.take k).foldl frR L0) (s.rs.getD k (0, 0))) := fun L0 => by
            rw [List.take_succ_eq_append_getElem hkl, List.foldl_append, List.getD_eq_getElem?_getD, List.getElem?_eq_getElem hkl]
            rfl
          have HLn : Hid (((s.rs.take k).foldl frR (s.T.map (fr0 mj))).length = s.T.length) := by
            show _ = _
            have := frs_len s.T (s.rs.take k) mj
            exact this
          generalize s.rs.getD k (0, 0) = v at *
          obtain ⟨vk, vn⟩ := v
          dsimp only at *
          have q0 : (0 : Int) ≤ (k : Int) := by omega
          have q1 : (k : Int) < 12 := by omega
          by_cases h3 : vk = 3
          · obtain ⟨n0, n1⟩ := hv h3
            obtain ⟨n, rfl⟩ := Int.eq_ofNat_of_zero_le n0
            have b3 : (vk == 3) = true := by simpa using h3
            have HQ : Hid ((wr.setCell ⟨w.heap.size, n, none⟩ (.bool true)).ownsRow w.heap.size 4 1 (.slice (some ⟨w.heap.size, 0, none⟩) s.T.length s.T.length) s.T.length (((s.rs.take (k + 1)).foldl frR (s.T.map (fr0 mj))).map Value.bool) ∧ Below w.heap.size w (wr.setCell ⟨w.heap.size, n, none⟩ (.bool true))) := ⟨by
              rw [HX.out]
              unfold frR
              rw [if_pos h3, List.map_set]
              exact row_put H.out.1 n _, H.out.2.trans (((Fr.refl (fun k => k = w.heap.size) wr).set w.heap.size n _ rfl).below H.out.2.size (fun k e => Nat.le_of_eq (Eq.symm e)))⟩
            have hci : (((s.rs.take k).foldl frR (s.T.map (fr0 mj))).map Value.bool)[n]? = some (.bool (((s.rs.take k).foldl frR (s.T.map (fr0 mj))).getD n false)) := by
              have hl9 : n < ((s.rs.take k).foldl frR (s.T.map (fr0 mj))).length := by rw [HLn.out]; omega
              rw [List.getElem?_map, List.getElem?_eq_getElem hl9, List.getD_eq_getElem?_getD, List.getElem?_eq_getElem hl9]
              rfl
            obtain ⟨u0, u1⟩ := row_cell H.out.1 hci
            have q2 : (0 : Int) ≤ (n : Int) := n0
            clear hJ hrt hv HX h3 H hci n0
            go_wp2_with fail
            go_roundw
            case rel => exact ⟨k + 1, by omega, by go_num, HQ⟩
            case measure => simp [intOf]; omega
          · have b3 : (vk == 3) = false := by simpa using h3
            have HQ : Hid (wr.ownsRow w.heap.size 4 1 (.slice (some ⟨w.heap.size, 0, none⟩) s.T.length s.T.length) s.T.length (((s.rs.take (k + 1)).foldl frR (s.T.map (fr0 mj))).map Value.bool) ∧ Below w.heap.size w wr) := ⟨by
              rw [HX.out]
              unfold frR
              rw [if_neg h3]
              exact H.out.1, H.out.2⟩
            clear hJ hrt hv HX h3 H
            go_wp2_with fail
            go_roundw
            case rel => exact ⟨k + 1, by omega, by go_num, HQ⟩
            case measure => simp [intOf]; omega
        · obtain rfl : k = 12 := by omega
          have hfin : wr.ownsRow w.heap.size 4 1 (.slice (some ⟨w.heap.size, 0, none⟩) s.T.length s.T.length) s.T.length ((frs s.T s.rs mj).map Value.bool) := by
            have := H.out.1
            rw [List.take_of_length_le (by rw [HRL.out]; decide)] at this
            exact this
          have hbf := H.out.2
          clear hJ hrt H
          go_wp2_with fail
          go_ret
          exact ⟨w.heap.size, rfl, hfin, hbf⟩
end

end Go.Proofs.YtogknhogphkddaaGreat

/- What a cut asks. -/
namespace Go.Proofs.YtogknhogphkddaaGreat
open Go.RowKit W Kp Stl

structure Wcv (s : Wrs) : Prop where
  iv : Wiv s.T s.wt
  rv : ∀ v ∈ s.rs, v.1 = 3 → 0 ≤ v.2 ∧ Alv s.T v.2.toNat
  gv : ∀ e ∈ s.rg, (0 ≤ e.1 ∧ Alv s.T e.1.toNat) ∧ 0 ≤ e.2 ∧ Alv s.T e.2.toNat
  wg : ∀ e ∈ s.wt, 0 ≤ e.1 ∧ Alv s.T e.1.toNat
  tl : s.T.length ≤ 10000
  gl : s.rg.length ≤ 1000
  wl : s.wt.length ≤ 1000
theorem Wcv.t12 {s : Wrs} (h : Wcv s) : ∀ t ∈ s.T, t.2.1.length ≤ 12 := fun t ht => by
  obtain ⟨i, hi, e⟩ := List.mem_iff_getElem.1 ht
  have := h.iv.tl i
  rw [List.getD_eq_getElem?_getD, List.getElem?_eq_getElem hi, e] at this
  exact this
theorem Wcv.first {s : Wrs} (h : Wcv s) (mj : Bool) : Sok_ s.T (frs s.T s.rs mj) :=
  ⟨frs_len _ _ _, fun k hk => by
    obtain ⟨h1, h2⟩ := (frs_in _ _ _ _).1 hk
    rcases h2 with ⟨_, h2, _⟩ | ⟨v, hv, h3, e⟩
    · exact ⟨h1, h2⟩
    · rw [← e]
      exact (h.rv v hv h3).2⟩

end Go.Proofs.YtogknhogphkddaaGreat

/- The document's world: Cut: a contract. -/
namespace Go.Proofs.YtogknhogphkddaaGreat
open Go.RowKit W Kp Stl

theorem wr_wg {rp rb : Nat} {most grow : Int} {F : Nat → Prop} {s : Wrs} {w : World} (h : (wrO rp rb most grow).J F s w) : Wg w rp s.T s.wt := by
  obtain ⟨aT, cT, c0, _, hT⟩ := wr_things h
  obtain ⟨v2, v3, _, d3, _, r3, _⟩ := wr_regs h
  obtain ⟨a3, c3, e3⟩ := row_slice r3
  subst e3
  exact ⟨⟨aT, cT, c0, fun i x hx => by
    obtain ⟨b, ad, cp, e, y0, y1, y2, y3, yl, _⟩ := hT i x hx
    exact ⟨b, ad, cp, e, y0, y1, y2, y3, yl⟩⟩, ⟨a3, c3, d3, row_pairs r3⟩⟩

theorem fl_next {α : Type} (f : α → Bool) (l : List α) (i : Nat) (hi : i < l.length) (d : α) : (((l.take i).map f) ++ List.replicate (l.length - i) false).set i (f (l.getD i d)) = ((l.take (i + 1)).map f) ++ List.replicate (l.length - (i + 1)) false := by
  have hl : ((l.take i).map f).length = i := by simp; omega
  rw [List.set_append_right _ _ (by omega), hl, Nat.sub_self, List.take_succ_eq_append_getElem hi, List.map_append, show l.length - i = (l.length - (i + 1)) + 1 by omega, List.replicate_succ, List.set_cons_zero, List.append_assoc]
  congr 1
  rw [List.getD_eq_getElem?_getD, List.getElem?_eq_getElem hi]
  rfl
theorem fl_len {α : Type} (f : α → Bool) (l : List α) (i : Nat) (hi : i ≤ l.length) : (((l.take i).map f) ++ List.replicate (l.length - i) false).length = l.length := by
  simp
  omega
theorem bool_at {L : List Bool} {i : Nat} (h : i < L.length) : (L.map Value.bool)[i]? = some (.bool (L.getD i false)) := by
  rw [List.getElem?_map, List.getElem?_eq_getElem h, List.getD_eq_getElem?_getD, List.getElem?_eq_getElem h]
  rfl

structure Rk (w : World) (s : Wrs) (db mb xb : Nat) (v0 v1 v2 : Value) (most grow : Int) (D : List Bool) (wr : World) (ai : Option Addr) (ci : Nat) (L M : List Bool) (C : List En) : Prop where
  ri : wr.ownsRow w.heap.size 4 1 (.slice ai s.T.length ci) s.T.length (L.map Value.bool)
  bl : Below w.heap.size w wr
  rd : wr.ownsRow w.heap.size 4 1 (.slice (some ⟨db, 0, none⟩) s.rg.length s.rg.length) s.rg.length (D.map Value.bool)
  rm : wr.ownsRow w.heap.size 4 1 (.slice (some ⟨mb, 0, none⟩) s.rg.length s.rg.length) s.rg.length (M.map Value.bool)
  xx : ∃ ax cx, wr.heap[xb]? = some (.cells #[v0, v1, v2, .slice ax (s.wt ++ C).length cx, .int .i64 most, .int .i64 grow] 60 (0, 0)) ∧ wr.ownsRow w.heap.size 71 2 (.slice ax (s.wt ++ C).length cx) (s.wt ++ C).length (ev (s.wt ++ C))
  ne : ∀ k, some k = (Value.slice ai s.T.length ci).ownBlock → k ≠ db ∧ k ≠ mb
theorem Rk.below {w : World} {s : Wrs} {db mb xb : Nat} {v0 v1 v2 : Value} {most grow : Int} {D : List Bool} {wr wr' : World} {ai : Option Addr} {ci : Nat} {L M : List Bool} {C : List En} (h : Rk w s db mb xb v0 v1 v2 most grow D wr ai ci L M C) (hb : Below wr.heap.size wr wr') : Rk w s db mb xb v0 v1 v2 most grow D wr' ai ci L M C := by
  obtain ⟨ax, cx, h1, h2⟩ := h.xx
  exact ⟨row_keep h.ri (fun k e => hb.block k (row_lt h.ri k e).2), h.bl.trans (hb.mono h.bl.size), row_keep h.rd (fun k e => hb.block k (row_lt h.rd k e).2), row_keep h.rm (fun k e => hb.block k (row_lt h.rm k e).2), ⟨ax, cx, (hb.block xb (lt_of_some h1)).trans h1, row_keep h2 (fun k e => hb.block k (row_lt h2 k e).2)⟩, h.ne⟩
section
variable {w : World} {s : Wrs} {db mb xb : Nat} {v0 v1 v2 : Value} {most grow : Int} {D : List Bool} {wr : World} {ai : Option Addr} {ci : Nat} {L M : List Bool} {C : List En}

theorem row_apart {b b' n n' m m' : Nat} {e e' : TypeId} {v v' : Value} {l l' : List Value} (h : wr.ownsRow b e m v n l) (h' : wr.ownsRow b' e' m' v' n' l') (hne : e ≠ e') : ∀ k, some k = v.ownBlock → ¬ some k = v'.ownBlock := by
  intro k e1 e2
  obtain ⟨c1, h1⟩ := row_type h k e1
  obtain ⟨c2, h2⟩ := row_type h' k e2
  rw [h1] at h2
  simp at h2
  exact hne h2.2
theorem Rk.world (h : Rk w s db mb xb v0 v1 v2 most grow D wr ai ci L M C) : ∀ {b n m : Nat} {e : TypeId} {v : Value} {l : List Value}, wr.ownsRow b e m v n l → e ≠ 60 → ∀ k, some k = v.ownBlock → k ≠ xb := fun hr hne k e1 e2 => by
  obtain ⟨ax, cx, h1, _⟩ := h.xx
  obtain ⟨c1, h2⟩ := row_type hr k e1
  rw [e2, h1] at h2
  simp at h2
  exact hne h2.2.symm
theorem Rk.push (h : Rk w s db mb xb v0 v1 v2 most grow D wr ai ci L M C) (hx0 : w.heap.size ≤ xb) {ax : Option Addr} {cx : Nat} (h1 : wr.heap[xb]? = some (.cells #[v0, v1, v2, .slice ax (s.wt ++ C).length cx, .int .i64 most, .int .i64 grow] 60 (0, 0))) (h2 : wr.ownsRow w.heap.size 71 2 (.slice ax (s.wt ++ C).length cx) (s.wt ++ C).length (ev (s.wt ++ C))) {wn : World} {e : En} {ax' : Option Addr} {cx' : Nat} (hg : Fr (fun k => some k = (Value.slice ax (s.wt ++ C).length cx).ownBlock) wr wn) (hr : wn.ownsRow w.heap.size 71 2 (.slice ax' (s.wt ++ (C ++ [e])).length cx') (s.wt ++ (C ++ [e])).length (ev (s.wt ++ (C ++ [e])))) : Rk w s db mb xb v0 v1 v2 most grow D (wn.setCell ⟨xb, 3, none⟩ (.slice ax' (s.wt ++ (C ++ [e])).length cx')) ai ci L M (C ++ [e]) := by
  have kk : ∀ k, k ≠ xb → (wn.setCell ⟨xb, 3, none⟩ (.slice ax' (s.wt ++ (C ++ [e])).length cx')).heap[k]? = wn.heap[k]? := fun k hk => Below.heap_setCell _ _ _ _ hk
  have hxn : wn.heap[xb]? = some (.cells #[v0, v1, v2, .slice ax (s.wt ++ C).length cx, .int .i64 most, .int .i64 grow] 60 (0, 0)) := (hg.block xb (lt_of_some h1) (fun e1 => h.world h2 (by decide) xb e1 rfl)).trans h1
  have hk : ∀ {b n m : Nat} {v : Value} {l : List Value}, wr.ownsRow b 4 m v n l → (wn.setCell ⟨xb, 3, none⟩ (.slice ax' (s.wt ++ (C ++ [e])).length cx')).ownsRow b 4 m v n l := fun hb => row_keep hb (fun k e1 => (kk k (h.world hb (by decide) k e1)).trans (hg.block k (row_lt hb k e1).2 (row_apart hb h2 (by decide) k e1)))
  refine ⟨hk h.ri, ?_, hk h.rd, hk h.rm, ⟨ax', cx', ?_, row_keep hr (fun k e1 => kk k (fun e2 => ?_))⟩, h.ne⟩
  · have hb := h.bl.trans (hg.below h.bl.size (fun k e1 => (row_lt h2 k e1).1))
    exact hb.trans (((Fr.refl (fun k => k = xb) wn).set xb 3 _ rfl).below hb.size (fun k e1 => by have e1 : k = xb := e1; omega))
  · simp only [World.setCell, Array.getElem?_modify, if_true, hxn, Option.map_some]
    simp
  · obtain ⟨c1, h3⟩ := row_type hr k e1
    rw [e2, hxn] at h3
    simp at h3
theorem Rk.mark {ib : Nat} (h : Rk w s db mb xb v0 v1 v2 most grow D wr (some ⟨ib, 0, none⟩) ci L M C) (n : Nat) : Rk w s db mb xb v0 v1 v2 most grow D (wr.setCell ⟨ib, n, none⟩ (.bool true)) (some ⟨ib, 0, none⟩) ci (L.set n true) M C := by
  have kk : ∀ k, k ≠ ib → (wr.setCell ⟨ib, n, none⟩ (.bool true)).heap[k]? = wr.heap[k]? := fun k hk => Below.heap_setCell _ _ _ _ hk
  obtain ⟨ax, cx, h1, h2⟩ := h.xx
  obtain ⟨n1, n2⟩ := h.ne ib rfl
  refine ⟨?_, ?_, row_keep h.rd (fun k e => kk k (fun e' => by have e : some k = some db := e; cases e; exact n1 e'.symm)), row_keep h.rm (fun k e => kk k (fun e' => by have e : some k = some mb := e; cases e; exact n2 e'.symm)), ⟨ax, cx, (kk xb (fun e => h.world h.ri (by decide) ib rfl e.symm)).trans h1, row_keep h2 (fun k e => kk k (fun e' => row_apart h2 h.ri (by decide) k e (by rw [e']; rfl)))⟩, h.ne⟩
  · rw [List.map_set]
    exact row_put h.ri n _
  · exact h.bl.trans (((Fr.refl (fun k => k = ib) wr).set ib n _ rfl).below h.bl.size (fun k e => by have e : k = ib := e; have := (row_lt h.ri ib rfl).1; omega))
theorem Rk.mv (h : Rk w s db mb xb v0 v1 v2 most grow D wr ai ci L M C) (hdm : db ≠ mb) (n : Nat) : Rk w s db mb xb v0 v1 v2 most grow D (wr.setCell ⟨mb, n, none⟩ (.bool true)) ai ci L (M.set n true) C := by
  have kk : ∀ k, k ≠ mb → (wr.setCell ⟨mb, n, none⟩ (.bool true)).heap[k]? = wr.heap[k]? := fun k hk => Below.heap_setCell _ _ _ _ hk
  obtain ⟨ax, cx, h1, h2⟩ := h.xx
  refine ⟨row_keep h.ri (fun k e => kk k (h.ne k e).2), ?_, row_keep h.rd (fun k e => kk k (fun e' => by have e : some k = some db := e; cases e; exact hdm e')), ?_, ⟨ax, cx, (kk xb (fun e => h.world h.rm (by decide) mb rfl e.symm)).trans h1, row_keep h2 (fun k e => kk k (fun e' => row_apart h2 h.rm (by decide) k e (by rw [e']; rfl)))⟩, h.ne⟩
  · exact h.bl.trans (((Fr.refl (fun k => k = mb) wr).set mb n _ rfl).below h.bl.size (fun k e => by have e : k = mb := e; have := (row_lt h.rm mb rfl).1; omega))
  · rw [List.map_set]
    exact row_put h.rm n _
theorem Rk.is (h : Rk w s db mb xb v0 v1 v2 most grow D wr ai ci L M C) {wn : World} (hb : Below wr.heap.size wr wn) {aj : Option Addr} {cj : Nat} {L' : List Bool} (hr : wn.ownsRow wr.heap.size 4 1 (.slice aj s.T.length cj) s.T.length (L'.map Value.bool)) : Rk w s db mb xb v0 v1 v2 most grow D wn aj cj L' M C := by
  have h9 := h.below hb
  refine ⟨row_base hr (fun k e => Nat.le_trans h.bl.size (row_lt hr k e).1), h9.bl, h9.rd, h9.rm, h9.xx, fun k e => ?_⟩
  have h1 := (row_lt hr k e).1
  have h2 := (row_lt h.rd db rfl).2
  have h3 := (row_lt h.rm mb rfl).2
  exact ⟨by omega, by omega⟩
end
theorem infoEr : (Tryz.prog.info? 71).map (fun i => (i.zero, i.size, i.bytes)) = some (some (.agg #[.int .i64 0, .int .i64 0]), 2, 16) := by kernel_rfl
theorem owns_emptyEr (w : World) : (w.alloc (.cells #[] 71)).ownsRow w.heap.size 71 2 (.slice (some ⟨w.heap.size, 0, none⟩) 0 0) 0 [] :=
  ⟨by simp, Or.inr ⟨w.heap.size, 0, #[], rfl, Nat.le_refl _, heap_alloc_new _ _, by simp, by simp, by simp, rfl⟩⟩

section
variable {rp rb : Nat} {most grow : Int} {F : Nat → Prop} {s : Wrs} {w : World}

set_option maxRecDepth 100000 in
set_option maxHeartbeats 8000000 in
theorem cutW_no (h : (wrO rp rb most grow).J F s w) (hv : Wcv s) (h0 : 0 ≤ grow) (h1 : grow ≤ 100000) (hf : grow - (usd s.T).2 < (usd s.T).1) :
    Calls Tryz.prog 29 #[.pointer (some ⟨rp, 0, none⟩), .bool false] w fun e w' => e = .returned (.int .i64 3) ∧ Below w.heap.size w w' := by
  have PU := usedW_any h hv.t12 hv.tl
  obtain ⟨_, _, c5, _⟩ := wr_cells h
  have bd := usd_bd s.T hv.t12
  have ht := hv.tl
  have HB : Hid (∀ w', Below w.heap.size w w' → w'.cell? ⟨rp, 5, none⟩ = some (.int .i64 grow)) := fun w' hb => (hb.cell (p := ⟨rp, 5, none⟩) (World.block_lt_of_cell? w _ c5)).trans c5
  generalize (usd s.T).1 = a at *
  generalize (usd s.T).2 = b at *
  have a1 : a ≤ 130000 := by omega
  have b1 : b ≤ 130000 := by omega
  obtain ⟨a0, _, b0, _⟩ := bd
  clear h hv c5
  go_enter Tryz.func29, Tryz.ntmps29
  go_wp2_with fail
  refine PU.mono ?_
  clear PU
  rintro e w1 ⟨rfl, hb1⟩
  have c5 := HB.out w1 hb1
  go_wp2_with fail
  go_ret
  exact ⟨rfl, hb1⟩
end

end Go.Proofs.YtogknhogphkddaaGreat

/- The document's world in memory: a thing's flags turn, what stands beside is another. -/
namespace Go.Proofs.YtogknhogphkddaaGreat
open Go.RowKit W Kp Stl

theorem tv_old : ∀ (l : List Tnd) (i : Nat) (x : Tnd) (v : Bool), l[i]? = some x → tv (l.set i ((x.1.1, x.1.2.1, v, x.1.2.2.2), x.2)) = (tv l).set (i * 4 + 2) (.bool v)
  | [], _, _, _, _ => rfl
  | e :: l, 0, x, v, h => by
    simp at h
    subst h
    simp [tv]
  | e :: l, i + 1, x, v, h => by
    have ih := tv_old l i x v (by simpa using h)
    have e1 : (tv (e :: l)) = .int .i64 e.1.1 :: .slice e.2.1 e.1.2.1.length e.2.2 :: .bool e.1.2.2.1 :: .bool e.1.2.2.2 :: tv l := by simp [tv]
    have e2 : ∀ k : List Tnd, (tv (e :: k)) = .int .i64 e.1.1 :: .slice e.2.1 e.1.2.1.length e.2.2 :: .bool e.1.2.2.1 :: .bool e.1.2.2.2 :: tv k := fun k => by simp [tv]
    rw [List.set_cons_succ, e2, e1, ih, show (i + 1) * 4 + 2 = i * 4 + 2 + 1 + 1 + 1 + 1 by omega]
    simp
theorem tv_dead : ∀ (l : List Tnd) (i : Nat) (x : Tnd) (v : Bool), l[i]? = some x → tv (l.set i ((x.1.1, x.1.2.1, x.1.2.2.1, v), x.2)) = (tv l).set (i * 4 + 3) (.bool v)
  | [], _, _, _, _ => rfl
  | e :: l, 0, x, v, h => by
    simp at h
    subst h
    simp [tv]
  | e :: l, i + 1, x, v, h => by
    have ih := tv_dead l i x v (by simpa using h)
    have e1 : (tv (e :: l)) = .int .i64 e.1.1 :: .slice e.2.1 e.1.2.1.length e.2.2 :: .bool e.1.2.2.1 :: .bool e.1.2.2.2 :: tv l := by simp [tv]
    have e2 : ∀ k : List Tnd, (tv (e :: k)) = .int .i64 e.1.1 :: .slice e.2.1 e.1.2.1.length e.2.2 :: .bool e.1.2.2.1 :: .bool e.1.2.2.2 :: tv k := fun k => by simp [tv]
    rw [List.set_cons_succ, e2, e1, ih, show (i + 1) * 4 + 3 = i * 4 + 3 + 1 + 1 + 1 + 1 by omega]
    simp

section
variable {rp rb : Nat} {most grow : Int} {F : Nat → Prop} {s : Wrs} {w : World}

theorem wr_flag (h : (wrO rp rb most grow).J F s w) {i : Nat} {x : Tw1} (hx : s.T[i]? = some x) {b cT : Nat} (hc : w.cell? ⟨rp, 0, none⟩ = some (.slice (some ⟨b, 0, none⟩) s.T.length cT)) :
    (wrO rp rb most grow).J F { s with T := s.T.set i (x.1, x.2.1, true, x.2.2.2) } (w.setCell ⟨b, i * 4 + 2, none⟩ (.bool true)) ∧ (wrO rp rb most grow).J F { s with T := s.T.set i (x.1, x.2.1, x.2.2.1, true) } (w.setCell ⟨b, i * 4 + 3, none⟩ (.bool true)) ∧ F b ∧ (∀ o, w.frozen? ⟨b, o, none⟩ = false) ∧ b ≠ rp := by
  obtain ⟨own, m, vT, v2, v3, h, hF⟩ := h
  have h1 := h.blk
  obtain rfl : vT = .slice (some ⟨b, 0, none⟩) s.T.length cT := by simpa [World.cell?, h1] using hc
  have ob := h.ro b rfl
  obtain ⟨y, hy, rfl⟩ : ∃ y, m[i]? = some y ∧ y.1 = x := by
    rw [← h.nd] at hx
    simp at hx
    obtain ⟨a, b, c⟩ := hx
    exact ⟨_, c, rfl⟩
  have key : ∀ (t : Tw1) (o : Nat) (v : Value), t.2.1 = y.1.2.1 → tv (m.set i (t, y.2)) = (tv m).set o v → (wrO rp rb most grow).J F { s with T := s.T.set i t } (w.setCell ⟨b, o, none⟩ v) := fun t o v et ev' => by
    have sz : (w.setCell ⟨b, o, none⟩ v).heap.size = w.heap.size := by simp [World.setCell]
    have hk : ∀ k, own k ≠ 2 → (w.setCell ⟨b, o, none⟩ v).heap[k]? = w.heap[k]? := fun k h2 => Below.heap_setCell _ _ _ _ (fun e => h2 (by have e : k = b := e; rw [e]; exact ob))
    refine ⟨own, m.set i (t, y.2), .slice (some ⟨b, 0, none⟩) s.T.length cT, v2, v3, ?_, hF⟩
    exact { blk := (hk _ (by rw [h.b1]; decide)).trans h.blk, b1 := h.b1
            row := by
              have el : m.length = s.T.length := by rw [← h.nd]; simp
              have hr := h.row
              rw [el] at hr
              rw [List.length_set, ev', el]
              exact row_put hr _ _
            ro := h.ro
            nd := by rw [List.map_set, h.nd]
            fl := fun z hz => by
              have old : ∀ z ∈ m, Lp (w.setCell ⟨b, o, none⟩ v) z.2.1 z.1.2.1 ∧ (0 < z.1.2.1.length → ∃ b o, z.2.1 = some ⟨b, o, none⟩ ∧ own b = 3) := fun z hz => ⟨(h.fl z hz).1.at (by rw [sz]; exact Nat.le_refl _) (fun b' o' hp e => by
                obtain ⟨b2, o2, e2, ho2⟩ := (h.fl z hz).2 hp
                rw [e] at e2
                cases e2
                exact hk _ (by rw [ho2]; decide)), (h.fl z hz).2⟩
              rcases List.mem_or_eq_of_mem_set hz with hz | hz
              · exact old z hz
              · subst hz
                have := old y (List.mem_of_getElem? hy)
                rw [← et] at this
                exact this
            rt := (hk _ (by rw [h.r1]; decide)).trans h.rt, rl := h.rl, r1 := h.r1
            g2 := row_keep h.g2 (fun b e => hk b (by rw [h.g2o b e]; decide)), g2o := h.g2o
            g3 := row_keep h.g3 (fun b e => hk b (by rw [h.g3o b e]; decide)), g3o := h.g3o
            lt := fun k hb' => by rw [sz]; exact h.lt k hb' }
  refine ⟨key _ _ _ rfl (tv_old m i y true hy), key _ _ _ rfl (tv_dead m i y true hy), (hF b).2 (by rw [ob]; decide), fun o => ?_, fun e => by rw [e, h.b1] at ob; omega⟩
  obtain ⟨cur, hcur⟩ := row_type h.row b rfl
  simp [World.frozen?, hcur]
theorem wr_fields (h : (wrO rp rb most grow).J F s w) {i : Nat} {x : Tw1} (hx : s.T[i]? = some x) {b cT : Nat} (hc : w.cell? ⟨rp, 0, none⟩ = some (.slice (some ⟨b, 0, none⟩) s.T.length cT)) (ad : Option Addr) (c : Nat) (vs : List (Int × Int)) (hL : Lp w ad vs) (hn : ∀ b o, 0 < vs.length → ad = some ⟨b, o, none⟩ → ¬ F b) :
    (wrO rp rb most grow).J (fun b => F b ∨ (0 < vs.length ∧ ∃ o, ad = some ⟨b, o, none⟩)) { s with T := s.T.set i (x.1, vs, x.2.2) } (w.setCell ⟨b, i * 4 + 1, none⟩ (.slice ad vs.length c)) ∧ Fr F w (w.setCell ⟨b, i * 4 + 1, none⟩ (.slice ad vs.length c)) := by
  obtain ⟨mm, vT, hmm, cT3, hrow3, _, _, _, hset⟩ := wr_row h
  obtain rfl : vT = .slice (some ⟨b, 0, none⟩) s.T.length cT := by
    have := cT3.symm.trans hc
    simpa using this
  obtain ⟨y, hy, rfl⟩ : ∃ y, mm[i]? = some y ∧ y.1 = x := by
    rw [← hmm] at hx
    simp at hx
    obtain ⟨a, b, c⟩ := hx
    exact ⟨_, c, rfl⟩
  exact hset i y ad c vs b hy rfl hL hn
theorem wr_beside (h : (wrO rp rb most grow).J F s w) (l l' : List En) (v v' : Value) (w1 : World) (hb : Below w.heap.size w w1) (hr : w1.ownsRow w.heap.size 71 2 v l.length (ev l)) (hr' : w1.ownsRow w.heap.size 71 2 v' l'.length (ev l')) (hne : ∀ b, some b = v.ownBlock → ¬ some b = v'.ownBlock) :
    ∃ F', (wrO rp rb most grow).J F' { s with rg := l, wt := l' } ((w1.setCell ⟨rp, 2, none⟩ v).setCell ⟨rp, 3, none⟩ v') ∧ Tn F w F' ((w1.setCell ⟨rp, 2, none⟩ v).setCell ⟨rp, 3, none⟩ v') ∧ (∀ b, F' b → F b ∨ some b = v.ownBlock ∨ some b = v'.ownBlock) := by
  classical
  obtain ⟨own, m, vT, v2, v3, h, hF⟩ := h
  have h1 := h.blk
  have own0 : ∀ b, w.heap.size ≤ b → own b = 0 := fun b hb => Classical.byContradiction (fun c => by have := h.lt b c; omega)
  have n1 : ∀ b, some b = v.ownBlock → own b = 0 := fun b e => own0 b (row_lt hr b e).1
  have n2 : ∀ b, some b = v'.ownBlock → own b = 0 := fun b e => own0 b (row_lt hr' b e).1
  have e1 : ∀ b j, own b = j → j ≠ 0 → (if some b = v.ownBlock then 5 else if some b = v'.ownBlock then 6 else own b) = j := fun b j e h0 => by
    rw [if_neg (fun c => by have := n1 b c; omega), if_neg (fun c => by have := n2 b c; omega)]
    exact e
  have sz : ((w1.setCell ⟨rp, 2, none⟩ v).setCell ⟨rp, 3, none⟩ v').heap.size = w1.heap.size := by simp [World.setCell]
  have kk : ∀ k, k ≠ rp → ((w1.setCell ⟨rp, 2, none⟩ v).setCell ⟨rp, 3, none⟩ v').heap[k]? = w1.heap[k]? := fun k hk => (Below.heap_setCell _ _ _ _ hk).trans (Below.heap_setCell _ _ _ _ hk)
  have hk : ∀ b, b < w.heap.size → own b ≠ 1 → ((w1.setCell ⟨rp, 2, none⟩ v).setCell ⟨rp, 3, none⟩ v').heap[b]? = w.heap[b]? := fun b hlt h1' => (kk b (fun e => h1' (by rw [e]; exact h.b1))).trans (hb.block b hlt)
  have lrp := lt_of_some h1
  refine ⟨fun b => F b ∨ some b = v.ownBlock ∨ some b = v'.ownBlock, ⟨fun b => if some b = v.ownBlock then 5 else if some b = v'.ownBlock then 6 else own b, m, vT, v, v', ?_, fun b => ?_⟩, ⟨?_, fun b d => ?_⟩, fun b d => d⟩
  · exact { blk := by
              have hq := (hb.block rp lrp).trans h1
              simp only [World.setCell, Array.getElem?_modify, if_true, hq, Option.map_some]
              simp
            b1 := e1 _ _ h.b1 (by decide)
            row := row_keep h.row (fun b e => hk b (row_lt h.row b e).2 (by rw [h.ro b e]; decide))
            ro := fun b e => e1 _ _ (h.ro b e) (by decide)
            nd := h.nd
            fl := fun y hy => by
              refine ⟨(h.fl y hy).1.at (by rw [sz]; exact hb.size) (fun b o hp e => ?_), fun hp => ?_⟩
              · obtain ⟨b', o', e', ho'⟩ := (h.fl y hy).2 hp
                rw [e] at e'
                cases e'
                exact hk _ (h.lt _ (by rw [ho']; decide)) (by rw [ho']; decide)
              · obtain ⟨b', o', e', ho'⟩ := (h.fl y hy).2 hp
                exact ⟨b', o', e', e1 _ _ ho' (by decide)⟩
            rt := (hk _ (lt_of_some h.rt) (by rw [h.r1]; decide)).trans h.rt
            rl := h.rl
            r1 := e1 _ _ h.r1 (by decide)
            g2 := row_base (row_keep hr (fun b e => kk b (fun e' => by have := (row_lt hr b e).1; omega))) (fun _ _ => Nat.zero_le _)
            g2o := fun b e => by rw [if_pos e]
            g3 := row_base (row_keep hr' (fun b e => kk b (fun e' => by have := (row_lt hr' b e).1; omega))) (fun _ _ => Nat.zero_le _)
            g3o := fun b e => by rw [if_neg (fun c => hne b c e), if_pos e]
            lt := fun b hb' => by
              rw [sz]
              by_cases c1 : some b = v.ownBlock
              · exact (row_lt hr b c1).2
              · by_cases c2 : some b = v'.ownBlock
                · exact (row_lt hr' b c2).2
                · rw [if_neg c1, if_neg c2] at hb'
                  exact Nat.lt_of_lt_of_le (h.lt b hb') hb.size }
  · by_cases c1 : some b = v.ownBlock
    · simp [c1]
    · by_cases c2 : some b = v'.ownBlock
      · simp only [if_neg c1, if_pos c2]
        exact ⟨fun _ => by decide, fun _ => Or.inr (Or.inr c2)⟩
      · simp only [if_neg c1, if_neg c2]
        exact ⟨fun d => d.elim (hF b).1 (fun d => d.elim (fun d => absurd d c1) (fun d => absurd d c2)), fun d => Or.inl ((hF b).2 d)⟩
  · have f1 : Fr F w w1 := Fr.of hb
    exact (f1.set rp 2 _ ((hF rp).2 (by rw [h.b1]; decide))).set rp 3 _ ((hF rp).2 (by rw [h.b1]; decide))
  · rcases d with d | d | d
    · exact Or.inl d
    · exact Or.inr (row_lt hr b d).1
    · exact Or.inr (row_lt hr' b d).1
end

end Go.Proofs.YtogknhogphkddaaGreat
