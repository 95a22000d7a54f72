/- The document's world: Grown: a contract. -/
import Derived.Test.YtogknhogphkddaaGreatJ08
import Derived.Deep.LoopGhost
import Derived.Deep.DeepCutAuto
import Derived.Deep.RegionHeld3
import Derived.Test.YtogknhogphkddaaGreatJ06
namespace Go.Proofs.YtogknhogphkddaaGreat
open Go.RowKit W Kp Stl

structure Wg (w : World) (p : Nat) (T : List Tw1) (wt : List En) : Prop where
  th : ∃ aT cT, w.cell? ⟨p, 0, none⟩ = some (.slice aT T.length cT) ∧ ∀ (i : Nat) (x : Tw1), T[i]? = some x → ∃ b ad cp, aT = some ⟨b, 0, none⟩ ∧ w.cell? ⟨b, i * 4, none⟩ = some (.int .i64 x.1) ∧ w.cell? ⟨b, i * 4 + 1, none⟩ = some (.slice ad x.2.1.length cp) ∧ w.cell? ⟨b, i * 4 + 2, none⟩ = some (.bool x.2.2.1) ∧ w.cell? ⟨b, i * 4 + 3, none⟩ = some (.bool x.2.2.2) ∧ Lp w ad x.2.1
  wa : ∃ a3 c3, w.cell? ⟨p, 3, none⟩ = some (.slice a3 wt.length c3) ∧ Lp w a3 wt
theorem Wg.below {w w' : World} {p : Nat} {T : List Tw1} {wt : List En} (h : Wg w p T wt) (hb : Below w.heap.size w w') : Wg w' p T wt := by
  have k : ∀ {a : Addr} {v : Value}, w.cell? a = some v → w'.cell? a = some v := fun {a v} e => (hb.cell (p := a) (World.block_lt_of_cell? w _ e)).trans e
  refine ⟨?_, ?_⟩
  · obtain ⟨aT, cT, h1, h2⟩ := h.th
    refine ⟨aT, cT, k h1, fun i x hx => ?_⟩
    obtain ⟨b, ad, cp, e, x0, x1, x2, x3, hl⟩ := h2 i x hx
    exact ⟨b, ad, cp, e, k x0, k x1, k x2, k x3, hl.below hb⟩
  · obtain ⟨a3, c3, h1, h2⟩ := h.wa
    exact ⟨a3, c3, k h1, h2.below hb⟩

theorem owns_emptyB (w : World) : (w.alloc (.cells #[] 4)).ownsRow w.heap.size 4 1 (.slice (some ⟨w.heap.size, 0, none⟩) 0 0) 0 [] :=
  ⟨by simp, Or.inr ⟨w.heap.size, 0, #[], rfl, Nat.le_refl _, heap_alloc_new _ _, by simp, by simp, by simp, rfl⟩⟩
theorem bool_one (L : List Bool) : ∀ v ∈ L.map Value.bool, v.oneCell' = true := by
  intro v hv
  obtain ⟨b, _, rfl⟩ := List.mem_map.1 hv
  rfl
theorem Lb.cells {w : World} {ad : Option Addr} {L : List Bool} (h : Lb w ad L) : ∀ a, ad = some a → ∀ j u, (L.map Value.bool)[j]? = some u → w.cell? (a.add j) = some u := fun a e j u hj => by
  have hlt : j < L.length := by
    have := (List.getElem?_eq_some_iff.1 hj).1
    simpa using this
  obtain ⟨b, e1, _, hc⟩ := h (by omega)
  rw [e] at e1
  cases e1
  have h1 := hc j hlt
  rw [List.getElem?_map, List.getElem?_eq_getElem hlt] at hj
  rw [List.getD_eq_getElem?_getD, List.getElem?_eq_getElem hlt] at h1
  simp at hj h1
  rw [← hj]
  have ea : (⟨b, 0, none⟩ : Addr).add j = ⟨b, j, none⟩ := by simp [Addr.add]; intro h; exact h.symm
  rw [ea]
  exact h1

section
variable {w : World} {p : Nat} {T : List Tw1} {wt : List En} {is : List Bool}

set_option maxRecDepth 100000 in
set_option maxHeartbeats 8000000 in
theorem grown_any (h : Wg w p T wt) (hW : Wiv T wt) (ai : Option Addr) (ci : Nat) (hi : Lb w ai is) (hin : ai = none → is.length = 0 ∧ ci = 0) (hl : is.length = T.length) (hm : T.length ≤ 10000) (hwt : wt.length ≤ 10000) (hal : ∀ k, Ls_ is k → Alv T k) :
    Calls Tryz.prog 52 #[.pointer (some ⟨p, 0, none⟩), .slice ai is.length ci] w fun e w' => ∃ ad c out, e = .returned (.slice ad out.length c) ∧ w'.ownsRow w.heap.size 4 1 (.slice ad out.length c) out.length (out.map Value.bool) ∧ Grn T wt is out ∧ Below w.heap.size w w' := by
  obtain ⟨i0, hi0, hz0, hz1, hz2⟩ := info_parts infoB
  have HG : Hid (Wg w p T wt) := h
  have HW : Hid (Wiv T wt ∧ (∀ k, Ls_ is k → Alv T k) ∧ is.length = T.length) := ⟨hW, hal, hl⟩
  have hb0 := (Below.refl w.heap.size w).alloc (Nat.le_refl _) (.cells #[] 4)
  have HI : Hid (Lb (w.alloc (.cells #[] 4)) ai is ∧ (ai = none → is.length = 0 ∧ ci = 0)) := ⟨hi.below hb0, hin⟩
  have hr0 := owns_emptyB w
  have hm1 : is.length ≤ 10000 := by omega
  have HL0 : Hid (is.length = T.length) := hl
  clear h hW hi hin hal hl
  go_enter Tryz.func52, Tryz.ntmps52
  go_wp2_with (at_builtin; refine wpList_append_src _ rfl _ _ 107 rfl w.heap.size 4 i0 (.bool false) 1 1 Tryz.underlying107 hi0 hz0 hz1 hz2 rfl (by decide) (.slice (some ⟨w.heap.size, 0, none⟩) 0 0) 0 [] rfl hr0 ai is.length ci (is.map Value.bool) rfl (by simp) HI.out.2 HI.out.1.cells (bool_one is) (by unfold maxLen; omega) (by omega) (by simp) ?_; intro ad c w1 hown1 hgrow1 _; rw [Nat.zero_add, List.nil_append] at hown1)
  have hbx := (Below.refl w1.heap.size w1).alloc (Nat.le_refl _) (.cells #[.slice ad is.length c] 107)
  have hbw : Below w.heap.size w w1 := hb0.trans ((Below.refl w.heap.size (w.alloc (.cells #[] 4))).grown hgrow1 (by simp) (fun k e => by simp [Value.ownBlock] at e; omega))
  have HX : Hid (Bbx (w1.alloc (.cells #[.slice ad is.length c] 107)) w1.heap.size ad c w.heap.size is ∧ Below w.heap.size w (w1.alloc (.cells #[.slice ad is.length c] 107)) ∧ w.heap.size ≤ w1.heap.size) := ⟨⟨heap_alloc_new _ _, row_keep hown1 (fun k e => hbx.block k (row_lt hown1 k e).2)⟩, hbw.trans (hbx.mono hbw.size), hbw.size⟩
  clear hb0 hr0 hown1 hgrow1 hbx hbw HI
  generalize w1.alloc (.cells #[.slice ad is.length c] 107) = w2 at *
  generalize w1.heap.size = ob at *
  obtain ⟨aT, cT, xw0, hTw⟩ := HG.out.th
  obtain ⟨a3, c3, xw3, hLw⟩ := HG.out.wa
  have HTW : Hid (∀ w', Below w.heap.size w w' → w'.cell? ⟨p, 0, none⟩ = some (.slice aT T.length cT) ∧ w'.cell? ⟨p, 3, none⟩ = some (.slice a3 wt.length c3) ∧ Lp w' a3 wt) := fun w' hb => ⟨(hb.cell (p := ⟨p, 0, none⟩) (World.block_lt_of_cell? w _ xw0)).trans xw0, (hb.cell (p := ⟨p, 3, none⟩) (World.block_lt_of_cell? w _ xw3)).trans xw3, hLw.below hb⟩
  have HTI : Hid (∀ (i : Nat) (x : Tw1), T[i]? = some x → ∃ b ad cp, aT = some ⟨b, 0, none⟩ ∧ ∀ w', Below w.heap.size w w' → (w'.cell? ⟨b, i * 4, none⟩ = some (.int .i64 x.1) ∧ w'.cell? ⟨b, i * 4 + 1, none⟩ = some (.slice ad x.2.1.length cp) ∧ w'.cell? ⟨b, i * 4 + 2, none⟩ = some (.bool x.2.2.1) ∧ w'.cell? ⟨b, i * 4 + 3, none⟩ = some (.bool x.2.2.2)) ∧ Lp w' ad x.2.1) := fun i x hx => by
    obtain ⟨b, ad, cp, e, y0, y1, y2, y3, yl⟩ := hTw i x hx
    have k : ∀ {w' : World} (hb : Below w.heap.size w w') {a : Addr} {v : Value}, w.cell? a = some v → w'.cell? a = some v := fun {w'} hb {a v} e => (hb.cell (p := a) (World.block_lt_of_cell? w _ e)).trans e
    exact ⟨b, ad, cp, e, fun w' hb => ⟨⟨k hb y0, k hb y1, k hb y2, k hb y3⟩, yl.below hb⟩⟩
  clear xw0 hTw xw3 hLw HG
  have HP0 : Hid ((∀ k, Ls_ is k → Ls_ is k) ∧ ∀ X, Cls T wt X → (∀ k, Ls_ is k → X k) → ∀ k, Ls_ is k → X k) := ⟨fun _ h => h, fun _ _ h => h⟩
  go_loopg [7] (cnt is + 1) (fun m mv wr => ∃ (L : List Bool) (more : Bool), mv = .bool more ∧ Hid (Bbx wr ob ad c w.heap.size L ∧ Below w.heap.size w wr) ∧ Hid (L.length = is.length ∧ (∀ k, Ls_ is k → Ls_ L k) ∧ ∀ X, Cls T wt X → (∀ k, Ls_ is k → X k) → ∀ k, Ls_ L k → X k) ∧ Hid ((more = true → cnt L + 1 ≤ m) ∧ (more = false → cnt L ≤ m ∧ Grn T wt is L)))
  case atStart => exact ⟨is, true, rfl, ⟨HX.out.1, HX.out.2.1⟩, ⟨rfl, HP0.out⟩, ⟨fun _ => Nat.le_refl _, fun h => by cases h⟩⟩
  case round =>
    have HOB : Hid (w.heap.size ≤ ob) := HX.out.2.2
    clear HX HP0
    obtain ⟨P0, more, rfl, HB, HP, HM⟩ := hrel
    cases more
    · obtain ⟨_, hG⟩ := HM.out.2 rfl
      have hx := HB.out
      have c0 : wr.cell? ⟨ob, 0, none⟩ = some (.slice ad P0.length c) := by simp [World.cell?, hx.1.blk]
      go_wp2_with fail
      go_ret
      exact ⟨ad, c, P0, rfl, hx.1.row, hG, hx.2⟩
    · have hM1 := HM.out.1 rfl
      have HS : Hid (Pas T wt is P0 P0 false 0) := Pas.start HP.out.1 HP.out.2.1 HP.out.2.2
      clear HM
      go_wp2_with fail
      go_loopw [7, 8] (fun mv iv wr => ∃ (i : Nat) (L : List Bool) (more : Bool), i ≤ T.length ∧ mv = .bool more ∧ iv = .int .i64 i ∧ Hid (Bbx wr ob ad c w.heap.size L ∧ Below w.heap.size w wr) ∧ Hid (Pas T wt is P0 L more i)) (fun _ iv _ => T.length - (intOf iv).toNat)
      case atStart => exact ⟨0, P0, false, Nat.zero_le _, rfl, rfl, HB, HS⟩
      case round =>
        clear HB HS
        obtain ⟨i, L, more, hi, rfl, rfl, HB, HS⟩ := hrel
        obtain ⟨x0, x3, hLp3⟩ := HTW.out wr HB.out.2
        by_cases hlt : i < T.length
        · obtain ⟨t, ht⟩ : ∃ t, T[i]? = some t := ⟨_, List.getElem?_eq_getElem hlt⟩
          obtain ⟨b, fa, fc, rfl, hyy⟩ := HTI.out i t ht
          have HFA : Hid (∀ w', Below w.heap.size w w' → Lp w' fa t.2.1) := fun w' hb => (hyy w' hb).2
          obtain ⟨⟨y0, y1, y2, y3⟩, _⟩ := hyy wr HB.out.2
          clear hyy
          have et : T.getD i t0 = t := by rw [List.getD_eq_getElem?_getD, ht]; rfl
          have q0 : (0 : Int) ≤ (i : Int) := by omega
          have q1 : (i : Int) < (T.length : Int) := by omega
          have hBx := HB.out.1
          have hlen : L.length = T.length := HS.out.len.trans HW.out.2.2
          have rowT : L.length ≤ 10000 := by omega
          obtain ⟨rb, rcap, e1⟩ := row_shape hBx.row (by omega)
          obtain ⟨rfl, rfl⟩ : ad = some ⟨rb, 0, none⟩ ∧ c = rcap := by simpa using e1
          have hLi : (L.map Value.bool)[i]? = some (.bool (L.getD i false)) := by
            rw [List.getElem?_map, List.getElem?_eq_getElem (by omega : i < L.length), List.getD_eq_getElem?_getD, List.getElem?_eq_getElem (by omega : i < L.length)]
            rfl
          have hro := (row_cell hBx.row hLi).1
          have lo := lt_of_some hBx.blk
          have lr := (row_lt hBx.row rb rfl).2
          have hba := (Below.refl wr.heap.size wr).alloc (Nat.le_refl _) (.cells #[.int .i64 t.1, .slice fa t.2.1.length fc, .bool t.2.2.1, .bool t.2.2.2] 73)
          have B1 := hBx.below hba
          have k0 : (wr.alloc (.cells #[.int .i64 t.1, .slice fa t.2.1.length fc, .bool t.2.2.1, .bool t.2.2.2] 73)).cell? ⟨ob, 0, none⟩ = some (.slice (some ⟨rb, 0, none⟩) L.length c) := by simp [World.cell?, B1.blk]
          have k1 := (hba.cell (p := ⟨rb, i, none⟩) lr).trans hro
          have q2 : (i : Int) < (L.length : Int) := by omega
          have HET : Hid (T.getD i t0 = t) := et
          have HB1 : Hid (Bbx (wr.alloc (.cells #[.int .i64 t.1, .slice fa t.2.1.length fc, .bool t.2.2.1, .bool t.2.2.2] 73)) ob (some ⟨rb, 0, none⟩) c w.heap.size L ∧ Below w.heap.size w (wr.alloc (.cells #[.int .i64 t.1, .slice fa t.2.1.length fc, .bool t.2.2.1, .bool t.2.2.2] 73)) ∧ (wr.alloc (.cells #[.int .i64 t.1, .slice fa t.2.1.length fc, .bool t.2.2.1, .bool t.2.2.2] 73)).heap[wr.heap.size]? = some (.cells #[.int .i64 t.1, .slice fa t.2.1.length fc, .bool t.2.2.1, .bool t.2.2.2] 73 (0, 0)) ∧ rb < wr.heap.size) := ⟨B1, HB.out.2.trans (hba.mono HB.out.2.size), heap_alloc_new _ _, lr⟩
          clear et hBx e1 hLi hro B1 hba
          cases hin : L.getD i false
          · rw [hin] at k1
            have HN : Hid (Pas T wt is P0 L more (i + 1)) := HS.out.next (fun _ _ hL => by unfold Ls_ at hL; rw [hin] at hL; cases hL)
            clear hin HS
            go_wp2_with fail
            go_roundw
            case rel => exact ⟨i + 1, L, more, by omega, rfl, by go_num, ⟨HB1.out.1, HB1.out.2.1⟩, HN⟩
            case measure => simp [intOf]; omega
          · rw [hin] at k1
            have HLi : Hid (Ls_ L i) := hin
            clear hin
            go_upto_region 11 with fail
            generalize wr.alloc (.cells #[.int .i64 t.1, .slice fa t.2.1.length fc, .bool t.2.2.1, .bool t.2.2.2] 73) = w3 at *
            generalize wr.heap.size = tb at *
            obtain ⟨kd, fs, od, dd⟩ := t
            dsimp only at *
            have z0 : w3.cell? ⟨tb, 0, none⟩ = some (.int .i64 kd) := by simp [World.cell?, HB1.out.2.2.1]
            have z1 : w3.cell? ⟨tb, 1, none⟩ = some (.slice fa fs.length fc) := by simp [World.cell?, HB1.out.2.2.1]
            have halv := HS.out.alv HW.out.1 HW.out.2.1 HLi.out
            have hfl := HW.out.1.tl i
            rw [HET.out] at hfl
            dsimp only at hfl
            have ht4 := lt_of_some HB1.out.2.2.1
            clear y0 y1 y2 y3 k0 k1 x0 lo lr
            by_cases k12 : kd = 1 ∨ kd = 2
            · have HK : Hid (∀ (X : Nat → Prop) (v : Int × Int), v ∈ fs → Kps T wt X i v) := fun X v hv => Or.inl (by rw [HET.out]; exact ⟨k12, hv⟩)
              have HKr : Hid (∀ (X : Nat → Prop) (v : Int × Int), Kps T wt X i v → v ∈ fs) := fun X v hv => by
                unfold Kps at hv
                rw [HET.out] at hv
                dsimp only at hv
                rcases hv with ⟨_, h⟩ | ⟨h, _⟩ | ⟨h, _⟩ | ⟨h, _⟩
                · exact h
                · omega
                · omega
                · omega
              have b12 : ((kd == 1) = true) ∨ ((kd == 1) = false ∧ (kd == 2) = true) := by
                rcases k12 with e | e
                · exact Or.inl (by simpa using e)
                · exact Or.inr ⟨by rw [e]; decide, by simpa using e⟩
              clear k12
              rcases b12 with b1 | ⟨b1, b2⟩
              all_goals
                go_wp2_with fail
                go_loopw [7, 10] (fun mv kv wr => ∃ (kk : Nat) (L' : List Bool) (m' : Bool), kk ≤ fs.length ∧ mv = .bool m' ∧ kv = .int .i64 kk ∧ Hid (Bbx wr ob (some ⟨rb, 0, none⟩) c w.heap.size L' ∧ Below w.heap.size w wr ∧ wr.heap[tb]? = some (.cells #[.int .i64 kd, .slice fa fs.length fc, .bool od, .bool dd] 73 (0, 0))) ∧ Hid (Pas T wt is P0 L' m' i ∧ Ls_ L' i ∧ ∀ k', k' < kk → (fs.getD k' (0, 0)).1 = 3 → Ls_ L' (fs.getD k' (0, 0)).2.toNat)) (fun _ kv _ => fs.length - (intOf kv).toNat)
                case atStart => exact ⟨0, L, more, Nat.zero_le _, rfl, rfl, ⟨HB1.out.1, HB1.out.2.1, HB1.out.2.2.1⟩, ⟨HS.out, HLi.out, fun k' h => absurd h (by omega)⟩⟩
                case round =>
                  have HTB : Hid (rb < tb) := HB1.out.2.2.2
                  clear HB1 HS HLi z0 z1 HB
                  obtain ⟨kk, L', m', hkk, rfl, rfl, HB2, HS2⟩ := hrel
                  have z1 : wr.cell? ⟨tb, 1, none⟩ = some (.slice fa fs.length fc) := by simp [World.cell?, HB2.out.2.2]
                  by_cases hlk : kk < fs.length
                  · obtain ⟨fb, fo, rfl, lfb, hfc⟩ := HFA.out wr HB2.out.2.1 (by omega)
                    obtain ⟨y0, y1⟩ := hfc kk hlk
                    have hmem : fs.getD kk (0, 0) ∈ fs := getD_in hlk
                    have HSB : Hid (∀ k', k' < kk + 1 → (fs.getD k' (0, 0)).1 = 3 → Ls_ (adS L' (fs.getD kk (0, 0))) (fs.getD k' (0, 0)).2.toNat) := fun k' h h3 => by
                      by_cases c : k' < kk
                      · exact adS_up _ _ _ (HS2.out.2.2 k' c h3)
                      · obtain rfl : k' = kk := by omega
                        exact adS_in (fun h3 => by have := HS2.out.1.bd HW.out.1 HW.out.2.1 HW.out.2.2 HS2.out.2.1 (HK.out (Ls_ L') _ hmem) h3; omega) h3
                    generalize fs.getD kk (0, 0) = v at *
                    have hkp := HK.out (Ls_ L') v hmem
                    have hbd := HS2.out.1.bd HW.out.1 HW.out.2.1 HW.out.2.2 HS2.out.2.1 hkp
                    have PA := add_any wr ob (some ⟨rb, 0, none⟩) c w.heap.size L' v HB2.out.1 hbd (by have := HS2.out.1.len; have := HW.out.2.2; omega)
                    have HSN : Hid (Pas T wt is P0 (adS L' v) (!inS L' v || m') i ∧ Ls_ (adS L' v) i) := ⟨HS2.out.1.add hlt HS2.out.2.1 hkp (fun h3 => by have := hbd h3; omega), adS_up _ _ _ HS2.out.2.1⟩
                    have q3 : (0 : Int) ≤ (kk : Int) := by omega
                    have q4 : (kk : Int) < (fs.length : Int) := by omega
                    clear hfc hbd hkp hmem
                    cases hs : inS L' v
                    all_goals
                      rw [hs] at PA HSN
                      clear hs
                      go_wp2_with fail
                      refine PA.mono ?_
                      clear PA
                      rintro e w5 ⟨rfl, B5, f5⟩
                      have HB5 : Hid (Bbx w5 ob (some ⟨rb, 0, none⟩) c w.heap.size (adS L' v) ∧ Below w.heap.size w w5 ∧ w5.heap[tb]? = some (.cells #[.int .i64 kd, .slice (some ⟨fb, fo, none⟩) fs.length fc, .bool od, .bool dd] 73 (0, 0))) := ⟨B5, HB2.out.2.1.trans (f5.below HB2.out.2.1.size (fun k e => (row_lt HB2.out.1.row k e).1)), (f5.block tb (lt_of_some HB2.out.2.2) (fun e => by have e : some tb = some rb := e; have h9 := HTB.out; cases e; omega)).trans HB2.out.2.2⟩
                      clear B5 f5 y0 y1 z1
                      go_wp2_with fail
                      go_roundw
                      case rel => exact ⟨kk + 1, adS L' v, _, by omega, rfl, by go_num, HB5, ⟨HSN.out.1, HSN.out.2, HSB.out⟩⟩
                      case measure => simp [intOf]; omega
                  · obtain rfl : kk = fs.length := by omega
                    have HN : Hid (Pas T wt is P0 L' m' (i + 1)) := HS2.out.1.next (fun _ _ _ v hv h3 => by
                      obtain ⟨k', hk', e⟩ := List.mem_iff_getElem.1 (HKr.out _ _ hv)
                      have e2 : fs.getD k' (0, 0) = v := by
                        rw [List.getD_eq_getElem?_getD, List.getElem?_eq_getElem hk', e]
                        rfl
                      have := HS2.out.2.2 k' hk' (by rw [e2]; exact h3)
                      rwa [e2] at this)
                    go_wp2_with fail
                    go_roundw
                    case rel => exact ⟨i + 1, L', m', by omega, rfl, by go_num, ⟨HB2.out.1, HB2.out.2.1⟩, HN⟩
                    case measure => simp [intOf]; omega
            · by_cases k3 : kd = 3
              · skip
                have b1 : (kd == 1) = false := by rw [k3]; decide
                have b2 : (kd == 2) = false := by rw [k3]; decide
                have b3 : (kd == 3) = true := by rw [k3]; decide
                have hl2 : fs.length = 2 := by
                  have := HW.out.1.fl i halv (by rw [HET.out]; exact Or.inl k3)
                  rw [HET.out] at this
                  exact this
                have hkp : Kps T wt (Ls_ L) i (fs.getD 1 (0, 0)) := Or.inr (Or.inl (by rw [HET.out]; exact ⟨k3, rfl⟩))
                have HKr : Hid (∀ (X : Nat → Prop) (v : Int × Int), Kps T wt X i v → v = fs.getD 1 (0, 0)) := fun X v hv => by
                  unfold Kps at hv
                  rw [HET.out] at hv
                  dsimp only at hv
                  rcases hv with ⟨h, _⟩ | ⟨_, h⟩ | ⟨h, _⟩ | ⟨h, _⟩
                  · omega
                  · exact h
                  · omega
                  · omega
                obtain ⟨fb, fo, rfl, lfb, hfc⟩ := HFA.out w3 HB1.out.2.1 (by omega)
                obtain ⟨y0, y1⟩ := hfc 1 (by omega)
                have hbd := HS.out.bd HW.out.1 HW.out.2.1 HW.out.2.2 HLi.out hkp
                have q5 : (1 : Int) < (fs.length : Int) := by omega
                have HSB : Hid ((fs.getD 1 (0, 0)).1 = 3 → Ls_ (adS L (fs.getD 1 (0, 0))) (fs.getD 1 (0, 0)).2.toNat) := adS_in (fun h3 => by have := hbd h3; omega)
                generalize fs.getD 1 (0, 0) = v at *
                have PA := add_any w3 ob (some ⟨rb, 0, none⟩) c w.heap.size L v HB1.out.1 hbd (by omega)
                have HSN : Hid (Pas T wt is P0 (adS L v) (!inS L v || more) i) := HS.out.add hlt HLi.out hkp (fun h3 => by have := hbd h3; omega)
                have HN : Hid (Pas T wt is P0 (adS L v) (!inS L v || more) (i + 1)) := HSN.out.next (fun _ _ _ u hu h3 => by
                  rw [HKr.out _ _ hu] at h3 ⊢
                  exact HSB.out h3)
                rw [show fo + 1 * 2 = fo + 2 by omega] at y0 y1
                clear hfc hbd hkp HSN HSB HKr
                cases hs : inS L v
                all_goals
                  rw [hs] at PA HN
                  clear hs
                  go_wp2_with fail
                  refine PA.mono ?_
                  clear PA
                  rintro e w5 ⟨rfl, B5, f5⟩
                  have HB5 : Hid (Bbx w5 ob (some ⟨rb, 0, none⟩) c w.heap.size (adS L v) ∧ Below w.heap.size w w5) := ⟨B5, HB1.out.2.1.trans (f5.below HB1.out.2.1.size (fun k e => (row_lt HB1.out.1.row k e).1))⟩
                  clear B5 f5 y0 y1 z0 z1
                  go_wp2_with fail
                  go_roundw
                  case rel => exact ⟨i + 1, adS L v, _, by omega, rfl, by go_num, HB5, HN⟩
                  case measure => simp [intOf]; omega
              · by_cases k4 : kd = 4
                · have b1 : (kd == 1) = false := by rw [k4]; decide
                  have b2 : (kd == 2) = false := by rw [k4]; decide
                  have b3 : (kd == 3) = false := by rw [k4]; decide
                  have b4 : (kd == 4) = true := by rw [k4]; decide
                  have hl2 : fs.length = 2 := by
                    have := HW.out.1.fl i halv (by rw [HET.out]; exact Or.inr k4)
                    rw [HET.out] at this
                    exact this
                  have HKr : Hid (∀ (X : Nat → Prop) (v : Int × Int), Kps T wt X i v → ((fs.getD 0 (0, 0)).1 = 3 → X (fs.getD 0 (0, 0)).2.toNat) ∧ v = fs.getD 1 (0, 0)) := fun X v hv => by
                    unfold Kps at hv
                    rw [HET.out] at hv
                    dsimp only at hv
                    rcases hv with ⟨h, _⟩ | ⟨h, _⟩ | ⟨_, h⟩ | ⟨h, _⟩
                    · omega
                    · omega
                    · exact h
                    · omega
                  have hv0 : (fs.getD 0 (0, 0)).1 = 3 → 0 ≤ (fs.getD 0 (0, 0)).2 ∧ (fs.getD 0 (0, 0)).2 < L.length := fun h3 => by
                    obtain ⟨g1, g2⟩ := HW.out.1.fv i halv (fs.getD 0 (0, 0)) (by rw [HET.out]; exact getD_in (by show 0 < fs.length; omega)) h3
                    have := g2.1
                    exact ⟨g1, by omega⟩
                  have hkp : inS L (fs.getD 0 (0, 0)) = true → Kps T wt (Ls_ L) i (fs.getD 1 (0, 0)) := fun h => Or.inr (Or.inr (Or.inl (by rw [HET.out]; exact ⟨k4, inS_yes h, rfl⟩)))
                  obtain ⟨fb, fo, rfl, lfb, hfc⟩ := HFA.out w3 HB1.out.2.1 (by omega)
                  obtain ⟨y0, y1⟩ := hfc 1 (by omega)
                  obtain ⟨x0, x1⟩ := hfc 0 (by omega)
                  have q5 : (1 : Int) < (fs.length : Int) := by omega
                  have q6 : (0 : Int) < (fs.length : Int) := by omega
                  have q7 : 0 < fs.length := by omega
                  have q8 : ¬ fs = [] := fun e => by rw [e] at hl2; cases hl2
                  rw [show fo + 1 * 2 = fo + 2 by omega] at y0 y1
                  rw [show fo + 0 * 2 = fo by omega] at x0 x1
                  have k0 : w3.cell? ⟨ob, 0, none⟩ = some (.slice (some ⟨rb, 0, none⟩) L.length c) := by simp [World.cell?, HB1.out.1.blk]
                  have PI := inSet_any w3.drew (some ⟨rb, 0, none⟩) c L (fs.getD 0 (0, 0)) ((row_bools HB1.out.1.row).below (Below.refl _ w3).drew) hv0 (by omega)
                  have lw3 : fb < w3.heap.size := lfb
                  have lob := lt_of_some HB1.out.1.blk
                  cases hin0 : inS L (fs.getD 0 (0, 0))
                  · have HN : Hid (Pas T wt is P0 L more (i + 1)) := HS.out.next (fun _ _ _ v hv _ => by
                      exfalso
                      obtain ⟨g1, _⟩ := HKr.out _ _ hv
                      obtain ⟨n1, n2⟩ := inS_no hin0
                      have := g1 n1
                      unfold Ls_ at this
                      rw [n2] at this
                      cases this)
                    rw [hin0] at PI
                    clear hfc hkp hv0 HKr hin0 y0 y1
                    generalize fs.getD 0 (0, 0) = v0 at *
                    clear hlen hl2 k4 k3 k12 hfl
                    as_aux_lemma =>
                    go_upto_region 21 with fail
                    go_region_held3 (fun w' => w'.cell? ⟨ob, 0, none⟩ = some (.slice (some ⟨rb, 0, none⟩) L.length c) ∧ w'.cell? ⟨tb, 1, none⟩ = some (.slice (some ⟨fb, fo, none⟩) fs.length fc) ∧ w'.cell? ⟨fb, fo, none⟩ = some (.int .i64 v0.1) ∧ w'.cell? ⟨fb, fo + 1, none⟩ = some (.int .i64 v0.2)) (go_keep)
                      (first
                        | (go_at_call 54; refine PI.mono ?_; clear PI; rintro e w5 ⟨rfl, hb5⟩; have hbt := (Below.refl _ w3).drew.trans (hb5.mono (Nat.le_refl _)); have HB5 : Hid (Bbx w5 ob (some ⟨rb, 0, none⟩) c w.heap.size L ∧ Below w.heap.size w w5) := ⟨HB1.out.1.below hbt, HB1.out.2.1.trans (hbt.mono HB1.out.2.1.size)⟩; have u0 := (hbt.cell (p := ⟨ob, 0, none⟩) lob).trans k0; have u1 := (hbt.cell (p := ⟨tb, 1, none⟩) ht4).trans z1; have u2 := (hbt.cell (p := ⟨fb, fo, none⟩) lw3).trans x0; have u3 := (hbt.cell (p := ⟨fb, fo + 1, none⟩) lw3).trans x1; clear hb5 hbt))
                    all_goals
                      clear k0 z0 z1 x0 x1 u0 u1 u2 u3
                      go_wp2_with fail
                      go_roundw
                      case rel => exact ⟨i + 1, L, more, by omega, rfl, by go_num, HB5, HN⟩
                      case measure => simp [intOf]; omega
                  · have hkp := hkp hin0
                    have hbd := HS.out.bd HW.out.1 HW.out.2.1 HW.out.2.2 HLi.out hkp
                    have HSB : Hid ((fs.getD 1 (0, 0)).1 = 3 → Ls_ (adS L (fs.getD 1 (0, 0))) (fs.getD 1 (0, 0)).2.toNat) := adS_in (fun h3 => by have := hbd h3; omega)
                    generalize fs.getD 1 (0, 0) = v at *
                    have HSN : Hid (Pas T wt is P0 (adS L v) (!inS L v || more) i) := HS.out.add hlt HLi.out hkp (fun h3 => by have := hbd h3; omega)
                    have HN : Hid (Pas T wt is P0 (adS L v) (!inS L v || more) (i + 1)) := HSN.out.next (fun _ _ _ u hu h3 => by
                      rw [(HKr.out _ _ hu).2] at h3 ⊢
                      exact HSB.out h3)
                    have HPA : Hid (∀ w', Bbx w' ob (some ⟨rb, 0, none⟩) c w.heap.size L → Calls Tryz.prog 76 #[.agg #[.int .i64 v.1, .int .i64 v.2], .pointer (some ⟨ob, 0, none⟩)] w' fun e w'' => e = .returned (.bool (!inS L v)) ∧ Bbx w'' ob (some ⟨rb, 0, none⟩) c w.heap.size (adS L v) ∧ Fr (fun k => some k = (Value.slice (some ⟨rb, 0, none⟩) L.length c).ownBlock) w' w'') := fun w' hB => add_any w' ob (some ⟨rb, 0, none⟩) c w.heap.size L v hB hbd (by omega)
                    rw [hin0] at PI
                    clear hfc hkp hv0 HKr hin0 hbd HSN HSB
                    generalize fs.getD 0 (0, 0) = v0 at *
                    clear hlen hl2 k4 k3 k12 hfl
                    as_aux_lemma =>
                    go_upto_region 21 with fail
                    go_region_held3 (fun w' => w'.cell? ⟨ob, 0, none⟩ = some (.slice (some ⟨rb, 0, none⟩) L.length c) ∧ w'.cell? ⟨tb, 1, none⟩ = some (.slice (some ⟨fb, fo, none⟩) fs.length fc) ∧ w'.cell? ⟨fb, fo, none⟩ = some (.int .i64 v0.1) ∧ w'.cell? ⟨fb, fo + 1, none⟩ = some (.int .i64 v0.2)) (go_keep)
                      (first
                        | (go_at_call 54; refine PI.mono ?_; clear PI; rintro e w5 ⟨rfl, hb5⟩; have hbt := (Below.refl _ w3).drew.trans (hb5.mono (Nat.le_refl _)); have HB5 : Hid (Bbx w5 ob (some ⟨rb, 0, none⟩) c w.heap.size L ∧ Below w.heap.size w w5) := ⟨HB1.out.1.below hbt, HB1.out.2.1.trans (hbt.mono HB1.out.2.1.size)⟩; have u0 := (hbt.cell (p := ⟨ob, 0, none⟩) lob).trans k0; have u1 := (hbt.cell (p := ⟨tb, 1, none⟩) ht4).trans z1; have u2 := (hbt.cell (p := ⟨fb, fo, none⟩) lw3).trans x0; have u3 := (hbt.cell (p := ⟨fb, fo + 1, none⟩) lw3).trans x1; have u4 := (hbt.cell (p := ⟨fb, fo + 2, none⟩) lw3).trans y0; have u5 := (hbt.cell (p := ⟨fb, fo + 2 + 1, none⟩) lw3).trans y1; clear hb5 hbt))
                    all_goals
                      have PA := HPA.out w5 HB5.out.1
                      clear HPA k0 z0 z1 x0 x1 u0 u2 u3 y0 y1
                      cases hs : inS L v
                      all_goals
                        rw [hs] at PA HN
                        clear hs
                        go_wp2_with fail
                        refine PA.mono ?_
                        clear PA
                        rintro e w6 ⟨rfl, B6, f6⟩
                        have HB6 : Hid (Bbx w6 ob (some ⟨rb, 0, none⟩) c w.heap.size (adS L v) ∧ Below w.heap.size w w6) := ⟨B6, HB5.out.2.trans (f6.below HB5.out.2.size (fun k e => (row_lt HB5.out.1.row k e).1))⟩
                        clear B6 f6 u1 u4 u5
                        go_wp2_with fail
                        go_roundw
                        case rel => exact ⟨i + 1, adS L v, _, by omega, rfl, by go_num, HB6, HN⟩
                        case measure => simp [intOf]; omega
                · by_cases k5 : kd = 5
                  · have b1 : (kd == 1) = false := by rw [k5]; decide
                    have b2 : (kd == 2) = false := by rw [k5]; decide
                    have b3 : (kd == 3) = false := by rw [k5]; decide
                    have b4 : (kd == 4) = false := by rw [k5]; decide
                    have b5 : (kd == 5) = true := by rw [k5]; decide
                    have HK : Hid (∀ (X : Nat → Prop) (e : En), e ∈ wt → e.1 = i → Kps T wt X i (3, e.2)) := fun X e he h1 => Or.inr (Or.inr (Or.inr (by rw [HET.out]; exact ⟨k5, e, he, h1, rfl⟩)))
                    have HKr : Hid (∀ (X : Nat → Prop) (v : Int × Int), Kps T wt X i v → ∃ e ∈ wt, e.1 = i ∧ v = (3, e.2)) := fun X v hv => by
                      unfold Kps at hv
                      rw [HET.out] at hv
                      dsimp only at hv
                      rcases hv with ⟨h, _⟩ | ⟨h, _⟩ | ⟨h, _⟩ | ⟨_, h⟩
                      · omega
                      · omega
                      · omega
                      · exact h
                    obtain ⟨_, x3, _⟩ := HTW.out w3 HB1.out.2.1
                    clear hlen k5 k4 k3 k12 hfl
                    go_wp2_with fail
                    go_loopw [7, 11] (fun mv kv wr => ∃ (kk : Nat) (L' : List Bool) (m' : Bool), kk ≤ wt.length ∧ mv = .bool m' ∧ kv = .int .i64 kk ∧ Hid (Bbx wr ob (some ⟨rb, 0, none⟩) c w.heap.size L' ∧ Below w.heap.size w wr) ∧ Hid (Pas T wt is P0 L' m' i ∧ Ls_ L' i ∧ ∀ k', k' < kk → (wt.getD k' (0, 0)).1 = i → Ls_ L' (wt.getD k' (0, 0)).2.toNat)) (fun _ kv _ => wt.length - (intOf kv).toNat)
                    case atStart => exact ⟨0, L, more, Nat.zero_le _, rfl, rfl, ⟨HB1.out.1, HB1.out.2.1⟩, ⟨HS.out, HLi.out, fun k' h => absurd h (by omega)⟩⟩
                    case round =>
                      clear HB1 HS HLi z0 z1 HB x3
                      obtain ⟨kk, L', m', hkk, rfl, rfl, HB2, HS2⟩ := hrel
                      obtain ⟨_, x3, hl3⟩ := HTW.out wr HB2.out.2
                      by_cases hlk : kk < wt.length
                      · obtain ⟨fb, fo, rfl, lfb, hfc⟩ := hl3 (by omega)
                        obtain ⟨y0, y1⟩ := hfc kk hlk
                        have hmem : wt.getD kk (0, 0) ∈ wt := getD_in hlk
                        have q3 : (0 : Int) ≤ (kk : Int) := by omega
                        have q4 : (kk : Int) < (wt.length : Int) := by omega
                        by_cases heq : (wt.getD kk (0, 0)).1 = i
                        · have hkp := HK.out (Ls_ L') _ hmem heq
                          have hbd := HS2.out.1.bd HW.out.1 HW.out.2.1 HW.out.2.2 HS2.out.2.1 hkp
                          have HSB : Hid (∀ k', k' < kk + 1 → (wt.getD k' (0, 0)).1 = i → Ls_ (adS L' (3, (wt.getD kk (0, 0)).2)) (wt.getD k' (0, 0)).2.toNat) := fun k' h h3 => by
                            by_cases c : k' < kk
                            · exact adS_up _ _ _ (HS2.out.2.2 k' c h3)
                            · obtain rfl : k' = kk := by omega
                              exact adS_in (v := (3, (wt.getD k' (0, 0)).2)) (fun h3 => by have := hbd h3; omega) rfl
                          have PA := add_any wr ob (some ⟨rb, 0, none⟩) c w.heap.size L' (3, (wt.getD kk (0, 0)).2) HB2.out.1 hbd (by have := HS2.out.1.len; have := HW.out.2.2; omega)
                          have HSN : Hid (Pas T wt is P0 (adS L' (3, (wt.getD kk (0, 0)).2)) (!inS L' (3, (wt.getD kk (0, 0)).2) || m') i ∧ Ls_ (adS L' (3, (wt.getD kk (0, 0)).2)) i) := ⟨HS2.out.1.add hlt HS2.out.2.1 hkp (fun h3 => by have := hbd h3; omega), adS_up _ _ _ HS2.out.2.1⟩
                          rw [heq] at y0
                          generalize (wt.getD kk (0, 0)).2 = u at *
                          clear hfc hbd hkp hmem hl3 heq
                          dsimp only at PA
                          cases hs : inS L' (3, u)
                          all_goals
                            rw [hs] at PA HSN
                            clear hs
                            go_wp2_with fail
                            refine PA.mono ?_
                            clear PA
                            rintro e w5 ⟨rfl, B5, f5⟩
                            have HB5 : Hid (Bbx w5 ob (some ⟨rb, 0, none⟩) c w.heap.size (adS L' (3, u)) ∧ Below w.heap.size w w5) := ⟨B5, HB2.out.2.trans (f5.below HB2.out.2.size (fun k e => (row_lt HB2.out.1.row k e).1))⟩
                            clear B5 f5 y0 y1 x3
                            go_wp2_with fail
                            go_roundw
                            case rel => exact ⟨kk + 1, adS L' (3, u), _, by omega, rfl, by go_num, HB5, ⟨HSN.out.1, HSN.out.2, HSB.out⟩⟩
                            case measure => simp [intOf]; omega
                        · have HSB : Hid (∀ k', k' < kk + 1 → (wt.getD k' (0, 0)).1 = i → Ls_ L' (wt.getD k' (0, 0)).2.toNat) := fun k' h h3 => by
                            by_cases c : k' < kk
                            · exact HS2.out.2.2 k' c h3
                            · obtain rfl : k' = kk := by omega
                              exact absurd h3 heq
                          have heb : ((wt.getD kk (0, 0)).1 == (i : Int)) = false := by simpa using heq
                          generalize (wt.getD kk (0, 0)).1 = u at *
                          clear hfc hmem hl3 heq y1
                          go_wp2_with fail
                          go_roundw
                          case rel => exact ⟨kk + 1, L', m', by omega, rfl, by go_num, HB2, ⟨HS2.out.1, HS2.out.2.1, HSB.out⟩⟩
                          case measure => simp [intOf]; omega
                      · obtain rfl : kk = wt.length := by omega
                        have HN : Hid (Pas T wt is P0 L' m' (i + 1)) := HS2.out.1.next (fun _ _ _ v hv _ => by
                          obtain ⟨e0, he0, e1, rfl⟩ := HKr.out _ _ hv
                          obtain ⟨k', hk', e⟩ := List.mem_iff_getElem.1 he0
                          have e2 : wt.getD k' (0, 0) = e0 := by
                            rw [List.getD_eq_getElem?_getD, List.getElem?_eq_getElem hk', e]
                            rfl
                          have := HS2.out.2.2 k' hk' (by rw [e2]; exact e1)
                          rwa [e2] at this)
                        go_wp2_with fail
                        go_roundw
                        case rel => exact ⟨i + 1, L', m', by omega, rfl, by go_num, HB2, HN⟩
                        case measure => simp [intOf]; omega
                  · have b1 : (kd == 1) = false := by simp; omega
                    have b2 : (kd == 2) = false := by simp; omega
                    have b3 : (kd == 3) = false := by simp; omega
                    have b4 : (kd == 4) = false := by simp; omega
                    have b5 : (kd == 5) = false := by simp; omega
                    have HN : Hid (Pas T wt is P0 L more (i + 1)) := HS.out.next (fun _ _ _ v hv _ => by
                      unfold Kps at hv
                      rw [HET.out] at hv
                      dsimp only at hv
                      rcases hv with ⟨h, _⟩ | ⟨h, _⟩ | ⟨h, _⟩ | ⟨h, _⟩ <;> omega)
                    go_wp2_with fail
                    go_roundw
                    case rel => exact ⟨i + 1, L, more, by omega, rfl, by go_num, ⟨HB1.out.1, HB1.out.2.1⟩, HN⟩
                    case measure => simp [intOf]; omega
        · obtain rfl : i = T.length := by omega
          cases more
          · have hG := HS.out.done
            have hLP := (HS.out.no rfl).1
            go_wp2_with fail
            go_roundg (cnt P0)
            case measure => omega
            case rel => exact ⟨L, false, rfl, HB, ⟨HS.out.len, HS.out.up, HS.out.lt⟩, ⟨fun h => (by cases h), fun _ => ⟨by rw [hLP]; exact Nat.le_refl _, hG⟩⟩⟩
          · have hc := HS.out.yes rfl
            go_wp2_with fail
            go_roundg (cnt L + 1)
            case measure => omega
            case rel => exact ⟨L, true, rfl, HB, ⟨HS.out.len, HS.out.up, HS.out.lt⟩, ⟨fun _ => Nat.le_refl _, fun h => by cases h⟩⟩
end

end Go.Proofs.YtogknhogphkddaaGreat
