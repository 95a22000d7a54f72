/- Joined: Mj13, Mj14, Mj15, Mj16, Mn10. -/
import Derived.Test.YtmocakafnnkjfabGreatJ18
import Derived.Test.YtmocakafnnkjfabGreatJ04
import Derived.Test.YtmocakafnnkjfabGreatJ14
import Derived.Test.YtmocakafnnkjfabGreatJ02
/- Library functions over lists of numbers: Grow, Concat: contracts; all of a great cut. -/
namespace Go.Proofs.YtmocakafnnkjfabGreat
open Go.RowKit W Kp Stl

theorem zeros_len1 (z : Value) (n : Nat) (hz : z.cells.size = 1) : (Builtin.zeroCells z.cells n).size = n * 1 := by rw [size_zeroCells, hz]
theorem int_one (l : List Int) : ∀ u ∈ l.map (Value.int .i64), u.oneCell' = true := fun u hu => by
  obtain ⟨x, _, rfl⟩ := List.mem_map.1 hu
  rfl
theorem row_none {w : World} {base n m : Nat} {e : TypeId} {ad : Option Addr} {cap : Nat} {xs : List Value} (h : w.ownsRow base e m (.slice ad n cap) n xs) : ad = none → n = 0 ∧ cap = 0 := fun e0 => by
  subst e0
  rcases h.2 with ⟨hv, hn⟩ | ⟨g, c, cur, hv, _⟩
  · simp at hv
    exact ⟨hn, hv.2⟩
  · simp at hv
theorem row_adds {w : World} {base : Nat} {e : TypeId} {ad : Option Addr} {cap : Nat} {l : List Int} (h : w.ownsRow base e 1 (.slice ad l.length cap) l.length (l.map (Value.int .i64))) : ∀ a, ad = some a → ∀ j u, (l.map (Value.int .i64))[j]? = some u → w.cell? (a.add j) = some u := fun a ea j u hj => by
  have hjl : j < l.length := by
    have := (List.getElem?_eq_some_iff.1 hj).1
    simpa using this
  obtain ⟨b, o, e2, _, hc⟩ := row_ints h (by omega)
  rw [ea] at e2
  cases e2
  have h1 := hc j hjl
  rw [List.getElem?_map, List.getElem?_eq_getElem hjl] at hj
  simp at hj
  have e3 : (⟨b, o, none⟩ : Addr).add j = ⟨b, o + j, none⟩ := by simp [Addr.add]
  rw [e3, h1, ← hj]
  simp [List.getD_eq_getElem?_getD, List.getElem?_eq_getElem hjl]

set_option maxRecDepth 100000 in
set_option maxHeartbeats 400000 in
theorem growI_any (w : World) (n : Nat) (hn : n ≤ 100000) :
    Calls Tryz.prog 194 #[.slice none 0 0, .int .i64 n] w fun e w' => ∃ a1 c1, e = .returned (.slice a1 0 c1) ∧ w'.ownsRow w.heap.size 3 1 (.slice a1 0 c1) 0 [] ∧ Below w.heap.size w w' := by
  obtain ⟨i0, hi, hz0, hz1, hz2⟩ := info_parts infoInt
  rcases Nat.eq_zero_or_pos n with h0 | h0
  · subst h0
    go_enter Tryz.func194, Tryz.ntmps194
    go_wp2_with fail
    go_ret
    exact ⟨none, 0, rfl, World.ownsRow_nil _ _ _ _, Below.refl _ _⟩
  · have hr := Lib.run_append_nil_zeros (P := Tryz.prog) w 56 3 56 3 i0 (.int .i64 0) .i64 .i64 Tryz.underlying56 Tryz.underlying3 hi hz0 n h0 (by rw [hz1]; decide) (by omega) (by rw [hz2]; omega)
    have hge := grownCap_ge w n 0 3
    have hcm : grownCap w n 0 3 ≤ maxLen := grownCap_le_maxLen w n 0 3 (by unfold maxLen; omega)
    generalize grownCap w n 0 3 = g at hr hge hcm
    have hown : (w.drew.alloc (.cells (Builtin.zeroCells (Value.int .i64 0).cells n ++ Builtin.zeroCells (Value.int .i64 0).cells (g - n)) 3)).ownsRow w.heap.size 3 1 (.slice (some ⟨w.heap.size, 0, none⟩) 0 g) 0 [] :=
      World.ownsRow_made w.drew _ g (Nat.le_refl _) hcm (by rw [Array.size_append, zeros_len1 _ _ rfl, zeros_len1 _ _ rfl]; omega)
    have hb : Below w.heap.size w (w.drew.alloc (.cells (Builtin.zeroCells (Value.int .i64 0).cells n ++ Builtin.zeroCells (Value.int .i64 0).cells (g - n)) 3)) := (Below.refl _ w).drew.alloc (Nat.le_refl _) _
    generalize w.drew.alloc (.cells (Builtin.zeroCells (Value.int .i64 0).cells n ++ Builtin.zeroCells (Value.int .i64 0).cells (g - n)) 3) = w1 at hr hown hb
    go_enter Tryz.func194, Tryz.ntmps194
    go_wp2_with (at_builtin; refine Lib.wpList_append_run _ rfl _ _ _ _ rfl _ _ rfl rfl _ _ hr ?_)
    go_wp2_with fail
    go_ret
    exact ⟨_, _, rfl, hown, hb⟩

set_option maxRecDepth 100000 in
set_option maxHeartbeats 1000000 in
theorem concatI_any (w : World) (B : Nat) (l1 l2 : List Int) (z1 z2 : Option Addr) (c1 c2 : Nat) (x0 : w.cell? ⟨B, 0, none⟩ = some (.slice z1 l1.length c1)) (x1 : w.cell? ⟨B, 1, none⟩ = some (.slice z2 l2.length c2)) (h1 : w.ownsRow 0 3 1 (.slice z1 l1.length c1) l1.length (l1.map (Value.int .i64))) (h2 : w.ownsRow 0 3 1 (.slice z2 l2.length c2) l2.length (l2.map (Value.int .i64))) (hm : l1.length + l2.length ≤ 100000) :
    Calls Tryz.prog 182 #[.slice (some ⟨B, 0, none⟩) 2 2] w fun e w' => ∃ a c, e = .returned (.slice a (l1.length + l2.length) c) ∧ w'.ownsRow w.heap.size 3 1 (.slice a (l1.length + l2.length) c) (l1.length + l2.length) ((l1 ++ l2).map (Value.int .i64)) ∧ Below w.heap.size w w' := by
  obtain ⟨i0, hi, hz0, hz1, hz2⟩ := info_parts infoInt
  have H1 : Hid (w.ownsRow 0 3 1 (.slice z1 l1.length c1) l1.length (l1.map (Value.int .i64))) := h1
  have H2 : Hid (w.ownsRow 0 3 1 (.slice z2 l2.length c2) l2.length (l2.map (Value.int .i64))) := h2
  have hB := World.block_lt_of_cell? w _ x0
  clear h1 h2
  go_enter Tryz.func182, Tryz.ntmps182
  go_wp2_with fail
  go_loopw [3, 11] (fun sv iv wr => wr = w ∧ ((iv = .int .i64 0 ∧ sv = .int .i64 0) ∨ (iv = .int .i64 1 ∧ sv = .int .i64 l1.length) ∨ (iv = .int .i64 2 ∧ sv = .int .i64 (l1.length + l2.length : Nat)))) (fun _ iv _ => 2 - (intOf iv).toNat)
  case atStart => exact ⟨rfl, Or.inl ⟨rfl, rfl⟩⟩
  case round =>
    obtain ⟨hw, ⟨rfl, rfl⟩ | ⟨rfl, rfl⟩ | ⟨rfl, rfl⟩⟩ := hrel
    all_goals
      have hw := hw.symm
      subst hw
    · go_wp2_with fail
      go_roundw
      case rel => exact ⟨trivial, Or.inr (Or.inl ⟨by go_num, by go_num⟩)⟩
      case measure => simp [intOf]
    · go_wp2_with fail
      go_roundw
      case rel => exact ⟨trivial, Or.inr (Or.inr ⟨by go_num, by go_num⟩)⟩
      case measure => simp [intOf]
    · go_wp2_with fail
      refine (growI_any w (l1.length + l2.length) hm).mono ?_
      rintro e w1 ⟨a1, d1, rfl, hown, hb⟩
      go_wp2_with fail
      go_loopw [6, 27] (fun vv iv wk => Below w.heap.size w wk ∧ ((∃ a c, iv = .int .i64 0 ∧ vv = .slice a 0 c ∧ wk.ownsRow w.heap.size 3 1 (.slice a 0 c) 0 []) ∨ (∃ a c, iv = .int .i64 1 ∧ vv = .slice a l1.length c ∧ wk.ownsRow w.heap.size 3 1 (.slice a l1.length c) l1.length (l1.map (Value.int .i64))) ∨ (∃ a c, iv = .int .i64 2 ∧ vv = .slice a (l1.length + l2.length) c ∧ wk.ownsRow w.heap.size 3 1 (.slice a (l1.length + l2.length) c) (l1.length + l2.length) ((l1 ++ l2).map (Value.int .i64))))) (fun _ iv _ => 2 - (intOf iv).toNat)
      case atStart => exact ⟨hb, Or.inl ⟨a1, d1, rfl, rfl, hown⟩⟩
      case round =>
        clear hown hb
        obtain ⟨hb, ⟨a, c, rfl, rfl, hown⟩ | ⟨a, c, rfl, rfl, hown⟩ | ⟨a, c, rfl, rfl, hown⟩⟩ := hrel
        · have y0 := (hb.cell (p := ⟨B, 0, none⟩) hB).trans x0
          have hs := hb.size
          go_wp2_with (at_builtin; refine wpList_append_src _ rfl _ _ 56 rfl w.heap.size 3 i0 (.int .i64 0) 1 8 Tryz.underlying56 hi hz0 hz1 hz2 rfl (by decide) (.slice a 0 c) 0 [] rfl hown z1 l1.length c1 (l1.map (Value.int .i64)) rfl (by simp) (row_none H1.out) (row_adds (row_keep H1.out (fun k e => hb.block k (row_lt H1.out k e).2))) (int_one l1) ?_ ?_ hs ?_; (unfold maxLen; omega); omega; intro a2 d2 w2 hown2 hgrow2 _; rw [Nat.zero_add, List.nil_append] at hown2)
          have hb2 := hb.grown hgrow2 hs (fun k e => (row_lt hown k e.symm).1)
          clear hb hgrow2
          go_wp2_with fail
          go_roundw
          case rel => exact ⟨hb2, Or.inr (Or.inl ⟨a2, d2, by go_num, rfl, hown2⟩)⟩
          case measure => simp [intOf]
        · have y0 := (hb.cell (p := ⟨B, 1, none⟩) hB).trans x1
          have hs := hb.size
          go_wp2_with (at_builtin; refine wpList_append_src _ rfl _ _ 56 rfl w.heap.size 3 i0 (.int .i64 0) 1 8 Tryz.underlying56 hi hz0 hz1 hz2 rfl (by decide) (.slice a l1.length c) l1.length (l1.map (Value.int .i64)) rfl hown z2 l2.length c2 (l2.map (Value.int .i64)) rfl (by simp) (row_none H2.out) (row_adds (row_keep H2.out (fun k e => hb.block k (row_lt H2.out k e).2))) (int_one l2) ?_ ?_ hs ?_; (unfold maxLen; omega); omega; intro a2 d2 w2 hown2 hgrow2 _; rw [← List.map_append] at hown2)
          have hb2 := hb.grown hgrow2 hs (fun k e => (row_lt hown k e.symm).1)
          clear hb hgrow2
          go_wp2_with fail
          go_roundw
          case rel => exact ⟨hb2, Or.inr (Or.inr ⟨a2, d2, by go_num, rfl, hown2⟩)⟩
          case measure => simp [intOf]
        · go_wp2_with fail
          go_ret
          exact ⟨a, c, rfl, hown, hb⟩

section
variable {c : Jc} {k : Jk} {F : Nat → Prop} {s : Js} {w : World}

theorem mj_things {vt ve : Value} (h : (mjV c k vt ve).J F s w) : w.ownsRow 0 3 1 c.yv k.Y.length (k.Y.map (Value.int .i64)) ∧ w.ownsRow 0 3 1 c.ov k.G.length (k.G.map (Value.int .i64)) := by
  obtain ⟨FW, own, h, _⟩ := h
  exact ⟨h.yr, h.gr⟩
set_option maxRecDepth 100000 in
set_option maxHeartbeats 2000000 in
theorem allJ_any (h : (mjO c k).J F s w) (hl : k.T.length ≤ 4000) :
    Calls Tryz.prog 143 #[.pointer (some ⟨c.pk, 0, none⟩)] w fun e w' => ∃ a d, e = .returned (.slice a k.T.length d) ∧ w'.ownsRow w.heap.size 3 1 (.slice a k.T.length d) k.T.length (k.T.map (Value.int .i64)) ∧ Below w.heap.size w w' := by
  have hlen : k.T.length = k.G.length + k.Y.length := by unfold Jk.T; rw [List.length_append]
  have ET : Hid (k.T.map (Value.int .i64) = (k.G ++ k.Y).map (Value.int .i64)) := rfl
  rw [hlen] at hl ⊢
  rw [ET.out]
  obtain ⟨vt, ve, h⟩ := h
  obtain ⟨_, d1, d2, _, _, _, _, _, lk⟩ := mj_cells h
  obtain ⟨yr, gr⟩ := mj_things h
  obtain ⟨ya, yc, ey⟩ := row_slice yr
  obtain ⟨ga, gc, eg⟩ := row_slice gr
  rw [ey] at d1 yr
  rw [eg] at d2 gr
  have hba := (Below.refl w.drew.heap.size w.drew).alloc (Nat.le_refl _) (.cells #[.slice ga k.G.length gc, .slice ya k.Y.length yc] 56)
  have hB0 : Below w.heap.size w (w.drew.alloc (.cells #[.slice ga k.G.length gc, .slice ya k.Y.length yc] 56)) := (Below.refl w.heap.size w).drew.trans (hba.mono (Nat.le_refl _))
  have hx := heap_alloc_new w.drew (.cells #[.slice ga k.G.length gc, .slice ya k.Y.length yc] 56)
  have P := concatI_any (w.drew.alloc (.cells #[.slice ga k.G.length gc, .slice ya k.Y.length yc] 56)) w.heap.size k.G k.Y ga ya gc yc (by simp only [World.cell?]; rw [show w.heap.size = w.drew.heap.size from rfl, hx]; rfl) (by simp only [World.cell?]; rw [show w.heap.size = w.drew.heap.size from rfl, hx]; rfl) (row_keep gr (fun b e => hB0.block b (row_lt gr b e).2)) (row_keep yr (fun b e => hB0.block b (row_lt yr b e).2)) (by omega)
  have HB0 : Hid (Below w.heap.size w (w.drew.alloc (.cells #[.slice ga k.G.length gc, .slice ya k.Y.length yc] 56))) := hB0
  clear h yr gr hba hx hB0 hlen ey eg
  go_enter Tryz.func143, Tryz.ntmps143
  go_wp2_with fail
  go_region_held3 (fun w' => w'.cell? ⟨c.pk, 1, none⟩ = some (.slice ya k.Y.length yc) ∧ w'.cell? ⟨c.pk, 2, none⟩ = some (.slice ga k.G.length gc)) (go_keep)
    (first
      | (go_at_call 182; refine P.mono ?_; clear P; rintro e w3 ⟨a, d, rfl, hown, hb⟩; have hB3 := HB0.out.trans (hb.mono HB0.out.size); have y1 := (hB3.cell (p := ⟨c.pk, 1, none⟩) lk).trans d1; have y2 := (hB3.cell (p := ⟨c.pk, 2, none⟩) lk).trans d2; have HO : Hid (w3.ownsRow w.heap.size 3 1 (.slice a (k.G.length + k.Y.length) d) (k.G.length + k.Y.length) ((k.G ++ k.Y).map (Value.int .i64)) ∧ Below w.heap.size w w3) := ⟨row_base hown (fun b e => Nat.le_trans HB0.out.size (row_lt hown b e).1), hB3⟩; clear hown hb hB3))
  clear y1 y2 d1 d2
  go_wp2_with fail
  go_ret
  exact ⟨a, d, rfl, HO.out.1, HO.out.2⟩
end

end Go.Proofs.YtmocakafnnkjfabGreat

/- each of a great cut, over whatever looks; room: contracts. -/
namespace Go.Proofs.YtmocakafnnkjfabGreat
open Go.RowKit W Kp Stl

def ejS {τ : Type} (fm : τ → Int → Int) (st : τ → Int → τ) (t : τ) (a : Int) : τ := if fm t a = -1 then t else st t a
def ejL {τ : Type} (fm : τ → Int → Int) (st : τ → Int → τ) (t : τ) (l : List Int) : τ := l.foldl (ejS fm st) t

set_option maxRecDepth 100000 in
set_option maxHeartbeats 2000000 in
theorem eachJ0_any {τ : Type} (o : Ob τ) (fm fd : τ → Int → Int) (st : τ → Int → τ) (G : Nat → τ → Prop) (T : List Int) (pk pw p mq f : Nat) (cs : Array Value) (hf : Ent f) (l : List Int) (ad : Option Addr) (cap : Nat) (F : Nat → Prop) (t : τ) (w : World)
    (hth : ∀ F t w a, o.J F t w → w.cell? ⟨pk, 0, none⟩ = some (.pointer (some ⟨pw, 0, none⟩)) ∧ w.cell? ⟨pk, 3, none⟩ = some (.map (some mq)) ∧ w.cell? ⟨pw, 0, none⟩ = some (.pointer (some ⟨p, 0, none⟩)) ∧ Mp w mq T (fm t) ∧ Calls Tryz.prog 25 #[.pointer (some ⟨p, 0, none⟩), .int .i64 a] w fun r w' => ∃ x z, r = .returned (.tuple #[.int .i64 x, .int .i64 (fd t a), .int .i64 z]) ∧ Below w.heap.size w w')
    (hfd : ∀ t a, 0 ≤ fd t a ∧ fd t a ≤ 12) (hlb : ∀ a ∈ l, (0 ≤ a ∧ a ≤ 100000) ∧ a ∈ T) (hll : l.length ≤ 100000)
    (hlk : ∀ j F t w, j < l.length → G j t → o.J F t w → fm t (l.getD j 0) ≠ -1 → Calls Tryz.prog f (#[.int .i64 (l.getD j 0), .int .i64 (1 + fd t (l.getD j 0))] ++ cs) w fun r w' => ∃ F', r = .returned (.tuple #[]) ∧ o.J F' (st t (l.getD j 0)) w' ∧ Tn F w F' w')
    (hG : ∀ j t, j < l.length → G j t → G (j + 1) (ejS fm st t (l.getD j 0))) (h0 : G 0 t) (hJ : o.J F t w) (hL : ∀ F' t' w', o.J F' t' w' → Tn F w F' w' → Ls w' ad l) :
    Calls Tryz.prog 151 #[.pointer (some ⟨pk, 0, none⟩), .slice ad l.length cap, .func (.func f) #[] cs] w fun r w' => ∃ F', r = .returned (.tuple #[]) ∧ o.J F' (ejL fm st t l) w' ∧ Tn F w F' w' ∧ G l.length (ejL fm st t l) := by
  have HT : Hid (∀ F t w a, o.J F t w → w.cell? ⟨pk, 0, none⟩ = some (.pointer (some ⟨pw, 0, none⟩)) ∧ w.cell? ⟨pk, 3, none⟩ = some (.map (some mq)) ∧ w.cell? ⟨pw, 0, none⟩ = some (.pointer (some ⟨p, 0, none⟩)) ∧ Mp w mq T (fm t) ∧ Calls Tryz.prog 25 #[.pointer (some ⟨p, 0, none⟩), .int .i64 a] w fun r w' => ∃ x z, r = .returned (.tuple #[.int .i64 x, .int .i64 (fd t a), .int .i64 z]) ∧ Below w.heap.size w w') := hth
  have HK : Hid (∀ j F t w, j < l.length → G j t → o.J F t w → fm t (l.getD j 0) ≠ -1 → Calls Tryz.prog f (#[.int .i64 (l.getD j 0), .int .i64 (1 + fd t (l.getD j 0))] ++ cs) w fun r w' => ∃ F', r = .returned (.tuple #[]) ∧ o.J F' (st t (l.getD j 0)) w' ∧ Tn F w F' w') := hlk
  have HG : Hid (∀ j t, j < l.length → G j t → G (j + 1) (ejS fm st t (l.getD j 0))) := hG
  have HL : Hid (∀ F' t' w', o.J F' t' w' → Tn F w F' w' → Ls w' ad l) := hL
  have HLB : Hid (∀ a ∈ l, (0 ≤ a ∧ a ≤ 100000) ∧ a ∈ T) := hlb
  have HFD : Hid (∀ t a, 0 ≤ fd t a ∧ fd t a ≤ 12) := hfd
  have hcf : ∀ (args : Array Value) (w : World), (callFunc f args).run Tryz.prog w = .ok (.enter f args) w := hf
  clear hth hlk hG hL hlb hfd hf
  go_enter Tryz.func151, Tryz.ntmps151
  go_wp2_with fail
  go_loopw [13] (fun iv wr => ∃ (j : Nat) (F1 : Nat → Prop) (t1 : τ), j ≤ l.length ∧ iv = .int .i64 j ∧ Hid (ejL fm st t (l.take j) = t1) ∧ Hid (G j t1) ∧ o.J F1 t1 wr ∧ Tn F w F1 wr) (fun iv _ => l.length - (intOf iv).toNat)
  case atStart => exact ⟨0, F, t, Nat.zero_le _, rfl, rfl, h0, hJ, Tn.refl _ _⟩
  case round =>
    clear h0 hJ
    obtain ⟨j, F1, t1, hj, rfl, HE, HG1, hJ, hT⟩ := hrel
    by_cases hlt : j < l.length
    · obtain ⟨b0, o0, e0, hb0, hc⟩ := HL.out F1 t1 wr hJ hT (by omega)
      have x1 := hc j hlt
      subst e0
      have hin : l.getD j 0 ∈ l := by rw [List.getD_eq_getElem?_getD, List.getElem?_eq_getElem hlt]; exact List.getElem_mem hlt
      obtain ⟨hbd, hinT⟩ := HLB.out _ hin
      have hky := keyI hbd.1 (by omega)
      have HS : Hid (ejL fm st t (l.take (j + 1)) = ejS fm st t1 (l.getD j 0)) := by
        show _ = _
        rw [take_snoc l j hlt 0]
        unfold ejL
        rw [List.foldl_append]
        have := HE.out
        unfold ejL at this
        rw [this]
        rfl
      have HG2 : Hid (G (j + 1) (ejS fm st t1 (l.getD j 0))) := HG.out j t1 hlt HG1.out
      have HK1 := fun w h => HK.out j F1 t1 w hlt HG1.out h
      obtain ⟨d0, d3, d5, ⟨D, o1, o2, o3⟩, L⟩ := HT.out F1 t1 wr (l.getD j 0) hJ
      have E3 : Hid (D.atKey (.int .i64 (l.getD j 0)) (.lit (.int .i64 0)) = .lit (.int .i64 (fm t1 (l.getD j 0)))) := o3 _ hinT
      have hf12 := HFD.out t1 (l.getD j 0)
      have HJ1 : Hid (o.J F1 t1 wr ∧ Tn F w F1 wr) := ⟨hJ, hT⟩
      have HK1 : Hid (∀ w, o.J F1 t1 w → fm t1 (l.getD j 0) ≠ -1 → Calls Tryz.prog f (#[.int .i64 (l.getD j 0), .int .i64 (1 + fd t1 (l.getD j 0))] ++ cs) w fun r w' => ∃ F', r = .returned (.tuple #[]) ∧ o.J F' (st t1 (l.getD j 0)) w' ∧ Tn F1 w F' w') := HK1
      clear hc hin hinT hJ hT o2 o3
      by_cases hw : fm t1 (l.getD j 0) = -1
      · have ES : Hid (ejS fm st t1 (l.getD j 0) = t1) := by show _ = _; unfold ejS; rw [if_pos hw]
        rw [hw] at E3
        clear HK1 L
        generalize l.getD j 0 = a at *
        go_wp2_with (at_lookup; refine wpList_lookup_own_int _ rfl _ _ 98 rfl 3 3 .i64 lawI Tryz.underlying98 Tryz.underlying3 (zeroI _) mq T.length D rfl o1 _ _ rfl hky ?_; intro z hat hwc; obtain rfl : z = -1 := (by have := hat.symm.trans E3.out; simpa using this); clear hat hwc)
        clear x1 d0 d3 d5 o1
        go_roundw
        case rel => exact ⟨j + 1, F1, t1, by omega, by go_num, by show _ = _; rw [HS.out, ES.out], by show G _ _; rw [← ES.out]; exact HG2.out, HJ1.out.1, HJ1.out.2⟩
        case measure => simp [intOf]; omega
      · have ES : Hid (ejS fm st t1 (l.getD j 0) = st t1 (l.getD j 0)) := by show _ = _; unfold ejS; rw [if_neg hw]
        have HK2 : Hid (∀ w, o.J F1 t1 w → Calls Tryz.prog f (#[.int .i64 (l.getD j 0), .int .i64 (1 + fd t1 (l.getD j 0))] ++ cs) w fun r w' => ∃ F', r = .returned (.tuple #[]) ∧ o.J F' (st t1 (l.getD j 0)) w' ∧ Tn F1 w F' w') := fun w h => HK1.out w h hw
        clear HK1
        generalize l.getD j 0 = a at *
        generalize fm t1 a = v at *
        generalize fd t1 a = m at *
        generalize st t1 a = t2 at *
        go_wp2_with (at_lookup; refine wpList_lookup_own_int _ rfl _ _ 98 rfl 3 3 .i64 lawI Tryz.underlying98 Tryz.underlying3 (zeroI _) mq T.length D rfl o1 _ _ rfl hky ?_; intro z hat hwc; obtain rfl : z = v := (by have := hat.symm.trans E3.out; simpa using this); clear hat hwc E3)
        refine L.mono ?_
        clear L
        rintro r w1 ⟨x, y, rfl, hb1⟩
        go_wp2_with fail
        refine (HK2.out w1 (o.below HJ1.out.1 hb1)).mono ?_
        rintro r w2 ⟨F2, rfl, hJ2, hT2⟩
        have HJ2 : Hid (o.J F2 t2 w2 ∧ Tn F w F2 w2) := ⟨hJ2, (HJ1.out.2.below hb1).trans hT2⟩
        clear hJ2 hT2 x1 d0 d3 d5 o1
        go_wp2_with fail
        go_roundw
        case rel => exact ⟨j + 1, F2, t2, by omega, by go_num, by show _ = _; rw [HS.out, ES.out], by show G _ _; rw [← ES.out]; exact HG2.out, HJ2.out.1, HJ2.out.2⟩
        case measure => simp [intOf]; omega
    · obtain rfl : j = l.length := by omega
      rw [List.take_length] at HE
      go_wp2_with fail
      go_end0
      rw [HE.out]
      exact ⟨F1, rfl, hJ, hT, HG1.out⟩

theorem eachJ_any {τ : Type} (o : Ob τ) (fm fd : τ → Int → Int) (st : τ → Int → τ) (G : Nat → τ → Prop) (T : List Int) (pk pw p mq f : Nat) (cs : Array Value) (hf : Ent f) (l : List Int) (ad : Option Addr) (cap : Nat) (F : Nat → Prop) (t : τ) (w : World)
    (hth : ∀ F t w a, o.J F t w → w.cell? ⟨pk, 0, none⟩ = some (.pointer (some ⟨pw, 0, none⟩)) ∧ w.cell? ⟨pk, 3, none⟩ = some (.map (some mq)) ∧ w.cell? ⟨pw, 0, none⟩ = some (.pointer (some ⟨p, 0, none⟩)) ∧ Mp w mq T (fm t) ∧ Calls Tryz.prog 25 #[.pointer (some ⟨p, 0, none⟩), .int .i64 a] w fun r w' => ∃ x z, r = .returned (.tuple #[.int .i64 x, .int .i64 (fd t a), .int .i64 z]) ∧ Below w.heap.size w w')
    (hfd : ∀ t a, 0 ≤ fd t a ∧ fd t a ≤ 12) (hlb : ∀ a ∈ l, (0 ≤ a ∧ a ≤ 100000) ∧ a ∈ T) (hll : l.length ≤ 100000)
    (hlk : ∀ j F t w, j < l.length → G j t → o.J F t w → fm t (l.getD j 0) ≠ -1 → Calls Tryz.prog f (#[.int .i64 (l.getD j 0), .int .i64 (1 + fd t (l.getD j 0))] ++ cs) w fun r w' => ∃ F', r = .returned (.tuple #[]) ∧ o.J F' (st t (l.getD j 0)) w' ∧ Tn F w F' w')
    (hG : ∀ j t, j < l.length → G j t → G (j + 1) (ejS fm st t (l.getD j 0))) (h0 : G 0 t) (hJ : o.J F t w) (hL : Ls w ad l) (hn : 0 < l.length → ∀ z, ad = some z → ¬ F z.block) :
    Calls Tryz.prog 151 #[.pointer (some ⟨pk, 0, none⟩), .slice ad l.length cap, .func (.func f) #[] cs] w fun r w' => ∃ F', r = .returned (.tuple #[]) ∧ o.J F' (ejL fm st t l) w' ∧ Tn F w F' w' ∧ G l.length (ejL fm st t l) :=
  eachJ0_any o fm fd st G T pk pw p mq f cs hf l ad cap F t w hth hfd hlb hll hlk hG h0 hJ (fun F' _ w' _ hT => hL.keep hT.fr.size (fun hp z e => hT.fr.block _ (by obtain ⟨b, o', e', hb, _⟩ := hL hp; rw [e] at e'; cases e'; exact hb) (hn hp z e)))

end Go.Proofs.YtmocakafnnkjfabGreat

/- A great cut in memory: room, place: contracts; an Ob beside a number that turns. -/
namespace Go.Proofs.YtmocakafnnkjfabGreat
open Go.RowKit W Kp Stl

abbrev boxI (n : Int) : Obj := .cells #[.int .i64 n] 3 (0, 0)
def obN {τ : Type} (o : Ob τ) (bn : Nat) : Ob (τ × Int) where
  J F t w := ∃ F0, o.J F0 t.1 w ∧ w.heap[bn]? = some (boxI t.2) ∧ ¬ F0 bn ∧ ∀ b, F b ↔ (F0 b ∨ b = bn)
  lt := by
    rintro F t w ⟨F0, h, hx, _, hF⟩ b hb
    rcases (hF b).1 hb with hb | hb
    · exact o.lt h b hb
    · rw [hb]; exact lt_of_some hx
  keep := by
    rintro F t w w' ⟨F0, h, hx, hn, hF⟩ hs hk
    exact ⟨F0, o.keep h hs (fun b hb => hk b ((hF b).2 (Or.inl hb))), (hk bn ((hF bn).2 (Or.inr rfl))).trans hx, hn, hF⟩

section
variable {τ : Type} {o : Ob τ} {bx bn : Nat} {x : Obj} {F : Nat → Prop} {w : World}

theorem obX_in {t : τ} (h : (obX o bx x).J F t w) : ∃ F0, o.J F0 t w ∧ w.heap[bx]? = some x ∧ bx < w.heap.size ∧ ∀ F1 t1 w1, o.J F1 t1 w1 → Tn F0 w F1 w1 → (obX o bx x).J (fun b => F1 b ∨ b = bx) t1 w1 ∧ Tn F w (fun b => F1 b ∨ b = bx) w1 := by
  obtain ⟨F0, h, g2, g3, g4⟩ := h
  refine ⟨F0, h, g2, lt_of_some g2, fun F1 t1 w1 h1 hT => ⟨⟨F1, h1, (hT.fr.block bx (lt_of_some g2) g3).trans g2, fun d => (hT.sub bx d).elim g3 (fun d => by have := lt_of_some g2; omega), fun b => Iff.rfl⟩, ⟨hT.fr.mono (fun b hb => (g4 b).2 (Or.inl hb)), fun b hb => ?_⟩⟩⟩
  rcases hb with hb | hb
  · exact (hT.sub b hb).imp (fun d => (g4 b).2 (Or.inl d)) id
  · exact Or.inl ((g4 b).2 (Or.inr hb))
theorem obN_in {t : τ × Int} (h : (obN o bn).J F t w) : ∃ F0, o.J F0 t.1 w ∧ w.heap[bn]? = some (boxI t.2) ∧ bn < w.heap.size ∧ ∀ F1 t1 w1, o.J F1 t1 w1 → Tn F0 w F1 w1 → (obN o bn).J (fun b => F1 b ∨ b = bn) (t1, t.2) w1 ∧ Tn F w (fun b => F1 b ∨ b = bn) w1 := by
  obtain ⟨F0, h, g2, g3, g4⟩ := h
  refine ⟨F0, h, g2, lt_of_some g2, fun F1 t1 w1 h1 hT => ⟨⟨F1, h1, (hT.fr.block bn (lt_of_some g2) g3).trans g2, fun d => (hT.sub bn d).elim g3 (fun d => by have := lt_of_some g2; omega), fun b => Iff.rfl⟩, ⟨hT.fr.mono (fun b hb => (g4 b).2 (Or.inl hb)), fun b hb => ?_⟩⟩⟩
  rcases hb with hb | hb
  · exact (hT.sub b hb).imp (fun d => (g4 b).2 (Or.inl d)) id
  · exact Or.inl ((g4 b).2 (Or.inr hb))
theorem obN_cell {t : τ × Int} (h : (obN o bn).J F t w) : w.cell? ⟨bn, 0, none⟩ = some (.int .i64 t.2) ∧ w.frozen? ⟨bn, 0, none⟩ = false := by
  obtain ⟨F0, h, g2, g3, g4⟩ := h
  exact ⟨by simp [World.cell?, g2], by simp [World.frozen?, g2]⟩
theorem obN_set {t : τ × Int} (h : (obN o bn).J F t w) (m : Int) : (obN o bn).J F (t.1, m) (w.setCell ⟨bn, 0, none⟩ (.int .i64 m)) ∧ Tn F w F (w.setCell ⟨bn, 0, none⟩ (.int .i64 m)) := by
  obtain ⟨F0, h, g2, g3, g4⟩ := h
  have fr : Fr (fun b => b = bn) w (w.setCell ⟨bn, 0, none⟩ (.int .i64 m)) := (Fr.refl _ w).set _ 0 _ rfl
  refine ⟨⟨F0, o.keep h fr.size (fun b hb => fr.block b (o.lt h b hb) (fun e => g3 (by rw [← e]; exact hb))), ?_, g3, g4⟩, ⟨fr.mono (fun b e => (g4 b).2 (Or.inr e)), fun _ d => Or.inl d⟩⟩
  simp only [World.setCell, Array.getElem?_modify, if_true, g2, Option.map_some]
  simp
end

section
variable {c : Jc} {k : Jk} {vt ve : Value} {F : Nat → Prop} {s : Js} {w : World}

set_option maxRecDepth 100000 in
set_option maxHeartbeats 1000000 in
theorem roomJ_any (h : (mjV c k vt ve).J F s w) :
    Calls Tryz.prog 90 #[.pointer (some ⟨c.pk, 0, none⟩)] w fun e w' => e = .returned (.int .i64 k.a.O) ∧ Below w.heap.size w w' := by
  obtain ⟨hA, c0, _⟩ := mj_wood h
  obtain ⟨d0, _⟩ := mj_cells h
  have P := used_any w hA
  have HJ : Hid ((mjV c k vt ve).J F s w) := h
  have k1 := hA.hO
  have k2 := hA.hg
  clear h hA
  go_enter Tryz.func90, Tryz.ntmps90
  go_wp2_with fail
  refine P.mono ?_
  clear P
  rintro e w1 ⟨rfl, hb1⟩
  have h1 := (mjV c k vt ve).below HJ.out hb1
  obtain ⟨hA, e0, _⟩ := mj_wood h1
  obtain ⟨f0, _⟩ := mj_cells h1
  have P := freeOf_any w1 hA
  clear h1 hA c0 d0
  go_wp2_with fail
  refine P.mono ?_
  clear P
  rintro e w2 ⟨rfl, hb2⟩
  have HB : Hid (Below w.heap.size w w2) := hb1.trans (hb2.mono hb1.size)
  clear hb1 hb2 e0 f0
  go_wp2_with fail
  go_ret
  exact ⟨by go_num, HB.out⟩

set_option maxRecDepth 100000 in
set_option maxHeartbeats 1000000 in
theorem place1J_any {bp bn : Nat} {n m a : Int} (h : (obN (obX (mjV c k vt ve) bp (boxJ c)) bn).J F (s, n) w) (ht : k.T.length ≤ 4000) (ha : a ∈ k.T) (hp : 0 ≤ a ∧ a ≤ 2000) (hn : 0 ≤ n ∧ n ≤ 100000) (hm : 0 ≤ m ∧ m ≤ 13) :
    Calls Tryz.prog 152 #[.int .i64 a, .int .i64 m, .pointer (some ⟨bn, 0, none⟩), .pointer (some ⟨bp, 0, none⟩)] w fun e w' => ∃ F', e = .returned (.tuple #[]) ∧ (obN (obX (mjV c k vt ve) bp (boxJ c)) bn).J F' ({ s with f := upf s.f a n }, n + m) w' ∧ Tn F w F' w' := by
  have hky := keyI hp.1 (by omega)
  have hvl := elI n (WalkArith.wf_i64 ⟨by omega, by omega⟩)
  obtain ⟨x2, _⟩ := obN_cell h
  obtain ⟨_, h1, _⟩ := obN_in h
  obtain ⟨_, h2, x3, _⟩ := obX_in h1
  obtain ⟨_, _, _, d3, _⟩ := mj_cells h2
  have x3 : w.cell? ⟨bp, 0, none⟩ = some (.pointer (some ⟨c.pk, 0, none⟩)) := by simp [World.cell?, x3]
  clear h1 h2
  have hd := (obN (obX (mjV c k vt ve) bp (boxJ c)) bn).below h (Below.refl _ w).drew
  obtain ⟨F1, h1, _, _, U1⟩ := obN_in hd
  obtain ⟨F2, h2, _, _, U2⟩ := obX_in h1
  obtain ⟨⟨D, o1, o2, o3⟩, hM⟩ := mj_map h2
  obtain ⟨w3, hrun, hown3, hgrow3⟩ := o1.update (t := 98) (e := 3) lawI Tryz.underlying98 (by unfold maxLen; omega) hky hvl
  obtain ⟨J3, T3⟩ := hM w3 _ (Mp.put o1 o2 o3 ha hown3) ((Fr.refl _ w.drew).grown hgrow3 (fun b e => Or.inl (by cases e; rfl)))
  obtain ⟨J4, T4⟩ := U2 _ _ _ J3 T3
  obtain ⟨J5, T5⟩ := U1 _ _ _ J4 T4
  obtain ⟨y2, z2⟩ := obN_cell J5
  have HJ : Hid (_ ∧ _) := ⟨J5, (Tn.of (Below.refl _ w).drew).trans T5⟩
  clear h hd h1 h2 U1 U2 hM o1 o2 o3 hown3 hgrow3 J3 T3 J4 T4 J5 T5
  dsimp only at x2 y2
  go_enter Tryz.func152, Tryz.ntmps152
  go_wp2_with fail
  go_region
  go_wp2_with fail
  go_end0
  obtain ⟨J6, T6⟩ := obN_set HJ.out.1 (n + m)
  exact ⟨_, rfl, J6, HJ.out.2.trans T6⟩
end

end Go.Proofs.YtmocakafnnkjfabGreat

/- A great cut in memory: place: a contract. -/
namespace Go.Proofs.YtmocakafnnkjfabGreat
open Go.RowKit W Kp Stl

def Jk.plS (k : Jk) (t : Js × Int) (a : Int) : Js × Int := ({ t.1 with f := upf t.1.f a t.2 }, t.2 + (1 + pf (k.ld a)))
def Jk.plL (k : Jk) (t : Js × Int) (l : List Int) : Js × Int := ejL (fun t a => t.1.f a) k.plS t l
def Jk.pl (k : Jk) (s : Js) : Js × Int := k.plL (s, k.a.N) k.T

section
variable {c : Jc} {k : Jk} {vt ve : Value} {F : Nat → Prop} {s : Js} {w : World}

theorem ent_pl1 : Ent 152 := ent_of Tryz.func152 (by kernel_rfl) rfl

theorem placeE_any {bp bn : Nat} (h : (obN (obX (mjV c k vt ve) bp (boxJ c)) bn).J F (s, (k.a.N : Int)) w) (ht : k.T.length ≤ 4000) (hp : ∀ a ∈ k.T, 0 ≤ a ∧ a ≤ 2000) (hN : k.a.N ≤ 2000) {ad : Option Addr} {d B : Nat} (hr : w.ownsRow B 3 1 (.slice ad k.T.length d) k.T.length (k.T.map (Value.int .i64))) (hB : ∀ b, F b → b < B) :
    Calls Tryz.prog 151 #[.pointer (some ⟨c.pk, 0, none⟩), .slice ad k.T.length d, .func (.func 152) #[] #[.pointer (some ⟨bn, 0, none⟩), .pointer (some ⟨bp, 0, none⟩)]] w fun e w' => ∃ F', e = .returned (.tuple #[]) ∧ (obN (obX (mjV c k vt ve) bp (boxJ c)) bn).J F' (k.pl s) w' ∧ Tn F w F' w' ∧ 0 ≤ (k.pl s).2 ∧ (k.pl s).2 ≤ 60000 := by
  have E := eachJ_any (obN (obX (mjV c k vt ve) bp (boxJ c)) bn) (fun t a => t.1.f a) (fun _ a => pf (k.ld a)) k.plS (fun j t => 0 ≤ t.2 ∧ t.2 ≤ 2000 + 13 * (j : Int)) k.T c.pk k.a.pw k.a.p c.mq 152 #[.pointer (some ⟨bn, 0, none⟩), .pointer (some ⟨bp, 0, none⟩)] ent_pl1 k.T ad d F (s, (k.a.N : Int)) w
    (by
      rintro F t w9 a h9
      obtain ⟨_, h1, _⟩ := obN_in h9
      obtain ⟨_, h2, _⟩ := obX_in h1
      obtain ⟨c0, _, _, c3, _⟩ := mj_cells h2
      obtain ⟨hA, c5, _⟩ := mj_wood h2
      obtain ⟨hM, _⟩ := mj_map h2
      refine ⟨c0, c3, c5, hM, (thing_any a w9 hA).mono ?_⟩
      rintro r w' ⟨rfl, hb⟩
      exact ⟨_, _, rfl, hb⟩)
    (fun t a => pf_bd _) (fun a ha => ⟨by have := hp a ha; omega, ha⟩) (by omega)
    (by
      rintro j F t w9 hj ⟨g1, g2⟩ hJ _
      have hm : k.T.getD j 0 ∈ k.T := by rw [List.getD_eq_getElem?_getD, List.getElem?_eq_getElem hj]; exact List.getElem_mem hj
      have h1 := hp _ hm
      have h2 := pf_bd (k.ld (k.T.getD j 0))
      exact place1J_any (s := t.1) (n := t.2) (m := 1 + pf (k.ld (k.T.getD j 0))) hJ ht hm h1 ⟨g1, by omega⟩ (by omega))
    (by
      rintro j t hj ⟨g1, g2⟩
      have h2 := pf_bd (k.ld (k.T.getD j 0))
      unfold ejS
      split
      · exact ⟨g1, by omega⟩
      · unfold Jk.plS
        dsimp only
        exact ⟨by omega, by omega⟩)
    ⟨by dsimp only; omega, by dsimp only; omega⟩ h (row_ints hr)
    (fun hp' z e hz => by
      obtain ⟨b, cap, e'⟩ := row_shape hr hp'
      cases e'
      cases e
      have h2 := (row_lt hr b rfl).1
      have := hB b hz
      omega)
  refine E.mono ?_
  rintro r w' ⟨F', rfl, h1, h2, h3, h4⟩
  exact ⟨F', rfl, h1, h2, h3, Int.le_trans h4 (by omega)⟩

set_option maxRecDepth 100000 in
set_option maxHeartbeats 2000000 in
theorem placeJ_any (h : (mjV c k vt ve).J F s w) (ht : k.T.length ≤ 4000) (hp : ∀ a ∈ k.T, 0 ≤ a ∧ a ≤ 2000) :
    Calls Tryz.prog 89 #[.pointer (some ⟨c.pk, 0, none⟩)] w fun e w' => ∃ F', e = .returned (.int .i64 ((k.pl s).2 - k.a.N)) ∧ (mjV c k vt ve).J F' (k.pl s).1 w' ∧ Tn F w F' w' := by
  have hmf : ∀ (fn : Fn) (first cap : Array Value) (w : World), (Instr.makeFunc fn first cap).run Tryz.prog w = .ok (.func fn first cap) w := fun _ _ _ _ => rfl
  have HJ : Hid ((mjV c k vt ve).J F s w) := h
  have hb0 := (Below.refl w.heap.size w).alloc (Nat.le_refl _) (boxJ c)
  have h0 := (mjV c k vt ve).below h hb0
  obtain ⟨hA, c0, _⟩ := mj_wood h0
  obtain ⟨d0, _⟩ := mj_cells h0
  have P := bounds_any _ hA
  have n1 := hA.hN'
  have HB : Hid (Below w.heap.size w (w.alloc (boxJ c))) := hb0
  clear h h0 hA hb0
  go_enter Tryz.func89, Tryz.ntmps89
  go_wp2_with fail
  refine P.mono ?_
  clear P
  rintro e w1 ⟨rfl, hb1⟩
  have hx1 : w1.heap[w.heap.size]? = some (boxJ c) := (hb1.block _ (by simp)).trans (heap_alloc_new _ _)
  have x0 : w1.cell? ⟨w.heap.size, 0, none⟩ = some (.pointer (some ⟨c.pk, 0, none⟩)) := by simp [World.cell?, hx1]
  have nF : ∀ b, F b → b < w.heap.size := (mjV c k vt ve).lt HJ.out
  have hs1 : w.heap.size < w1.heap.size := lt_of_some hx1
  have hb2 : Below w1.heap.size w1 (w1.alloc (boxI k.a.N)) := (Below.refl w1.heap.size w1).alloc (Nat.le_refl _) _
  have hbA : Below w.heap.size w w1 := HB.out.trans (hb1.mono HB.out.size)
  have hJ2 := (mjV c k vt ve).below ((mjV c k vt ve).below HJ.out hbA) hb2
  have hX2 : (obX (mjV c k vt ve) w.heap.size (boxJ c)).J (fun b => F b ∨ b = w.heap.size) s (w1.alloc (boxI k.a.N)) := ⟨F, hJ2, (hb2.block _ hs1).trans hx1, fun d => by have := nF _ d; omega, fun b => Iff.rfl⟩
  have hN2 : (obN (obX (mjV c k vt ve) w.heap.size (boxJ c)) w1.heap.size).J (fun b => (F b ∨ b = w.heap.size) ∨ b = w1.heap.size) (s, (k.a.N : Int)) (w1.alloc (boxI k.a.N)) := ⟨_, hX2, heap_alloc_new _ _, fun d => d.elim (fun d => by have := nF _ d; omega) (fun d => by omega), fun b => Iff.rfl⟩
  have hd := (Below.refl (w1.alloc (boxI k.a.N)).heap.size (w1.alloc (boxI k.a.N))).drew
  have PA := allJ_any (c := c) ⟨vt, ve, (mjV c k vt ve).below hJ2 hd⟩ ht
  have HN : Hid ((obN (obX (mjV c k vt ve) w.heap.size (boxJ c)) w1.heap.size).J (fun b => (F b ∨ b = w.heap.size) ∨ b = w1.heap.size) (s, (k.a.N : Int)) (w1.alloc (boxI k.a.N)).drew ∧ Below w.heap.size w (w1.alloc (boxI k.a.N)).drew ∧ (∀ b, F b → b < w.heap.size) ∧ w.heap.size < w1.heap.size ∧ (w1.alloc (boxI k.a.N)).drew.heap.size = w1.heap.size + 1) := ⟨(obN (obX (mjV c k vt ve) w.heap.size (boxJ c)) w1.heap.size).below hN2 hd, (hbA.trans (hb2.mono hbA.size)).trans (hd.mono (by simp; omega)), nF, hs1, by simp⟩
  have x2 : (w1.alloc (boxI k.a.N)).cell? ⟨w.heap.size, 0, none⟩ = some (.pointer (some ⟨c.pk, 0, none⟩)) := (hb2.cell (p := ⟨w.heap.size, 0, none⟩) hs1).trans x0
  have HPL : Hid (k.T.length ≤ 4000 ∧ ∀ a ∈ k.T, 0 ≤ a ∧ a ≤ 2000) := ⟨ht, hp⟩
  clear nF hb2 hbA hJ2 hX2 hN2 hd hb1 hx1 x0 c0 d0 HB hs1 HJ
  go_wp2_with fail
  go_region_held3 (fun w' => w'.cell? ⟨w.heap.size, 0, none⟩ = some (.pointer (some ⟨c.pk, 0, none⟩))) (go_keep)
    (first
      | (go_at_call 143; refine PA.mono ?_; clear PA; rintro e w3 ⟨a3, d3, rfl, ho3, hb3⟩; have y0 : w3.cell? ⟨w.heap.size, 0, none⟩ = some (.pointer (some ⟨c.pk, 0, none⟩)) := (hb3.cell (p := ⟨w.heap.size, 0, none⟩) (by have := HN.out.2.2.2; simp; omega)).trans x2; have H3 : Hid (w3.ownsRow (w1.alloc (boxI k.a.N)).drew.heap.size 3 1 (.slice a3 k.T.length d3) k.T.length (k.T.map (Value.int .i64)) ∧ Below (w1.alloc (boxI k.a.N)).drew.heap.size (w1.alloc (boxI k.a.N)).drew w3) := ⟨ho3, hb3⟩; clear ho3 hb3)
      | (go_at_call 151; refine (placeE_any ((obN (obX (mjV c k vt ve) w.heap.size (boxJ c)) w1.heap.size).below HN.out.1 H3.out.2) HPL.out.1 HPL.out.2 (by omega) H3.out.1 (fun b hb => by have h5 := HN.out.2.2; rw [h5.2.2]; rcases hb with (hb | hb) | hb; (have := h5.1 b hb; omega); omega; omega)).mono ?_; rintro e w4 ⟨F4, rfl, hJ4, hT4, b1, b2⟩; have y4 := (obN_cell hJ4).1; obtain ⟨F5, h5, _, _, _⟩ := obN_in hJ4; obtain ⟨F6, h6, h7, _, _⟩ := obX_in h5; have y5 : w4.cell? ⟨w.heap.size, 0, none⟩ = some (.pointer (some ⟨c.pk, 0, none⟩)) := (by simp [World.cell?, h7]); clear h5 h6 h7; have HJ4 : Hid ((obN (obX (mjV c k vt ve) w.heap.size (boxJ c)) w1.heap.size).J F4 (k.pl s) w4 ∧ Tn (fun b => (F b ∨ b = w.heap.size) ∨ b = w1.heap.size) w3 F4 w4) := ⟨hJ4, hT4⟩; clear hJ4 hT4))
  all_goals
    have HF : Hid (∃ F', (mjV c k vt ve).J F' (k.pl s).1 w4 ∧ Tn F w F' w4) := by
      obtain ⟨⟨F5, ⟨F6, h6, h7, h8, h9⟩, h10, h11, h12⟩, hT⟩ := HJ4.out
      obtain ⟨_, q2, q3, q4, q5⟩ := HN.out
      have hb3 := H3.out.2
      have hbw : Below w.heap.size w w3 := q2.trans (hb3.mono (by omega))
      refine ⟨F6, h6, ⟨(Fr.of (X := F) hbw).trans hT.fr (fun b d => ?_), fun b hb => ?_⟩⟩
      · rcases d with (d | d) | d
        · exact Or.inl d
        · exact Or.inr (by omega)
        · exact Or.inr (by omega)
      · rcases hT.sub b ((h12 b).2 (Or.inl ((h9 b).2 (Or.inl hb)))) with ((d | d) | d) | d
        · exact Or.inl d
        · exact absurd hb (by rw [d]; exact h8)
        · exact absurd ((h9 b).2 (Or.inl hb)) (by rw [d]; exact h11)
        · exact Or.inr (by have := hbw.size; omega)
    clear HJ4 HN H3 HPL x2 y0 y5
    go_wp2_with fail
    go_ret
    obtain ⟨F', h1, h2⟩ := HF.out
    exact ⟨F', by first | rfl | go_num, h1, h2⟩
end

end Go.Proofs.YtmocakafnnkjfabGreat

/- A small cut in memory: mendWeaks, breakEphems, keepRoots, each: contracts. -/
namespace Go.Proofs.YtmocakafnnkjfabGreat
open Go.RowKit W Kp Stl

section
variable {c : Cc} {k : Ck} {F : Nat → Prop} {s : Cs} {w : World}

set_option maxRecDepth 100000 in
set_option maxHeartbeats 2000000 in
theorem breakE_any (h : (cutO c k).J F s w) (hI : CI k s) (hl : s.ep.length ≤ 10000) :
    Calls Tryz.prog 67 #[.pointer (some ⟨c.pk, 0, none⟩)] w fun e w' => e = .returned (.tuple #[]) ∧ (cutO c k).J F (k.be s s.ep) w' ∧ Tn F w F w' := by
  obtain ⟨vw, ve, h⟩ := h
  obtain ⟨c0, _, _, _, c4, c5, _, _, _, cz, _, er, _, lk, _⟩ := cut_cells h
  obtain ⟨ad, cap, rfl⟩ := row_slice er
  have HI : Hid (CI k s) := hI
  have HP : Hid (∀ a ∈ s.ep, (k.N : Int) ≤ a ∧ a ≤ 2000) := hI.ep0
  have hN0 : (0 : Int) ≤ k.N := by omega
  clear hI cz
  go_enter Tryz.func67, Tryz.ntmps67
  go_wp2_with fail
  go_loopw [9] (fun iv wr => ∃ (j : Nat) (s1 : Cs), j ≤ s.ep.length ∧ iv = .int .i64 j ∧ Hid (k.be s (s.ep.take j) = s1) ∧ (cutV c k vw (.slice ad s.ep.length cap)).J F s1 wr ∧ Tn F w F wr ∧ Hid (CI k s1 ∧ Cq k s s1)) (fun iv _ => s.ep.length - (intOf iv).toNat)
  case atStart => exact ⟨0, s, Nat.zero_le _, rfl, rfl, h, Tn.refl _ _, ⟨HI.out, Cq.refl _ _⟩⟩
  case round =>
    obtain ⟨j, s1, hj, rfl, HE, hJ, hT, HI1⟩ := hrel
    obtain ⟨d0, _, _, _, d4, d5, _, _, _, dz, _, er1, _, lk1, _⟩ := cut_cells hJ
    have eep := HI1.out.2.ep
    rw [eep] at er1
    by_cases hlt : j < s.ep.length
    · obtain ⟨b0, o0, e0, hb0, hc⟩ := row_ints er1 (by omega)
      have x1 := hc j hlt
      subst e0
      have hin : s.ep.getD j 0 ∈ s.ep := by rw [List.getD_eq_getElem?_getD, List.getElem?_eq_getElem hlt]; exact List.getElem_mem hlt
      have hbd := HP.out _ hin
      have HS : Hid (k.be s (s.ep.take (j + 1)) = k.be1 s1 (s.ep.getD j 0)) := by
        show _ = _
        rw [take_snoc s.ep j hlt 0]
        unfold Ck.be
        rw [List.foldl_append]
        have := HE.out
        unfold Ck.be at this
        rw [this]
        rfl
      generalize s.ep.getD j 0 = a at x1 hbd HS
      have HI2 : Hid (CI k (k.be1 s1 a) ∧ Cq k s (k.be1 s1 a)) := by
        obtain ⟨i1, i2⟩ := HI1.out.1.be1 hbd.1
        exact ⟨i1, HI1.out.2.trans i2⟩
      have HB : Hid (k.be1 s1 a = k.st (k.st s1 (a + 1) 3) (a + 2) 3) := rfl
      generalize k.be1 s1 a = s3 at HS HI2 HB
      have HJ1 : Hid ((cutV c k vw (.slice (some ⟨b0, o0, none⟩) s.ep.length cap)).J F s1 wr ∧ Tn F w F wr) := ⟨hJ, hT⟩
      have hA := (cut_arena ((cutV c k vw (.slice (some ⟨b0, o0, none⟩) s.ep.length cap)).below hJ (Below.refl _ wr).drew))
      have HA : Hid (_ ∧ _) := hA
      have hw1 : IntKind.i64.wrap (a + 1) = a + 1 := by rw [IntKind.wrap_i64]; omega
      have hw2 : IntKind.i64.wrap (a + 2) = a + 2 := by rw [IntKind.wrap_i64]; omega
      clear hc hin hJ hT hA dz er1 d4
      go_wp2_with fail
      go_region_held3 (fun w' => w'.cell? ⟨c.pk, 0, none⟩ = some (.pointer (some ⟨c.pw, 0, none⟩)) ∧ w'.cell? ⟨c.pw, 0, none⟩ = some (.pointer (some ⟨c.p, 0, none⟩))) (go_keep)
        (first
          | (go_at_call 136; refine (gone_any _).mono ?_; rintro e w2 ⟨rfl, hw2'⟩; have hw2' := hw2'.symm; subst hw2')
          | (go_at_call 34; refine (store_any (a + 1) 3 wr.drew HA.out.1).mono ?_; rintro e w3 ⟨rfl, hA3, hs3⟩; obtain ⟨hJ3, hT3⟩ := HA.out.2 w3 _ _ hA3 hs3; obtain ⟨g0, _, _, _, _, g5, _⟩ := cut_cells hJ3; have HJ3 : Hid ((cutV c k vw (.slice (some ⟨b0, o0, none⟩) s.ep.length cap)).J F (k.st s1 (a + 1) 3) w3 ∧ Tn F w F w3) := ⟨hJ3, (HJ1.out.2.below (Below.refl _ wr).drew).trans hT3⟩; clear hA3 hs3 hJ3 hT3 HA HJ1))
      have hA := (cut_arena ((cutV c k vw (.slice (some ⟨b0, o0, none⟩) s.ep.length cap)).below HJ3.out.1 (Below.refl _ w3).drew))
      have HA : Hid (_ ∧ _) := hA
      clear hA d0 d5
      go_wp2_with fail
      go_region_held3 (fun w' => w'.cell? ⟨c.pk, 0, none⟩ = some (.pointer (some ⟨c.pw, 0, none⟩)) ∧ w'.cell? ⟨c.pw, 0, none⟩ = some (.pointer (some ⟨c.p, 0, none⟩))) (go_keep)
        (first
          | (go_at_call 136; refine (gone_any _).mono ?_; rintro e w2 ⟨rfl, hw2'⟩; have hw2' := hw2'.symm; subst hw2')
          | (go_at_call 34; refine (store_any (a + 2) 3 w3.drew HA.out.1).mono ?_; rintro e w5 ⟨rfl, hA3, hs3⟩; obtain ⟨hJ5, hT5⟩ := HA.out.2 w5 _ _ hA3 hs3; obtain ⟨r0, _, _, _, _, r5, _⟩ := cut_cells hJ5; have HJ5 : Hid ((cutV c k vw (.slice (some ⟨b0, o0, none⟩) s.ep.length cap)).J F s3 w5 ∧ Tn F w F w5) := ⟨(by rw [HB.out]; exact hJ5), (HJ3.out.2.below (Below.refl _ w3).drew).trans hT5⟩; clear hA3 hs3 hJ5 hT5 HA HJ3))
      clear g0 g5 r0 r5
      go_wp2_with fail
      go_roundw
      case rel => exact ⟨j + 1, s3, by omega, by go_num, HS, HJ5.out.1, HJ5.out.2, HI2⟩
      case measure => simp [intOf]; omega
    · obtain rfl : j = s.ep.length := by omega
      rw [List.take_length] at HE
      go_wp2_with fail
      go_end0
      rw [HE.out]
      exact ⟨rfl, ⟨_, _, hJ⟩, hT⟩

end

end Go.Proofs.YtmocakafnnkjfabGreat
