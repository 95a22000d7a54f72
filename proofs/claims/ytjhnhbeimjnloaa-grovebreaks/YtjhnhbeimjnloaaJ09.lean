/- Joined: Gb4, Wv3, Wv4. -/
import Derived.Test.YtjhnhbeimjnloaaJ08
import Derived.Test.YtjhnhbeimjnloaaJ07
import Derived.Test.YtjhnhbeimjnloaaJ05
import Derived.Deep.RegionHeld3
import Derived.Test.YtjhnhbeimjnloaaJ06
import Derived.Test.YtjhnhbeimjnloaaJ04
/- GroveBreaks: least's has and add: contracts. -/
namespace Go.Proofs.Ytjhnhbeimjnloaa
open Go.RowKit W Kp Stl

structure Bl (w : World) (ib hb mb : Nat) (ad : Option Addr) (c base : Nat) (L : List Bool) (more : Bool) : Prop where
  bx : Bbx w ib ad c base L
  hc : w.heap[hb]? = some (.cells #[.func (.func 29) #[] #[.pointer (some ⟨ib, 0, none⟩)]] 42 (0, 0))
  mc : w.heap[mb]? = some (.cells #[.bool more] 4 (0, 0))
  nm : ∀ k, some k = (Value.slice ad L.length c).ownBlock → k ≠ mb
section
variable {w w' : World} {ib hb mb : Nat} {ad : Option Addr} {c base : Nat} {L : List Bool} {more : Bool}
theorem Bl.below (h : Bl w ib hb mb ad c base L more) (b : Below w.heap.size w w') : Bl w' ib hb mb ad c base L more :=
  ⟨h.bx.below b, (b.block hb (lt_of_some h.hc)).trans h.hc, (b.block mb (lt_of_some h.mc)).trans h.mc, h.nm⟩
theorem Bl.cells (h : Bl w ib hb mb ad c base L more) : w.cell? ⟨ib, 0, none⟩ = some (.slice ad L.length c) ∧ w.cell? ⟨hb, 0, none⟩ = some (.func (.func 29) #[] #[.pointer (some ⟨ib, 0, none⟩)]) ∧ w.cell? ⟨mb, 0, none⟩ = some (.bool more) ∧ w.frozen? ⟨mb, 0, none⟩ = false :=
  ⟨by simp [World.cell?, h.bx.blk], by simp [World.cell?, h.hc], by simp [World.cell?, h.mc], by simp [World.frozen?, h.mc]⟩
theorem Bl.say (h : Bl w ib hb mb ad c base L more) (m : Bool) : Bl (w.setCell ⟨mb, 0, none⟩ (.bool m)) ib hb mb ad c base L m ∧ Fr (fun k => k = mb) w (w.setCell ⟨mb, 0, none⟩ (.bool m)) := by
  have f : Fr (fun k => k = mb) w (w.setCell ⟨mb, 0, none⟩ (.bool m)) := (Fr.refl (fun k => k = mb) w).set mb 0 _ rfl
  have ne : ∀ {k : Nat} {cs : Array Value} {e : TypeId}, w.heap[k]? = some (.cells cs e (0, 0)) → e ≠ 4 → k ≠ mb := fun {k cs e} hk hne d => by
    rw [d, h.mc] at hk
    simp at hk
    exact hne hk.2.symm
  refine ⟨⟨h.bx.keep (f.block ib (lt_of_some h.bx.blk) (ne h.bx.blk (by decide))) (fun k e => f.block k (row_lt h.bx.row k e).2 (h.nm k e)), (f.block hb (lt_of_some h.hc) (ne h.hc (by decide))).trans h.hc, ?_, h.nm⟩, f⟩
  have hq := h.mc
  simp only [World.setCell, Array.getElem?_modify, if_true, hq, Option.map_some]
  rfl

set_option maxRecDepth 100000 in
set_option maxHeartbeats 1000000 in
theorem has_any (h : Bbx w ib ad c base L) (v : Int × Int) (hv : v.1 = 3 → 0 ≤ v.2 ∧ v.2 < L.length) (hm : L.length ≤ 100000) :
    Calls Try.prog 29 #[.agg #[.int .i64 v.1, .int .i64 v.2], .pointer (some ⟨ib, 0, none⟩)] w fun e w' => e = .returned (.bool (inS L v)) ∧ Below w.heap.size w w' := by
  obtain ⟨k, n⟩ := v
  dsimp only at hv ⊢
  have hb0 := (Below.refl w.heap.size w).alloc (Nat.le_refl _) (.cells #[.int .i64 k, .int .i64 n] 41)
  have c0 : (w.alloc (.cells #[.int .i64 k, .int .i64 n] 41)).cell? ⟨ib, 0, none⟩ = some (.slice ad L.length c) := by simp [World.cell?, (h.below hb0).blk]
  by_cases hk : k = 3
  · subst hk
    obtain ⟨n0, n1⟩ := hv rfl
    obtain ⟨n, rfl⟩ := Int.eq_ofNat_of_zero_le n0
    obtain ⟨b, rfl, hb, hc⟩ := row_bools h.row (by omega)
    have e : inS L (3, (n : Int)) = L.getD n false := by
      unfold inS
      simp
    rw [e]
    have x1 := (hb0.cell (p := ⟨b, n, none⟩) hb).trans (hc n (by omega))
    have n2 : (0 : Int) ≤ (n : Int) := by omega
    clear hc hv e n0 h
    generalize L.getD n false = r at *
    go_enter Try.func29, Try.ntmps29
    go_wp2_with fail
    go_ret
    exact ⟨rfl, hb0⟩
  · have e : inS L (k, n) = true := by
      unfold inS
      simp [hk]
    rw [e]
    have kb : (k != 3) = true := by simpa using hk
    clear hv e h
    go_enter Try.func29, Try.ntmps29
    go_wp2_with fail
    go_ret
    exact ⟨rfl, hb0⟩

set_option maxRecDepth 100000 in
set_option maxHeartbeats 1000000 in
theorem addl_any (h : Bl w ib hb mb ad c base L more) (v : Int × Int) (hv : v.1 = 3 → 0 ≤ v.2 ∧ v.2 < L.length) (hm : L.length ≤ 100000) :
    Calls Try.prog 30 #[.agg #[.int .i64 v.1, .int .i64 v.2], .pointer (some ⟨hb, 0, none⟩), .pointer (some ⟨ib, 0, none⟩), .pointer (some ⟨mb, 0, none⟩)] w fun e w' => e = .returned (.tuple #[]) ∧ Hid (Bl w' ib hb mb ad c base (adS L v) (!inS L v || more)) ∧ Hid (Fr (fun k => some k = (Value.slice ad L.length c).ownBlock ∨ k = mb) w w') := by
  have hb0 := (Below.refl w.heap.size w).alloc (Nat.le_refl _) (.cells #[.int .i64 v.1, .int .i64 v.2] 41)
  have hx0 := heap_alloc_new w (.cells #[.int .i64 v.1, .int .i64 v.2] 41)
  have B0 := h.below hb0
  have PI := has_any B0.bx v hv hm
  obtain ⟨c0, c1, c2, c3⟩ := B0.cells
  have HB : Hid (Below w.heap.size w (w.alloc (.cells #[.int .i64 v.1, .int .i64 v.2] 41)) ∧ Bl (w.alloc (.cells #[.int .i64 v.1, .int .i64 v.2] 41)) ib hb mb ad c base L more ∧ (w.alloc (.cells #[.int .i64 v.1, .int .i64 v.2] 41)).heap[w.heap.size]? = some (.cells #[.int .i64 v.1, .int .i64 v.2] 41 (0, 0))) := ⟨hb0, B0, hx0⟩
  clear hb0 B0 hx0
  cases hs : inS L v
  · obtain ⟨k3, g2⟩ := inS_no hs
    obtain ⟨n0, n1⟩ := hv k3
    have eA : adS L v = L.set v.2.toNat true := by unfold adS; rw [if_neg (by rw [hs]; simp)]
    rw [hs] at PI
    rw [eA]
    obtain ⟨k, n⟩ := v
    dsimp only at *
    subst k3
    obtain ⟨n, rfl⟩ := Int.eq_ofNat_of_zero_le n0
    rw [Int.toNat_natCast]
    obtain ⟨b, cap, e1⟩ := row_shape h.bx.row (by omega)
    cases e1
    have n2 : (0 : Int) ≤ (n : Int) := by omega
    clear h hv hs eA g2 n0
    go_enter Try.func30, Try.ntmps30
    go_wp2_with fail
    generalize w.alloc (.cells #[.int .i64 3, .int .i64 (n : Int)] 41) = w0 at *
    generalize hxb : w.heap.size = xb at *
    refine PI.mono ?_
    clear PI
    rintro e w1 ⟨rfl, hb1⟩
    have B1 := HB.out.2.1.below hb1
    have hx1 := (hb1.block xb (lt_of_some HB.out.2.2)).trans HB.out.2.2
    have q1 : w1.cell? ⟨xb, 1, none⟩ = some (.int .i64 (n : Int)) := by simp [World.cell?, hx1]
    obtain ⟨c0, c1, c2, c3⟩ := B1.cells
    have hg : (L.map Value.bool)[n]? = some (.bool (L.getD n false)) := by
      rw [List.getElem?_map, List.getElem?_eq_getElem (by omega : n < L.length), List.getD_eq_getElem?_getD, List.getElem?_eq_getElem (by omega : n < L.length)]
      rfl
    obtain ⟨y1, y2⟩ := row_cell B1.bx.row hg
    have R2 := row_put B1.bx.row n (.bool true)
    have ne := B1.bx.ne b rfl
    have nmb : b ≠ mb := B1.nm b rfl
    have hbt : Below xb w w1 := HB.out.1.trans (hb1.mono (by have := lt_of_some HB.out.2.2; omega))
    have f1 : Fr (fun k => k = b) w1 (w1.setCell ⟨b, n, none⟩ (.bool true)) := (Fr.refl (fun k => k = b) w1).set b n _ rfl
    have nhb : hb ≠ b := fun e => by
      obtain ⟨cur, hc⟩ := row_type B1.bx.row b rfl
      rw [← e, B1.hc] at hc
      simp at hc
    have B2 : Bl (w1.setCell ⟨b, n, none⟩ (.bool true)) ib hb mb (some ⟨b, 0, none⟩) c base (L.set n true) more := by
      refine ⟨⟨?_, ?_⟩, (f1.block hb (lt_of_some B1.hc) nhb).trans B1.hc, (f1.block mb (lt_of_some B1.mc) (fun e => nmb (Eq.symm e))).trans B1.mc, by rw [List.length_set]; exact B1.nm⟩
      · rw [List.length_set]
        exact (f1.block ib (lt_of_some B1.bx.blk) (fun e => ne (Eq.symm e))).trans B1.bx.blk
      · rw [List.length_set, List.map_set]
        exact R2
    have B3 := B2.say true
    have HF : Hid (Bl ((w1.setCell ⟨b, n, none⟩ (.bool true)).setCell ⟨mb, 0, none⟩ (.bool true)) ib hb mb (some ⟨b, 0, none⟩) c base (L.set n true) true ∧ Fr (fun k => some k = (Value.slice (some ⟨b, 0, none⟩) L.length c).ownBlock ∨ k = mb) w ((w1.setCell ⟨b, n, none⟩ (.bool true)).setCell ⟨mb, 0, none⟩ (.bool true))) :=
      ⟨B3.1, ((Fr.of (by rw [hxb]; exact hbt)).set b n _ (Or.inl rfl)).set mb 0 _ (Or.inr rfl)⟩
    have e2 : w1.cell? ⟨mb, 0, none⟩ = some (.bool more) := c2
    clear hb1 B1 hx1 R2 hg hbt B2 B3 f1
    go_wp2_with fail
    go_end0
    exact ⟨rfl, HF.out.1, HF.out.2⟩
  · have eA : adS L v = L := by unfold adS; rw [if_pos hs]
    rw [hs] at PI
    rw [eA]
    clear h hv hs eA
    obtain ⟨k, n⟩ := v
    dsimp only at *
    go_enter Try.func30, Try.ntmps30
    go_wp2_with fail
    refine PI.mono ?_
    clear PI
    rintro e w1 ⟨rfl, hb1⟩
    have HF : Hid (Bl w1 ib hb mb ad c base L (!true || more) ∧ Fr (fun k => some k = (Value.slice ad L.length c).ownBlock ∨ k = mb) w w1) := ⟨HB.out.2.1.below hb1, Fr.of (HB.out.1.trans (hb1.mono HB.out.1.size))⟩
    clear hb1
    go_wp2_with fail
    go_end0
    exact ⟨rfl, HF.out.1, HF.out.2⟩
end

end Go.Proofs.Ytjhnhbeimjnloaa

/- SameVals, SameView of what is the same: contracts. -/
namespace Go.Proofs.Ytjhnhbeimjnloaa
open Go.RowKit W Kp Stl

set_option maxRecDepth 100000 in
set_option maxHeartbeats 1000000 in
theorem sameVals_eq (a b : Option Addr) (ca cb : Nat) (l : List (Int × Int)) (w : World) (hm : l.length ≤ 100000) (ha : Lp w a l) (hb : Lp w b l) :
    Calls Try.prog 28 #[.slice a l.length ca, .slice b l.length cb] w fun e w' => e = .returned (.bool true) ∧ Below w.heap.size w w' := by
  have HA : Hid (Lp w a l) := ha
  have HB : Hid (Lp w b l) := hb
  clear ha hb
  go_enter Try.func28, Try.ntmps28
  go_wp2_with fail
  go_loopw [5] (fun iv wr => ∃ j : Nat, j ≤ l.length ∧ iv = .int .i64 j ∧ Below w.heap.size w wr) (fun iv _ => l.length - (intOf iv).toNat)
  case atStart => exact ⟨0, Nat.zero_le _, rfl, Below.refl _ _⟩
  case round =>
    obtain ⟨j, hj, rfl, hb⟩ := hrel
    by_cases hlt : j < l.length
    · obtain ⟨b0, o0, e0, hb0, hc⟩ := (HA.out.below hb) (by omega)
      obtain ⟨x1, x2⟩ := hc j hlt
      subst e0
      obtain ⟨b2, o2, e2, hb2, hc2⟩ := (HB.out.below hb) (by omega)
      obtain ⟨x3, x4⟩ := hc2 j hlt
      subst e2
      clear hc hc2
      generalize (l.getD j (0, 0)).1 = u at x1 x3
      generalize (l.getD j (0, 0)).2 = v at x2 x4
      have j0 : (0 : Int) ≤ (j : Int) := by omega
      have j1 : (j : Int) < (l.length : Int) := by omega
      go_wp2_with fail
      go_quiet (fail)
      go_wp2_with fail
      go_roundw
      case rel => exact ⟨j + 1, by omega, by go_num, by first | exact below_drewN hb _ | exact hb.drew | exact hb⟩
      case measure => simp [intOf]; omega
    · obtain rfl : j = l.length := by omega
      go_wp2_with fail
      go_ret
      exact ⟨rfl, hb⟩

end Go.Proofs.Ytjhnhbeimjnloaa

/- SameView of what is the same: a contract. -/
namespace Go.Proofs.Ytjhnhbeimjnloaa
open Go.RowKit W Kp Stl

theorem Ln.at {w : World} {ad : Option Addr} {ns : List (Int × List (Int × Int))} (h : Ln w ad ns) {i : Nat} (hi : i < ns.length) : ∃ b o fa fc, ad = some ⟨b, o, none⟩ ∧ b < w.heap.size ∧ w.cell? ⟨b, o + i * 2, none⟩ = some (.int .i64 (ns.getD i (0, [])).1) ∧ w.cell? ⟨b, o + i * 2 + 1, none⟩ = some (.slice fa (ns.getD i (0, [])).2.length fc) ∧ Lp w fa (ns.getD i (0, [])).2 := by
  obtain ⟨m, h1, h2, h3⟩ := h
  have hl : m.length = ns.length := by rw [← h1]; simp [nds]
  obtain ⟨b, o, e, hb, hc⟩ := h3 (by omega)
  obtain ⟨x, hx⟩ : ∃ x, m[i]? = some x := ⟨_, List.getElem?_eq_getElem (by omega)⟩
  have en : ns.getD i (0, []) = (x.1, x.2.2.2) := by
    subst h1
    rw [List.getD_eq_getElem?_getD, nds, List.getElem?_map, hx]
    rfl
  rw [en]
  exact ⟨b, o, _, _, e, hb, (hc i _ hx).1, (hc i _ hx).2, h2 _ (List.mem_of_getElem? hx)⟩

set_option maxRecDepth 100000 in
set_option maxHeartbeats 2000000 in
theorem sameView_eq (r1 r2 n1 n2 : Option Addr) (c1 c2 d1 d2 : Nat) (vs : List (Int × Int)) (ns : List (Int × List (Int × Int))) (w : World) (hm : vs.length ≤ 100000) (hl : ns.length ≤ 100000) (hf : ∀ nd ∈ ns, nd.2.length ≤ 100000) (h1 : Lp w r1 vs) (h2 : Lp w r2 vs) (h3 : Ln w n1 ns) (h4 : Ln w n2 ns) :
    Calls Try.prog 10 #[.agg #[.slice r1 vs.length c1, .slice n1 ns.length d1], .agg #[.slice r2 vs.length c2, .slice n2 ns.length d2]] w fun e w' => e = .returned (.bool true) ∧ Below w.heap.size w w' := by
  have ba := ((Below.refl w.heap.size w).alloc (Nat.le_refl _) (.cells #[.slice r1 vs.length c1, .slice n1 ns.length d1] 35)).alloc (by simp) (.cells #[.slice r2 vs.length c2, .slice n2 ns.length d2] 35)
  have k0 : ((w.alloc (.cells #[.slice r1 vs.length c1, .slice n1 ns.length d1] 35)).alloc (.cells #[.slice r2 vs.length c2, .slice n2 ns.length d2] 35)).cell? ⟨w.heap.size, 1, none⟩ = some (.slice n1 ns.length d1) := by simp [go_sem]
  have k1 : ((w.alloc (.cells #[.slice r1 vs.length c1, .slice n1 ns.length d1] 35)).alloc (.cells #[.slice r2 vs.length c2, .slice n2 ns.length d2] 35)).cell? ⟨w.heap.size + 1, 1, none⟩ = some (.slice n2 ns.length d2) := by simp [go_sem]
  have hs0 : ((w.alloc (.cells #[.slice r1 vs.length c1, .slice n1 ns.length d1] 35)).alloc (.cells #[.slice r2 vs.length c2, .slice n2 ns.length d2] 35)).heap.size = w.heap.size + 2 := by simp
  have P := sameVals_eq r1 r2 c1 c2 vs _ hm (h1.below ba) (h2.below ba)
  have H3 : Hid (∀ w', Below w.heap.size w w' → Ln w' n1 ns) := fun w' hb => h3.below hb
  have H4 : Hid (∀ w', Below w.heap.size w w' → Ln w' n2 ns) := fun w' hb => h4.below hb
  have HF : Hid (∀ nd ∈ ns, nd.2.length ≤ 100000) := hf
  clear h1 h2 h3 h4 hf
  go_enter Try.func10, Try.ntmps10
  go_wp2_with fail
  refine P.mono ?_
  clear P
  rintro e w1 ⟨rfl, hb1⟩
  have hB1 := ba.trans (hb1.mono (by omega))
  have hs1 := hb1.size
  rw [hs0] at hs1
  have x0 := (hb1.cell (p := ⟨w.heap.size, 1, none⟩) (by show w.heap.size < _; omega)).trans k0
  have x1 := (hb1.cell (p := ⟨w.heap.size + 1, 1, none⟩) (by show w.heap.size + 1 < _; omega)).trans k1
  clear ba k0 k1 hs0 hb1
  go_wp2_with fail
  go_loopw [5] (fun iv wr => ∃ j : Nat, j ≤ ns.length ∧ iv = .int .i64 j ∧ Below w1.heap.size w1 wr) (fun iv _ => ns.length - (intOf iv).toNat)
  case atStart => exact ⟨0, Nat.zero_le _, rfl, Below.refl _ _⟩
  case round =>
    obtain ⟨j, hj, rfl, hb⟩ := hrel
    have hsr := hb.size
    have hBr := hB1.trans (hb.mono (by omega))
    have y0 := (hb.cell (p := ⟨w.heap.size, 1, none⟩) (by show w.heap.size < _; omega)).trans x0
    have y1 := (hb.cell (p := ⟨w.heap.size + 1, 1, none⟩) (by show w.heap.size + 1 < _; omega)).trans x1
    have ly0 : w.heap.size < wr.heap.size := by omega
    have ly1 : w.heap.size + 1 < wr.heap.size := by omega
    by_cases hlt : j < ns.length
    · obtain ⟨b1, o1, fa1, fc1, e1, l1, z1, z2, z3⟩ := (H3.out wr hBr).at hlt
      obtain ⟨b2, o2, fa2, fc2, e2, l2, z4, z5, z6⟩ := (H4.out wr hBr).at hlt
      subst e1 e2
      have hfl : (ns.getD j (0, [])).2.length ≤ 100000 := HF.out _ (by rw [List.getD_eq_getElem?_getD, List.getElem?_eq_getElem hlt]; exact List.getElem_mem hlt)
      generalize (ns.getD j (0, [])).1 = kd at z1 z4
      generalize (ns.getD j (0, [])).2 = fs at z2 z3 z5 z6 hfl
      have j0 : (0 : Int) ≤ (j : Int) := by omega
      have j1 : (j : Int) < (ns.length : Int) := by omega
      have hd := (Below.refl wr.heap.size wr).drew
      have P := sameVals_eq fa1 fa2 fc1 fc2 fs wr.drew hfl (z3.below hd) (z6.below hd)
      clear z3 z6 x0 x1
      go_wp2_with fail
      go_region_held3 (fun w' => w'.cell? ⟨w.heap.size, 1, none⟩ = some (.slice (some ⟨b1, o1, none⟩) ns.length d1) ∧ w'.cell? ⟨w.heap.size + 1, 1, none⟩ = some (.slice (some ⟨b2, o2, none⟩) ns.length d2) ∧ w'.cell? ⟨b1, o1 + j * 2, none⟩ = some (.int .i64 kd) ∧ w'.cell? ⟨b1, o1 + j * 2 + 1, none⟩ = some (.slice fa1 fs.length fc1) ∧ w'.cell? ⟨b2, o2 + j * 2, none⟩ = some (.int .i64 kd) ∧ w'.cell? ⟨b2, o2 + j * 2 + 1, none⟩ = some (.slice fa2 fs.length fc2)) (first | exact ⟨y0, y1, z1, z2, z4, z5⟩ | exact ⟨u0, u1, u2, u3, u4, u5⟩ | go_keep)
        (first | (go_at_call 28; refine P.mono ?_; rintro e w3 ⟨rfl, hb3'⟩; have hb3 : Below wr.heap.size wr w3 := hd.trans hb3'; have u0 := (hb3.cell (p := ⟨w.heap.size, 1, none⟩) ly0).trans y0; have u1 := (hb3.cell (p := ⟨w.heap.size + 1, 1, none⟩) ly1).trans y1; have u2 := (hb3.cell (p := ⟨b1, o1 + j * 2, none⟩) l1).trans z1; have u3 := (hb3.cell (p := ⟨b1, o1 + j * 2 + 1, none⟩) l1).trans z2; have u4 := (hb3.cell (p := ⟨b2, o2 + j * 2, none⟩) l2).trans z4; have u5 := (hb3.cell (p := ⟨b2, o2 + j * 2 + 1, none⟩) l2).trans z5))
      have hbN : Below w1.heap.size w1 w3 := hb.trans (hb3.mono hsr)
      clear P u0 u1 u2 u3 u4 u5 y0 y1 z1 z2 z4 z5 hb3 hb3' hd
      go_wp2_with fail
      go_roundw
      case rel => exact ⟨j + 1, by omega, by go_num, hbN⟩
      case measure => simp [intOf]; omega
    · obtain rfl : j = ns.length := by omega
      go_wp2_with fail
      go_ret
      exact ⟨rfl, hBr⟩

end Go.Proofs.Ytjhnhbeimjnloaa
