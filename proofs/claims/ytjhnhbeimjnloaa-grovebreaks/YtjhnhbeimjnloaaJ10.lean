/- Joined: Gb5, Kwp. -/
import Derived.Test.YtjhnhbeimjnloaaJ09
import Derived.Deep.LoopGhost
import Derived.Test.YtjhnhbeimjnloaaJ06
/- GroveBreaks: least: a contract. -/
namespace Go.Proofs.Ytjhnhbeimjnloaa
open Go.RowKit W Kp Stl

structure Lm (w wr : World) (ib hb mb vb : Nat) (ad : Option Addr) (c : Nat) (ra : Option Addr) (rc : Nat) (na : Option Addr) (nn nc : Nat) (L : List Bool) (more : Bool) : Prop where
  bl : Bl wr ib hb mb ad c w.heap.size L more
  be : Below w.heap.size w wr
  vc : wr.heap[vb]? = some (.cells #[.slice ra 12 rc, .slice na nn nc] 35 (0, 0))
  lo : w.heap.size ≤ mb
section
variable {w wr w5 : World} {ib hb mb vb : Nat} {ad : Option Addr} {c : Nat} {ra : Option Addr} {rc : Nat} {na : Option Addr} {nn nc : Nat} {L L' : List Bool} {more more' : Bool}
theorem Lm.ty (h : Lm w wr ib hb mb vb ad c ra rc na nn nc L more) {k : Nat} {cs : Array Value} {e : TypeId} (hk : wr.heap[k]? = some (.cells cs e (0, 0))) (hne : e ≠ 4) : ¬ (some k = (Value.slice ad L.length c).ownBlock ∨ k = mb) := by
  rintro (d | d)
  · obtain ⟨cur, hc⟩ := row_type h.bl.bx.row k d
    rw [hk] at hc
    simp at hc
    exact hne hc.2
  · rw [d, h.bl.mc] at hk
    simp at hk
    exact hne hk.2.symm
theorem Lm.call (h : Lm w wr ib hb mb vb ad c ra rc na nn nc L more) (hb5 : Bl w5 ib hb mb ad c w.heap.size L' more') (f : Fr (fun k => some k = (Value.slice ad L.length c).ownBlock ∨ k = mb) wr w5) : Lm w w5 ib hb mb vb ad c ra rc na nn nc L' more' :=
  ⟨hb5, h.be.trans (f.below h.be.size (fun k e => by
    rcases e with e | e
    · exact (row_lt h.bl.bx.row k e).1
    · rw [e]
      exact h.lo)), (f.block vb (lt_of_some h.vc) (h.ty h.vc (by decide))).trans h.vc, h.lo⟩
theorem Lm.below (h : Lm w wr ib hb mb vb ad c ra rc na nn nc L more) (b : Below wr.heap.size wr w5) : Lm w w5 ib hb mb vb ad c ra rc na nn nc L more :=
  ⟨h.bl.below b, h.be.trans (b.mono h.be.size), (b.block vb (lt_of_some h.vc)).trans h.vc, h.lo⟩
theorem Lm.cells (h : Lm w wr ib hb mb vb ad c ra rc na nn nc L more) : wr.cell? ⟨vb, 0, none⟩ = some (.slice ra 12 rc) ∧ wr.cell? ⟨vb, 1, none⟩ = some (.slice na nn nc) :=
  ⟨by simp [World.cell?, h.vc], by simp [World.cell?, h.vc]⟩
end

section
variable {V : List (Int × Int)} {ns : List (Int × List (Int × Int))} {w : World}

set_option maxRecDepth 100000 in
set_option maxHeartbeats 8000000 in
theorem least_any (hw : Nvw V ns) (ra na : Option Addr) (rc nc : Nat) (hV : Lp w ra V) (hN : Ln w na ns) :
    Calls Try.prog 11 #[.agg #[.slice ra 12 rc, .slice na ns.length nc]] w fun e w' => ∃ ad c In, e = .returned (.slice ad ns.length c) ∧ Hid (w'.ownsRow w.heap.size 4 1 (.slice ad ns.length c) ns.length (In.map Value.bool) ∧ In.length = ns.length ∧ Grn (nT ns) [] (frs (nT ns) V true) In) ∧ Below w.heap.size w w' := by
  obtain ⟨i0, hi0, hz0, hz1, hz2⟩ := info_parts infoB
  have HW : Hid (Nvw V ns) := hw
  have hnl := hw.nl
  have hV12 := hw.vl
  have HLV : Hid (∀ w', Below w.heap.size w w' → Lp w' ra V) := fun w' hb => hV.below hb
  have HLN : Hid (∀ w', Below w.heap.size w w' → Ln w' na ns) := fun w' hb => hN.below hb
  have HVR : Hid (∀ v ∈ V, v.1 = 3 → v.2.toNat < (nT ns).length) := fun v hv h3 => by
    have := vq_lt (hw.rt v hv) h3
    rw [nT_len]
    omega
  have hb0 := (Below.refl w.heap.size w).alloc (Nat.le_refl _) (.cells #[.slice ra 12 rc, .slice na ns.length nc] 35)
  have hx0 := heap_alloc_new w (.cells #[.slice ra 12 rc, .slice na ns.length nc] 35)
  have HX0 : Hid (Below w.heap.size w (w.alloc (.cells #[.slice ra 12 rc, .slice na ns.length nc] 35)) ∧ (w.alloc (.cells #[.slice ra 12 rc, .slice na ns.length nc] 35)).heap[w.heap.size]? = some (.cells #[.slice ra 12 rc, .slice na ns.length nc] 35 (0, 0))) := ⟨hb0, hx0⟩
  have HV12 : Hid (V.length = 12) := hV12
  clear hw hV hN hb0 hx0 hV12
  go_enter Try.func11, Try.ntmps11
  go_wp2_with (at_make; refine wpList_make_full _ rfl _ _ 38 rfl w.heap.size 4 i0 (.bool false) 1 Try.underlying38 hi0 hz0 hz1 .i64 .i64 _ _ ns.length rfl rfl (by omega) (by omega) (by rw [hz2]; omega) (by unfold maxLen; omega) (by simp) ?_; intro w1 hown hgrow)
  have hown := made_rowB hown
  have sz0 : (w.alloc (.cells #[.slice ra 12 rc, .slice na ns.length nc] 35)).heap.size = w.heap.size + 1 := by simp
  rw [sz0] at hown
  have hb1 : Below w.heap.size w w1 := HX0.out.1.trans ((Below.refl w.heap.size (w.alloc (.cells #[.slice ra 12 rc, .slice na ns.length nc] 35))).grown hgrow (by simp) (fun _ h => by cases h))
  have hv1 : w1.heap[w.heap.size]? = some (.cells #[.slice ra 12 rc, .slice na ns.length nc] 35 (0, 0)) := (hgrow.block w.heap.size (by simp) (by simp)).trans HX0.out.2
  have bb := (((Below.refl w1.heap.size w1).alloc (Nat.le_refl _) (.cells #[.slice (some ⟨w.heap.size + 1, 0, none⟩) ns.length ns.length] 38)).alloc (by simp) (.cells #[.func (.func 29) #[] #[.pointer (some ⟨w1.heap.size, 0, none⟩)]] 42)).alloc (by simp only [World.size_alloc]; omega) (.cells #[.bool true] 4)
  have hA : (((w1.alloc (.cells #[.slice (some ⟨w.heap.size + 1, 0, none⟩) ns.length ns.length] 38)).alloc (.cells #[.func (.func 29) #[] #[.pointer (some ⟨w1.heap.size, 0, none⟩)]] 42)).alloc (.cells #[.bool true] 4)).heap[w1.heap.size]? = some (.cells #[.slice (some ⟨w.heap.size + 1, 0, none⟩) ns.length ns.length] 38 (0, 0)) := (Below.heap_alloc _ _ _ (by simp only [World.size_alloc]; omega)).trans ((Below.heap_alloc _ _ _ (by simp)).trans (heap_alloc_new w1 _))
  have hB : (((w1.alloc (.cells #[.slice (some ⟨w.heap.size + 1, 0, none⟩) ns.length ns.length] 38)).alloc (.cells #[.func (.func 29) #[] #[.pointer (some ⟨w1.heap.size, 0, none⟩)]] 42)).alloc (.cells #[.bool true] 4)).heap[w1.heap.size + 1]? = some (.cells #[.func (.func 29) #[] #[.pointer (some ⟨w1.heap.size, 0, none⟩)]] 42 (0, 0)) := (Below.heap_alloc _ _ _ (by simp only [World.size_alloc]; omega)).trans (by
    have h1 := heap_alloc_new (w1.alloc (.cells #[.slice (some ⟨w.heap.size + 1, 0, none⟩) ns.length ns.length] 38)) (.cells #[.func (.func 29) #[] #[.pointer (some ⟨w1.heap.size, 0, none⟩)]] 42)
    rw [World.size_alloc] at h1
    exact h1)
  have hC : (((w1.alloc (.cells #[.slice (some ⟨w.heap.size + 1, 0, none⟩) ns.length ns.length] 38)).alloc (.cells #[.func (.func 29) #[] #[.pointer (some ⟨w1.heap.size, 0, none⟩)]] 42)).alloc (.cells #[.bool true] 4)).heap[w1.heap.size + 1 + 1]? = some (.cells #[.bool true] 4 (0, 0)) := by
    have h1 := heap_alloc_new ((w1.alloc (.cells #[.slice (some ⟨w.heap.size + 1, 0, none⟩) ns.length ns.length] 38)).alloc (.cells #[.func (.func 29) #[] #[.pointer (some ⟨w1.heap.size, 0, none⟩)]] 42)) (.cells #[.bool true] 4)
    rw [World.size_alloc, World.size_alloc] at h1
    exact h1
  have hrl := row_lt hown (w.heap.size + 1) rfl
  have HS : Hid (Lm w (((w1.alloc (.cells #[.slice (some ⟨w.heap.size + 1, 0, none⟩) ns.length ns.length] 38)).alloc (.cells #[.func (.func 29) #[] #[.pointer (some ⟨w1.heap.size, 0, none⟩)]] 42)).alloc (.cells #[.bool true] 4)) w1.heap.size (w1.heap.size + 1) (w1.heap.size + 1 + 1) w.heap.size (some ⟨w.heap.size + 1, 0, none⟩) ns.length ra rc na ns.length nc (List.replicate ns.length false) true) := by
    refine ⟨⟨⟨by rw [List.length_replicate]; exact hA, ?_⟩, hB, hC, fun k e => ?_⟩, hb1.trans (bb.mono hb1.size), (bb.block _ (lt_of_some hv1)).trans hv1, by have := hb1.size; omega⟩
    · rw [List.length_replicate]
      exact row_keep hown (fun k e => bb.block k (row_lt hown k e).2)
    · have e : k = w.heap.size + 1 := by simpa [Value.ownBlock] using e
      omega
  have HP : Hid (Pl (nT ns) V (List.replicate ns.length false) (List.replicate ns.length false) false 0 0) := Pl.start _ (nT_len ns).symm
  clear hown hgrow sz0 hb1 hv1 bb hA hB hC hrl HX0
  generalize ((w1.alloc (.cells #[.slice (some ⟨w.heap.size + 1, 0, none⟩) ns.length ns.length] 38)).alloc (.cells #[.func (.func 29) #[] #[.pointer (some ⟨w1.heap.size, 0, none⟩)]] 42)).alloc (.cells #[.bool true] 4) = w3 at *
  generalize w1.heap.size + 1 + 1 = mb at *
  generalize w1.heap.size + 1 = hb at *
  generalize w1.heap.size = ib at *
  generalize w.heap.size + 1 = rb at *
  go_loopg [] (cnt (List.replicate ns.length false) + 1) (fun m wr => ∃ (L : List Bool) (more : Bool), Hid (Lm w wr ib hb mb w.heap.size (some ⟨rb, 0, none⟩) ns.length ra rc na ns.length nc L more) ∧ Hid ((more = true → Pl (nT ns) V L L false 0 0 ∧ cnt L + 1 ≤ m) ∧ (more = false → L.length = ns.length ∧ Grn (nT ns) [] (frs (nT ns) V true) L)))
  case atStart => exact ⟨_, true, HS, ⟨fun _ => ⟨HP.out, Nat.le_refl _⟩, fun h => by cases h⟩⟩
  case round =>
    clear HS HP
    obtain ⟨P0, more, HB, HM⟩ := hrel
    obtain ⟨c0, c1, c2, c3⟩ := HB.out.bl.cells
    cases more
    · obtain ⟨hl, hG⟩ := HM.out.2 rfl
      rw [hl] at c0
      have HE : Hid (wr.ownsRow w.heap.size 4 1 (.slice (some ⟨rb, 0, none⟩) ns.length ns.length) ns.length (P0.map Value.bool) ∧ P0.length = ns.length ∧ Grn (nT ns) [] (frs (nT ns) V true) P0) := ⟨by
        have := HB.out.bl.bx.row
        rwa [hl] at this, hl, hG⟩
      clear hl hG HM
      go_wp2_with fail
      go_ret
      exact ⟨_, _, P0, rfl, HE, HB.out.be⟩
    · obtain ⟨hP, hM1⟩ := HM.out.1 rfl
      have B6 := HB.out.bl.say false
      have HB6 : Hid (Lm w (wr.setCell ⟨mb, 0, none⟩ (.bool false)) ib hb mb w.heap.size (some ⟨rb, 0, none⟩) ns.length ra rc na ns.length nc P0 false) := HB.out.call B6.1 (B6.2.mono (fun _ e => Or.inr e))
      have HP6 : Hid (Pl (nT ns) V P0 P0 false 0 0) := hP
      clear hP B6 HM c0 c1
      go_wp2_with fail
      generalize wr.setCell ⟨mb, 0, none⟩ (.bool false) = w6 at *
      clear c2 c3 HB
      go_loopw [7] (fun iv wr => ∃ (r : Nat) (L : List Bool) (more : Bool), r ≤ 12 ∧ iv = .int .i64 r ∧ Hid (Lm w wr ib hb mb w.heap.size (some ⟨rb, 0, none⟩) ns.length ra rc na ns.length nc L more) ∧ Hid (Pl (nT ns) V P0 L more r 0)) (fun iv _ => 12 - (intOf iv).toNat)
      case atStart => exact ⟨0, P0, false, Nat.zero_le _, rfl, HB6, HP6⟩
      case round =>
        clear HB6 HP6
        obtain ⟨r, L, more, hr, rfl, HB, HP⟩ := hrel
        obtain ⟨v0, v1⟩ := HB.out.cells
        by_cases hlt : r < 12
        · obtain ⟨b0, o0, e0, l0, hc⟩ := HLV.out wr HB.out.be (by rw [HV12.out]; decide)
          obtain ⟨y0, y1⟩ := hc r (by rw [HV12.out]; exact hlt)
          subst e0
          have hm : V.getD r (0, 0) ∈ V := getD_in (by rw [HV12.out]; exact hlt)
          have hll : L.length = ns.length := HP.out.len.trans (nT_len ns)
          have PA := addl_any HB.out.bl (V.getD r (0, 0)) (fun h3 => by rw [hll]; exact vq_lt (HW.out.rt _ hm) h3) (by omega)
          have HPN : Hid (Pl (nT ns) V P0 (adS L (V.getD r (0, 0))) (!inS L (V.getD r (0, 0)) || more) (r + 1) 0) := HP.out.root (by rw [HV12.out]; exact hlt) HVR.out
          have q0 : (0 : Int) ≤ (r : Int) := by omega
          have q1 : (r : Int) < 12 := by omega
          clear hc hm hll HP
          generalize V.getD r (0, 0) = v at *
          generalize (!inS L v || more) = mr at *
          generalize adS L v = LL at *
          go_wp2_with fail
          refine PA.mono ?_
          clear PA
          rintro e w8 ⟨rfl, B8, F8⟩
          have HB8 : Hid (Lm w w8 ib hb mb w.heap.size (some ⟨rb, 0, none⟩) ns.length (some ⟨b0, o0, none⟩) rc na ns.length nc LL mr) := HB.out.call B8.out F8.out
          clear B8 F8 y0 y1 v0 v1
          go_wp2_with fail
          go_roundw
          case rel => exact ⟨r + 1, LL, mr, by omega, by go_num, HB8, HPN⟩
          case measure => simp [intOf]; omega
        · obtain rfl : r = 12 := by omega
          have HP7 : Hid (Pl (nT ns) V P0 L more V.length 0) := by
            show Pl _ _ _ _ _ _ _
            rw [HV12.out]
            exact HP.out
          clear HP
          go_wp2_with fail
          clear v0 v1
          generalize hwr : wr = w7 at *
          clear hwr
          go_loopw [8] (fun iv wr => ∃ (i : Nat) (L : List Bool) (more : Bool), i ≤ ns.length ∧ iv = .int .i64 i ∧ Hid (Lm w wr ib hb mb w.heap.size (some ⟨rb, 0, none⟩) ns.length ra rc na ns.length nc L more) ∧ Hid (Pl (nT ns) V P0 L more V.length i)) (fun iv _ => ns.length - (intOf iv).toNat)
          case atStart => exact ⟨0, L, more, Nat.zero_le _, rfl, HB, HP7⟩
          case round =>
            clear HB HP7
            obtain ⟨i, L, more, hi, rfl, HB, HP⟩ := hrel
            obtain ⟨v0, v1⟩ := HB.out.cells
            by_cases hlt : i < ns.length
            · obtain ⟨b, oo, fa, fc, e, lb, x1, x2, hLf⟩ := (HLN.out w (Below.refl _ _)).at hlt
              subst e
              have z1 := (HB.out.be.cell (p := ⟨b, oo + i * 2, none⟩) lb).trans x1
              have z2 := (HB.out.be.cell (p := ⟨b, oo + i * 2 + 1, none⟩) lb).trans x2
              obtain ⟨⟨kd, fs⟩, hn⟩ : ∃ n, ns.getD i (0, []) = n := ⟨_, rfl⟩
              have hfl := HW.out.tl i hlt
              have HFD : Hid (∀ v ∈ fs, v.1 = 3 → 0 ≤ v.2 ∧ v.2 < ns.length) := fun v hv => vq_lt (HW.out.fd i hlt v (by rw [hn]; exact hv))
              have HF2 : Hid (kd = 3 ∨ kd = 4 → fs.length = 2) := fun h => by
                have := HW.out.f2 i hlt
                rw [hn] at this
                exact this h
              rw [hn] at z1 z2 hLf hfl
              dsimp only at z1 z2 hLf hfl
              have HFA : Hid (∀ w', Below w.heap.size w w' → Lp w' fa fs) := fun w' hb => hLf.below hb
              have HNE : Hid (ns.getD i (0, []) = (kd, fs)) := hn
              have hba := (Below.refl wr.heap.size wr).alloc (Nat.le_refl _) (.cells #[.int .i64 kd, .slice fa fs.length fc] 44)
              have HB7 : Hid (Lm w (wr.alloc (.cells #[.int .i64 kd, .slice fa fs.length fc] 44)) ib hb mb w.heap.size (some ⟨rb, 0, none⟩) ns.length ra rc (some ⟨b, oo, none⟩) ns.length nc L more ∧ (wr.alloc (.cells #[.int .i64 kd, .slice fa fs.length fc] 44)).heap[wr.heap.size]? = some (.cells #[.int .i64 kd, .slice fa fs.length fc] 44 (0, 0))) := ⟨HB.out.below hba, heap_alloc_new _ _⟩
              have HPF : Hid (Pf ns V P0 L more i 0) := Pf.start HP.out
              have q0 : (0 : Int) ≤ (i : Int) := by omega
              have q1 : (i : Int) < (ns.length : Int) := by omega
              clear x1 x2 hLf hba hn HP HB lb
              go_wp2_with fail
              generalize wr.alloc (.cells #[.int .i64 kd, .slice fa fs.length fc] 44) = w9 at *
              generalize wr.heap.size = tb at *
              clear v0 v1 z1 z2
              go_loopw [10] (fun kv wr => ∃ (k : Nat) (L : List Bool) (more : Bool), k ≤ fs.length ∧ kv = .int .i64 k ∧ Hid (Lm w wr ib hb mb w.heap.size (some ⟨rb, 0, none⟩) ns.length ra rc (some ⟨b, oo, none⟩) ns.length nc L more ∧ wr.heap[tb]? = some (.cells #[.int .i64 kd, .slice fa fs.length fc] 44 (0, 0))) ∧ Hid (Pf ns V P0 L more i k)) (fun kv _ => fs.length - (intOf kv).toNat)
              case atStart => exact ⟨0, L, more, Nat.zero_le _, rfl, HB7, HPF⟩
              case round =>
                clear HB7 HPF
                obtain ⟨k, L, more, hk, rfl, HB, HP⟩ := hrel
                have hll : L.length = ns.length := HP.out.p.len.trans (nT_len ns)
                obtain ⟨c0, c1, _, _⟩ := HB.out.1.bl.cells
                rw [hll] at c0
                have z0 : wr.cell? ⟨tb, 0, none⟩ = some (.int .i64 kd) := by simp [World.cell?, HB.out.2]
                have z1 : wr.cell? ⟨tb, 1, none⟩ = some (.slice fa fs.length fc) := by simp [World.cell?, HB.out.2]
                by_cases hlk : k < fs.length
                · have hLi : (L.map Value.bool)[i]? = some (.bool (L.getD i false)) := by
                    rw [List.getElem?_map, List.getElem?_eq_getElem (by omega : i < L.length), List.getD_eq_getElem?_getD, List.getElem?_eq_getElem (by omega : i < L.length)]
                    rfl
                  have zi := (row_cell HB.out.1.bl.bx.row hLi).1
                  have k0 : (0 : Int) ≤ (k : Int) := by omega
                  have k1 : (k : Int) < (fs.length : Int) := by omega
                  clear hLi
                  cases hin : L.getD i false
                  · rw [hin] at zi
                    have HN : Hid (Pl (nT ns) V P0 L more V.length (i + 1)) := HP.out.next HW.out (fun hL => by unfold Ls_ at hL; rw [hin] at hL; cases hL)
                    clear hin HP hll
                    go_wp2_with fail
                    go_roundw
                    case rel => exact ⟨i + 1, L, more, by omega, by go_num, HB.out.1, HN⟩
                    case measure => simp [intOf]; omega
                  · rw [hin] at zi
                    have HLi : Hid (Ls_ L i) := hin
                    obtain ⟨fb, fo, e1, lfb, hfc⟩ := HFA.out wr HB.out.1.be (by omega)
                    subst e1
                    obtain ⟨y0, y1⟩ := hfc k hlk
                    have hmv : fs.getD k (0, 0) ∈ fs := getD_in hlk
                    have HPA : Hid (∀ W, Lm w W ib hb mb w.heap.size (some ⟨rb, 0, none⟩) ns.length ra rc (some ⟨b, oo, none⟩) ns.length nc L more → W.heap[tb]? = some (.cells #[.int .i64 kd, .slice (some ⟨fb, fo, none⟩) fs.length fc] 44 (0, 0)) → Calls Try.prog 30 #[.agg #[.int .i64 (fs.getD k (0, 0)).1, .int .i64 (fs.getD k (0, 0)).2], .pointer (some ⟨hb, 0, none⟩), .pointer (some ⟨ib, 0, none⟩), .pointer (some ⟨mb, 0, none⟩)] W fun e w' => e = .returned (.tuple #[]) ∧ Hid (Lm w w' ib hb mb w.heap.size (some ⟨rb, 0, none⟩) ns.length ra rc (some ⟨b, oo, none⟩) ns.length nc (adS L (fs.getD k (0, 0))) (!inS L (fs.getD k (0, 0)) || more) ∧ w'.heap[tb]? = some (.cells #[.int .i64 kd, .slice (some ⟨fb, fo, none⟩) fs.length fc] 44 (0, 0)))) := fun W hW hT => by
                      refine (addl_any hW.bl (fs.getD k (0, 0)) (fun h3 => by rw [hll]; exact HFD.out _ hmv h3) (by omega)).mono ?_
                      rintro e w' ⟨rfl, B8, F8⟩
                      exact ⟨rfl, hW.call B8.out F8.out, (F8.out.block tb (lt_of_some hT) (hW.ty hT (by decide))).trans hT⟩
                    have HPN : Hid (skp L (kd, fs) k = false → Pf ns V P0 (adS L (fs.getD k (0, 0))) (!inS L (fs.getD k (0, 0)) || more) i (k + 1)) := fun h => by
                      have := HP.out.add HW.out hlt HLi.out (k := k) (by rw [HNE.out]; exact hlk) (by rw [HNE.out]; exact h)
                      rwa [HNE.out] at this
                    have HPS : Hid (skp L (kd, fs) k = true → Pf ns V P0 L more i (k + 1)) := fun h => HP.out.skip (by rw [HNE.out]; exact h)
                    have HF0 : Hid (fs.length = 2 → wr.cell? ⟨fb, fo, none⟩ = some (.int .i64 (fs.getD 0 (0, 0)).1) ∧ wr.cell? ⟨fb, fo + 1, none⟩ = some (.int .i64 (fs.getD 0 (0, 0)).2) ∧ ((fs.getD 0 (0, 0)).1 = 3 → 0 ≤ (fs.getD 0 (0, 0)).2 ∧ (fs.getD 0 (0, 0)).2 < L.length)) := fun h2 => by
                      obtain ⟨u0, u1⟩ := hfc 0 (by omega)
                      rw [Nat.zero_mul, Nat.add_zero] at u0 u1
                      exact ⟨u0, u1, by rw [hll]; exact HFD.out _ (getD_in (by omega))⟩
                    have HLL : Hid (L.length = ns.length) := hll
                    clear hfc hmv hin HP hll
                    by_cases h3 : kd = 3
                    · by_cases hk0 : k = 0
                      · have HS : Hid (Pf ns V P0 L more i (k + 1)) := HPS.out (by subst h3; subst hk0; rfl)
                        have t3 : (kd == 3) = true := by simpa using h3
                        have tk : ((k : Int) == 0) = true := by rw [hk0]; rfl
                        clear h3 hk0
                        go_wp2_with fail
                        go_roundw
                        case rel => exact ⟨k + 1, L, more, by omega, by go_num, HB, HS⟩
                        case measure => simp [intOf]; omega
                      · have HS : Hid (Pf ns V P0 (adS L (fs.getD k (0, 0))) (!inS L (fs.getD k (0, 0)) || more) i (k + 1)) := HPN.out (by subst h3; unfold skp; simp [hk0])
                        have t3 : (kd == 3) = true := by simpa using h3
                        have t4 : (kd == 4) = false := by rw [h3]; decide
                        have tk : ((k : Int) == 0) = false := by simp; omega
                        clear h3 hk0
                        generalize fs.getD k (0, 0) = v at *
                        generalize (!inS L v || more) = mr at *
                        generalize adS L v = LL at *
                        go_wp2_with fail
                        go_quiet (fail)
                        go_wp2_with fail
                        refine (HPA.out _ (HB.out.1.below (below_drewN (Below.refl _ _) _)) HB.out.2).mono ?_
                        clear HPA
                        rintro e w8 ⟨rfl, HB8⟩
                        clear y0 y1 z0 z1 zi c0 c1
                        go_wp2_with fail
                        refine ⟨⟨_, _, _, _, _, _, _, _, _, _, _, _, _, _, _, _, _, _, _, _, _, _, _, _, _, _, _, _, _, _, _, _, _, _, _, _, _, _, _, _, _, _, _, _, _, _, ?rel, rfl⟩, ?measure⟩
                        case rel => exact ⟨k + 1, LL, mr, by omega, by go_num, HB8, HS⟩
                        case measure => simp [intOf]; omega
                    · have t3 : (kd == 3) = false := by simpa using h3
                      by_cases h4 : kd = 4
                      · have t4 : (kd == 4) = true := by simpa using h4
                        by_cases hk0 : k = 0
                        · have HS : Hid (Pf ns V P0 L more i (k + 1)) := HPS.out (by subst h4; subst hk0; rfl)
                          have tk : ((k : Int) == 0) = true := by rw [hk0]; rfl
                          clear h3 h4 hk0
                          go_wp2_with fail
                          go_quiet (fail)
                          go_wp2_with fail
                          go_roundw
                          case rel => exact ⟨k + 1, L, more, by omega, by go_num, ⟨HB.out.1.below (below_drewN (Below.refl _ _) _), HB.out.2⟩, HS⟩
                          case measure => simp [intOf]; omega
                        · have tk : ((k : Int) == 0) = false := by simp; omega
                          have h2 : fs.length = 2 := HF2.out (Or.inr h4)
                          obtain ⟨u0, u1, uq⟩ := HF0.out h2
                          have f2 : 0 < fs.length := by omega
                          have bd := (Below.refl wr.heap.size wr).drew
                          have PH := has_any (HB.out.1.bl.bx.below bd) (fs.getD 0 (0, 0)) uq (by have := HLL.out; omega)
                          have HSK : Hid (skp L (kd, fs) k = !inS L (fs.getD 0 (0, 0))) := by
                            subst h4
                            show _ = _
                            unfold skp
                            simp [hk0]
                          have HBD : Hid (∀ w8, Below wr.drew.heap.size wr.drew w8 → Lm w w8 ib hb mb w.heap.size (some ⟨rb, 0, none⟩) ns.length ra rc (some ⟨b, oo, none⟩) ns.length nc L more ∧ w8.heap[tb]? = some (.cells #[.int .i64 kd, .slice (some ⟨fb, fo, none⟩) fs.length fc] 44 (0, 0)) ∧ w8.cell? ⟨hb, 0, none⟩ = some (.func (.func 29) #[] #[.pointer (some ⟨ib, 0, none⟩)]) ∧ w8.cell? ⟨tb, 0, none⟩ = some (.int .i64 kd) ∧ w8.cell? ⟨tb, 1, none⟩ = some (.slice (some ⟨fb, fo, none⟩) fs.length fc) ∧ w8.cell? ⟨fb, fo, none⟩ = some (.int .i64 (fs.getD 0 (0, 0)).1) ∧ w8.cell? ⟨fb, fo + 1, none⟩ = some (.int .i64 (fs.getD 0 (0, 0)).2) ∧ w8.cell? ⟨fb, fo + k * 2, none⟩ = some (.int .i64 (fs.getD k (0, 0)).1) ∧ w8.cell? ⟨fb, fo + k * 2 + 1, none⟩ = some (.int .i64 (fs.getD k (0, 0)).2)) := fun w8 h8 => by
                            have h9 : Below wr.heap.size wr w8 := bd.trans h8
                            have hL8 := HB.out.1.below h9
                            have ht8 := (h9.block tb (lt_of_some HB.out.2)).trans HB.out.2
                            exact ⟨hL8, ht8, hL8.bl.cells.2.1, by simp [World.cell?, ht8], by simp [World.cell?, ht8], (h9.cell (p := ⟨fb, fo, none⟩) lfb).trans u0, (h9.cell (p := ⟨fb, fo + 1, none⟩) lfb).trans u1, (h9.cell (p := ⟨fb, fo + k * 2, none⟩) lfb).trans y0, (h9.cell (p := ⟨fb, fo + k * 2 + 1, none⟩) lfb).trans y1⟩
                          clear h3 h4 hk0 h2 uq bd HB HLL HF0
                          generalize fs.getD 0 (0, 0) = f0 at *
                          generalize fs.getD k (0, 0) = v at *
                          go_wp2_with fail
                          go_region_held3 (fun w' => w'.cell? ⟨hb, 0, none⟩ = some (.func (.func 29) #[] #[.pointer (some ⟨ib, 0, none⟩)]) ∧ w'.cell? ⟨tb, 0, none⟩ = some (.int .i64 kd) ∧ w'.cell? ⟨tb, 1, none⟩ = some (.slice (some ⟨fb, fo, none⟩) fs.length fc) ∧ w'.cell? ⟨fb, fo, none⟩ = some (.int .i64 f0.1) ∧ w'.cell? ⟨fb, fo + 1, none⟩ = some (.int .i64 f0.2)) (first | exact ⟨d1, d2, d3, d4, d5⟩ | exact ⟨c1, z0, z1, u0, u1⟩ | (go_keep; done)) (first | (go_at_call 29; refine PH.mono ?_; clear PH; rintro e w8 ⟨rfl, hb8⟩; obtain ⟨g1, g2, d1, d2, d3, d4, d5, d6, d7⟩ := HBD.out w8 hb8; have HB8 : Hid (Lm w w8 ib hb mb w.heap.size (some ⟨rb, 0, none⟩) ns.length ra rc (some ⟨b, oo, none⟩) ns.length nc L more ∧ w8.heap[tb]? = some (.cells #[.int .i64 kd, .slice (some ⟨fb, fo, none⟩) fs.length fc] 44 (0, 0))) := ⟨g1, g2⟩; clear g1 g2 hb8 HBD c1 z0 z1 u0 u1 y0 y1))
                          all_goals
                            cases hs : inS L f0
                            · have HS : Hid (Pf ns V P0 L more i (k + 1)) := HPS.out (by rw [HSK.out, hs]; rfl)
                              clear hs
                              go_wp2_with fail
                              refine ⟨⟨_, _, _, _, _, _, _, _, _, _, _, _, _, _, _, _, _, _, _, _, _, _, _, _, _, _, _, _, _, _, _, _, _, _, _, _, _, _, _, _, _, _, _, _, _, _, ?rel, rfl⟩, ?measure⟩
                              case rel => exact ⟨k + 1, L, more, by omega, by go_num, HB8, HS⟩
                              case measure => simp [intOf]; omega
                            · have HS : Hid (Pf ns V P0 (adS L v) (!inS L v || more) i (k + 1)) := HPN.out (by rw [HSK.out, hs]; rfl)
                              clear hs
                              generalize (!inS L v || more) = mr at *
                              generalize adS L v = LL at *
                              go_wp2_with fail
                              refine (HPA.out _ HB8.out.1 HB8.out.2).mono ?_
                              clear HPA
                              rintro e w10 ⟨rfl, HB10⟩
                              clear d1 d2 d3 d4 d5 d6 d7 zi c0
                              go_wp2_with fail
                              refine ⟨⟨_, _, _, _, _, _, _, _, _, _, _, _, _, _, _, _, _, _, _, _, _, _, _, _, _, _, _, _, _, _, _, _, _, _, _, _, _, _, _, _, _, _, _, _, _, _, ?rel, rfl⟩, ?measure⟩
                              case rel => exact ⟨k + 1, LL, mr, by omega, by go_num, HB10, HS⟩
                              case measure => simp [intOf]; omega
                      · have t4 : (kd == 4) = false := by simpa using h4
                        have HS : Hid (Pf ns V P0 (adS L (fs.getD k (0, 0))) (!inS L (fs.getD k (0, 0)) || more) i (k + 1)) := HPN.out (by unfold skp; dsimp only; rw [t3, t4]; rfl)
                        clear h3 h4
                        generalize fs.getD k (0, 0) = v at *
                        generalize (!inS L v || more) = mr at *
                        generalize adS L v = LL at *
                        go_wp2_with fail
                        go_quiet (fail)
                        go_wp2_with fail
                        refine (HPA.out _ (HB.out.1.below (below_drewN (Below.refl _ _) _)) HB.out.2).mono ?_
                        clear HPA
                        rintro e w8 ⟨rfl, HB8⟩
                        clear y0 y1 z0 z1 zi c0 c1
                        go_wp2_with fail
                        refine ⟨⟨_, _, _, _, _, _, _, _, _, _, _, _, _, _, _, _, _, _, _, _, _, _, _, _, _, _, _, _, _, _, _, _, _, _, _, _, _, _, _, _, _, _, _, _, _, _, ?rel, rfl⟩, ?measure⟩
                        case rel => exact ⟨k + 1, LL, mr, by omega, by go_num, HB8, HS⟩
                        case measure => simp [intOf]; omega
                · obtain rfl : k = fs.length := by omega
                  have HN : Hid (Pl (nT ns) V P0 L more V.length (i + 1)) := HP.out.next HW.out (fun _ => by rw [HNE.out]; exact Nat.le_refl _)
                  clear HP hll
                  go_wp2_with fail
                  go_roundw
                  case rel => exact ⟨i + 1, L, more, by omega, by go_num, HB.out.1, HN⟩
                  case measure => simp [intOf]; omega
            · obtain rfl : i = ns.length := by omega
              have HE : Hid ((more = true → Pl (nT ns) V L L false 0 0 ∧ cnt L + 1 ≤ cnt P0) ∧ (more = false → L.length = ns.length ∧ Grn (nT ns) [] (frs (nT ns) V true) L)) := ⟨fun h => ⟨HP.out.again, HP.out.yes h⟩, fun h => by
                subst h
                have := HP.out
                rw [← nT_len ns] at this
                exact ⟨HP.out.len.trans (nT_len ns), this.done HVR.out⟩⟩
              clear HP
              go_wp2_with fail
              go_roundg (cnt P0)
              case measure => omega
              case rel => exact ⟨L, more, HB, HE⟩
end

end Go.Proofs.Ytjhnhbeimjnloaa

/- What may turn while a view is walked through. -/
namespace Go.Proofs.Ytjhnhbeimjnloaa
open Go.RowKit W Kp Stl

def Tyw (e : TypeId) : Prop := e = 82 ∨ e = 35 ∨ e = 3 ∨ e = 44
structure Kw (B : Nat) (w w' : World) : Prop where
  os : w'.os = w.os
  tape : w'.tape = w.tape
  output : w'.output = w.output
  size : w.heap.size ≤ w'.heap.size
  low : ∀ k : Nat, k < w.heap.size → k < B → w'.heap[k]? = w.heap[k]?
  oth : ∀ (k : Nat) cs e m, w.heap[k]? = some (Obj.cells cs e m) → ¬ Tyw e → w'.heap[k]? = w.heap[k]?

section
variable {B : Nat} {w w' w'' : World}
theorem Kw.refl (B : Nat) (w : World) : Kw B w w := ⟨rfl, rfl, rfl, Nat.le_refl _, fun _ _ _ => rfl, fun _ _ _ _ _ _ => rfl⟩
theorem Kw.trans (h : Kw B w w') (k : Kw B w' w'') : Kw B w w'' :=
  ⟨k.os.trans h.os, k.tape.trans h.tape, k.output.trans h.output, Nat.le_trans h.size k.size, fun i hi hb => (k.low i (Nat.lt_of_lt_of_le hi h.size) hb).trans (h.low i hi hb), fun i cs e m hi h1 => (k.oth i cs e m ((h.oth i cs e m hi h1).trans hi) h1).trans (h.oth i cs e m hi h1)⟩
theorem Kw.of (h : Below w.heap.size w w') : Kw B w w' := ⟨h.os, h.tape, h.output, h.size, fun k hk _ => h.block k hk, fun k _ _ _ hi _ => h.block k (lt_of_some hi)⟩
theorem Kw.below (h : Kw B w w') (hB : B ≤ w.heap.size) : Below B w w' := ⟨h.os, h.tape, h.output, h.size, fun k hk => h.low k (by omega) hk⟩
theorem Kw.fr {X : Nat → Prop} (f : Fr X w w') (hX : ∀ k, X k → B ≤ k ∧ ∀ cs e m, w.heap[k]? = some (Obj.cells cs e m) → Tyw e) : Kw B w w' :=
  ⟨f.os, f.tape, f.output, f.size, fun k hk hb => f.block k hk (fun d => by have := (hX k d).1; omega), fun k cs e m hk hn => f.block k (lt_of_some hk) (fun d => hn ((hX k d).2 cs e m hk))⟩
theorem Kw.new {X : Nat → Prop} (h : Kw B w w') (f : Fr X w' w'') (hx : ∀ k, X k → w.heap.size ≤ k) : Kw B w w'' :=
  ⟨f.os.trans h.os, f.tape.trans h.tape, f.output.trans h.output, Nat.le_trans h.size f.size, fun k hk hb => (f.block k (Nat.lt_of_lt_of_le hk h.size) (fun d => by have := hx k d; omega)).trans (h.low k hk hb), fun k cs e m hk hn => (f.block k (Nat.lt_of_lt_of_le (lt_of_some hk) h.size) (fun d => by have h1 := hx k d; have h2 := lt_of_some hk; omega)).trans (h.oth k cs e m hk hn)⟩
theorem Lv.kw {ad : Option Addr} {l : List (Int × Int)} (h : Lv w ad l) (k : Kw B w w') : Lv w' ad l := by
  have hk : 0 < l.length → ∀ b, ad = some b → w'.heap[b.block]? = w.heap[b.block]? := fun hp b e => by
    obtain ⟨b0, o0, cs, e0, hb⟩ := h.2 hp
    rw [e0] at e
    cases e
    exact k.oth _ _ _ _ hb (by unfold Tyw; decide)
  refine ⟨h.1.keep k.size hk, fun hp => ?_⟩
  obtain ⟨b0, o0, cs, e0, hb⟩ := h.2 hp
  exact ⟨b0, o0, cs, e0, (hk hp _ e0).trans hb⟩
end

def Kx (w0 w : World) (m : List Vnd) (w' : World) (m' : List Vnd) : Prop := Kw w0.heap.size w w' ∧ ∀ k, Fb m' k → Fb m k ∨ w.heap.size ≤ k
theorem Kx.refl (w0 w : World) (m : List Vnd) : Kx w0 w m w m := ⟨Kw.refl _ _, fun _ h => Or.inl h⟩
theorem Kx.trans {w0 w w' w'' : World} {m m' m'' : List Vnd} (h : Kx w0 w m w' m') (k : Kx w0 w' m' w'' m'') : Kx w0 w m w'' m'' :=
  ⟨h.1.trans k.1, fun i hi => (k.2 i hi).elim (h.2 i) (fun d => Or.inr (Nat.le_trans h.1.size d))⟩
theorem Kx.of {w0 w w' : World} {m : List Vnd} (h : Below w.heap.size w w') : Kx w0 w m w' m := ⟨Kw.of h, fun _ d => Or.inl d⟩

end Go.Proofs.Ytjhnhbeimjnloaa
