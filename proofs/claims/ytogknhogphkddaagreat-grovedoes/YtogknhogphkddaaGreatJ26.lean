/- Joined: Gw2, Wq8, Hg. -/
import Derived.Test.YtogknhogphkddaaGreatJ17
import Derived.Test.YtogknhogphkddaaGreatJ25
import Derived.Deep.RegionHeld3
import Derived.Test.YtogknhogphkddaaGreatJ15
import Derived.OrdersHeld
/- A grove's walk: what a node shows: a contract. -/
namespace Go.Proofs.YtogknhogphkddaaGreat
open Go.RowKit W Kp Stl

def shG (T : List Tw1) (wt : List En) (a : Int) : List (Int × Int) := if (T.getD a.toNat t0).1 = 5 then (atL wt a).map (fun x => ((3 : Int), x)) else (T.getD a.toNat t0).2.1
theorem shG_W {T : List Tw1} {wt : List En} {a : Int} (h5 : (T.getD a.toNat t0).1 = 5 → (T.getD a.toNat t0).2.1 = []) : (shG T wt a).map wI = shW T wt a := by
  unfold shG shW
  by_cases c : (T.getD a.toNat t0).1 = 5
  · rw [if_pos c, if_pos c, h5 c]
    simp [atL, wI]
  · rw [if_neg c, if_neg c, List.append_nil]

section
variable {gp : Nat} {most grow : Int} {l : Gl} {s : Wrs} {w : World}

set_option maxRecDepth 100000 in
set_option maxHeartbeats 2000000 in
theorem shownG_any (h : Gvy gp most grow l s w) (kb : Nat) (hk : w.cell? ⟨kb, 0, none⟩ = some (.pointer (some ⟨gp, 0, none⟩))) (a : Int) (ha : 0 ≤ a ∧ Alv s.T a.toNat) (hT : s.T.length ≤ 10000) (hw : s.wt.length ≤ 10000) :
    Calls Tryz.prog 94 #[.pointer (some ⟨kb, 0, none⟩), .int .i64 a] w fun e w' => ∃ ad cap, e = .returned (.slice ad (shG s.T s.wt a).length cap) ∧ Lv w' ad (shG s.T s.wt a) ∧ Below w.heap.size w w' := by
  obtain ⟨i0, hi, hz0, hz1, hz2⟩ := info_parts infoVn
  have al : a < 10000 := by have := ha.2.1; omega
  have L := h.g2.mp.look (t := 47) (e := 76) Tryz.underlying47 (zeroTh w) (x := a) ha.1 (by omega)
  rw [gvF_yes ha] at L
  dsimp only [Option.getD_some, thV, fsV] at L
  obtain ⟨_, _, c2, _, _, c5, _, _, lg⟩ := h.cells
  have lk := World.block_lt_of_cell? w _ hk
  have hF := Lv.of (h.g2.fl a.toNat ha.2)
  have b1 := (Below.refl w.heap.size w).alloc (Nat.le_refl _) (.cells #[.int .i64 (s.T.getD a.toNat t0).1, .slice (l.fm a.toNat).1 (s.T.getD a.toNat t0).2.1.length (l.fm a.toNat).2] 76)
  have hF1 := hF.kg (Kg.of (B := 0) b1)
  have g1 := h.below b1
  have PA := atS_any _ l.bp _ l.a1 l.k1 s.wt a g1.g3.sd.blk (row_pairs g1.g3.sd.q0) (by omega)
  have hal := Nat.le_trans (atL_len s.wt a) hw
  by_cases h5 : (s.T.getD a.toNat t0).1 = 5
  · have e0 : shG s.T s.wt a = (atL s.wt a).map (fun x => ((3 : Int), x)) := by unfold shG; rw [if_pos h5]
    rw [e0]
    rw [h5] at L b1 PA
    have HB : Hid (Below w.heap.size w (w.alloc (.cells #[.int .i64 5, .slice (l.fm a.toNat).1 (s.T.getD a.toNat t0).2.1.length (l.fm a.toNat).2] 76))) := b1
    clear e0 h5 hF hF1 g1 b1 h ha
    generalize (l.fm a.toNat).1 = ad at *
    generalize (l.fm a.toNat).2 = cp at *
    generalize (s.T.getD a.toNat t0).2.1.length = n at *
    generalize atL s.wt a = A at *
    rw [List.length_map]
    go_enter Tryz.func94, Tryz.ntmps94
    go_wp2_with fail
    refine PA.mono ?_
    clear PA
    rintro e w1 ⟨ad1, cap1, rfl, hr1, hb1⟩
    have HB1 : Hid (Below w.heap.size w w1) := HB.out.trans (hb1.mono HB.out.size)
    have HR : Hid (Ls w1 ad1 A) := row_ints hr1
    have s1 := HB1.out.size
    have HQ : Hid (∀ k, some k = (Value.slice ad1 A.length cap1).ownBlock → w.heap.size + 1 ≤ k ∧ k < w1.heap.size) := fun k e => by
      have := row_lt hr1 k e
      simpa using this
    clear hb1 hr1 HB L c2 c5 hk
    go_wp2_with fail
    go_loopw [6, 33] (fun tv iv wr => ∃ (j : Nat) (at1 : Option Addr) (ct : Nat), j ≤ A.length ∧ iv = .int .i64 j ∧ tv = .slice at1 j ct ∧ wr.ownsRow w1.heap.size 54 2 (.slice at1 j ct) j (ev ((A.take j).map (fun x => ((3 : Int), x)))) ∧ Below w1.heap.size w1 wr) (fun _ iv _ => A.length - (intOf iv).toNat)
    case atStart => exact ⟨0, none, 0, Nat.zero_le _, rfl, rfl, World.ownsRow_nil _ _ _ _, Below.refl _ _⟩
    case round =>
      obtain ⟨j, at1, ct, hj, rfl, rfl, hT1, hb⟩ := hrel
      by_cases hlt : j < A.length
      · obtain ⟨bb, o, ead, lb, hcl⟩ := HR.out (by omega)
        have hc := (hb.cell (p := ⟨bb, o + j, none⟩) lb).trans (hcl j hlt)
        have EL : Hid (ev ((A.take (j + 1)).map (fun x => ((3 : Int), x))) = ev ((A.take j).map (fun x => ((3 : Int), x))) ++ [.int .i64 3, .int .i64 (A.getD j 0)]) := by
          show _ = _
          rw [take_snoc A j hlt 0, List.map_append, ev_append]
          rfl
        subst ead
        have hsz := hb.size
        have n3 : IntKind.i64.wrap ((j : Int) + 1) = (j : Int) + 1 := by rw [IntKind.wrap_i64]; omega
        clear hcl
        generalize A.getD j 0 = y at *
        generalize ev ((A.take j).map (fun x => ((3 : Int), x))) = L at *
        go_wp2_with fail
        refine (refValue_any y wr).mono ?_
        rintro e w2 ⟨rfl, hb2⟩
        have hT2 := row_keep hT1 (fun k e => hb2.block k (row_lt hT1 k e).2)
        have hb12 := hb.trans (hb2.mono hsz)
        have hsz2 := hb12.size
        clear hT1 hb hb2 hc
        go_wp2_with (at_builtin; refine wpList_append_own_at _ rfl _ _ 38 rfl w1.heap.size 54 i0 (.agg #[.int .i64 0, .int .i64 0]) 2 16 Tryz.underlying38 hi hz0 hz1 hz2 rfl (by decide) (.slice at1 j ct) j L rfl (row_alloc hT2 _) ⟨w2.heap.size, 0, none⟩ 1 1 [.int .i64 3, .int .i64 y] rfl rfl ?_ ?_ ?_ ?_ ?_ ?_; (intro j u hj; match j, hj with | 0, hj => (simp at hj; subst hj; simp [Addr.add]) | 1, hj => (simp at hj; subst hj; simp [Addr.add])); (intro u hu; simp at hu; rcases hu with hu | hu <;> (subst hu; rfl)); (unfold maxLen; omega); omega; (simp; omega); intro v' w4 hown4 hgrow4 _ hloc4; obtain ⟨b4, cap4, ev4⟩ := row_shape hown4 (Nat.succ_pos _); subst ev4)
        have hT4 : w4.ownsRow w1.heap.size 54 2 (.slice (some ⟨b4, 0, none⟩) (j + 1) cap4) (j + 1) (ev ((A.take (j + 1)).map (fun x => ((3 : Int), x)))) := by rw [EL.out]; exact hown4
        have hb4 := (hb12.alloc hsz2 _).grown hgrow4 (by simp; omega) (fun k e => (row_lt hT2 k e.symm).1)
        clear hown4 hgrow4 hloc4 hT2 hb12 EL
        go_wp2_with fail
        go_roundw
        case rel => exact ⟨j + 1, some ⟨b4, 0, none⟩, cap4, by omega, by go_num, rfl, hT4, hb4⟩
        case measure => simp [intOf]; omega
      · obtain rfl : j = A.length := by omega
        rw [List.take_length] at hT1
        go_wp2_with fail
        go_ret
        refine ⟨at1, ct, rfl, ?_, HB1.out.trans (hb.mono s1)⟩
        have hT3 : wr.ownsRow w1.heap.size 54 2 (.slice at1 (A.map (fun x => ((3 : Int), x))).length ct) (A.map (fun x => ((3 : Int), x))).length (ev (A.map (fun x => ((3 : Int), x)))) := by rw [List.length_map]; exact hT1
        exact Lv.of hT3
  · have e0 : shG s.T s.wt a = (s.T.getD a.toNat t0).2.1 := by unfold shG; rw [if_neg h5]
    rw [e0]
    have k5 : ((s.T.getD a.toNat t0).1 != 5) = true := by simpa using h5
    have HB : Hid (_ ∧ _) := ⟨hF1, b1⟩
    clear e0 h5 hF hF1 g1 b1 h ha PA hal
    generalize (s.T.getD a.toNat t0).2.1 = f at *
    generalize (l.fm a.toNat).1 = ad at *
    generalize (l.fm a.toNat).2 = cp at *
    generalize (s.T.getD a.toNat t0).1 = kd at *
    go_enter Tryz.func94, Tryz.ntmps94
    go_wp2_with fail
    go_ret
    exact ⟨ad, ⟨cp, rfl⟩, HB.out.1, HB.out.2⟩
end

end Go.Proofs.YtogknhogphkddaaGreat

/- The document's world: Do, whatever the step: a new vector: a contract. -/
namespace Go.Proofs.YtogknhogphkddaaGreat
open Go.RowKit W Kp Stl

theorem infoIq : (Tryz.prog.info? 3).map (fun i => (i.zero, i.size, i.bytes)) = some (some (.int .i64 0), 1, 8) := by kernel_rfl
section
variable {rp rb : Nat} {most grow : Int} {F : Nat → Prop} {s : Wrs} {w : World}

set_option maxRecDepth 100000 in
set_option maxHeartbeats 2000000 in
theorem doQ_vec (h : (wrO rp rb most grow).J F s w) (hv : Wcv s) (h0 : 0 ≤ grow) (h1 : grow ≤ 100000) (m0 : 0 ≤ most) (m1 : most ≤ 100000) (g : Gfn) (hg : Gok s.T s.wt (g s.T s.wt)) (R A m : Nat) (hR : R < 12) (hA : A < 12) (hm : m ≤ 12) (B I : Int) (hP : SFk 5 R A B I m) :
    Calls Tryz.prog 9 #[.pointer (some ⟨rp, 0, none⟩), stpV 5 R A B I m] w fun e w' => ∃ F', e = .returned (.int .i64 (s.nw g most grow R 2 (List.replicate m (s.rs.getD A (0, 0)))).1) ∧ (wrO rp rb most grow).J F' (s.nw g most grow R 2 (List.replicate m (s.rs.getD A (0, 0)))).2 w' ∧ Tn F w F' w' := by
  have HN : Hid (∀ (W : World) (fa : Option Addr) (fc : Nat), (wrO rp rb most grow).J F s W → Fri F W fa (List.replicate m A) → Calls Tryz.prog 26 #[.pointer (some ⟨rp, 0, none⟩), .int .i64 R, .int .i64 2, .slice fa m fc] W fun e w' => ∃ F', e = .returned (.int .i64 (s.nw g most grow R 2 (List.replicate m (s.rs.getD A (0, 0)))).1) ∧ (wrO rp rb most grow).J F' (s.nw g most grow R 2 (List.replicate m (s.rs.getD A (0, 0)))).2 w' ∧ Tn F W F' w') := fun W fa fc hW hf => by
    have P := newQ_any hW hv h0 h1 m0 m1 g hg R hR 2 (List.replicate m A) (fun q hq => by rw [List.eq_of_mem_replicate hq]; exact hA) (by simpa using hm) fa fc hf
    rw [List.length_replicate, List.map_replicate] at P
    exact P
  clear hv h0 h1 m0 m1 hg
  generalize (s.nw g most grow R 2 (List.replicate m (s.rs.getD A (0, 0)))) = N at *
  obtain ⟨cN, sN⟩ := N
  dsimp only at HN ⊢
  obtain ⟨i0, hi0, hz0, hz1, hz2⟩ := info_parts infoIq
  have hb0 := (Below.refl w.heap.size w).alloc (Nat.le_refl _) (stpC 5 R A B I m)
  have P := hP (w.alloc (stpC 5 R A B I m))
  have HJ : Hid ((wrO rp rb most grow).J F s w ∧ Below w.heap.size w (w.alloc (stpC 5 R A B I m))) := ⟨h, hb0⟩
  clear h hb0 hP
  go_enter Tryz.func9, Tryz.ntmps9
  go_wp2_with fail
  refine P.mono ?_
  clear P
  rintro e w1 ⟨rfl, hb1⟩
  have hb := HJ.out.2.trans (hb1.mono (by simp))
  have hJ1 := (wrO rp rb most grow).below HJ.out.1 hb
  have hx : w1.heap[w.heap.size]? = some (stpC 5 R A B I m) := (hb1.block _ (by simp)).trans (heap_alloc_new _ _)
  obtain ⟨q0, q1, q2, q3, q4, q5⟩ := hs_cells hx
  have lxx : w.heap.size < w1.heap.size := lt_of_some hx
  have HJ1 : Hid ((wrO rp rb most grow).J F s w1 ∧ Tn F w F w1 ∧ ∀ b, F b → b < w1.heap.size) := ⟨hJ1, Tn.of hb, (wrO rp rb most grow).lt hJ1⟩
  clear hJ1 hb hb1 hx HJ
  go_wp2_with fail
  go_loopw [7, 8] (fun lv iv wr => ∃ (j : Nat) (at1 : Option Addr) (ct : Nat), j ≤ m ∧ iv = .int .i64 j ∧ lv = .slice at1 j ct ∧ wr.ownsRow w1.heap.size 3 1 (.slice at1 j ct) j ((List.replicate j (A : Int)).map (Value.int .i64)) ∧ Below w1.heap.size w1 wr) (fun _ iv _ => m - (intOf iv).toNat)
  case atStart => exact ⟨0, none, 0, Nat.zero_le _, rfl, rfl, World.ownsRow_nil _ _ _ _, Below.refl _ _⟩
  case round =>
    obtain ⟨j, at1, ct, hj, rfl, rfl, hT1, hb⟩ := hrel
    have g1 := (hb.cell (p := ⟨w.heap.size, 1, none⟩) lxx).trans q1
    have g2 := (hb.cell (p := ⟨w.heap.size, 2, none⟩) lxx).trans q2
    have g5 := (hb.cell (p := ⟨w.heap.size, 5, none⟩) lxx).trans q5
    have hsz := hb.size
    by_cases hlt : j < m
    · have EL : Hid ((List.replicate (j + 1) (A : Int)).map (Value.int .i64) = ((List.replicate j (A : Int)).map (Value.int .i64)) ++ [.int .i64 (A : Int)]) := by
        show _ = _
        rw [List.replicate_succ', List.map_append]
        rfl
      have n3 : IntKind.i64.wrap ((j : Int) + 1) = (j : Int) + 1 := by rw [IntKind.wrap_i64]; omega
      have k1 : (j : Int) < (m : Int) := by omega
      generalize ((List.replicate j (A : Int)).map (Value.int .i64)) = L at *
      clear HN q0 q1 q2 q3 q4 q5
      go_wp2_with (at_builtin; refine wpList_append_own_at _ rfl _ _ 68 rfl w1.heap.size 3 i0 (.int .i64 0) 1 8 Tryz.underlying68 hi0 hz0 hz1 hz2 rfl (by decide) (.slice at1 j ct) j L rfl (row_alloc hT1 _) ⟨wr.heap.size, 0, none⟩ 1 1 [.int .i64 (A : Int)] rfl rfl ?_ ?_ ?_ ?_ ?_ ?_; (intro j u hj; match j, hj with | 0, hj => (simp at hj; subst hj; simp [Addr.add])); (intro u hu; simp at hu; subst hu; rfl); (unfold maxLen; omega); omega; (simp; omega); intro v' w4 hown4 hgrow4 _ hloc4; obtain ⟨b4, cap4, ev4⟩ := row_shape hown4 (Nat.succ_pos _); subst ev4)
      have hT4 : w4.ownsRow w1.heap.size 3 1 (.slice (some ⟨b4, 0, none⟩) (j + 1) cap4) (j + 1) ((List.replicate (j + 1) (A : Int)).map (Value.int .i64)) := by rw [EL.out]; exact hown4
      have hb4 := (hb.alloc hsz _).grown hgrow4 (by simp; omega) (fun k e => (row_lt hT1 k e.symm).1)
      clear hown4 hgrow4 hloc4 hT1 hb EL g1 g2 g5
      go_wp2_with fail
      go_roundw
      case rel => exact ⟨j + 1, some ⟨b4, 0, none⟩, cap4, by omega, by go_num, rfl, hT4, hb4⟩
      case measure => simp [intOf]; omega
    · obtain rfl : j = m := by omega
      have hT2 : wr.ownsRow w1.heap.size 3 1 (.slice at1 (List.replicate j (A : Int)).length ct) (List.replicate j (A : Int)).length ((List.replicate j (A : Int)).map (Value.int .i64)) := by rw [List.length_replicate]; exact hT1
      have PC := HN.out wr at1 ct ((wrO rp rb most grow).below HJ1.out.1 hb) (fun hp => by
        rw [List.length_replicate] at hp
        obtain ⟨b, o, e, hl, hc⟩ := row_ints hT2 (by rw [List.length_replicate]; exact hp)
        subst e
        refine ⟨b, o, rfl, hl, fun hF => ?_, fun i hi => ?_⟩
        · have q1 := HJ1.out.2.2 b hF
          have q2 := (row_lt hT1 b rfl).1
          omega
        · rw [List.length_replicate] at hi
          have := hc i (by rw [List.length_replicate]; exact hi)
          rw [List.getD_eq_getElem?_getD, List.getElem?_replicate, if_pos hi] at this
          rw [List.getD_eq_getElem?_getD, List.getElem?_replicate, if_pos hi]
          exact this)
      have HT : Hid (Tn F w F wr) := HJ1.out.2.1.below hb
      clear HN hT1 hT2 hb HJ1 q0 q1 q2 q3 q4 q5
      go_wp2_with fail
      refine PC.mono ?_
      clear PC
      rintro e w2 ⟨F2, rfl, j2, t2⟩
      have HR : Hid ((wrO rp rb most grow).J F2 sN w2 ∧ Tn F w F2 w2) := ⟨j2, HT.out.trans t2⟩
      clear j2 t2 HT g1 g2 g5
      go_wp2_with fail
      go_ret
      exact ⟨F2, rfl, HR.out.1, HR.out.2⟩
end

end Go.Proofs.YtogknhogphkddaaGreat

/- In a region that draws its order: an operation that reads may be taken first where what it reads stands till the region's stores, and these wait for it. -/
namespace Go.Proofs.YtogknhogphkddaaGreat
open Go

section
variable {P : Program} {ops : Array Oper} {Q : Exit → Act → World → Prop} {md : Region.Mode} {T S : World → Prop} {St : List Nat}

def came (St : List Nat) (listed : Array Bool) : Prop := ∃ s ∈ St, listed.getD s false = true

def anyG (P : Program) (md : Region.Mode) (ops : Array Oper) (Q : Exit → Act → World → Prop) (T S : World → Prop) (St : List Nat) : Nat → Array Bool → Act → World → Prop
  | 0, listed, a, w => Region.ready md ops listed = [] ∧ Q .normal a w
  | fuel + 1, listed, a, w => (Region.ready md ops listed = [] → Q .normal a w) ∧
    ∀ i ∈ Region.ready md ops listed, wpOp P ops Q i (fun a' w' => (T w' ∧ (came St (listed.setIfInBounds i true) ∨ S w')) ∧ anyG P md ops Q T S St fuel (listed.setIfInBounds i true) a' w') a w

theorem any_of_G : ∀ (fuel : Nat) (listed : Array Bool) (a : Act) (w : World), anyG P md ops Q T S St fuel listed a w → wpAny P md ops Q fuel listed a w
  | 0, _, _, _, h => h
  | fuel + 1, _, _, _, h => ⟨h.1, fun i hi => wpOp_mono (fun a' w' h' => any_of_G fuel _ a' w' h'.2) (h.2 i hi)⟩

def waits (md : Region.Mode) (ops : Array Oper) (St : List Nat) (i : Nat) : Bool :=
  St.all fun s => match ops[s]? with
    | some o => o.after.any fun e => Region.binds md e && e.on == i
    | none => false

theorem no_store {i j : Nat} {listed : Array Bool} (hw : waits md ops St i = true) (hi : i ∈ Region.ready md ops listed) (hj : j ∈ Region.ready md ops listed) : j ∉ St := by
  intro hs
  have h1 := List.all_eq_true.1 hw j hs
  obtain ⟨h0, o, ho, hall⟩ := mem_ready.1 hj
  rw [ho] at h1
  obtain ⟨e, he, hb⟩ := Array.any_eq_true'.1 h1
  rw [Bool.and_eq_true, beq_iff_eq] at hb
  have h2 := hall e he hb.1
  rw [hb.2] at h2
  have h3 := (mem_ready.1 hi).1
  rcases Nat.lt_or_ge i listed.size with h' | h'
  · simp [h'] at h2 h3
    rw [h3] at h2
    cases h2
  · simp [Array.getElem?_eq_none h'] at h2

theorem came_set {i : Nat} {listed : Array Bool} (hn : ¬ came St listed) (hi : i ∉ St) : ¬ came St (listed.setIfInBounds i true) := by
  rintro ⟨s, hs, h⟩
  have hne : i ≠ s := fun e => hi (by rw [e]; exact hs)
  exact hn ⟨s, hs, by rw [getD_set_ne false hne] at h; exact h⟩

theorem G_first {i : Nat} {oi : Oper} {v : Value} (hi : ops[i]? = some oi) (hiS : i ∉ St) (hwt : waits md ops St i = true) (hsel : ∀ (j : Nat) (o : Oper) cs b, ops[j]? = some o → o.op ≠ .select cs b)
    (hQ : ∀ c a w, Q (.panic c) (a.put oi.dst v) w → Q (.panic c) a w) :
    ∀ (fuel : Nat) (listed : Array Bool) (a : Act) (w : World),
      (∀ j oj, ops[j]? = some oj → j ≠ i → listed.getD j true = false → (∀ e ∈ oj.after, Region.binds md e = true → e.on ≠ i) → oi.apart ops oj = true) →
      i ∈ Region.ready md ops listed → ¬ came St listed → YieldsIf P ops (fun w => T w ∧ S w) oi v a → T w ∧ S w →
      anyG P md ops Q T S St fuel (listed.setIfInBounds i true) (a.put oi.dst v) w → anyG P md ops Q T S St (fuel + 1) listed a w := by
  intro fuel
  induction fuel with
  | zero =>
    intro listed a w _ hr _ hy hS H
    refine ⟨fun h => absurd hr (by rw [h]; simp), fun j hj => ?_⟩
    by_cases hji : j = i
    · rw [hji]
      exact hy.wpOp hi hS ⟨⟨hS.1, Or.inr hS.2⟩, H⟩
    · have hm := ready_mono hj hji
      rw [H.1] at hm
      simp at hm
  | succ fuel ih =>
    intro listed a w hfree hr hnc hy hS H
    refine ⟨fun h => absurd hr (by rw [h]; simp), fun j hj => ?_⟩
    by_cases hji : j = i
    · rw [hji]
      exact hy.wpOp hi hS ⟨⟨hS.1, Or.inr hS.2⟩, H⟩
    · have hjS := no_store hwt hr hj
      have hstep := H.2 j (ready_mono hj hji)
      obtain ⟨hjun, oj, hoj, hall⟩ := mem_ready.1 hj
      have hapart : oi.apart ops oj = true := hfree j oj hoj hji hjun (fun e he hb heq => by
        have h2 := hall e he hb
        rw [heq] at h2
        have h3 := (mem_ready.1 hr).1
        rcases Nat.lt_or_ge i listed.size with h' | h'
        · simp [h'] at h2 h3
          rw [h3] at h2
          cases h2
        · simp [Array.getElem?_eq_none h'] at h2)
      refine wpOp_mono (fun a' w' h => ?_) (wpOp_putIf hoj hapart (fun cs b => hsel i oi cs b hi) (fun cs b => hsel j oj cs b hoj) hQ hy hstep)
      obtain ⟨hy', hSw, hG⟩ := h
      have hnc' := came_set hnc hjS
      have hSw' : T w' ∧ S w' := ⟨hSw.1, hSw.2.resolve_left (came_set (came_set hnc hiS) hjS)⟩
      refine ⟨⟨hSw'.1, Or.inr hSw'.2⟩, ih (listed.setIfInBounds j true) a' w' (fun k ok hk hki hun hno => hfree k ok hk hki ?_ hno) (ready_mono hr (Ne.symm hji)) hnc' hy' hSw' ?_⟩
      · by_cases hjk : j = k
        · rw [← hjk]; exact hjun
        · rwa [getD_set_ne true hjk] at hun
      · rwa [Array.setIfInBounds_comm _ _ hji]

theorem G_always {i : Nat} {oi : Oper} {v : Value} (hi : ops[i]? = some oi) (hiS : i ∉ St) (hsel : ∀ (j : Nat) (o : Oper) cs b, ops[j]? = some o → o.op ≠ .select cs b)
    (hQ : ∀ c a w, Q (.panic c) (a.put oi.dst v) w → Q (.panic c) a w) :
    ∀ (fuel : Nat) (listed : Array Bool) (a : Act) (w : World),
      (∀ j oj, ops[j]? = some oj → j ≠ i → listed.getD j true = false → (∀ e ∈ oj.after, Region.binds md e = true → e.on ≠ i) → oi.apart ops oj = true) →
      i ∈ Region.ready md ops listed → YieldsIf P ops T oi v a → T w → (came St listed ∨ S w) →
      anyG P md ops Q T S St fuel (listed.setIfInBounds i true) (a.put oi.dst v) w → anyG P md ops Q T S St (fuel + 1) listed a w := by
  have up : ∀ {listed : Array Bool} {k : Nat}, came St listed → came St (listed.setIfInBounds k true) := fun ⟨s, hs, h⟩ => ⟨s, hs, getD_set_true h⟩
  intro fuel
  induction fuel with
  | zero =>
    intro listed a w _ hr hy hT hc H
    refine ⟨fun h => absurd hr (by rw [h]; simp), fun j hj => ?_⟩
    by_cases hji : j = i
    · rw [hji]
      exact hy.wpOp hi hT ⟨⟨hT, hc.imp up id⟩, H⟩
    · have hm := ready_mono hj hji
      rw [H.1] at hm
      simp at hm
  | succ fuel ih =>
    intro listed a w hfree hr hy hT hc H
    refine ⟨fun h => absurd hr (by rw [h]; simp), fun j hj => ?_⟩
    by_cases hji : j = i
    · rw [hji]
      exact hy.wpOp hi hT ⟨⟨hT, hc.imp up id⟩, H⟩
    · have hstep := H.2 j (ready_mono hj hji)
      obtain ⟨hjun, oj, hoj, hall⟩ := mem_ready.1 hj
      have hapart : oi.apart ops oj = true := hfree j oj hoj hji hjun (fun e he hb heq => by
        have h2 := hall e he hb
        rw [heq] at h2
        have h3 := (mem_ready.1 hr).1
        rcases Nat.lt_or_ge i listed.size with h' | h'
        · simp [h'] at h2 h3
          rw [h3] at h2
          cases h2
        · simp [Array.getElem?_eq_none h'] at h2)
      refine wpOp_mono (fun a' w' h => ?_) (wpOp_putIf hoj hapart (fun cs b => hsel i oi cs b hi) (fun cs b => hsel j oj cs b hoj) hQ hy hstep)
      obtain ⟨hy', hSw, hG⟩ := h
      have hc' : came St (listed.setIfInBounds j true) ∨ S w' := hSw.2.imp (fun ⟨s, hs, h⟩ => by
        have hne : i ≠ s := fun e => hiS (by rw [e]; exact hs)
        refine ⟨s, hs, ?_⟩
        rw [Array.setIfInBounds_comm _ _ (Ne.symm hji), getD_set_ne false hne] at h
        exact h) id
      refine ⟨⟨hSw.1, hc'⟩, ih (listed.setIfInBounds j true) a' w' (fun k ok hk hki hun hno => hfree k ok hk hki ?_ hno) (ready_mono hr (Ne.symm hji)) hy' hSw.1 hc' ?_⟩
      · by_cases hjk : j = k
        · rw [← hjk]; exact hjun
        · rwa [getD_set_ne true hjk] at hun
      · rwa [Array.setIfInBounds_comm _ _ hji]

theorem G_take {i : Nat} {oi : Oper} {v : Value} {fuel : Nat} {listed : Array Bool} {a : Act} {w : World} (hi : ops[i]? = some oi)
    (hs : Region.noSelect ops = true) (hf : Region.free md ops listed i = true) (hr : (Region.ready md ops listed).contains i = true) (hiS : St.contains i = false) (hwt : waits md ops St i = true) (hnc : (St.all fun s => !listed.getD s false) = true)
    (hQ : ∀ c a w, Q (.panic c) (a.put oi.dst v) w → Q (.panic c) a w) (hy : YieldsIf P ops (fun w => T w ∧ S w) oi v a) (hS : T w ∧ S w)
    (h : anyG P md ops Q T S St fuel (listed.setIfInBounds i true) (a.put oi.dst v) w) : anyG P md ops Q T S St (fuel + 1) listed a w :=
  G_first hi (fun h => by rw [List.contains_iff_mem.2 h] at hiS; cases hiS) hwt (Region.noSelect_spec hs) hQ fuel listed a w (Region.free_spec hi hf) (by simpa using hr) (fun ⟨s, hs, hc⟩ => by
    have := List.all_eq_true.1 hnc s hs
    rw [hc] at this
    cases this) hy hS h
theorem G_takeA {i : Nat} {oi : Oper} {v : Value} {fuel : Nat} {listed : Array Bool} {a : Act} {w : World} (hi : ops[i]? = some oi)
    (hs : Region.noSelect ops = true) (hf : Region.free md ops listed i = true) (hr : (Region.ready md ops listed).contains i = true) (hiS : St.contains i = false)
    (hQ : ∀ c a w, Q (.panic c) (a.put oi.dst v) w → Q (.panic c) a w) (hy : YieldsIf P ops T oi v a) (hT : T w) (hc : came St listed ∨ S w)
    (h : anyG P md ops Q T S St fuel (listed.setIfInBounds i true) (a.put oi.dst v) w) : anyG P md ops Q T S St (fuel + 1) listed a w :=
  G_always hi (fun h => by rw [List.contains_iff_mem.2 h] at hiS; cases hiS) (Region.noSelect_spec hs) hQ fuel listed a w (Region.free_spec hi hf) (by simpa using hr) hy hT hc h
theorem wpOp_of_wp {i : Nat} {o : Oper} {K : Act → World → Prop} {a : Act} {w : World} (hi : ops[i]? = some o) (hg : o.guard = none) (h : o.wp P a w K Q) : wpOp P ops Q i K a w := by
  unfold wpOp
  rw [hi]
  dsimp only
  rw [if_pos (by simp [Region.wanted, hg])]
  exact Or.inl h
theorem G_one {i : Nat} {fuel : Nat} {listed : Array Bool} {a : Act} {w : World} (hr : Region.ready md ops listed = [i])
    (h : wpOp P ops Q i (fun a' w' => (T w' ∧ (came St (listed.setIfInBounds i true) ∨ S w')) ∧ anyG P md ops Q T S St fuel (listed.setIfInBounds i true) a' w') a w) : anyG P md ops Q T S St (fuel + 1) listed a w :=
  ⟨fun h0 => (by rw [hr] at h0; cases h0), fun j hj => (by rw [hr] at hj; rw [List.mem_singleton] at hj; rw [hj]; exact h)⟩
theorem G_done {listed : Array Bool} {a : Act} {w : World} (hr : Region.ready md ops listed = []) (h : Q .normal a w) : ∀ fuel, anyG P md ops Q T S St fuel listed a w
  | 0 => ⟨hr, h⟩
  | _ + 1 => ⟨fun _ => h, by rw [hr]; simp⟩

end

end Go.Proofs.YtogknhogphkddaaGreat
