/- GroveBreaks: told: a thing that is met: a contract. -/
import Derived.Test.YtjhnhbeimjnloaaGb7
import Derived.Deep.DeepCutAuto
namespace Go.Proofs.Ytjhnhbeimjnloaa.Tld
open Go.RowKit W Kp Stl

def Valt (w0 : World) (mb bb vb fb : Nat) (T : List Tw1) (M : Vst → Int → Vst) (n : Nat) : Prop :=
  ∀ (w : World) (s : Vst) (va vn vr : Value) (m : List Vnd) (v : Int × Int), Wt T.length w0 w mb bb vb fb s va vn vr m → VOk (tI T.length) s → Vq T v → T.length ≤ s.1.length + n →
    Calls Try.prog 33 (tolA v.1 v.2 mb bb vb fb) w fun e w' => ∃ va' vn' m', e = .returned (.agg #[.int .i64 (vst M (tI T.length) s (wI v)).1.1, .int .i64 (vst M (tI T.length) s (wI v)).1.2]) ∧ Wt T.length w0 w' mb bb vb fb (vst M (tI T.length) s (wI v)).2 va' vn' vr m' ∧ Kx w0 w m w' m'
structure Rt (w0 : World) (bb : Nat) (na : Option Addr) (nc : Nat) (T : List Tw1) : Prop where
  bx : w0.cell? ⟨bb, 1, none⟩ = some (.slice na T.length nc)
  nd : ∀ i, i < T.length → ∃ b o fa fc, na = some ⟨b, o, none⟩ ∧ b < w0.heap.size ∧ w0.cell? ⟨b, o + i * 2, none⟩ = some (.int .i64 (T.getD i t0).1) ∧ w0.cell? ⟨b, o + i * 2 + 1, none⟩ = some (.slice fa (T.getD i t0).2.1.length fc) ∧ Lp w0 fa (T.getD i t0).2.1
structure Ow (w3 : World) (xb rb : Nat) (x : Int) : Prop where
  x : w3.heap[xb]? = some (.cells #[.int .i64 3, .int .i64 x] 41 (0, 0))
  r : w3.heap[rb]? = some (.cells #[.int .i64 0, .int .i64 0] 41 (0, 0))
theorem Ow.kx {w0 w3 wr : World} {m1 m' : List Vnd} {xb rb : Nat} {x : Int} (h : Ow w3 xb rb x) (k : Kx w0 w3 m1 wr m') : Ow wr xb rb x :=
  ⟨(k.1.oth _ _ _ _ h.x (by unfold Tyw; decide)).trans h.x, (k.1.oth _ _ _ _ h.r (by unfold Tyw; decide)).trans h.r⟩

section
variable {w0 w : World} {mb bb vb fb : Nat} {s : Vst} {va vn vr : Value} {m : List Vnd} {T : List Tw1} {n' : Nat} {na : Option Addr} {nc : Nat}

set_option maxRecDepth 100000 in
set_option maxHeartbeats 8000000 in
theorem told_new (h : Wt T.length w0 w mb bb vb fb s va vn vr m) (hR : Rt w0 bb na nc T) (hw : Wvw T []) (hal : ∀ i, i < T.length → Alv T i) (hO : VOk (tI T.length) s) (a : Nat) (ha : a < T.length) (hs : s.1.contains (a : Int) = false) (hI : Valt w0 mb bb vb fb T (met (tI T.length) (kdW T) (shW T []) n') n') (hn : T.length ≤ s.1.length + (n' + 1)) :
    Calls Try.prog 33 (tolA 3 a mb bb vb fb) w fun e w' => ∃ va' vn' m', e = .returned (.agg #[.int .i64 3, .int .i64 s.1.length]) ∧ Wt T.length w0 w' mb bb vb fb (met (tI T.length) (kdW T) (shW T []) (n' + 1) s a) va' vn' vr m' ∧ Kx w0 w m w' m' := by
  have hl : s.1.length ≤ 10000 := by
    have h1 := hO.le
    rw [tI_len] at h1
    have := hw.l1
    omega
  have hOn : s.2.length = s.1.length := hO.len
  have hml : m.length = s.1.length := h.len.trans hOn
  have hna : (a : Int) ∉ s.1 := fun c => by rw [List.contains_iff_mem.2 c] at hs; cases hs
  have hO1 : VOk (tI T.length) (s.1 ++ [(a : Int)], s.2 ++ [(kdW T a, [])]) := hO.more (tI_mem.2 ⟨by omega, by omega⟩) hna _
  have HME : Hid (met (tI T.length) (kdW T) (shW T []) (n' + 1) s a = ((vls (met (tI T.length) (kdW T) (shW T []) n') (tI T.length) (s.1 ++ [(a : Int)], s.2 ++ [(kdW T a, [])]) (shW T [] a)).2.1, (vls (met (tI T.length) (kdW T) (shW T []) n') (tI T.length) (s.1 ++ [(a : Int)], s.2 ++ [(kdW T a, [])]) (shW T [] a)).2.2.set s.1.length (kdW T a, (vls (met (tI T.length) (kdW T) (shW T []) n') (tI T.length) (s.1 ++ [(a : Int)], s.2 ++ [(kdW T a, [])]) (shW T [] a)).1))) := rfl
  have HM : Hid (Vmet (tI T.length) (kdW T) (shW T []) n' (met (tI T.length) (kdW T) (shW T []) n')) := met_go n'
  obtain ⟨ms, ns⟩ := s
  dsimp only at hl hs hOn hO1 HME hn hml hna ⊢
  generalize met (tI T.length) (kdW T) (shW T []) (n' + 1) (ms, ns) a = sE at *
  generalize met (tI T.length) (kdW T) (shW T []) n' = M at *
  obtain ⟨nb, no, fa, fc, e0, lnb, x1, x2, hLf⟩ := hR.nd a ha
  subst e0
  have HKE : Hid (kdW T (a : Int) = (T.getD a t0).1 ∧ shW T [] (a : Int) = (T.getD a t0).2.1.map wI) := ⟨by unfold kdW; rw [Int.toNat_natCast], by rw [shW_nil, Int.toNat_natCast]⟩
  have HFV : Hid ((∀ v ∈ (T.getD a t0).2.1, Vq T v) ∧ (T.getD a t0).2.1.length ≤ 12) := ⟨hw.fv a (hal a ha), hw.tl a⟩
  generalize T.getD a t0 = t at *
  obtain ⟨kd, fs, od, dd⟩ := t
  dsimp only at *
  obtain ⟨aM, cM, e0⟩ := row_slice h.mr
  subst e0
  obtain ⟨gb, gc, e1⟩ := row_shape h.mr (by omega)
  obtain ⟨rfl, rfl⟩ : aM = some ⟨gb, 0, none⟩ ∧ cM = gc := by simpa using e1
  have HO1 : Hid (VOk (tI T.length) (ms ++ [(a : Int)], ns ++ [(kdW T a, [])])) := hO1
  have HI : Hid (Valt w0 mb bb vb fb T M n') := hI
  have HW : Hid (Wvw T []) := hw
  have HWV : Hid (Wt T.length w0 w mb bb vb fb (ms, ns) (.slice (some ⟨gb, 0, none⟩) T.length cM) vn vr m) := h
  obtain ⟨aN, cN, e2⟩ := row_slice h.nr
  subst e2
  have hb := ((Below.refl w.heap.size w).alloc (Nat.le_refl _) (.cells #[.int .i64 3, .int .i64 (a : Int)] 41)).alloc (by simp) (.cells #[.int .i64 0, .int .i64 0] 41)
  have hW2 := h.below hb
  obtain ⟨c0, c1, _, lmb, lvb, _, _, fvb, _⟩ := hW2.cells
  obtain ⟨y2, y3⟩ := row_cell hW2.mr (i := a) (u := .int .i64 0) (by
    rw [List.getElem?_map, numL_at ha, if_neg (by rw [hs]; simp)]
    rfl)
  have lgb := (row_lt h.mr gb rfl).2
  have HLO : Hid (∀ w', Below w0.heap.size w0 w' → w'.cell? ⟨bb, 1, none⟩ = some (.slice (some ⟨nb, no, none⟩) T.length nc) ∧ w'.cell? ⟨nb, no + a * 2, none⟩ = some (.int .i64 kd) ∧ w'.cell? ⟨nb, no + a * 2 + 1, none⟩ = some (.slice fa fs.length fc) ∧ Lp w' fa fs) := fun w' hb' => ⟨(hb'.cell (p := ⟨bb, 1, none⟩) (World.block_lt_of_cell? w0 _ hR.bx)).trans hR.bx, (hb'.cell (p := ⟨nb, no + a * 2, none⟩) lnb).trans x1, (hb'.cell (p := ⟨nb, no + a * 2 + 1, none⟩) lnb).trans x2, hLf.below hb'⟩
  have HG : Hid (((w.alloc (.cells #[.int .i64 3, .int .i64 (a : Int)] 41)).alloc (.cells #[.int .i64 0, .int .i64 0] 41)).heap[w.heap.size + 1]? = some (.cells #[.int .i64 0, .int .i64 0] 41 (0, 0)) ∧ ((w.alloc (.cells #[.int .i64 3, .int .i64 (a : Int)] 41)).alloc (.cells #[.int .i64 0, .int .i64 0] 41)).heap[w.heap.size]? = some (.cells #[.int .i64 3, .int .i64 (a : Int)] 41 (0, 0)) ∧ ((w.alloc (.cells #[.int .i64 3, .int .i64 (a : Int)] 41)).alloc (.cells #[.int .i64 0, .int .i64 0] 41)).heap.size = w.heap.size + 2 ∧ Below w.heap.size w ((w.alloc (.cells #[.int .i64 3, .int .i64 (a : Int)] 41)).alloc (.cells #[.int .i64 0, .int .i64 0] 41))) := ⟨alloc_snd _ _ _, (Below.heap_alloc _ _ _ (by simp)).trans (heap_alloc_new w _), by simp, hb⟩
  have HW2 : Hid (Wt T.length w0 ((w.alloc (.cells #[.int .i64 3, .int .i64 (a : Int)] 41)).alloc (.cells #[.int .i64 0, .int .i64 0] 41)) mb bb vb fb (ms, ns) (.slice (some ⟨gb, 0, none⟩) T.length cM) (.slice aN m.length cN) vr m) := hW2
  have q0 : (0 : Int) ≤ (a : Int) := by omega
  have q1 : (a : Int) < (T.length : Int) := by omega
  have hm1 : m.length ≤ 10000 := by omega
  have hw1 : IntKind.i64.wrap ((m.length : Int) + 1) = (m.length : Int) + 1 := by rw [IntKind.wrap_i64]; omega
  have HML : Hid (m.length = ms.length ∧ ns.length = ms.length) := ⟨hml, hOn⟩
  have HNA : Hid ((a : Int) ∉ ms) := hna
  have HAL : Hid (a < T.length) := ha
  have n1 : w.heap.size ≠ mb := by have := lt_of_some h.mc; omega
  have n2 : w.heap.size ≠ gb := by omega
  have n3 : w.heap.size ≠ vb := by have := lt_of_some h.vc; omega
  clear hb h hI hR hO1 hO hW2 e1 hs hna hml hOn x1 x2 hLf hw hal lnb
  go_enter Try.func33, Try.ntmps33
  go_upto_region 3 with fail
  have y1 : ((w.alloc (.cells #[.int .i64 3, .int .i64 (a : Int)] 41)).alloc (.cells #[.int .i64 0, .int .i64 0] 41)).cell? ⟨w.heap.size, 1, none⟩ = some (.int .i64 (a : Int)) := by simp [World.cell?, HG.out.2.1]
  generalize (w.alloc (.cells #[.int .i64 3, .int .i64 (a : Int)] 41)).alloc (.cells #[.int .i64 0, .int .i64 0] 41) = W2 at *
  have fgb := y3
  go_upto_region 6 with fail
  have hM3 := HW2.out.meets a HAL.out HNA.out
  dsimp only at hM3
  rw [← HML.out.1] at hM3
  have HW3 : Hid (Wt T.length w0 (W2.setCell ⟨gb, a, none⟩ (.int .i64 ((m.length : Int) + 1))) mb bb vb fb (ms ++ [(a : Int)], ns) (.slice (some ⟨gb, 0, none⟩) T.length cM) (.slice aN m.length cN) vr m) := hM3.1
  have HX3 : Hid ((W2.setCell ⟨gb, a, none⟩ (.int .i64 ((m.length : Int) + 1))).heap[w.heap.size]? = some (.cells #[.int .i64 3, .int .i64 (a : Int)] 41 (0, 0)) ∧ (W2.setCell ⟨gb, a, none⟩ (.int .i64 ((m.length : Int) + 1))).heap[w.heap.size + 1]? = some (.cells #[.int .i64 0, .int .i64 0] 41 (0, 0)) ∧ w.heap.size + 2 ≤ (W2.setCell ⟨gb, a, none⟩ (.int .i64 ((m.length : Int) + 1))).heap.size ∧ Kx w0 w m (W2.setCell ⟨gb, a, none⟩ (.int .i64 ((m.length : Int) + 1))) m) := ⟨(hM3.2.oth _ _ _ _ HG.out.2.1 (by unfold Tyw; decide)).trans HG.out.2.1, (hM3.2.oth _ _ _ _ HG.out.1 (by unfold Tyw; decide)).trans HG.out.1, by have h1 := hM3.2.size; have h2 := HG.out.2.2.1; omega, (Kx.of HG.out.2.2.2).trans ⟨hM3.2, fun _ d => Or.inl d⟩⟩
  clear hM3 HG HW2 c0 c1 lmb lvb fvb y1 y2 y3 fgb n2
  generalize W2.setCell ⟨gb, a, none⟩ (.int .i64 ((m.length : Int) + 1)) = W7 at *
  obtain ⟨u0, u1, u2, _⟩ := HLO.out W7 HW3.out.bel
  have x1 : W7.cell? ⟨w.heap.size, 1, none⟩ = some (.int .i64 (a : Int)) := by simp [World.cell?, HX3.out.1]
  have v0 := HW3.out.cells.2.1
  have lvb := HW3.out.cells.2.2.2.2.1
  obtain ⟨ij, hij, hzj0, hzj1, hzj2⟩ := info_parts infoNode
  have HBS : Hid (Below W7.heap.size W7 (W7.alloc (.cells #[.int .i64 kd, .slice none 0 0] 44)).drew) := ((Below.refl W7.heap.size W7).alloc (Nat.le_refl _) _).drew
  have HSd : Hid ((W7.alloc (.cells #[.int .i64 kd, .slice none 0 0] 44)).drew.ownsRow w0.heap.size 44 2 (.slice aN m.length cN) m.length (nv m)) := row_keep (row_alloc HW3.out.nr _) (fun _ _ => rfl)
  have hsz : Hid (w0.heap.size ≤ W7.heap.size) := HW3.out.bel.size
  go_wp2_with fail
  go_cut [] (fun wc => ∃ (b8 cap8 : Nat), Hid (Wt T.length w0 wc mb bb vb fb (ms ++ [(a : Int)], ns ++ [(kd, [])]) (.slice (some ⟨gb, 0, none⟩) T.length cM) (.slice (some ⟨b8, 0, none⟩) (m.length + 1) cap8) vr (m ++ [(kd, none, 0, [])]) ∧ Kw w0.heap.size W7 wc))
  case first =>
    as_aux_lemma =>
    go_region_law (refine step_append_lies _ rfl (.tmp 31) (.tmp 40) 33 rfl w0.heap.size 44 ij (.agg #[.int .i64 0, .slice none 0 0]) 2 32 Try.underlying33 hij hzj0 hzj1 hzj2 rfl (by decide) (.slice aN m.length cN) m.length (nv m) (by simp [Act.eval]) HSd.out ⟨W7.heap.size, 0, none⟩ 1 1 [.int .i64 kd, .slice none 0 0] (by simp [Act.eval]) rfl ?_ ?_ (by decide) (by unfold maxLen; omega) (by omega) (by have := hsz.out; simp; omega) _ rfl ?_; (intro j u hj; match j, hj with | 0, hj => (simp at hj; subst hj; simp [Addr.add]) | 1, hj => (simp at hj; subst hj; simp [Addr.add])); (intro u hu; simp at hu; rcases hu with hu | hu <;> (subst hu; rfl)); intro b8 cap8 w8 hown8 hgrow8 _ _; have HM8 : Hid (Wt T.length w0 (w8.setCell ⟨vb, 1, none⟩ (.slice (some ⟨b8, 0, none⟩) (m.length + 1) cap8)) mb bb vb fb (ms ++ [(a : Int)], ns ++ [(kd, [])]) (.slice (some ⟨gb, 0, none⟩) T.length cM) (.slice (some ⟨b8, 0, none⟩) (m.length + 1) cap8) vr (m ++ [(kd, none, 0, [])]) ∧ Kw w0.heap.size W7 (w8.setCell ⟨vb, 1, none⟩ (.slice (some ⟨b8, 0, none⟩) (m.length + 1) cap8)) ∧ w8.heap[vb]? = some (.cells #[vr, .slice aN m.length cN] 35 (0, 0))) := (node_told HW3.out kd HBS.out hgrow8 (by simpa [nv] using hown8)); have s0 : w8.cell? ⟨vb, 1, none⟩ = some (.slice aN m.length cN) := (by simp [World.cell?, HM8.out.2.2]); have s1 : w8.frozen? ⟨vb, 1, none⟩ = false := (by simp [World.frozen?, HM8.out.2.2]))
    all_goals
      have HM9 : Hid (Wt T.length w0 (w8.setCell ⟨vb, 1, none⟩ (.slice (some ⟨b8, 0, none⟩) (m.length + 1) cap8)) mb bb vb fb (ms ++ [(a : Int)], ns ++ [(kd, [])]) (.slice (some ⟨gb, 0, none⟩) T.length cM) (.slice (some ⟨b8, 0, none⟩) (m.length + 1) cap8) vr (m ++ [(kd, none, 0, [])]) ∧ Kw w0.heap.size W7 (w8.setCell ⟨vb, 1, none⟩ (.slice (some ⟨b8, 0, none⟩) (m.length + 1) cap8))) := ⟨HM8.out.1, HM8.out.2.1⟩
      clear HM8 s0 s1 hown8 hgrow8
      go_wp2_with fail
      go_meet
      case rel => exact ⟨b8, cap8, HM9⟩
  case rest =>
    obtain ⟨b8, cap8, HM9⟩ := hcut
    generalize hW3 : wc = w3 at *
    clear hW3 HSd HBS hsz lvb v0 x1 u0 u1 u2
    have HOW : Hid (Ow w3 w.heap.size (w.heap.size + 1) (a : Int)) := ⟨(HM9.out.2.oth _ _ _ _ HX3.out.1 (by unfold Tyw; decide)).trans HX3.out.1, (HM9.out.2.oth _ _ _ _ HX3.out.2.1 (by unfold Tyw; decide)).trans HX3.out.2.1⟩
    have HK3 : Hid (Kx w0 w m w3 (m ++ [(kd, none, 0, [])]) ∧ w.heap.size + 2 ≤ w3.heap.size) := ⟨HX3.out.2.2.2.trans ⟨HM9.out.2, fun k hk => by
      obtain ⟨y, hy, hyl, o, e⟩ := hk
      rcases List.mem_append.1 hy with hy | hy
      · exact Or.inl ⟨y, hy, hyl, o, e⟩
      · rw [List.mem_singleton.1 hy] at hyl
        simp at hyl⟩, Nat.le_trans HX3.out.2.2.1 HM9.out.2.size⟩
    have HM3 : Hid (Wt T.length w0 w3 mb bb vb fb (ms ++ [(a : Int)], ns ++ [(kd, [])]) (.slice (some ⟨gb, 0, none⟩) T.length cM) (.slice (some ⟨b8, 0, none⟩) (m.length + 1) cap8) vr (m ++ [(kd, none, 0, [])])) := HM9.out.1
    rw [HKE.out.1] at HO1 HME
    rw [HKE.out.2] at HME
    have HN2' : T.length ≤ (ms ++ [(a : Int)]).length + n' := by simp; omega
    have HG : Hid (∀ l, Vgo (tI T.length) (kdW T) (shW T []) (ms ++ [(a : Int)], ns ++ [(kd, [])]) (vls M (tI T.length) (ms ++ [(a : Int)], ns ++ [(kd, [])]) l).2 (vls M (tI T.length) (ms ++ [(a : Int)], ns ++ [(kd, [])]) l).1) := fun l => vls_go HM.out HO1.out (by rw [tI_len]; exact HN2') l
    have HNN : Hid (T.length ≤ (ms ++ [(a : Int)]).length + n') := HN2'
    obtain ⟨ie, hie, hze0, hze1, hze2⟩ := info_parts infoVal
    have hfl := HFV.out.2
    have HFB1 : Hid (¬ Fb (m ++ [(kd, none, 0, [])]) (w.heap.size + 1) ∧ w0.heap.size ≤ w.heap.size + 1) := ⟨fun hk => by
      obtain ⟨y, hy, hyl, o, e⟩ := hk
      rcases List.mem_append.1 hy with hy | hy
      · have := HWV.out.fbk (w.heap.size + 1) ⟨y, hy, hyl, o, e⟩
        omega
      · rw [List.mem_singleton.1 hy] at hyl
        simp at hyl, Nat.le_succ_of_le HWV.out.bel.size⟩
    clear HM9 HX3 HW3 HWV hij hzj0 hzj1 hzj2 hn HN2' n1 n3
    generalize hsA : ((ms ++ [(a : Int)], ns ++ [(kd, [])]) : Vst) = sA at *
    generalize hm1 : (m ++ [((kd, none, 0, []) : Vnd)]) = m1 at *
    go_wp2_with fail
    go_loopw [8, 9] (fun lv iv wr => ∃ (j : Nat) (P' : List (Int × Int) × Vst) (la' : Option Addr) (lc' : Nat) (va' vn' : Value) (m' : List Vnd), j ≤ fs.length ∧ lv = .slice la' P'.1.length lc' ∧ iv = .int .i64 j ∧ Hid (P' = vls M (tI T.length) sA ((fs.take j).map wI)) ∧ Hid (Lt T.length w0 w3 wr mb bb vb fb vr m1 P' la' lc' va' vn' m')) (fun _ iv _ => fs.length - (intOf iv).toNat)
    case atStart => exact ⟨0, ([], sA), none, 0, _, _, m1, Nat.zero_le _, rfl, rfl, by show _ = _; rw [List.take_zero]; rfl, Lt.start (P := ([], sA)) HM3.out rfl⟩
    case round =>
      obtain ⟨j, P', la', lc', va', vn', m', hj, rfl, rfl, HP, HL⟩ := hrel
      have ow := HOW.out.kx HL.out.kx
      have t1 : wr.cell? ⟨w.heap.size, 1, none⟩ = some (.int .i64 (a : Int)) := by simp [World.cell?, ow.x]
      obtain ⟨t2, _, t3, tL⟩ := HLO.out wr HL.out.wv.bel
      have k0 : (0 : Int) ≤ (j : Int) := by omega
      by_cases hlt : j < fs.length
      · have k1 : (j : Int) < (fs.length : Int) := by omega
        obtain ⟨fb9, fo9, e9, lfb, hdd⟩ := tL (by omega)
        clear hdd
        subst e9
        have hmem : fs.getD j (0, 0) ∈ fs := getD_in hlt
        have hvq := HFV.out.1 _ hmem
        obtain ⟨eg, et, hen⟩ : ∃ eg et, fs.getD j (0, 0) = (eg, et) := ⟨_, _, rfl⟩
        have HFC : Hid (∀ w', Below w0.heap.size w0 w' → w'.cell? ⟨fb9, fo9 + j * 2, none⟩ = some (.int .i64 eg) ∧ w'.cell? ⟨fb9, fo9 + j * 2 + 1, none⟩ = some (.int .i64 et) ∧ w'.cell? ⟨bb, 1, none⟩ = some (.slice (some ⟨nb, no, none⟩) T.length nc) ∧ w'.cell? ⟨nb, no + a * 2 + 1, none⟩ = some (.slice (some ⟨fb9, fo9, none⟩) fs.length fc)) := fun w' hb => by
          obtain ⟨z1, _, z2, zL⟩ := HLO.out w' hb
          obtain ⟨b', o', e', _, hc'⟩ := zL (by omega)
          cases e'
          obtain ⟨p0, p1⟩ := hc' j hlt
          rw [hen] at p0 p1
          exact ⟨p0, p1, z1, z2⟩
        have HFN : Hid ((fs.take (j + 1)).map wI = (fs.take j).map wI ++ [wI (eg, et)]) := by
          show _ = _
          rw [take_snoc fs j hlt (0, 0), List.map_append, hen]
          rfl
        rw [hen] at hvq
        have hgo := HG.out ((fs.take j).map wI)
        rw [← HP.out] at hgo
        have HPC : Hid (∀ W : World, Lt T.length w0 w3 W mb bb vb fb vr m1 P' la' lc' va' vn' m' → Calls Try.prog 33 (tolA eg et mb bb vb fb) W fun e w' => ∃ va5 vn5 m5, e = .returned (.agg #[.int .i64 (vst M (tI T.length) P'.2 (wI (eg, et))).1.1, .int .i64 (vst M (tI T.length) P'.2 (wI (eg, et))).1.2]) ∧ Lt T.length w0 w3 w' mb bb vb fb vr m1 (P'.1, (vst M (tI T.length) P'.2 (wI (eg, et))).2) la' lc' va5 vn5 m5 ∧ Kx w0 W m' w' m5) := fun W hL => by
          refine (HI.out W P'.2 va' vn' vr m' (eg, et) hL.wv hgo.ok hvq (by
            have h1 := hgo.le
            have h2 := HNN.out
            have h3 : sA.1.length = (ms ++ [(a : Int)]).length := by rw [← hsA]
            omega)).mono ?_
          rintro e w5 ⟨va5, vn5, m5, rfl, hW5, hK5⟩
          exact ⟨va5, vn5, m5, rfl, hL.call hW5 hK5, hK5⟩
        have HN2 : Hid ((P'.1 ++ [(vst M (tI T.length) P'.2 (wI (eg, et))).1], (vst M (tI T.length) P'.2 (wI (eg, et))).2) = vls M (tI T.length) sA ((fs.take (j + 1)).map wI)) := by
          show _ = _
          rw [HFN.out, vls_snoc, ← HP.out]
        have hPl : P'.1.length ≤ 100000 := by
          rw [HP.out, vls_len, List.length_map, List.length_take]
          omega
        have u1 := HL.out.wv.cells.2.2.1
        obtain ⟨u2, u3, u4, u5⟩ := HFC.out wr HL.out.wv.bel
        generalize vst M (tI T.length) P'.2 (wI (eg, et)) = V at *
        obtain ⟨⟨v1, v2⟩, sB⟩ := V
        dsimp only at HPC HN2
        have HL1 := HL.out
        have n1 : wr.heap.size ≠ fb := by have : fb < wr.heap.size := World.block_lt_of_cell? wr _ u1; omega
        have n2 : wr.heap.size ≠ fb9 := by have : fb9 < wr.heap.size := World.block_lt_of_cell? wr _ u2; omega
        have n3 : wr.heap.size ≠ bb := by have : bb < wr.heap.size := World.block_lt_of_cell? wr _ u4; omega
        have n4 : wr.heap.size ≠ nb := by have : nb < wr.heap.size := World.block_lt_of_cell? wr _ u5; omega
        have n5 : wr.heap.size ≠ w.heap.size := by have : w.heap.size < wr.heap.size := World.block_lt_of_cell? wr _ t1; omega
        clear HFN HP hmem hgo hvq HL hen tL t2 t3 ow lfb
        go_wp2_with fail
        generalize hWW : wr = W at *
        clear hWW
        have PC := HPC.out W.drew (HL1.below (Below.refl _ W).drew)
        have PD := HPC.out (W.alloc (.cells #[.int .i64 0, .int .i64 0] 41)).drew (HL1.below ((Below.refl _ W).alloc (Nat.le_refl _) _).drew)
        have HL1 : Hid (Lt T.length w0 w3 W mb bb vb fb vr m1 P' la' lc' va' vn' m') := HL1
        clear HPC
        go_region_held3 (fun w' => w'.cell? ⟨fb, 0, none⟩ = some (fnT mb bb vb fb) ∧ w'.cell? ⟨bb, 1, none⟩ = some (.slice (some ⟨nb, no, none⟩) T.length nc) ∧ w'.cell? ⟨w.heap.size, 1, none⟩ = some (.int .i64 (a : Int)) ∧ w'.cell? ⟨nb, no + a * 2 + 1, none⟩ = some (.slice (some ⟨fb9, fo9, none⟩) fs.length fc) ∧ w'.cell? ⟨fb9, fo9 + j * 2, none⟩ = some (.int .i64 eg) ∧ w'.cell? ⟨fb9, fo9 + j * 2 + 1, none⟩ = some (.int .i64 et)) (go_keep) (first | (go_at_call 33; refine PC.mono ?_; clear PC PD; rintro e w5 ⟨va5, vn5, m5, rfl, hL5, _⟩; have HL5 : Hid (Lt T.length w0 w3 w5 mb bb vb fb vr m1 (P'.1, sB) la' lc' va5 vn5 m5) := hL5; obtain ⟨b1, b2, b3, b4⟩ := HFC.out w5 hL5.wv.bel; have b5 := hL5.wv.cells.2.2.1; have b6 : w5.cell? ⟨w.heap.size, 1, none⟩ = some (.int .i64 (a : Int)) := (by simp [World.cell?, (HOW.out.kx hL5.kx).x]); clear hL5) | (go_at_call 33; refine PD.mono ?_; clear PC PD; rintro e w5 ⟨va5, vn5, m5, rfl, hL5, hK5⟩; have hla := HL1.out.late hL5 (show Kx w0 (W.alloc (.cells #[.int .i64 0, .int .i64 0] 41)) m' w5 m5 from (Kx.of (Below.refl _ _).drew).trans hK5) v1 v2; have HL6 : Hid (Lt T.length w0 w3 ((w5.setCell ⟨W.heap.size, 0, none⟩ (.int .i64 v1)).setCell ⟨W.heap.size, 1, none⟩ (.int .i64 v2)) mb bb vb fb vr m1 (P'.1, sB) la' lc' va5 vn5 m5 ∧ w5.heap[W.heap.size]? = some (.cells #[.int .i64 0, .int .i64 0] 41 (0, 0))) := ⟨hla.2, hla.1⟩; have c0 : w5.cell? ⟨W.heap.size, 0, none⟩ = some (.int .i64 0) := (by simp [World.cell?, hla.1]); have c1 : w5.cell? ⟨W.heap.size, 1, none⟩ = some (.int .i64 0) := (by simp [World.cell?, hla.1]); have c2 : w5.frozen? ⟨W.heap.size, 0, none⟩ = false := (by simp [World.frozen?, hla.1]); have c4 : w5.frozen? ⟨W.heap.size, 1, none⟩ = false := (by simp [World.frozen?, hla.1]); obtain ⟨b1, b2, b3, b4⟩ := HFC.out w5 hL5.wv.bel; have b5 := hL5.wv.cells.2.2.1; have b6 : w5.cell? ⟨w.heap.size, 1, none⟩ = some (.int .i64 (a : Int)) := (by simp [World.cell?, (HOW.out.kx hL5.kx).x]); clear hL5 hla hK5))
        all_goals
          first
          | (have HY : Hid (Lt T.length w0 w3 (w5.alloc (.cells #[.int .i64 v1, .int .i64 v2] 41)) mb bb vb fb vr m1 (P'.1, sB) la' lc' va5 vn5 m5 ∧ (w5.alloc (.cells #[.int .i64 v1, .int .i64 v2] 41)).cell? ⟨w5.heap.size, 0, none⟩ = some (.int .i64 v1) ∧ (w5.alloc (.cells #[.int .i64 v1, .int .i64 v2] 41)).cell? ⟨w5.heap.size, 1, none⟩ = some (.int .i64 v2)) := ⟨HL5.out.below ((Below.refl _ w5).alloc (Nat.le_refl _) _), by have hh := heap_alloc_new w5 (.cells #[.int .i64 v1, .int .i64 v2] 41); unfold World.cell?; dsimp only; rw [hh]; rfl, by have hh := heap_alloc_new w5 (.cells #[.int .i64 v1, .int .i64 v2] 41); unfold World.cell?; dsimp only; rw [hh]; rfl⟩
             clear HL5 b1 b2 b3 b4 b5 b6
             generalize w5.alloc (.cells #[.int .i64 v1, .int .i64 v2] 41) = w6 at *
             generalize w5.heap.size = yb at *)
          | (have HY : Hid (Lt T.length w0 w3 ((w5.setCell ⟨W.heap.size, 0, none⟩ (.int .i64 v1)).setCell ⟨W.heap.size, 1, none⟩ (.int .i64 v2)) mb bb vb fb vr m1 (P'.1, sB) la' lc' va5 vn5 m5 ∧ ((w5.setCell ⟨W.heap.size, 0, none⟩ (.int .i64 v1)).setCell ⟨W.heap.size, 1, none⟩ (.int .i64 v2)).cell? ⟨W.heap.size, 0, none⟩ = some (.int .i64 v1) ∧ ((w5.setCell ⟨W.heap.size, 0, none⟩ (.int .i64 v1)).setCell ⟨W.heap.size, 1, none⟩ (.int .i64 v2)).cell? ⟨W.heap.size, 1, none⟩ = some (.int .i64 v2)) := ⟨HL6.out.1, by rw [World.cell?_setCell_other _ _ _ _ (by simp)]; exact World.cell?_setCell_same _ _ _ (u := .int .i64 0) c0, World.cell?_setCell_same _ _ _ (u := .int .i64 0) ((World.cell?_setCell_other _ _ _ _ (by simp)).trans c1)⟩
             clear HL6 b1 b2 b3 b4 b5 b6 c0 c1 c2 c4
             generalize (w5.setCell ⟨W.heap.size, 0, none⟩ (.int .i64 v1)).setCell ⟨W.heap.size, 1, none⟩ (.int .i64 v2) = w6 at *
             clear u1 u2 u3 u4 u5 n1 n2 n3 n4 n5 t1 HL1
             generalize W.heap.size = yb at *)
        all_goals
          have k1 := HY.out.2.1
          have k2 := HY.out.2.2
          have HBS : Hid (Below w6.heap.size w6 (w6.alloc (.cells #[.int .i64 v1, .int .i64 v2] 41))) := (Below.refl w6.heap.size w6).alloc (Nat.le_refl _) _
          have HSC : Hid (∀ a, (some ⟨w6.heap.size, 0, none⟩ : Option Addr) = some a → ∀ k u, (ev [(v1, v2)])[k]? = some u → (w6.alloc (.cells #[.int .i64 v1, .int .i64 v2] 41)).cell? (a.add k) = some u) := val_src v1 v2
          have rx2 := row_keep HY.out.1.row (fun k e => HBS.out.block k (row_lt HY.out.1.row k e).2)
          dsimp only at rx2
          have hsz : Hid (w3.heap.size ≤ w6.heap.size) := HY.out.1.kx.1.size
          go_upto_region 10 with (at_builtin; refine wpList_append_src _ rfl _ _ 32 rfl w3.heap.size 41 ie (.agg #[.int .i64 0, .int .i64 0]) 2 16 Try.underlying32 hie hze0 hze1 hze2 rfl (by decide) (.slice la' P'.1.length lc') P'.1.length (ev P'.1) rfl rx2 (some ⟨w6.heap.size, 0, none⟩) 1 1 (ev [(v1, v2)]) rfl rfl (fun e => by cases e) HSC.out (ev_one _) (by unfold maxLen; omega) (by omega) (by have := hsz.out; simp; omega) ?_; intro ra' rc' w10 hown10 hgrow10 hnb10; have HB10 : Hid (Lt T.length w0 w3 w10 mb bb vb fb vr m1 (P'.1 ++ [(v1, v2)], sB) ra' rc' va5 vn5 m5) := (HY.out.1.push HBS.out hgrow10 hown10 hnb10))
          clear hown10 hgrow10 hnb10 rx2
          go_wp2_with fail
          go_roundw
          case rel => exact ⟨j + 1, (P'.1 ++ [(v1, v2)], sB), ra', rc', va5, vn5, m5, by omega, by simp, by go_num, HN2, HB10⟩
          case measure => simp [intOf]; omega
      · obtain rfl : j = fs.length := by omega
        have hgo := HG.out (fs.map wI)
        have HPE : Hid (P' = vls M (tI T.length) sA (fs.map wI)) := by
          have h1 := HP.out
          rw [List.take_length] at h1
          exact h1
        rw [← HPE.out] at hgo
        have hn1 : P'.2.2[m.length]? = some (kd, []) := by
          rw [HML.out.1, hgo.old ms.length (by rw [← hsA]; simp), ← hsA]
          show (ns ++ [(kd, [])])[ms.length]? = _
          rw [← HML.out.2, List.getElem?_append_right (Nat.le_refl _)]
          simp
        have hn2 : P'.2.2.length ≤ 100000 := by
          have h1 := hgo.ok.le
          rw [tI_len] at h1
          rw [hgo.ok.len]
          have := HW.out.l1
          omega
        have hpre : (ms ++ [(a : Int)]) <+: P'.2.1 := by
          have := hgo.pre
          rwa [← hsA] at this
        have hin : (a : Int) ∈ ms ++ [(a : Int)] := by simp
        have hidx : P'.2.1.idxOf (a : Int) = m.length := by
          rw [idx_pre hpre hin, List.idxOf_append, if_neg HNA.out, HML.out.1]
          simp
        have hfb2 : ¬ Fb m' (w.heap.size + 1) := fun d => by
          rcases HL.out.kx.2 _ d with d | d
          · exact HFB1.out.1 d
          · have := HK3.out.2
            omega
        obtain ⟨g, gC, u, e3, cn, hnm, hml', z1, z2, r0, r1, f0, f1, hgr, HFIN⟩ := fin_told (wb := w) (mB := m) HL.out hn1 hn2 ow.r (by have := HK3.out.2; omega) HFB1.out.2 hfb2 (by omega) (HK3.out.1.trans HL.out.kx)
        obtain ⟨aM2, cM2, e4⟩ := row_slice HL.out.wv.mr
        subst e4
        obtain ⟨g2, gc2, e5⟩ := row_shape HL.out.wv.mr (by omega)
        obtain ⟨rfl, rfl⟩ : aM2 = some ⟨g2, 0, none⟩ ∧ cM2 = gc2 := by simpa using e5
        have cm := HL.out.wv.cells.1
        have cnu := (row_cell HL.out.wv.mr (i := a) (u := .int .i64 ((m.length : Int) + 1)) (by
          rw [List.getElem?_map, numL_at HAL.out, if_pos (List.contains_iff_mem.2 (hpre.subset hin)), hidx]
          rfl)).1
        subst e3
        obtain ⟨cur, hcur⟩ := row_type HL.out.wv.nr g rfl
        obtain ⟨cur2, hcur2⟩ := row_type HL.out.wv.mr g2 rfl
        have ne1 : g ≠ mb := fun e => by
          have h8 := HL.out.wv.mc
          rw [← e, hcur] at h8
          simp at h8
        have ne2 : g ≠ g2 := fun e => by
          rw [e, hcur2] at hcur
          simp at hcur
        have ne3 : g ≠ w.heap.size := fun e => by
          have h8 := ow.x
          rw [← e, hcur] at h8
          simp at h8
        have hw2 : IntKind.i64.wrap ((m.length : Int) + 1 - 1) = (m.length : Int) := by rw [IntKind.wrap_i64]; omega
        have i0 : (0 : Int) ≤ (m.length : Int) := by omega
        have i1 : (m.length : Int) < (m'.length : Int) := by omega
        have HMS : Hid ((m.length : Int) = (ms.length : Int)) := by show _ = _; rw [HML.out.1]
        have HSE : Hid (sE = (P'.2.1, P'.2.2.set m.length (kd, P'.1))) := by
          show _ = _
          rw [HME.out, HPE.out, HML.out.1]
        clear HP hn1 hn2 hpre hin hidx hfb2 hgo hcur hcur2 ow tL e5 HL HPE HME HML
        go_wp2_with fail
        obtain ⟨⟨m2, k1, k2⟩, g0, g1⟩ := HFIN.out
        exact bodyPost_ret (v := .agg #[.int .i64 3, .int .i64 m.length]) (by simp [results, Try.results33, go_sem, g0, g1]) rfl ⟨_, _, m2, by rw [← HMS.out], by rw [HSE.out]; exact k1, k2⟩
end

end Go.Proofs.Ytjhnhbeimjnloaa.Tld
