/- Joined: Gw4, Gw5, Wv3, Wv4, Wo5. -/
import Derived.Test.YtogknhogphkddaaGreatJ37
import Derived.Deep.AppendLies
import Derived.Test.YtogknhogphkddaaGreatJ02
import Derived.Test.YtogknhogphkddaaGreatJ03
import Derived.Test.YtogknhogphkddaaGreatJ04
import Derived.Test.YtogknhogphkddaaGreatJ30
/- A grove's walk: a thing is met: a contract. -/
namespace Go.Proofs.YtogknhogphkddaaGreat
open Go.RowKit W Kp Stl

theorem infoNd : (Tryz.prog.info? 80).map (fun i => (i.zero, i.size, i.bytes)) = some (some (.agg #[.int .i64 0, .slice none 0 0]), 2, 32) := by kernel_rfl

section
variable {w0 w w' w'' : World} {kb mq gp n : Nat} {s : Vst} {vn : Value} {m : List Vnd}

theorem Wkg.turned (h : Wkg w0 w kb mq gp s vn m) (f : Fr (fun k => k = mq) w w') : Kg w0.heap.size w w' ∧ w'.heap[kb]? = some (.cells #[.pointer (some ⟨gp, 0, none⟩), .map (some mq), vn] 84 (0, 0)) ∧ w'.ownsRow w0.heap.size 80 2 vn m.length (nv m) ∧ (∀ x ∈ m, Lv w' x.2.1 x.2.2.2) ∧ Below w0.heap.size w0 w' := by
  obtain ⟨es, clock, hb⟩ := h.mp.blk
  have hk : Kg w0.heap.size w w' := ⟨f.os, f.tape, f.output, f.size, fun k hk hl => f.block k hk (fun e => by have e : k = mq := e; have := h.lo.2; omega), fun k cs e mm hk _ _ => f.block k (lt_of_some hk) (fun c => by
    have c : k = mq := c
    rw [c, hb] at hk
    simp at hk)⟩
  refine ⟨hk, (f.block kb (lt_of_some h.blk) (fun c => ?_)).trans h.blk, row_keep h.row (fun k e => f.block k (row_lt h.row k e).2 (fun c => ?_)), fun x hx => (h.fl x hx).kg hk, h.bel.trans (hk.below h.bel.size)⟩
  · have c : kb = mq := c
    have := h.blk
    rw [c, hb] at this
    simp at this
  · have c : k = mq := c
    obtain ⟨cur, hcur⟩ := row_type h.row k e
    rw [c, hb] at hcur
    simp at hcur
end

theorem Wkg.grown {w0 w w3 w4 : World} {kb mq gp : Nat} {ms : List Int} {ns : List (Int × List (Int × Int))} {vn v4 : Value} {m : List Vnd} {kd : Int}
    (hk : w.heap[kb]? = some (.cells #[.pointer (some ⟨gp, 0, none⟩), .map (some mq), vn] 84 (0, 0))) (lo : w0.heap.size ≤ kb ∧ w0.heap.size ≤ mq) (hm : Mh w mq ms.length (mtF ms)) (hr : w.ownsRow w0.heap.size 80 2 vn m.length (nv m)) (hnd : nds m = ns) (hf : ∀ x ∈ m, Lv w x.2.1 x.2.2.2) (hb : Below w0.heap.size w0 w)
    (h3 : Below w.heap.size w w3) (h4 : w4.ownsRow w0.heap.size 80 2 v4 (m.length + 1) (nv m ++ [.int .i64 kd, .slice none 0 0])) (g4 : w3.grownBy w4 vn.ownBlock) :
    Wkg w0 (w4.setCell ⟨kb, 2, none⟩ v4) kb mq gp (ms, ns ++ [(kd, [])]) v4 (m ++ [(kd, none, 0, [])]) ∧ Kvg w0 w m (w4.setCell ⟨kb, 2, none⟩ v4) (m ++ [(kd, none, 0, [])]) ∧ w4.heap[kb]? = some (.cells #[.pointer (some ⟨gp, 0, none⟩), .map (some mq), vn] 84 (0, 0)) := by
  have hmN := hm
  obtain ⟨es, clock, hmb⟩ := hm.blk
  have kg4 : Kg w0.heap.size w w4 := (Kg.of h3).trans (Kg.grown g4 (fun k e => ⟨(row_lt hr k e.symm).1, fun cs ty mm hc => by
    obtain ⟨cur, hcur⟩ := row_type hr k e.symm
    have := (h3.block k (lt_of_some hcur)).trans hcur
    rw [this] at hc
    simp at hc
    exact Or.inr hc.2.1.symm⟩))
  have hk4 : w4.heap[kb]? = some (.cells #[.pointer (some ⟨gp, 0, none⟩), .map (some mq), vn] 84 (0, 0)) := (g4.block kb (Nat.lt_of_lt_of_le (lt_of_some hk) h3.size) (fun e => by
    obtain ⟨cur, hcur⟩ := row_type hr kb e
    rw [hk] at hcur
    simp at hcur)).trans ((h3.block kb (lt_of_some hk)).trans hk)
  have kg5 : Kg w0.heap.size w (w4.setCell ⟨kb, 2, none⟩ v4) := kg4.trans (Kg.set hk4 (Or.inl rfl) lo.1)
  have nmk : mq ≠ kb := fun e => by rw [e, hk] at hmb; simp at hmb
  have e5 : (nv (m ++ [(kd, none, 0, [])] : List Vnd)) = nv m ++ [.int .i64 kd, .slice none 0 0] := by rw [nv_append]; rfl
  refine ⟨⟨?_, lo, ?_, ?_, ?_, fun x hx => ?_, hb.trans (kg5.below hb.size)⟩, ⟨kg5, fun k hk => ?_⟩, hk4⟩
  · simp only [World.setCell, Array.getElem?_modify, if_true, hk4, Option.map_some]
    rfl
  · refine hmN.same ((Below.heap_setCell _ _ _ _ nmk).trans ((g4.block mq (Nat.lt_of_lt_of_le (lt_of_some hmb) h3.size) (fun e => ?_)).trans (h3.block mq (lt_of_some hmb))))
    obtain ⟨cur, hcur⟩ := row_type hr mq e
    rw [hmb] at hcur
    simp at hcur
  · rw [e5, List.length_append]
    refine row_keep h4 (fun k e => Below.heap_setCell _ _ _ _ (fun c => ?_))
    have c : k = kb := c
    obtain ⟨cur, hcur⟩ := row_type h4 k e
    rw [c, hk4] at hcur
    simp at hcur
  · simp [nds] at hnd ⊢
    exact hnd
  · rcases List.mem_append.1 hx with hx | hx
    · exact (hf x hx).kg kg5
    · simp at hx
      subst hx
      exact Lv.nil
  · obtain ⟨x, hx, hl, o, e⟩ := hk
    rcases List.mem_append.1 hx with hx | hx
    · exact Or.inl ⟨x, hx, hl, o, e⟩
    · simp at hx
      subst hx
      simp at hl

theorem Wkg.filled {w0 w : World} {kb mq gp g cap len : Nat} {s : Vst} {m : List Vnd} (h : Wkg w0 w kb mq gp s (.slice (some ⟨g, 0, none⟩) len cap) m) {i : Nat} {k0 : Int} {v0 : List (Int × Int)} (hi : s.2[i]? = some (k0, v0)) {base c2 : Nat} {a2 : Option Addr} {vs : List (Int × Int)}
    (hr : w.ownsRow base 54 2 (.slice a2 vs.length c2) vs.length (ev vs)) :
    Wkg w0 (w.setCell ⟨g, i * 2 + 1, none⟩ (.slice a2 vs.length c2)) kb mq gp (s.1, s.2.set i (k0, vs)) (.slice (some ⟨g, 0, none⟩) len cap) (m.set i (k0, a2, c2, vs)) ∧ Kg w0.heap.size w (w.setCell ⟨g, i * 2 + 1, none⟩ (.slice a2 vs.length c2)) ∧ (∀ k, Fb (m.set i (k0, a2, c2, vs)) k → Fb m k ∨ base ≤ k) := by
  obtain ⟨cur, hcur⟩ := row_type h.row g rfl
  have hg := (row_lt h.row g rfl).1
  have hkg : Kg w0.heap.size w (w.setCell ⟨g, i * 2 + 1, none⟩ (.slice a2 vs.length c2)) := Kg.set hcur (Or.inr rfl) hg
  obtain ⟨x, hx, hxe⟩ : ∃ x : Vnd, m[i]? = some x ∧ (x.1, x.2.2.2) = (k0, v0) := by
    have := hi
    rw [← h.nd, nds, List.getElem?_map] at this
    obtain ⟨x, hx, e⟩ := Option.map_eq_some_iff.1 this
    exact ⟨x, hx, e⟩
  have e1 : x.1 = k0 := congrArg Prod.fst hxe
  have hlen : len = m.length := by
    rcases h.row.2 with ⟨hv, _⟩ | ⟨g', cap', cur', hv, _⟩
    · simp at hv
    · simp at hv
      exact hv.2.1
  refine ⟨⟨(Below.heap_setCell _ _ _ _ (fun c => ?_)).trans h.blk, h.lo, h.mp.same (Below.heap_setCell _ _ _ _ (fun c => ?_)), ?_, ?_, fun y hy => ?_, h.bel.trans (hkg.below h.bel.size)⟩, hkg, fun k hk => ?_⟩
  · have c : kb = g := c
    have := h.blk
    rw [c, hcur] at this
    simp at this
  · have c : mq = g := c
    obtain ⟨es, clock, hb⟩ := h.mp.blk
    rw [c, hcur] at hb
    simp at hb
  · rw [List.length_set, ← e1, nv_set m i x a2 c2 vs hx]
    have := h.row
    rw [← hlen] at this ⊢
    exact row_put this _ _
  · rw [nds, List.map_set]
    show ((nds m).set i (k0, vs)) = _
    rw [h.nd]
  · rcases List.mem_or_eq_of_mem_set hy with hy | hy
    · exact (h.fl y hy).kg hkg
    · subst hy
      exact (Lv.of hr).kg hkg
  · obtain ⟨y, hy, hl, o, e⟩ := hk
    rcases List.mem_or_eq_of_mem_set hy with hy | hy
    · exact Or.inl ⟨y, hy, hl, o, e⟩
    · subst hy
      have e : a2 = some ⟨k, o, none⟩ := e
      exact Or.inr (row_lt hr k (by rw [e]; rfl)).1

theorem vq_ref {T : List Tw1} {x : Int} (h : 0 ≤ x ∧ Alv T x.toNat) (hT : T.length ≤ 10000) : Vq T (3, x) := by
  refine ⟨?_, fun _ => h⟩
  have h2 := h.2.1
  have h1 := h.1
  dsimp only
  rw [vc3]
  unfold rc
  rw [if_neg (by omega), if_neg (by omega)]
theorem shG_vq {T : List Tw1} {wt : List En} (hv : Wvw T wt) {a : Int} (ha : 0 ≤ a ∧ Alv T a.toNat) : ∀ v ∈ shG T wt a, Vq T v := fun v h => by
  unfold shG at h
  split at h
  · obtain ⟨x, hx, rfl⟩ := List.mem_map.1 h
    unfold atL at hx
    obtain ⟨e, he, rfl⟩ := List.mem_map.1 hx
    exact vq_ref (hv.wv e (List.mem_filter.1 he).1).2 hv.l1
  · exact hv.fv _ ha.2 v h
theorem shG_len {T : List Tw1} {wt : List En} (hv : Wvw T wt) (a : Int) : (shG T wt a).length ≤ 20000 := by
  unfold shG
  split
  · rw [List.length_map]
    have h1 := atL_len wt a
    have h2 := hv.l2
    omega
  · have := hv.tl a.toNat
    omega

section
variable {w0 : World} {kb mq gp : Nat} {most grow : Int} {l : Gl} {S : Wrs}

set_option maxRecDepth 100000 in
set_option maxHeartbeats 4000000 in
theorem meetG_next (hg : Gvy gp most grow l S w0) (hv : Wvw S.T S.wt) (h5 : ∀ i, Alv S.T i → (S.T.getD i t0).1 = 5 → (S.T.getD i t0).2.1 = []) (n : Nat) (M : Vst → Int → Vst) (hM : Mtg w0 kb mq gp S.T M n) (hV : Vmet (tI S.T.length) (kdW S.T) (shW S.T S.wt) n M) :
    Mtg w0 kb mq gp S.T (fun s a => ((vls M (tI S.T.length) (s.1 ++ [a], s.2 ++ [(kdW S.T a, [])]) (shW S.T S.wt a)).2.1, (vls M (tI S.T.length) (s.1 ++ [a], s.2 ++ [(kdW S.T a, [])]) (shW S.T S.wt a)).2.2.set s.1.length (kdW S.T a, (vls M (tI S.T.length) (s.1 ++ [a], s.2 ++ [(kdW S.T a, [])]) (shW S.T S.wt a)).1))) (n + 1) := by
  intro w s vn m a h ho ha hn hl
  obtain ⟨i0, hi, hz0, hz1, hz2⟩ := info_parts infoNd
  have haT : a ∈ tI S.T.length := tI_mem.2 ⟨ha.1, by have := ha.2.1; have := ha.1; omega⟩
  have hTl := hv.l1
  have hlt := ho.lt haT hn
  rw [tI_len] at hlt
  have al : a < 10000 := by have := ha.2.1; omega
  have hml : m.length = s.1.length := by rw [h.len, ho.len]
  have ho2 := ho.more haT hn (kdW S.T a, [])
  have hlen := vls_len M (tI S.T.length) (s.1 ++ [a], s.2 ++ [(kdW S.T a, [])]) (shW S.T S.wt a)
  have G := vls_go hV ho2 (by rw [tI_len]; simp; omega) (shW S.T S.wt a)
  have hGo : (vls M (tI S.T.length) (s.1 ++ [a], s.2 ++ [(kdW S.T a, [])]) (shW S.T S.wt a)).2.2[s.1.length]? = some (kdW S.T a, []) := by
    rw [G.old s.1.length (by simp), List.getElem?_append_right (by rw [ho.len]; exact Nat.le_refl _), ho.len]
    simp
  have hGl : s.1.length < (vls M (tI S.T.length) (s.1 ++ [a], s.2 ++ [(kdW S.T a, [])]) (shW S.T S.wt a)).2.1.length := by
    have := G.le
    simp at this
    omega
  have hGk : (vls M (tI S.T.length) (s.1 ++ [a], s.2 ++ [(kdW S.T a, [])]) (shW S.T S.wt a)).2.2.length = (vls M (tI S.T.length) (s.1 ++ [a], s.2 ++ [(kdW S.T a, [])]) (shW S.T S.wt a)).2.1.length := G.ok.len
  have eS := shG_W (wt := S.wt) (h5 _ ha.2)
  have eL : (shG S.T S.wt a).length = (shW S.T S.wt a).length := by rw [← eS, List.length_map]
  have KV : Hid (∀ (w5 : World) (vn5 : Value) (m5 : List Vnd) (ad : Option Addr) (cap : Nat), Wkg w0 w5 kb mq gp (s.1 ++ [a], s.2 ++ [(kdW S.T a, [])]) vn5 m5 → Lv w5 ad (shG S.T S.wt a) →
      Calls Tryz.prog 33 #[.pointer (some ⟨kb, 0, none⟩), .slice ad (shG S.T S.wt a).length cap] w5 fun e w' => ∃ vn' m' a2 c2, e = .returned (.slice a2 (shG S.T S.wt a).length c2) ∧ w'.ownsRow w5.heap.size 54 2 (.slice a2 (shG S.T S.wt a).length c2) (shG S.T S.wt a).length (ev (vls M (tI S.T.length) (s.1 ++ [a], s.2 ++ [(kdW S.T a, [])]) (shW S.T S.wt a)).1) ∧ Wkg w0 w' kb mq gp (vls M (tI S.T.length) (s.1 ++ [a], s.2 ++ [(kdW S.T a, [])]) (shW S.T S.wt a)).2 vn' m' ∧ Kvg w0 w5 m5 w' m' ∧ (∀ k, Fb m' k → some k ≠ (Value.slice a2 (shG S.T S.wt a).length c2).ownBlock)) :=
    fun w5 vn5 m5 ad cap h5 hl5 => by
      have P := valuesG_any hM hV h5 ho2 (by simp; omega) hTl (shG S.T S.wt a) (shG_vq hv ha) ad cap hl5 (by have := shG_len hv a; omega)
      rw [eS] at P
      exact P
  have KS : Hid (∀ w1, Below w0.heap.size w0 w1 → w1.cell? ⟨kb, 0, none⟩ = some (.pointer (some ⟨gp, 0, none⟩)) → Calls Tryz.prog 94 #[.pointer (some ⟨kb, 0, none⟩), .int .i64 a] w1 fun e w' => ∃ ad cap, e = .returned (.slice ad (shG S.T S.wt a).length cap) ∧ Lv w' ad (shG S.T S.wt a) ∧ Below w1.heap.size w1 w') :=
    fun w1 hb hc => shownG_any (hg.below hb) kb hc a ha hTl hv.l2
  have KG : Hid (∀ w1, Below w0.heap.size w0 w1 → w1.cell? ⟨gp, 2, none⟩ = some (.map (some l.mb)) ∧ (Instr.lookup 47 (.map (some l.mb)) (.int .i64 a) false).run Tryz.prog w1 = .ok (.agg #[.int .i64 (kdW S.T a), .slice (l.fm a.toNat).1 (S.T.getD a.toNat t0).2.1.length (l.fm a.toNat).2]) w1 ∧ gp < w1.heap.size) := fun w1 hb => by
    have g1 := hg.below hb
    obtain ⟨_, _, c2, _, _, _, _, _, lg⟩ := g1.cells
    have L := g1.g2.mp.look (t := 47) (e := 76) Tryz.underlying47 (zeroTh w1) (x := a) ha.1 (by omega)
    rw [gvF_yes ha] at L
    exact ⟨c2, L, lg⟩
  have lgp : Hid (gp < w0.heap.size) := hg.cells.2.2.2.2.2.2.2.2
  obtain ⟨w1, hrun, hM1, hgr1⟩ := h.mp.put (t := 82) (e := 2) Tryz.underlying82 (by omega) (x := a) ha.1 (by omega) (.int .i64 s.1.length)
  rw [mtF_snoc hn] at hM1
  have hfr1 : Fr (fun k => k = mq) w w1 := (Fr.refl _ _).grown hgr1 (fun k e => Or.inl (by cases e; rfl))
  have TR := h.turned hfr1
  have N1 : Hid (Mh w1 mq (s.1 ++ [a]).length (mtF (s.1 ++ [a]))) := by
    rw [List.length_append, List.length_singleton]
    exact hM1
  have hlo := h.lo
  obtain ⟨nA, nC, hvn⟩ := row_slice h.row
  subst hvn
  obtain ⟨c0, c1, c2, lk⟩ := h.cells
  have HD : Hid (nds m = s.2) := h.nd
  clear hM hV G ho2 hv hg hM1 hgr1 hfr1 eS h5 ha h ho haT hn hl
  dsimp only
  generalize vls M (tI S.T.length) (s.1 ++ [a], s.2 ++ [(kdW S.T a, [])]) (shW S.T S.wt a) = R at *
  rw [← eL] at hlen
  clear eL
  generalize shG S.T S.wt a = SL at *
  obtain ⟨vs, s7⟩ := R
  dsimp only at *
  generalize kdW S.T a = kd at *
  generalize (S.T.getD a.toNat t0).2.1.length = fn at *
  generalize (l.fm a.toNat).1 = fa at *
  generalize (l.fm a.toNat).2 = fc at *
  generalize s.1.length = L at *
  subst hml
  obtain ⟨T1, T2, T3, T4, T5⟩ := TR
  obtain ⟨G1, G2, G3⟩ := KG.out w1 T5
  obtain ⟨_, G4, _⟩ := KG.out w1.drew T5.drew
  have FD : (Instr.field 76 (.agg #[.int .i64 kd, .slice fa fn fc]) 0).run Tryz.prog w1.drew = .ok (.int .i64 kd) w1.drew := by first | rfl | kernel_rfl | simp [go_sem]
  have y0 : w1.cell? ⟨kb, 0, none⟩ = some (.pointer (some ⟨gp, 0, none⟩)) := by simp [World.cell?, T2]
  have y2 : w1.cell? ⟨kb, 2, none⟩ = some (.slice nA m.length nC) := by simp [World.cell?, T2]
  have yf : w1.frozen? ⟨kb, 2, none⟩ = false := by simp [World.frozen?, T2]
  have lk1 : kb < w1.heap.size := lt_of_some T2
  have HT : Hid (_ ∧ _ ∧ _ ∧ _ ∧ _) := ⟨T1, T2, T3, T4, T5⟩
  have HK1 : Hid (Kvg w0 w m w1 m) := ⟨T1, fun k h => Or.inl h⟩
  have rn : some kb ≠ (Value.slice nA m.length nC).ownBlock := fun e => by
    obtain ⟨cur, hcur⟩ := row_type T3 kb e
    rw [T2] at hcur
    simp at hcur
  have hs1 : w0.heap.size ≤ w1.heap.size := T5.size
  clear T1 T2 T3 T4 T5 KG G2
  have hbd := ((Below.refl w1.heap.size w1).alloc (Nat.le_refl _) (.cells #[.int .i64 kd, .slice none 0 0] 80)).drew
  have HSd : Hid ((w1.alloc (.cells #[.int .i64 kd, .slice none 0 0] 80)).drew.ownsRow w0.heap.size 80 2 (.slice nA m.length nC) m.length (nv m)) := row_keep (row_alloc HT.out.2.2.1 _) (fun _ _ => rfl)
  go_enter Tryz.func77, Tryz.ntmps77
  go_wp2_with fail
  clear hrun c0 c1 c2 lk
  go_region_law (refine step_append_lies _ rfl (.tmp 22) (.tmp 34) 39 rfl w0.heap.size 80 i0 (.agg #[.int .i64 0, .slice none 0 0]) 2 32 Tryz.underlying39 hi hz0 hz1 hz2 rfl (by decide) (.slice nA m.length nC) m.length (nv m) (by simp [Act.eval]) HSd.out ⟨w1.heap.size, 0, none⟩ 1 1 [.int .i64 kd, .slice none 0 0] (by simp [Act.eval]) rfl ?_ ?_ (by decide) (by unfold maxLen; omega) (by omega) (by simp; omega) _ rfl ?_; (intro j u hj; match j, hj with | 0, hj => (simp at hj; subst hj; simp [Addr.add]) | 1, hj => (simp at hj; subst hj; simp [Addr.add])); (intro u hu; simp at hu; rcases hu with hu | hu <;> (subst hu; rfl)); intro b4 cap4 w4 hown4 hgrow4 hat4 hlt4; have d4 := hgrow4.cell (a := ⟨kb, 2, none⟩) (v := .slice nA m.length nC) ((hbd.cell (p := ⟨kb, 2, none⟩) lk1).trans y2) rn; have f4 : w4.frozen? ⟨kb, 2, none⟩ = false := (World.frozen?_of_block (a := ⟨kb, 2, none⟩) (hgrow4.block _ (Nat.lt_of_lt_of_le lk1 hbd.size) rn)).trans ((hbd.frozen (p := ⟨kb, 2, none⟩) lk1).trans yf))
  all_goals
    have WG := Wkg.grown HT.out.2.1 hlo N1.out HT.out.2.2.1 HD.out HT.out.2.2.2.1 HT.out.2.2.2.2 hbd hown4 hgrow4
    obtain ⟨WG1, WG2, _⟩ := WG
    have KK5 : Hid (Kvg w0 w m (w4.setCell ⟨kb, 2, none⟩ (.slice (some ⟨b4, 0, none⟩) (m.length + 1) cap4)) (m ++ [(kd, none, 0, [])])) := HK1.out.trans WG2
    have W5 : Hid (Wkg w0 (w4.setCell ⟨kb, 2, none⟩ (.slice (some ⟨b4, 0, none⟩) (m.length + 1) cap4)) kb mq gp (s.1 ++ [a], s.2 ++ [(kd, [])]) (.slice (some ⟨b4, 0, none⟩) (m.length + 1) cap4) (m ++ [(kd, none, 0, [])])) := WG1
    clear WG1 WG2 HK1 HSd hbd HT N1 HD hown4 hgrow4 hat4 hlt4 d4 f4 y0 y2 yf G1 G3 G4 FD
    go_wp2_with fail
    generalize w4.setCell ⟨kb, 2, none⟩ (.slice (some ⟨b4, 0, none⟩) (m.length + 1) cap4) = w5 at *
    refine (KS.out w5 W5.out.bel W5.out.cells.1).mono ?_
    clear KS
    rintro e w6 ⟨ad, cap, rfl, hl6, hb6⟩
    go_wp2_with fail
    refine (KV.out w6 _ _ ad cap (W5.out.below hb6) hl6).mono ?_
    clear KV
    rintro e w7 ⟨vn7, m7, a2, c7, rfl, hr7, hW7, hK7, hF7⟩
    have hm7 : m7.length = s7.1.length := hW7.len.trans hGk
    obtain ⟨g7, cap7, e7⟩ := row_shape hW7.row (by omega)
    subst e7
    have z2 := hW7.cells.2.2.1
    have hlt7 : m.length < m7.length := by omega
    obtain ⟨zc, zf⟩ := row_cell hW7.row ((nv_get m7 m.length _ (List.getElem?_eq_getElem hlt7)).2)
    rw [← hlen] at hr7
    have FI : Hid (_ ∧ _ ∧ _) := hW7.filled hGo hr7
    have K7 : Hid (Kvg w0 w m w7 m7) := (KK5.out.trans (Kvg.of hb6)).trans hK7
    have hs7 := ((KK5.out.trans (Kvg.of hb6)).1).size
    generalize (m7[m.length]).2.1 = q1 at zc
    generalize (m7[m.length]).2.2.2.length = q2 at zc
    generalize (m7[m.length]).2.2.1 = q3 at zc
    rw [hlen] at FI
    clear hl6 hb6 hr7 hW7 hK7 hF7 KK5 W5 hGo hlen
    go_wp2_with fail
    go_ret
    exact ⟨_, _, rfl, FI.out.1, K7.out.1.trans FI.out.2.1, fun k hk => (FI.out.2.2 k hk).elim (K7.out.2 k) (fun c => Or.inr (Nat.le_trans hs7 c))⟩

theorem meetG_any (hg : Gvy gp most grow l S w0) (hv : Wvw S.T S.wt) (h5 : ∀ i, Alv S.T i → (S.T.getD i t0).1 = 5 → (S.T.getD i t0).2.1 = []) : ∀ n, Mtg w0 kb mq gp S.T (met (tI S.T.length) (kdW S.T) (shW S.T S.wt) n) n
  | 0 => fun w s vn m a _ ho ha hn hl => by
    have h1 := ho.lt (tI_mem.2 ⟨ha.1, by have := ha.2.1; have := ha.1; omega⟩) hn
    rw [tI_len] at h1
    omega
  | n + 1 => meetG_next hg hv h5 n _ (meetG_any hg hv h5 n) (met_go n)
end

end Go.Proofs.YtogknhogphkddaaGreat

/- A grove: View: a contract, with where what it tells lies: in blocks that are new. -/
namespace Go.Proofs.YtogknhogphkddaaGreat
open Go.RowKit W Kp Stl

section
variable {gp : Nat} {most grow : Int} {l : Gl} {S : Wrs} {w : World}

set_option maxRecDepth 100000 in
set_option maxHeartbeats 1000000 in
theorem viewG_any (hg : Gvy gp most grow l S w) (hv : Wvw S.T S.wt) (h5 : ∀ i, Alv S.T i → (S.T.getD i t0).1 = 5 → (S.T.getD i t0).2.1 = []) (hr : ∀ v ∈ S.rs, Vq S.T v) :
    Calls Tryz.prog 13 #[.pointer (some ⟨gp, 0, none⟩)] w fun e w' => ∃ r2 d2 na nn nc, e = .returned (.agg #[.slice r2 12 d2, .slice na nn nc]) ∧ LpN w' w.heap.size r2 (Vr4.vwW S.T S.wt S.rs).1 ∧ LnN w' w.heap.size na (Vr4.vwW S.T S.wt S.rs).2.2 ∧ nn = (Vr4.vwW S.T S.wt S.rs).2.2.length ∧ Below w.heap.size w w' := by
  have hmm := @run_makeMap Tryz.prog
  have ba := (Below.refl w.heap.size w).alloc (Nat.le_refl _) (.cells #[.slice none 0 0, .slice none 0 0] 41)
  have hr0 := heap_alloc_new w (.cells #[.slice none 0 0, .slice none 0 0] 41)
  have hg0 := hg.below ba
  have hl12 := hg.g4.rl
  obtain ⟨_, _, _, _, _, _, c6, _, lgp⟩ := hg0.cells
  have hLv : Lv (w.alloc (.cells #[.slice none 0 0, .slice none 0 0] 41)) (some ⟨l.rb, 0, none⟩) S.rs := by
    have c := hg0.g4.cells
    refine ⟨fun hp => ⟨l.rb, 0, rfl, c.1, fun i hi => ?_⟩, fun hp => ⟨l.rb, 0, _, rfl, hg0.g4.rt⟩⟩
    have := c.2.2 i (by omega)
    rw [Nat.zero_add]
    exact ⟨this.1, this.2.1⟩
  have lr0 : w.heap.size < (w.alloc (.cells #[.slice none 0 0, .slice none 0 0] 41)).heap.size := by simp
  have hM0 := Mh.made (w.alloc (.cells #[.slice none 0 0, .slice none 0 0] 41))
  have e0 : mtF [] = fun _ => none := by
    funext x
    exact mtF_no (by simp)
  rw [← e0] at hM0
  have b2 := ((Below.refl _ (w.alloc (.cells #[.slice none 0 0, .slice none 0 0] 41))).alloc (Nat.le_refl _) (.map #[] 0)).alloc (by simp) (.cells #[.pointer (some ⟨gp, 0, none⟩), .map (some (w.heap.size + 1)), .slice none 0 0] 84)
  have hk2 := alloc_snd (w.alloc (.cells #[.slice none 0 0, .slice none 0 0] 41)) (.map #[] 0) (.cells #[.pointer (some ⟨gp, 0, none⟩), .map (some (w.heap.size + 1)), .slice none 0 0] 84)
  have sz0 : (w.alloc (.cells #[.slice none 0 0, .slice none 0 0] 41)).heap.size = w.heap.size + 1 := by simp
  rw [sz0] at hM0 hk2
  have hM2 := hM0.same (w' := ((w.alloc (.cells #[.slice none 0 0, .slice none 0 0] 41)).alloc (.map #[] 0)).alloc (.cells #[.pointer (some ⟨gp, 0, none⟩), .map (some (w.heap.size + 1)), .slice none 0 0] 84)) (Below.heap_alloc _ _ _ (by simp))
  have H1 : Hid (Wkg (w.alloc (.cells #[.slice none 0 0, .slice none 0 0] 41)) (((w.alloc (.cells #[.slice none 0 0, .slice none 0 0] 41)).alloc (.map #[] 0)).alloc (.cells #[.pointer (some ⟨gp, 0, none⟩), .map (some (w.heap.size + 1)), .slice none 0 0] 84)) (w.heap.size + 1 + 1) (w.heap.size + 1) gp ([], []) (.slice none 0 0) []) :=
    ⟨hk2, ⟨by rw [sz0]; omega, by rw [sz0]; exact Nat.le_refl _⟩, hM2, World.ownsRow_nil _ _ _ _, rfl, fun x hx => by simp at hx, b2⟩
  have x6 := (b2.cell (p := ⟨gp, 6, none⟩) lgp).trans c6
  have hs1 : w.heap.size ≤ (((w.alloc (.cells #[.slice none 0 0, .slice none 0 0] 41)).alloc (.map #[] 0)).alloc (.cells #[.pointer (some ⟨gp, 0, none⟩), .map (some (w.heap.size + 1)), .slice none 0 0] 84)).heap.size := by simp; omega
  have KV := valuesG_any (meetG_any hg0 hv h5 S.T.length) (met_go _) H1.out (VOk.start _) (by simp) hv.l1 S.rs hr (some ⟨l.rb, 0, none⟩) 12 (hLv.kg (Kg.of (B := 0) b2)) (by omega)
  have hvl : Hid ((Vr4.vwW S.T S.wt S.rs).1.length = 12) := by
    show _ = _
    unfold Vr4.vwW
    rw [vls_len, List.length_map]
    exact hl12
  change Calls _ _ _ _ (fun e w' => ∃ vn' m' a2 c2, e = .returned (.slice a2 S.rs.length c2) ∧ w'.ownsRow _ 54 2 (.slice a2 S.rs.length c2) S.rs.length (ev (Vr4.vwW S.T S.wt S.rs).1) ∧ Wkg _ w' _ _ gp (Vr4.vwW S.T S.wt S.rs).2 vn' m' ∧ Kvg _ _ [] w' m' ∧ (∀ k, Fb m' k → some k ≠ (Value.slice a2 S.rs.length c2).ownBlock)) at KV
  rw [hl12] at KV
  clear hg hg0 hv h5 hr hLv hM0 hM2 hk2 e0 c6 H1 hl12
  generalize Vr4.vwW S.T S.wt S.rs = R at *
  obtain ⟨V, s⟩ := R
  dsimp only at *
  have HBA : Hid (_) := ba
  clear ba
  go_enter Tryz.func13, Tryz.ntmps13
  go_wp2_with fail
  refine KV.mono ?_
  clear KV
  rintro e w2 ⟨vn, m, a2, c2, rfl, hr2, hW2, hK2, _⟩
  obtain ⟨na, nc, e2⟩ := row_slice hW2.row
  subst e2
  have z2 := hW2.cells.2.2.1
  have hb2 := HBA.out.trans (hW2.bel.mono HBA.out.size)
  have hr3 := (hW2.bel.block _ lr0).trans hr0
  have y0 : w2.cell? ⟨w.heap.size, 0, none⟩ = some (.slice none 0 0) := by simp [World.cell?, hr3]
  have y1 : w2.cell? ⟨w.heap.size, 1, none⟩ = some (.slice none 0 0) := by simp [World.cell?, hr3]
  have f0 : w2.frozen? ⟨w.heap.size, 0, none⟩ = false := by simp [World.frozen?, hr3]
  have f1 : w2.frozen? ⟨w.heap.size, 1, none⟩ = false := by simp [World.frozen?, hr3]
  have l2 : w.heap.size < w2.heap.size := lt_of_some hr3
  have HW2 : Hid (_ ∧ _) := ⟨hW2, hr2⟩
  have hml : Hid (m.length = s.2.length) := hW2.len
  have HB2 : Hid (_) := hb2
  have HR3 : Hid (_ = _) := hr3
  have HFB : Hid (∀ k, Fb m k → w.heap.size ≤ k) := fun k hk => (hK2.2 k hk).elim (fun ⟨x, hx, _⟩ => by cases hx) (fun d => Nat.le_trans hs1 d)
  have HS1 : Hid (_ ≤ _) := hs1
  clear hW2 hr2 hK2 hb2 hr3 hr0 x6 HBA b2 hs1 sz0 lr0
  go_wp2_with fail
  obtain ⟨W0, hW0⟩ : ∃ W0, W0 = (w2.setCell ⟨w.heap.size, 0, none⟩ (.slice a2 12 c2)).setCell ⟨w.heap.size, 1, none⟩ (.slice na m.length nc) := ⟨_, rfl⟩
  rw [← hW0]
  have g0 : W0.cell? ⟨w.heap.size, 0, none⟩ = some (.slice a2 12 c2) := by
    rw [hW0, World.cell?_setCell_other _ _ _ _ (by simp)]
    exact World.cell?_setCell_same _ _ _ y0
  have g1 : W0.cell? ⟨w.heap.size, 1, none⟩ = some (.slice na m.length nc) := by
    rw [hW0]
    exact World.cell?_setCell_same _ _ _ ((World.cell?_setCell_other w2 ⟨w.heap.size, 0, none⟩ ⟨w.heap.size, 1, none⟩ _ (by simp)).trans y1)
  have hF : Fr (fun k => k = w.heap.size) w2 W0 := by rw [hW0]; exact ((Fr.refl (fun k => k = w.heap.size) w2).set w.heap.size 0 _ rfl).set w.heap.size 1 _ rfl
  clear hW0
  obtain ⟨hW2, hr2⟩ := HW2.out
  have eL : ∀ {ad : Option Addr} {L : List (Int × Int)}, Lv w2 ad L → Lp W0 ad L := fun {ad L} h => h.1.keep hF.size (fun hp b e => by
    obtain ⟨b0, o0, cs, e0, hb⟩ := h.2 hp
    rw [e0] at e
    cases e
    refine hF.block _ (lt_of_some hb) (fun c => ?_)
    have c : b0 = w.heap.size := c
    rw [c, HR3.out] at hb
    simp at hb)
  refine bodyPost_ret (v := .agg #[.slice a2 12 c2, .slice na m.length nc]) (by simp [results, Tryz.results13, go_sem, g0, g1]) rfl ⟨a2, c2, na, m.length, nc, rfl, ⟨eL (Lv.of (by rw [hvl.out]; exact hr2)), fun hp => ?_⟩, ⟨m, hW2.nd, fun x hx => eL (hW2.fl x hx), HFB.out, fun hp => ?_⟩, hml.out, HB2.out.trans (hF.below (Nat.le_of_lt l2) (fun k e => Nat.le_of_eq (Eq.symm e)))⟩
  · obtain ⟨b, cap, e⟩ := row_shape hr2 (by decide)
    cases e
    exact ⟨b, 0, rfl, Nat.le_trans HS1.out (row_lt hr2 b rfl).1⟩
  obtain ⟨b, cap, e⟩ := row_shape hW2.row hp
  cases e
  have hbs := (row_lt hW2.row b rfl).1
  simp at hbs
  obtain ⟨cur, hcur⟩ := row_type hW2.row b rfl
  have hne : b ≠ w.heap.size := fun c => by
    rw [c, HR3.out] at hcur
    simp at hcur
  refine ⟨b, 0, rfl, by omega, Nat.lt_of_lt_of_le (lt_of_some hcur) hF.size, fun i x hx => ?_⟩
  obtain ⟨n1, n2⟩ := nv_get m i x hx
  rw [Nat.zero_add]
  exact ⟨(World.cell?_of_block (a := ⟨b, i * 2, none⟩) (hF.block b (lt_of_some hcur) hne)).trans (row_cell hW2.row n1).1, (World.cell?_of_block (a := ⟨b, i * 2 + 1, none⟩) (hF.block b (lt_of_some hcur) hne)).trans (row_cell hW2.row n2).1⟩
end

end Go.Proofs.YtogknhogphkddaaGreat

/- SameVals, SameView of what is the same: contracts. -/
namespace Go.Proofs.YtogknhogphkddaaGreat
open Go.RowKit W Kp Stl

set_option maxRecDepth 100000 in
set_option maxHeartbeats 1000000 in
theorem sameVals_eq (a b : Option Addr) (ca cb : Nat) (l : List (Int × Int)) (w : World) (hm : l.length ≤ 100000) (ha : Lp w a l) (hb : Lp w b l) :
    Calls Tryz.prog 32 #[.slice a l.length ca, .slice b l.length cb] w fun e w' => e = .returned (.bool true) ∧ Below w.heap.size w w' := by
  have HA : Hid (Lp w a l) := ha
  have HB : Hid (Lp w b l) := hb
  clear ha hb
  go_enter Tryz.func32, Tryz.ntmps32
  go_wp2_with fail
  go_loopw [5] (fun iv wr => ∃ j : Nat, j ≤ l.length ∧ iv = .int .i64 j ∧ Below w.heap.size w wr) (fun iv _ => l.length - (intOf iv).toNat)
  case atStart => exact ⟨0, Nat.zero_le _, rfl, Below.refl _ _⟩
  case round =>
    obtain ⟨j, hj, rfl, hb⟩ := hrel
    by_cases hlt : j < l.length
    · obtain ⟨b0, o0, e0, hb0, hc⟩ := (HA.out.below hb) (by omega)
      obtain ⟨x1, x2⟩ := hc j hlt
      subst e0
      obtain ⟨b2, o2, e2, hb2, hc2⟩ := (HB.out.below hb) (by omega)
      obtain ⟨x3, x4⟩ := hc2 j hlt
      subst e2
      clear hc hc2
      generalize (l.getD j (0, 0)).1 = u at x1 x3
      generalize (l.getD j (0, 0)).2 = v at x2 x4
      have j0 : (0 : Int) ≤ (j : Int) := by omega
      have j1 : (j : Int) < (l.length : Int) := by omega
      go_wp2_with fail
      go_quiet (fail)
      go_wp2_with fail
      go_roundw
      case rel => exact ⟨j + 1, by omega, by go_num, by first | exact below_drewN hb _ | exact hb.drew | exact hb⟩
      case measure => simp [intOf]; omega
    · obtain rfl : j = l.length := by omega
      go_wp2_with fail
      go_ret
      exact ⟨rfl, hb⟩

end Go.Proofs.YtogknhogphkddaaGreat

/- SameView of what is the same: a contract. -/
namespace Go.Proofs.YtogknhogphkddaaGreat
open Go.RowKit W Kp Stl

theorem Ln.at {w : World} {ad : Option Addr} {ns : List (Int × List (Int × Int))} (h : Ln w ad ns) {i : Nat} (hi : i < ns.length) : ∃ b o fa fc, ad = some ⟨b, o, none⟩ ∧ b < w.heap.size ∧ w.cell? ⟨b, o + i * 2, none⟩ = some (.int .i64 (ns.getD i (0, [])).1) ∧ w.cell? ⟨b, o + i * 2 + 1, none⟩ = some (.slice fa (ns.getD i (0, [])).2.length fc) ∧ Lp w fa (ns.getD i (0, [])).2 := by
  obtain ⟨m, h1, h2, h3⟩ := h
  have hl : m.length = ns.length := by rw [← h1]; simp [nds]
  obtain ⟨b, o, e, hb, hc⟩ := h3 (by omega)
  obtain ⟨x, hx⟩ : ∃ x, m[i]? = some x := ⟨_, List.getElem?_eq_getElem (by omega)⟩
  have en : ns.getD i (0, []) = (x.1, x.2.2.2) := by
    subst h1
    rw [List.getD_eq_getElem?_getD, nds, List.getElem?_map, hx]
    rfl
  rw [en]
  exact ⟨b, o, _, _, e, hb, (hc i _ hx).1, (hc i _ hx).2, h2 _ (List.mem_of_getElem? hx)⟩

set_option maxRecDepth 100000 in
set_option maxHeartbeats 2000000 in
theorem sameView_eq (r1 r2 n1 n2 : Option Addr) (c1 c2 d1 d2 : Nat) (vs : List (Int × Int)) (ns : List (Int × List (Int × Int))) (w : World) (hm : vs.length ≤ 100000) (hl : ns.length ≤ 100000) (hf : ∀ nd ∈ ns, nd.2.length ≤ 100000) (h1 : Lp w r1 vs) (h2 : Lp w r2 vs) (h3 : Ln w n1 ns) (h4 : Ln w n2 ns) :
    Calls Tryz.prog 12 #[.agg #[.slice r1 vs.length c1, .slice n1 ns.length d1], .agg #[.slice r2 vs.length c2, .slice n2 ns.length d2]] w fun e w' => e = .returned (.bool true) ∧ Below w.heap.size w w' := by
  have ba := ((Below.refl w.heap.size w).alloc (Nat.le_refl _) (.cells #[.slice r1 vs.length c1, .slice n1 ns.length d1] 41)).alloc (by simp) (.cells #[.slice r2 vs.length c2, .slice n2 ns.length d2] 41)
  have k0 : ((w.alloc (.cells #[.slice r1 vs.length c1, .slice n1 ns.length d1] 41)).alloc (.cells #[.slice r2 vs.length c2, .slice n2 ns.length d2] 41)).cell? ⟨w.heap.size, 1, none⟩ = some (.slice n1 ns.length d1) := by simp [go_sem]
  have k1 : ((w.alloc (.cells #[.slice r1 vs.length c1, .slice n1 ns.length d1] 41)).alloc (.cells #[.slice r2 vs.length c2, .slice n2 ns.length d2] 41)).cell? ⟨w.heap.size + 1, 1, none⟩ = some (.slice n2 ns.length d2) := by simp [go_sem]
  have hs0 : ((w.alloc (.cells #[.slice r1 vs.length c1, .slice n1 ns.length d1] 41)).alloc (.cells #[.slice r2 vs.length c2, .slice n2 ns.length d2] 41)).heap.size = w.heap.size + 2 := by simp
  have P := sameVals_eq r1 r2 c1 c2 vs _ hm (h1.below ba) (h2.below ba)
  have H3 : Hid (∀ w', Below w.heap.size w w' → Ln w' n1 ns) := fun w' hb => h3.below hb
  have H4 : Hid (∀ w', Below w.heap.size w w' → Ln w' n2 ns) := fun w' hb => h4.below hb
  have HF : Hid (∀ nd ∈ ns, nd.2.length ≤ 100000) := hf
  clear h1 h2 h3 h4 hf
  go_enter Tryz.func12, Tryz.ntmps12
  go_wp2_with fail
  refine P.mono ?_
  clear P
  rintro e w1 ⟨rfl, hb1⟩
  have hB1 := ba.trans (hb1.mono (by omega))
  have hs1 := hb1.size
  rw [hs0] at hs1
  have x0 := (hb1.cell (p := ⟨w.heap.size, 1, none⟩) (by show w.heap.size < _; omega)).trans k0
  have x1 := (hb1.cell (p := ⟨w.heap.size + 1, 1, none⟩) (by show w.heap.size + 1 < _; omega)).trans k1
  clear ba k0 k1 hs0 hb1
  go_wp2_with fail
  go_loopw [5] (fun iv wr => ∃ j : Nat, j ≤ ns.length ∧ iv = .int .i64 j ∧ Below w1.heap.size w1 wr) (fun iv _ => ns.length - (intOf iv).toNat)
  case atStart => exact ⟨0, Nat.zero_le _, rfl, Below.refl _ _⟩
  case round =>
    obtain ⟨j, hj, rfl, hb⟩ := hrel
    have hsr := hb.size
    have hBr := hB1.trans (hb.mono (by omega))
    have y0 := (hb.cell (p := ⟨w.heap.size, 1, none⟩) (by show w.heap.size < _; omega)).trans x0
    have y1 := (hb.cell (p := ⟨w.heap.size + 1, 1, none⟩) (by show w.heap.size + 1 < _; omega)).trans x1
    have ly0 : w.heap.size < wr.heap.size := by omega
    have ly1 : w.heap.size + 1 < wr.heap.size := by omega
    by_cases hlt : j < ns.length
    · obtain ⟨b1, o1, fa1, fc1, e1, l1, z1, z2, z3⟩ := (H3.out wr hBr).at hlt
      obtain ⟨b2, o2, fa2, fc2, e2, l2, z4, z5, z6⟩ := (H4.out wr hBr).at hlt
      subst e1 e2
      have hfl : (ns.getD j (0, [])).2.length ≤ 100000 := HF.out _ (by rw [List.getD_eq_getElem?_getD, List.getElem?_eq_getElem hlt]; exact List.getElem_mem hlt)
      generalize (ns.getD j (0, [])).1 = kd at z1 z4
      generalize (ns.getD j (0, [])).2 = fs at z2 z3 z5 z6 hfl
      have j0 : (0 : Int) ≤ (j : Int) := by omega
      have j1 : (j : Int) < (ns.length : Int) := by omega
      have hd := (Below.refl wr.heap.size wr).drew
      have P := sameVals_eq fa1 fa2 fc1 fc2 fs wr.drew hfl (z3.below hd) (z6.below hd)
      clear z3 z6 x0 x1
      go_wp2_with fail
      go_region_held3 (fun w' => w'.cell? ⟨w.heap.size, 1, none⟩ = some (.slice (some ⟨b1, o1, none⟩) ns.length d1) ∧ w'.cell? ⟨w.heap.size + 1, 1, none⟩ = some (.slice (some ⟨b2, o2, none⟩) ns.length d2) ∧ w'.cell? ⟨b1, o1 + j * 2, none⟩ = some (.int .i64 kd) ∧ w'.cell? ⟨b1, o1 + j * 2 + 1, none⟩ = some (.slice fa1 fs.length fc1) ∧ w'.cell? ⟨b2, o2 + j * 2, none⟩ = some (.int .i64 kd) ∧ w'.cell? ⟨b2, o2 + j * 2 + 1, none⟩ = some (.slice fa2 fs.length fc2)) (first | exact ⟨y0, y1, z1, z2, z4, z5⟩ | exact ⟨u0, u1, u2, u3, u4, u5⟩ | go_keep)
        (first | (go_at_call 32; refine P.mono ?_; rintro e w3 ⟨rfl, hb3'⟩; have hb3 : Below wr.heap.size wr w3 := hd.trans hb3'; have u0 := (hb3.cell (p := ⟨w.heap.size, 1, none⟩) ly0).trans y0; have u1 := (hb3.cell (p := ⟨w.heap.size + 1, 1, none⟩) ly1).trans y1; have u2 := (hb3.cell (p := ⟨b1, o1 + j * 2, none⟩) l1).trans z1; have u3 := (hb3.cell (p := ⟨b1, o1 + j * 2 + 1, none⟩) l1).trans z2; have u4 := (hb3.cell (p := ⟨b2, o2 + j * 2, none⟩) l2).trans z4; have u5 := (hb3.cell (p := ⟨b2, o2 + j * 2 + 1, none⟩) l2).trans z5))
      have hbN : Below w1.heap.size w1 w3 := hb.trans (hb3.mono hsr)
      clear P u0 u1 u2 u3 u4 u5 y0 y1 z1 z2 z4 z5 hb3 hb3' hd
      go_wp2_with fail
      go_roundw
      case rel => exact ⟨j + 1, by omega, by go_num, hbN⟩
      case measure => simp [intOf]; omega
    · obtain rfl : j = ns.length := by omega
      go_wp2_with fail
      go_ret
      exact ⟨rfl, hBr⟩

end Go.Proofs.YtogknhogphkddaaGreat

/- A wood: New: a contract. -/
namespace Go.Proofs.YtogknhogphkddaaGreat
open Go.RowKit W

set_option maxRecDepth 100000 in
set_option maxHeartbeats 1000000 in
theorem newW_yes (n o : Nat) (w : World) (h0 : 16 ≤ n) (h1 : n ≤ 256) (h3 : o ≤ 1024) :
    Calls Tryz.prog 35 #[.int .i64 n, .int .i64 o] w fun e w' => ∃ pw p q pc pq s nb, e = .returned (.tuple #[.pointer (some ⟨pw, 0, none⟩), .agg #[.int .i64 0, .int .i64 0]]) ∧ Wod w' pw p q pc pq n o 0 0 (List.replicate (n + o) 0) (nC o) [] (.pointer (some ⟨s, 0, none⟩)) (.slice (some ⟨nb, 0, none⟩) 12 12) ∧ w'.heap[s]? = some (.cells #[.slice none 0 0, .slice none 0 0] 51 (0, 0)) ∧ w'.heap[nb]? = some (.cells ((tw 2 12).map (Value.int .i64)).toArray 2 (0, 0)) ∧
      (w.heap.size ≤ pw ∧ w.heap.size ≤ p ∧ w.heap.size ≤ q ∧ w.heap.size ≤ pc ∧ w.heap.size ≤ pq ∧ w.heap.size ≤ s ∧ w.heap.size ≤ nb) ∧ Below w.heap.size w w' := by
  have hba := (Below.refl w.heap.size w).alloc (Nat.le_refl _) (.cells #[.int .i64 0, .int .i64 0] 26)
  have hr0 := heap_alloc_new w (.cells #[.int .i64 0, .int .i64 0] 26)
  have P := new_yes n o (w.alloc (.cells #[.int .i64 0, .int .i64 0] 26)) (by omega) (by omega) (by omega) (by omega)
  simp only [Int.toNat_natCast] at P
  go_enter Tryz.func35, Tryz.ntmps35
  go_wp2_with fail
  refine P.mono ?_
  clear P
  rintro e w1 ⟨p, q, rfl, hA1, hp, hq, hb1⟩
  have hr1 := (hb1.block w.heap.size (by simp)).trans hr0
  have hB1 := hba.trans (hb1.mono (by simp))
  simp at hp hq
  have hs1 := hb1.size
  simp at hs1
  have hA2 := hA1.alloc (.cells #[.int .i64 0, .int .i64 0] 26)
  have hba2 := (Below.refl w1.heap.size w1).alloc (Nat.le_refl _) (.cells #[.int .i64 0, .int .i64 0] 26)
  have hB2 := hB1.trans (hba2.mono (by omega))
  clear hb1 hr0 hba
  go_wp2_with fail
  refine (bounds_any _ hA2).mono ?_
  rintro e w3 ⟨rfl, hb3⟩
  have hA3 := hA2.below hb3 (Nat.le_refl _)
  have hB3 := hB2.trans (hb3.mono (by simp; omega))
  have hs3 := hb3.size
  simp at hs3
  have hr3 := ((hb3.block w.heap.size (by simp; omega)).trans (hba2.block w.heap.size (by omega))).trans hr1
  clear hA1 hA2 hb3 hba2 hr1
  go_wp2_with fail
  refine (newC_any n o w3 (by omega)).mono ?_
  rintro e w4 ⟨pc, pq, rfl, hC4, hpc, hpq, hb4⟩
  have hA4 := hA3.below hb4 (Nat.le_refl _)
  have hB4 := hB3.trans (hb4.mono (by omega))
  have hs4 := hb4.size
  have hr4 := (hb4.block w.heap.size (by omega)).trans hr3
  clear hA3 hb4 hr3
  go_wp2_with fail
  have hba5 := (Below.refl w4.heap.size w4).alloc (Nat.le_refl _) (.cells #[.slice none 0 0, .slice none 0 0] 51)
  have hsd5 := heap_alloc_new w4 (.cells #[.slice none 0 0, .slice none 0 0] 51)
  refine (nil_any _).mono ?_
  rintro e w5 ⟨rfl, hw⟩
  have sz5 : w5.heap.size = w4.heap.size + 1 := by rw [hw]; simp
  rw [← hw] at hba5 hsd5
  clear hw
  have hA5 := hA4.below hba5 (Nat.le_refl _)
  have hC5 := hC4.below hba5 (Nat.le_refl _)
  have hB5 := hB4.trans (hba5.mono (by omega))
  have hr5 := (hba5.block w.heap.size (by omega)).trans hr4
  clear hA4 hC4 hr4 hba5
  go_wp2_with fail
  have hba6 := (Below.refl w5.heap.size w5).alloc (Nat.le_refl _) (.cells #[.int .i64 2] 2)
  refine (repeat12_any _ (w4.heap.size + 1) 2 (by rw [← sz5]; simp)).mono ?_
  rintro e w6 ⟨nb, rfl, hnb, hrow, hb6⟩
  have hb56 := hba6.trans (hb6.mono (by simp))
  have hA6 := hA5.below hb56 (Nat.le_refl _)
  have hC6 := hC5.below hb56 (Nat.le_refl _)
  have hB6 := hB5.trans (hb56.mono (by omega))
  have hr6 := (hb56.block w.heap.size (by omega)).trans hr5
  have hsd6 := (hb56.block w4.heap.size (by omega)).trans hsd5
  have hs6 := hb56.size
  have hnb' : w.heap.size < nb := by simp at hnb; omega
  have hnl := lt_of_some hrow
  have y0 : w6.cell? ⟨w.heap.size, 0, none⟩ = some (.int .i64 0) := by simp [World.cell?, hr6]
  have y1 : w6.cell? ⟨w.heap.size, 1, none⟩ = some (.int .i64 0) := by simp [World.cell?, hr6]
  have f0 : w6.frozen? ⟨w.heap.size, 0, none⟩ = false := by simp [World.frozen?, hr6]
  have f1 : w6.frozen? ⟨w.heap.size, 1, none⟩ = false := by simp [World.frozen?, hr6]
  have l6 : w.heap.size < w6.heap.size := by omega
  clear hA5 hC5 hr5 hsd5 hb6 hb56 hba6 hnb
  go_wp2_with fail
  obtain ⟨W0, hW0⟩ : ∃ W0, W0 = (w6.setCell ⟨w.heap.size, 0, none⟩ (.int .i64 0)).setCell ⟨w.heap.size, 1, none⟩ (.int .i64 0) := ⟨_, rfl⟩
  rw [← hW0]
  have sz0 : W0.heap.size = w6.heap.size := by rw [hW0]; simp [World.setCell]
  have k0 : ∀ k, k ≠ w.heap.size → W0.heap[k]? = w6.heap[k]? := fun k hk => by rw [hW0]; exact (Below.heap_setCell _ _ _ _ hk).trans (Below.heap_setCell _ _ _ _ hk)
  have g0 : W0.cell? ⟨w.heap.size, 0, none⟩ = some (.int .i64 0) := by
    rw [hW0, World.cell?_setCell_other _ _ _ _ (by simp)]
    exact World.cell?_setCell_same _ _ _ y0
  have g1 : W0.cell? ⟨w.heap.size, 1, none⟩ = some (.int .i64 0) := by
    rw [hW0]
    exact World.cell?_setCell_same _ _ _ ((World.cell?_setCell_other w6 ⟨w.heap.size, 0, none⟩ ⟨w.heap.size, 1, none⟩ _ (by simp)).trans y1)
  have hF0 : Below w.heap.size w W0 := by
    rw [hW0]
    exact hB6.trans ((((Fr.refl (fun k => k = w.heap.size) w6).set w.heap.size 0 _ rfl).set w.heap.size 1 _ rfl).below (Nat.le_of_lt l6) (fun x e => by have e : x = w.heap.size := e; omega))
  have hn0 := heap_alloc_new W0 (.cells #[.pointer (some ⟨p, 0, none⟩), .pointer (some ⟨pc, 0, none⟩), .pointer (some ⟨w4.heap.size, 0, none⟩), .slice (some ⟨nb, 0, none⟩) 12 12] 122)
  rw [sz0] at hn0
  have hbN := (Below.refl W0.heap.size W0).alloc (Nat.le_refl _) (.cells #[.pointer (some ⟨p, 0, none⟩), .pointer (some ⟨pc, 0, none⟩), .pointer (some ⟨w4.heap.size, 0, none⟩), .slice (some ⟨nb, 0, none⟩) 12 12] 122)
  have hA7 := (hA6.same (w' := W0) (k0 p (by omega)) (k0 q (by omega))).below hbN (Nat.le_refl _)
  have hC7 := (hC6.same (w' := W0) (k0 pc (by omega)) (k0 pq (by omega))).below hbN (Nat.le_refl _)
  have hsd7 := ((hbN.block w4.heap.size (by omega)).trans (k0 _ (by omega))).trans hsd6
  have hrow7 := ((hbN.block nb (by omega)).trans (k0 _ (by omega))).trans hrow
  have r0 := (hbN.cell (p := ⟨w.heap.size, 0, none⟩) (by show w.heap.size < _; omega)).trans g0
  have r1 := (hbN.cell (p := ⟨w.heap.size, 1, none⟩) (by show w.heap.size < _; omega)).trans g1
  have hfin := hF0.trans (hbN.mono (by omega))
  clear y0 y1 f0 f1 hW0
  generalize W0.alloc (.cells #[.pointer (some ⟨p, 0, none⟩), .pointer (some ⟨pc, 0, none⟩), .pointer (some ⟨w4.heap.size, 0, none⟩), .slice (some ⟨nb, 0, none⟩) 12 12] 122) = WF at *
  refine bodyPost_ret (v := .tuple #[.pointer (some ⟨w6.heap.size, 0, none⟩), .agg #[.int .i64 0, .int .i64 0]]) (by simp [results, Tryz.results35, go_sem, r0, r1]) rfl ⟨w6.heap.size, p, q, pc, pq, w4.heap.size, nb, rfl, ⟨hn0, hA7, hC7⟩, hsd7, hrow7, ⟨by omega, by omega, by omega, by omega, by omega, by omega, by omega⟩, hfin⟩

end Go.Proofs.YtogknhogphkddaaGreat
