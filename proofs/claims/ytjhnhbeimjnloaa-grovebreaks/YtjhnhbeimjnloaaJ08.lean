/- Joined: Gb2, Gs1, Szp, Gb3, Bxp. -/
import Derived.Test.YtjhnhbeimjnloaaJ07
import Derived.Test.YtjhnhbeimjnloaaJ03
import Derived.Test.YtjhnhbeimjnloaaJ00
import Derived.Test.YtjhnhbeimjnloaaJ06
/- GroveBreaks: what a view shows of things; the least set over its nodes is that of a great cut: lists alone. -/
namespace Go.Proofs.Ytjhnhbeimjnloaa
open Go.RowKit W Kp Stl

theorem Wls.same {WR : Int → Int → Prop} : ∀ {l : List Int}, (∀ x ∈ l, WR x x) → Wls WR l l
  | [], _ => trivial
  | x :: l, h => ⟨h x (by simp), Wls.same (fun y hy => h y (List.mem_cons_of_mem _ hy))⟩
theorem walk_in {T : List Int} {kd : Int → Int} {sh : Int → List Int} {C : Int → Prop} (hC : ∀ a, C a → a ∈ T) (hS : ∀ a, C a → ∀ x ∈ sh a, dk x = 3 → C (dn x)) (l : List Int) (hl : ∀ x ∈ l, dk x = 3 → C (dn x)) : ∀ a ∈ (vls (met T kd sh T.length) T ([], []) l).2.1, C a := by
  have wm : ∀ x, (dk x = 3 → C (dn x)) → Wmv C id x x := fun x hx => by
    by_cases c : dk x = 3
    · exact Or.inl ⟨c, c, hx c, rfl⟩
    · exact Or.inr ⟨c, rfl, rfl⟩
  have B : Bi C id T kd sh T kd sh := ⟨hC, hC, fun _ _ _ _ e => e, fun _ _ => rfl, fun a ha => Wls.same (fun x hx => wm x (hS a ha x hx))⟩
  have := vls_bi B (met_go T.length) (met_go T.length) (met_bi B T.length T.length) l l ([], ([], [])) ([], ([], [])) (Wls.same (fun x hx => wm x (hl x hx))) rfl ⟨VOk.start T, VOk.start T, rfl, rfl, fun a ha => by cases ha⟩ (by simp) (by simp)
  exact this.2.rs

def nvv (ms : List Int) (v : Int × Int) : Int × Int := if v.1 = 3 then (3, (ms.idxOf v.2 : Int)) else v
theorem swn_wI {T : List Tw1} {ms : List Int} {v : Int × Int} (h : Vq T v) : swn ms (wI v) = nvv ms v := by
  unfold swn nvv
  rw [(wI_dec h).1, (wI_dec h).2]
structure Vis (T : List Tw1) (rs : List (Int × Int)) (V : List (Int × Int)) (ms : List Int) (ns : List (Int × List (Int × Int))) : Prop where
  nd : ms.Nodup
  al : ∀ a ∈ ms, 0 ≤ a ∧ Alv T a.toNat
  len : ns.length = ms.length
  vl : V = rs.map (nvv ms)
  rf : ∀ v ∈ rs, v.1 = 3 → v.2 ∈ ms
  nw : ∀ i, i < ms.length → ns.getD i (0, []) = ((T.getD (ms.getD i 0).toNat t0).1, (T.getD (ms.getD i 0).toNat t0).2.1.map (nvv ms))
  nf : ∀ a ∈ ms, ∀ v ∈ (T.getD a.toNat t0).2.1, v.1 = 3 → v.2 ∈ ms
theorem shW_nil (T : List Tw1) (a : Int) : shW T [] a = (T.getD a.toNat t0).2.1.map wI := by
  unfold shW
  simp
theorem vis_of {T : List Tw1} {rs : List (Int × Int)} (hw : Wvw T []) (hr : ∀ v ∈ rs, Vq T v) : Vis T rs (Vr4.vwW T [] rs).1 (Vr4.vwW T [] rs).2.1 (Vr4.vwW T [] rs).2.2 := by
  have hC : ∀ a, (0 ≤ a ∧ Alv T a.toNat) → a ∈ tI T.length := fun a ha => tI_mem.2 ⟨ha.1, by have := ha.2.1; omega⟩
  have hx : ∀ l : List (Int × Int), (∀ v ∈ l, Vq T v) → ∀ x ∈ l.map wI, dk x = 3 → (0 ≤ dn x ∧ Alv T (dn x).toNat) := fun l hl x hx h3 => by
    obtain ⟨v, hv, rfl⟩ := List.mem_map.1 hx
    have h := hl v hv
    rw [(wI_dec h).1] at h3
    rw [(wI_dec h).2]
    exact h.2 h3
  have hS : ∀ a : Int, (0 ≤ a ∧ Alv T a.toNat) → ∀ x ∈ shW T [] a, dk x = 3 → (0 ≤ dn x ∧ Alv T (dn x).toNat) := fun a ha x h => by
    rw [shW_nil] at h
    exact hx _ (hw.fv a.toNat ha.2) x h
  have S := walk_shp (kd := kdW T) hC hS (rs.map wI) (hx rs hr)
  have A := walk_in (kd := kdW T) hC hS (rs.map wI) (hx rs hr)
  rw [tI_len] at S A
  change Shp _ _ _ _ (Vr4.vwW T [] rs).2 _ (Vr4.vwW T [] rs).1 at S
  change ∀ a ∈ (Vr4.vwW T [] rs).2.1, _ at A
  generalize Vr4.vwW T [] rs = R at *
  obtain ⟨V, ms, ns⟩ := R
  dsimp only at *
  have gm : ∀ i, i < ms.length → ms.getD i 0 ∈ ms := fun i hi => getD_in hi
  have mp : ∀ l : List (Int × Int), (∀ v ∈ l, Vq T v) → (l.map wI).map (swn ms) = l.map (nvv ms) := fun l hl => by
    rw [List.map_map]
    exact List.map_congr_left (fun v hv => swn_wI (hl v hv))
  refine ⟨S.ok.nd, A, S.ok.len, ?_, fun v hv h3 => ?_, fun i hi => ?_, fun a ha v hv h3 => ?_⟩
  · rw [S.vl]
    exact mp rs hr
  · have h := hr v hv
    have := S.ref (wI v) (List.mem_map.2 ⟨v, hv, rfl⟩) (by rw [(wI_dec h).1]; exact h3)
    rwa [(wI_dec h).2] at this
  · have h1 := (S.nw i (by simp) hi).1
    dsimp only at h1
    rw [List.getD_eq_getElem?_getD, h1, shW_nil, mp _ (hw.fv _ (A _ (gm i hi)).2)]
    rfl
  · have h := hw.fv _ (A a ha).2 v hv
    have := (S.node ha).2.2 (wI v) (by rw [shW_nil]; exact List.mem_map.2 ⟨v, hv, rfl⟩) (by rw [(wI_dec h).1]; exact h3)
    rwa [(wI_dec h).2] at this

section
variable {T : List Tw1} {rs V : List (Int × Int)} {ms : List Int} {ns : List (Int × List (Int × Int))}
theorem idx_getD {ms : List Int} (h : ms.Nodup) {i : Nat} (hi : i < ms.length) : ms.idxOf (ms.getD i 0) = i := by
  rw [List.getD_eq_getElem?_getD, List.getElem?_eq_getElem hi]
  exact h.idxOf_getElem i hi
theorem getD_idx {ms : List Int} {a : Int} (ha : a ∈ ms) : ms.getD (ms.idxOf a) 0 = a := by
  have hi := List.idxOf_lt_length_of_mem ha
  rw [List.getD_eq_getElem?_getD, List.getElem?_eq_getElem hi, List.getElem_idxOf]
  rfl
theorem Vis.node (h : Vis T rs V ms ns) {a : Int} (ha : a ∈ ms) : ms.idxOf a < ns.length ∧ ns.getD (ms.idxOf a) (0, []) = ((T.getD a.toNat t0).1, (T.getD a.toNat t0).2.1.map (nvv ms)) := by
  have hi := List.idxOf_lt_length_of_mem ha
  have := h.nw _ hi
  rw [getD_idx ha] at this
  exact ⟨by rw [h.len]; exact hi, this⟩
theorem nvv_vq (hl : ns.length = ms.length) (hs : ms.length ≤ 10000) {v : Int × Int} (hv : Vq T v) (hm : v.1 = 3 → v.2 ∈ ms) : Vq (nT ns) (nvv ms v) := by
  unfold nvv
  split
  · rename_i c
    have hi := List.idxOf_lt_length_of_mem (hm c)
    exact ⟨vc3_in _ (by dsimp only; omega) (by dsimp only; omega), fun _ => ⟨by dsimp only; omega, (nT_alv ns _).2 (by dsimp only; omega)⟩⟩
  · rename_i c
    exact ⟨hv.1, fun e => absurd e c⟩
theorem Vis.nvw (h : Vis T rs V ms ns) (hw : Wvw T []) (hr : ∀ v ∈ rs, Vq T v) (hl : rs.length = 12) (hk : ∀ i, Alv T i → 1 ≤ (T.getD i t0).1 ∧ (T.getD i t0).1 ≤ 5) (h2 : ∀ i, Alv T i → (T.getD i t0).1 = 3 ∨ (T.getD i t0).1 = 4 → (T.getD i t0).2.1.length = 2) (h5 : ∀ i, Alv T i → (T.getD i t0).1 = 5 → (T.getD i t0).2.1 = []) : Nvw V ns := by
  have hn : ms.length ≤ 10000 := by
    have hle : ms.length ≤ (tI T.length).length := h.nd.length_le_of_subset (fun a ha => tI_mem.2 ⟨(h.al a ha).1, by have := (h.al a ha).2.1; have := (h.al a ha).1; omega⟩)
    rw [tI_len] at hle
    exact Nat.le_trans hle hw.l1
  have gm : ∀ i, i < ns.length → ms.getD i 0 ∈ ms := fun i hi => getD_in (by rw [← h.len]; exact hi)
  refine ⟨fun v hv => ?_, fun i hi v hv => ?_, fun i hi => ?_, fun i hi hq => ?_, fun i hi hq => ?_, fun i hi => ?_, by rw [h.len]; exact hn, by rw [h.vl, List.length_map]; exact hl⟩
  · rw [h.vl] at hv
    obtain ⟨u, hu, rfl⟩ := List.mem_map.1 hv
    exact nvv_vq h.len hn (hr u hu) (h.rf u hu)
  · have ha := gm i hi
    rw [h.nw i (by rw [← h.len]; exact hi)] at hv
    obtain ⟨u, hu, rfl⟩ := List.mem_map.1 hv
    exact nvv_vq h.len hn (hw.fv _ (h.al _ ha).2 u hu) (h.nf _ ha u hu)
  · rw [h.nw i (by rw [← h.len]; exact hi)]
    exact hk _ (h.al _ (gm i hi)).2
  · rw [h.nw i (by rw [← h.len]; exact hi)] at hq ⊢
    dsimp only
    rw [List.length_map]
    exact h2 _ (h.al _ (gm i hi)).2 hq
  · rw [h.nw i (by rw [← h.len]; exact hi)] at hq ⊢
    dsimp only
    rw [h5 _ (h.al _ (gm i hi)).2 hq]
    rfl
  · rw [h.nw i (by rw [← h.len]; exact hi)]
    dsimp only
    rw [List.length_map]
    exact hw.tl _
theorem kps_node (h : Vis T rs V ms ns) {a : Int} (ha : a ∈ ms) {X Y : Nat → Prop} (hXY : ∀ b ∈ ms, X b.toNat → Y (ms.idxOf b)) (hfl : (T.getD a.toNat t0).1 = 3 ∨ (T.getD a.toNat t0).1 = 4 → (T.getD a.toNat t0).2.1.length = 2) {v : Int × Int} (hv : Kps T [] X a.toNat v) : v ∈ (T.getD a.toNat t0).2.1 ∧ Kps (nT ns) [] Y (ms.idxOf a) (nvv ms v) := by
  obtain ⟨n1, n2⟩ := h.node ha
  have hf := h.nf a ha
  unfold Kps at hv ⊢
  rw [nT_at ns _ n1, n2]
  generalize T.getD a.toNat t0 = t at *
  obtain ⟨kd, fs, od, dd⟩ := t
  dsimp only at *
  have gd : ∀ q, q < fs.length → (fs.map (nvv ms)).getD q (0, 0) = nvv ms (fs.getD q (0, 0)) := fun q hq => by
    rw [List.getD_eq_getElem?_getD, List.getElem?_map, List.getD_eq_getElem?_getD, List.getElem?_eq_getElem hq]
    rfl
  rcases hv with ⟨c, hm⟩ | ⟨c, e⟩ | ⟨c, h0, e⟩ | ⟨_, e0, he, _⟩
  · exact ⟨hm, Or.inl ⟨c, List.mem_map.2 ⟨v, hm, rfl⟩⟩⟩
  · have hl := hfl (Or.inl c)
    refine ⟨by rw [e]; exact getD_in (by omega), Or.inr (Or.inl ⟨c, ?_⟩)⟩
    rw [gd 1 (by omega), e]
  · have hl := hfl (Or.inr c)
    refine ⟨by rw [e]; exact getD_in (by omega), Or.inr (Or.inr (Or.inl ⟨c, ?_, ?_⟩))⟩
    · rw [gd 0 (by omega)]
      intro h3
      unfold nvv at h3 ⊢
      by_cases c3 : (fs.getD 0 (0, 0)).1 = 3
      · rw [if_pos c3]
        dsimp only
        rw [Int.toNat_natCast]
        exact hXY _ (hf _ (getD_in (by omega)) c3) (h0 c3)
      · rw [if_neg c3] at h3
        exact absurd h3 c3
    · rw [gd 1 (by omega), e]
  · cases he
theorem kps_thing (h : Vis T rs V ms ns) {a : Int} (ha : a ∈ ms) {X Y : Nat → Prop} (hXY : ∀ b ∈ ms, Y (ms.idxOf b) → X b.toNat) (hfl : (T.getD a.toNat t0).1 = 3 ∨ (T.getD a.toNat t0).1 = 4 → (T.getD a.toNat t0).2.1.length = 2) {u : Int × Int} (hu : Kps (nT ns) [] Y (ms.idxOf a) u) : ∃ v ∈ (T.getD a.toNat t0).2.1, u = nvv ms v ∧ Kps T [] X a.toNat v := by
  obtain ⟨n1, n2⟩ := h.node ha
  have hf := h.nf a ha
  unfold Kps at hu ⊢
  rw [nT_at ns _ n1, n2] at hu
  generalize T.getD a.toNat t0 = t at *
  obtain ⟨kd, fs, od, dd⟩ := t
  dsimp only at *
  have gd : ∀ q, q < fs.length → (fs.map (nvv ms)).getD q (0, 0) = nvv ms (fs.getD q (0, 0)) := fun q hq => by
    rw [List.getD_eq_getElem?_getD, List.getElem?_map, List.getD_eq_getElem?_getD, List.getElem?_eq_getElem hq]
    rfl
  rcases hu with ⟨c, hm⟩ | ⟨c, e⟩ | ⟨c, h0, e⟩ | ⟨_, e0, he, _⟩
  · obtain ⟨v, hv, rfl⟩ := List.mem_map.1 hm
    exact ⟨v, hv, rfl, Or.inl ⟨c, hv⟩⟩
  · have hl := hfl (Or.inl c)
    rw [gd 1 (by omega)] at e
    exact ⟨fs.getD 1 (0, 0), getD_in (by omega), e, Or.inr (Or.inl ⟨c, rfl⟩)⟩
  · have hl := hfl (Or.inr c)
    rw [gd 1 (by omega)] at e
    refine ⟨fs.getD 1 (0, 0), getD_in (by omega), e, Or.inr (Or.inr (Or.inl ⟨c, fun c3 => ?_, rfl⟩))⟩
    rw [gd 0 (by omega)] at h0
    unfold nvv at h0
    rw [if_pos c3] at h0
    dsimp only at h0
    rw [Int.toNat_natCast] at h0
    exact hXY _ (hf _ (getD_in (by omega)) c3) (h0 rfl)
  · cases he
theorem least_same (h : Vis T rs V ms ns) (h2 : ∀ i, Alv T i → (T.getD i t0).1 = 3 ∨ (T.getD i t0).1 = 4 → (T.getD i t0).2.1.length = 2) (hr : ∀ v ∈ rs, Vq T v) {L In : List Bool} (hL : Grn T [] (frs T rs true) L) (hI : Grn (nT ns) [] (frs (nT ns) V true) In) {a : Int} (ha : a ∈ ms) : Ls_ In (ms.idxOf a) ↔ Ls_ L a.toNat := by
  have gm : ∀ i, i < ns.length → ms.getD i 0 ∈ ms := fun i hi => getD_in (by rw [← h.len]; exact hi)
  have idn : ∀ {b c : Int}, b ∈ ms → c ∈ ms → b.toNat = c.toNat → b = c := fun {b c} hb hc e => by
    have := (h.al b hb).1
    have := (h.al c hc).1
    omega
  constructor
  · intro q
    have key := hI.lt (fun i => i < ns.length ∧ Ls_ L (ms.getD i 0).toNat) (fun i hi hX u hu h3 => ?_) (fun i hi => ?_) _ q
    · have := key.2
      rwa [getD_idx ha] at this
    · rw [nT_len] at hi
      have hm := gm i hi
      have ei := idx_getD h.nd (show i < ms.length by rw [← h.len]; exact hi)
      rw [← ei] at hu
      obtain ⟨v, hv, e, hk⟩ := kps_thing h hm (X := Ls_ L) (fun b hb hY => by
        have := hY.2
        rwa [getD_idx hb] at this) (h2 _ (h.al _ hm).2) hu
      subst e
      unfold nvv at h3 ⊢
      by_cases c3 : v.1 = 3
      · have hvm := h.nf _ hm v hv c3
        rw [if_pos c3]
        dsimp only
        rw [Int.toNat_natCast, getD_idx hvm]
        exact ⟨by rw [h.len]; exact List.idxOf_lt_length_of_mem hvm, hL.cl _ (h.al _ hm).2.1 hX.2 v hk c3⟩
      · rw [if_neg c3] at h3
        exact absurd h3 c3
    · obtain ⟨_, g2⟩ := (frs_in _ _ _ _).1 hi
      rcases g2 with ⟨_, _, c⟩ | ⟨u, hu, h3, e⟩
      · cases c
      · rw [h.vl] at hu
        obtain ⟨v, hv, rfl⟩ := List.mem_map.1 hu
        unfold nvv at h3 e
        by_cases c3 : v.1 = 3
        · have hvm := h.rf v hv c3
          rw [if_pos c3] at e
          dsimp only at e
          rw [Int.toNat_natCast] at e
          rw [← e, getD_idx hvm]
          exact ⟨by rw [h.len]; exact List.idxOf_lt_length_of_mem hvm, hL.up _ ((frs_in _ _ _ _).2 ⟨((hr v hv).2 c3).2.1, Or.inr ⟨v, hv, c3, rfl⟩⟩)⟩
        · rw [if_neg c3] at h3
          exact absurd h3 c3
  · intro q
    have key := hL.lt (fun i => ∃ b ∈ ms, b.toNat = i ∧ Ls_ In (ms.idxOf b)) (fun i hi hX v hv h3 => ?_) (fun i hi => ?_) _ q
    · obtain ⟨b, hb, e, hq⟩ := key
      rw [idn hb ha e] at hq
      exact hq
    · obtain ⟨b, hb, e, hq⟩ := hX
      rw [← e] at hv
      obtain ⟨hm, hk⟩ := kps_node h hb (Y := Ls_ In) (fun c hc ⟨d, hd, e2, h4⟩ => by rw [idn hd hc e2] at h4; exact h4) (h2 _ (h.al _ hb).2) hv
      have hvm := h.nf b hb v hm h3
      have := hI.cl _ (by rw [nT_len, h.len]; exact List.idxOf_lt_length_of_mem hb) hq _ hk (by unfold nvv; rw [if_pos h3])
      unfold nvv at this
      rw [if_pos h3] at this
      dsimp only at this
      rw [Int.toNat_natCast] at this
      exact ⟨v.2, hvm, rfl, this⟩
    · obtain ⟨_, g2⟩ := (frs_in _ _ _ _).1 hi
      rcases g2 with ⟨_, _, c⟩ | ⟨v, hv, h3, e⟩
      · cases c
      · have hvm := h.rf v hv h3
        refine ⟨v.2, hvm, e, hI.up _ ((frs_in _ _ _ _).2 ⟨by rw [nT_len, h.len]; exact List.idxOf_lt_length_of_mem hvm, Or.inr ⟨nvv ms v, by rw [h.vl]; exact List.mem_map.2 ⟨v, hv, rfl⟩, ?_, ?_⟩⟩)⟩
        · unfold nvv
          rw [if_pos h3]
        · unfold nvv
          rw [if_pos h3]
          dsimp only
          rw [Int.toNat_natCast]
end

end Go.Proofs.Ytjhnhbeimjnloaa

/- Sums over things, in whatever order. -/
namespace Go.Proofs.Ytjhnhbeimjnloaa
open Go.RowKit W Kp Stl

def sm_ (f : Nat → Int) : Nat → Int
  | 0 => 0
  | n + 1 => sm_ f n + f n
theorem sm_congr {f g : Nat → Int} : ∀ n, (∀ i, i < n → f i = g i) → sm_ f n = sm_ g n
  | 0, _ => rfl
  | n + 1, h => by rw [sm_, sm_, sm_congr n (fun i hi => h i (by omega)), h n (by omega)]
theorem sm_zero : ∀ n, sm_ (fun _ => 0) n = 0
  | 0 => rfl
  | n + 1 => by rw [sm_, sm_zero n]; rfl
theorem sm_step {f g : Nat → Int} {k : Nat} (hne : ∀ i, i ≠ k → f i = g i) : ∀ n, k < n → sm_ g n = sm_ f n + (g k - f k)
  | 0, h => by omega
  | n + 1, h => by
    rw [sm_, sm_]
    by_cases e : k = n
    · subst e
      rw [sm_congr k (fun i hi => hne i (by omega))]
      omega
    · rw [sm_step hne n (by omega), hne n (by omega)]
      omega
theorem sm_bd {f : Nat → Int} (h : ∀ i, 0 ≤ f i ∧ f i ≤ 13) : ∀ n, 0 ≤ sm_ f n ∧ sm_ f n ≤ 13 * n
  | 0 => ⟨Int.le_refl _, Int.le_refl _⟩
  | n + 1 => by
    have h1 := sm_bd h n
    have h2 := h n
    rw [sm_]
    omega
def ywd (T : List Tw1) (i : Nat) : Int := if (T.getD i t0).2.2.2 = true then 0 else if (T.getD i t0).2.2.1 = true then 0 else 1 + (T.getD i t0).2.1.length
def owd (T : List Tw1) (i : Nat) : Int := if (T.getD i t0).2.2.2 = true then 0 else if (T.getD i t0).2.2.1 = true then 1 + (T.getD i t0).2.1.length else 0
theorem usd_sm (T : List Tw1) : usd T = (sm_ (ywd T) T.length, sm_ (owd T) T.length) := by
  have key : ∀ n, n ≤ T.length → usd (T.take n) = (sm_ (ywd T) n, sm_ (owd T) n) := fun n => by
    induction n with
    | zero => intro _; rfl
    | succ n ih =>
      intro hn
      have e : T.take (n + 1) = T.take n ++ [T.getD n t0] := by
        rw [List.take_add_one, List.getD_eq_getElem?_getD, List.getElem?_eq_getElem (by omega)]
        rfl
      rw [e, usd_snoc, ih (by omega), sm_, sm_]
      unfold usP ywd owd
      split
      · simp
      · split
        · simp
        · simp
  have := key T.length (Nat.le_refl _)
  rwa [List.take_of_length_le (Nat.le_refl _)] at this
theorem cwn_sm (T : List Tw1) (L : List Bool) : ∀ n, cwn T L n = sm_ (fun i => if L.getD i false = true then 1 + (T.getD i t0).2.1.length else 0) n
  | 0 => rfl
  | n + 1 => by
    rw [sm_, ← cwn_sm T L n, cwn]
    split <;> simp
def upl (left : Int → Bool) (f : Nat → Int) (i : Nat) : Int := if left i = true then 0 else f i
theorem upl_step (left : Int → Bool) (f : Nat → Int) (k n : Nat) (hk : k < n) (hl : left k = true) : sm_ (upl (fun y => left y && !(y == (k : Int))) f) n = sm_ (upl left f) n + f k := by
  have h := sm_step (f := upl left f) (g := upl (fun y => left y && !(y == (k : Int))) f) (k := k) (fun i hi => by
    unfold upl
    have : ((i : Int) == (k : Int)) = false := by simp; omega
    simp [this]) n hk
  rw [h]
  unfold upl
  rw [if_pos hl, if_neg (by simp)]
  omega
theorem upl_bd {f : Nat → Int} (left : Int → Bool) (h : ∀ i, 0 ≤ f i ∧ f i ≤ 13) (n : Nat) : 0 ≤ sm_ (upl left f) n ∧ sm_ (upl left f) n ≤ 13 * n := sm_bd (fun i => by
  unfold upl
  split
  · omega
  · exact h i) n

end Go.Proofs.Ytjhnhbeimjnloaa

/- Sums of sizes; how many words the nodes of a view have: lists alone. -/
namespace Go.Proofs.Ytjhnhbeimjnloaa

def sumF (g : Int → Nat) (l : List Int) : Nat := (l.map g).sum
theorem sumF_cons (g : Int → Nat) (a : Int) (l : List Int) : sumF g (a :: l) = g a + sumF g l := by simp [sumF]
def szV (ns : List (Int × List (Int × Int))) : Nat := (ns.map (fun nd => 1 + if nd.1 = 5 then 0 else nd.2.length)).sum
theorem szV_of {kd : Int → Int} {z : Int → Nat} : ∀ (ns : List (Int × List (Int × Int))) (l : List Int), ns.length = l.length → (∀ i, i < l.length → (1 + if (ns.getD i (0, [])).1 = 5 then 0 else (ns.getD i (0, [])).2.length) = z (l.getD i 0)) → szV ns = sumF z l
  | [], [], _, _ => rfl
  | [], x :: l, h, _ => by simp at h
  | x :: ns, [], h, _ => by simp at h
  | nd :: ns, a :: l, h, e => by
    have h0 := e 0 (by simp)
    have h1 := szV_of (kd := kd) ns l (by simpa using h) (fun i hi => by
      have := e (i + 1) (by simpa using hi)
      simpa using this)
    rw [sumF_cons, ← h1]
    simp at h0
    simp [szV, h0]
theorem szV_snoc (ns : List (Int × List (Int × Int))) (i : Nat) (h : i < ns.length) : szV (ns.take (i + 1)) = szV (ns.take i) + (1 + if (ns.getD i (0, [])).1 = 5 then 0 else (ns.getD i (0, [])).2.length) := by
  have e : ns.getD i (0, []) = ns[i] := by rw [List.getD_eq_getElem?_getD, List.getElem?_eq_getElem h]; rfl
  rw [List.take_succ_eq_append_getElem h, e]
  unfold szV
  rw [List.map_append, List.sum_append]
  simp only [List.map_cons, List.map_nil, List.sum_cons, List.sum_nil, Nat.add_zero]
theorem szV_le : ∀ ns : List (Int × List (Int × Int)), (∀ nd ∈ ns, nd.2.length ≤ 1000) → szV ns ≤ ns.length * 1001
  | [], _ => Nat.le_refl _
  | nd :: ns, h => by
    have h1 := szV_le ns (fun x hx => h x (List.mem_cons_of_mem _ hx))
    have h2 := h nd (by simp)
    have e : szV (nd :: ns) = (1 + if nd.1 = 5 then 0 else nd.2.length) + szV ns := by simp [szV]
    rw [e, List.length_cons]
    split <;> omega

end Go.Proofs.Ytjhnhbeimjnloaa

/- GroveBreaks: the view behind a great cut, by the view ahead of it: lists alone. -/
namespace Go.Proofs.Ytjhnhbeimjnloaa
open Go.RowKit W Kp Stl

def cNd (L : List Bool) (n : Int × List (Int × Int)) : Int × List (Int × Int) := (n.1, n.2.map (fun x => if (n.1 = 4 ∧ inS L (n.2.getD 0 (0, 0)) = false) ∨ inS L x = false then (2, 0) else x))
theorem two_of {α : Type} {l : List α} (h : l.length = 2) : ∃ a b, l = [a, b] := by
  match l, h with
  | [a, b], _ => exact ⟨a, b, rfl⟩
theorem cuT_cN {T : List Tw1} {L : List Bool} (hcl : Cls T [] (Ls_ L)) {i : Nat} (hi : i < T.length) (hL : Ls_ L i) (hk : 1 ≤ (T.getD i t0).1 ∧ (T.getD i t0).1 ≤ 5) (h2 : (T.getD i t0).1 = 3 ∨ (T.getD i t0).1 = 4 → (T.getD i t0).2.1.length = 2) (h5 : (T.getD i t0).1 = 5 → (T.getD i t0).2.1 = []) : (cuT L i (T.getD i t0)).2.1 = (cNd L ((T.getD i t0).1, (T.getD i t0).2.1)).2 := by
  have cl := hcl i hi hL
  have hf := cuT_f (L := L) (i := i) (t := T.getD i t0) hL
  unfold Kps at cl
  generalize T.getD i t0 = t at *
  obtain ⟨kd, fs, od, dd⟩ := t
  dsimp only at *
  unfold cNd
  rcases hf with ⟨k4, h0, e⟩ | ⟨k3, h0, e⟩ | ⟨hin, e⟩
  · obtain ⟨a, b, rfl⟩ := two_of (h2 (Or.inr k4))
    rw [e]
    have h0 : inS L a = false := h0
    simp [k4, h0]
  · obtain ⟨a, b, rfl⟩ := two_of (h2 (Or.inl k3))
    rw [e]
    have h0 : inS L a = false := h0
    have hb : inS L b = true := inS_of (fun h3 => cl b (Or.inr (Or.inl ⟨k3, rfl⟩)) h3)
    simp [k3, h0, hb]
  · rw [e]
    symm
    refine (List.map_congr_left (g := id) (fun x hx => ?_)).trans (List.map_id _)
    have hx1 : inS L x = true := inS_of (fun h3 => by
      by_cases c12 : kd = 1 ∨ kd = 2
      · exact cl x (Or.inl ⟨c12, hx⟩) h3
      · by_cases c5 : kd = 5
        · rw [h5 c5] at hx
          cases hx
        · have c34 : kd = 3 ∨ kd = 4 := by omega
          obtain ⟨a, b, rfl⟩ := two_of (h2 c34)
          have h0 : inS L a = true := hin c34
          have : x = a ∨ x = b := by simpa using hx
          rcases this with rfl | rfl
          · exact inS_yes h0 h3
          · rcases c34 with c | c
            · exact cl x (Or.inr (Or.inl ⟨c, rfl⟩)) h3
            · exact cl x (Or.inr (Or.inr (Or.inl ⟨c, inS_yes h0, rfl⟩))) h3)
    rw [if_neg]
    · rfl
    · rintro (⟨c, d⟩ | d)
      · rw [hin (Or.inr c)] at d
        cases d
      · rw [hx1] at d
        cases d

section
variable {T : List Tw1} {rs V : List (Int × Int)} {ms : List Int} {ns : List (Int × List (Int × Int))} {L In : List Bool}
theorem nvv_o (ms : List Int) : nvv ms (0, 0) = (0, 0) ∧ nvv ms (2, 0) = (2, 0) := by
  unfold nvv
  exact ⟨by simp, by simp⟩
theorem inS_nvv (hS : ∀ a ∈ ms, (Ls_ In (ms.idxOf a) ↔ Ls_ L a.toNat)) {x : Int × Int} (hx : x.1 = 3 → x.2 ∈ ms) : inS In (nvv ms x) = inS L x := by
  unfold nvv
  split
  · rename_i c
    have h := hS x.2 (hx c)
    unfold Ls_ at h
    unfold inS
    rw [c]
    dsimp only
    rw [Int.toNat_natCast]
    cases h1 : In.getD (ms.idxOf x.2) false <;> cases h2 : L.getD x.2.toNat false <;> simp_all
  · rename_i c
    unfold inS
    rw [show (x.1 == 3) = false by simpa using c]
    rfl
theorem map_nvv0 (fs : List (Int × Int)) : (fs.map (nvv ms)).getD 0 (0, 0) = nvv ms (fs.getD 0 (0, 0)) := by
  cases fs with
  | nil => exact (nvv_o ms).1.symm
  | cons a l => rfl
theorem cN_nvv (hS : ∀ a ∈ ms, (Ls_ In (ms.idxOf a) ↔ Ls_ L a.toNat)) (kd : Int) {fs : List (Int × Int)} (hf : ∀ x ∈ fs, x.1 = 3 → x.2 ∈ ms) : (cNd In (kd, fs.map (nvv ms))).2 = (cNd L (kd, fs)).2.map (nvv ms) := by
  unfold cNd
  dsimp only
  have h0 : inS In ((fs.map (nvv ms)).getD 0 (0, 0)) = inS L (fs.getD 0 (0, 0)) := by
    rw [map_nvv0]
    refine inS_nvv hS (fun h3 => ?_)
    cases fs with
    | nil => cases h3
    | cons a l => exact hf a (by simp) h3
  rw [h0, List.map_map, List.map_map]
  refine List.map_congr_left (fun x hx => ?_)
  dsimp only [Function.comp]
  rw [inS_nvv hS (hf x hx)]
  split
  · exact (nvv_o ms).2.symm
  · rfl
theorem cN_mem {kd : Int} {fs : List (Int × Int)} {v : Int × Int} (h : v ∈ (cNd L (kd, fs)).2) : v = (2, 0) ∨ (v ∈ fs ∧ inS L v = true) := by
  unfold cNd at h
  obtain ⟨x, hx, e⟩ := List.mem_map.1 h
  dsimp only at e
  split at e
  · exact Or.inl e.symm
  · rename_i c
    subst e
    refine Or.inr ⟨hx, ?_⟩
    cases d : inS L x
    · exact absurd (Or.inr d) c
    · rfl
theorem Wls.maps {WR : Int → Int → Prop} {p q : Int × Int → Int} : ∀ {l : List (Int × Int)}, (∀ v ∈ l, WR (p v) (q v)) → Wls WR (l.map p) (l.map q)
  | [], _ => trivial
  | v :: l, h => ⟨h v (by simp), Wls.maps (fun u hu => h u (List.mem_cons_of_mem _ hu))⟩
theorem cnx (ns : List (Int × List (Int × Int))) (In : List Bool) {i : Nat} (hi : i < ns.length) : (ns.map (cNd In)).getD i (0, []) = cNd In (ns.getD i (0, [])) := by
  rw [List.getD_eq_getElem?_getD, List.getElem?_map, List.getElem?_eq_getElem hi, List.getD_eq_getElem?_getD, List.getElem?_eq_getElem hi]
  rfl
theorem told_same (h : Vis T rs V ms ns) (hw : Wvw T []) (hr : ∀ v ∈ rs, Vq T v) (hk : ∀ i, Alv T i → 1 ≤ (T.getD i t0).1 ∧ (T.getD i t0).1 ≤ 5) (h2 : ∀ i, Alv T i → (T.getD i t0).1 = 3 ∨ (T.getD i t0).1 = 4 → (T.getD i t0).2.1.length = 2) (h5 : ∀ i, Alv T i → (T.getD i t0).1 = 5 → (T.getD i t0).2.1 = []) (hL : Grn T [] (frs T rs true) L) (hS : ∀ a ∈ ms, (Ls_ In (ms.idxOf a) ↔ Ls_ L a.toNat)) :
    (Vr4.vwW (nT (ns.map (cNd In))) [] V).1 = (Vr4.vwW (cuL L T T.length) [] rs).1 ∧ (Vr4.vwW (nT (ns.map (cNd In))) [] V).2.2 = (Vr4.vwW (cuL L T T.length) [] rs).2.2 := by
  have hn : ms.length ≤ 10000 := by
    have hle : ms.length ≤ (tI T.length).length := h.nd.length_le_of_subset (fun a ha => tI_mem.2 ⟨(h.al a ha).1, by have := (h.al a ha).2.1; have := (h.al a ha).1; omega⟩)
    rw [tI_len] at hle
    exact Nat.le_trans hle hw.l1
  have wm : ∀ v, Vq T v → (v.1 = 3 → v.2 ∈ ms) → inS L v = true → Wmv (fun a => a ∈ ms ∧ Ls_ L a.toNat) (fun a => (ms.idxOf a : Int)) (wI v) (wI (nvv ms v)) := fun v hv hm hi => by
    have hq := nvv_vq h.len hn hv hm
    by_cases c : v.1 = 3
    · refine Or.inl ⟨(wI_dec hv).1.trans c, ?_, ?_, ?_⟩
      · rw [(wI_dec hq).1]
        unfold nvv
        rw [if_pos c]
      · rw [(wI_dec hv).2]
        exact ⟨hm c, inS_yes hi c⟩
      · rw [(wI_dec hv).2, (wI_dec hq).2]
        unfold nvv
        rw [if_pos c]
    · have e : nvv ms v = v := by
        unfold nvv
        rw [if_neg c]
      rw [e]
      exact Or.inr ⟨by rw [(wI_dec hv).1]; exact c, rfl, rfl⟩
  have gt : ∀ a ∈ ms, Ls_ L a.toNat → (cuL L T T.length).getD a.toNat t0 = cuT L a.toNat (T.getD a.toNat t0) := fun a ha _ => by rw [cuL_at, if_pos (h.al a ha).2.1]
  have nd : ∀ a ∈ ms, (nT (ns.map (cNd In))).getD (ms.idxOf a) t0 = ((T.getD a.toNat t0).1, (cNd L ((T.getD a.toNat t0).1, (T.getD a.toNat t0).2.1)).2.map (nvv ms), false, false) := fun a ha => by
    obtain ⟨n1, n2⟩ := h.node ha
    rw [nT_at _ _ (by rw [List.length_map]; exact n1), cnx ns In n1, n2, cN_nvv hS _ (h.nf a ha)]
    rfl
  have B : Bi (fun a => a ∈ ms ∧ Ls_ L a.toNat) (fun a => (ms.idxOf a : Int)) (tI (cuL L T T.length).length) (kdW (cuL L T T.length)) (shW (cuL L T T.length) []) (tI (nT (ns.map (cNd In))).length) (kdW (nT (ns.map (cNd In)))) (shW (nT (ns.map (cNd In))) []) := by
    refine ⟨fun a ha => ?_, fun a ha => ?_, fun a b ha hb e => ?_, fun a ha => ?_, fun a ha => ?_⟩
    · rw [cuL_len]
      exact tI_mem.2 ⟨(h.al a ha.1).1, by have := (h.al a ha.1).2.1; have := (h.al a ha.1).1; omega⟩
    · rw [nT_len, List.length_map, h.len]
      have := List.idxOf_lt_length_of_mem ha.1
      exact tI_mem.2 ⟨by omega, by omega⟩
    · have e : ms.idxOf a = ms.idxOf b := by
        omega
      rw [← getD_idx ha.1, e, getD_idx hb.1]
    · unfold kdW
      rw [Int.toNat_natCast, nd a ha.1, gt a ha.1 ha.2, cuT_k]
    · rw [shW_nil, shW_nil, Int.toNat_natCast, nd a ha.1, gt a ha.1 ha.2]
      have hal := h.al a ha.1
      rw [cuT_cN hL.cl hal.2.1 ha.2 (hk _ hal.2) (h2 _ hal.2) (h5 _ hal.2)]
      dsimp only
      rw [List.map_map]
      refine Wls.maps (fun v hv => ?_)
      rcases cN_mem hv with e | ⟨hm, hi⟩
      · rw [e]
        exact wm _ (vq_gone T) (fun c => by cases c) rfl
      · exact wm v (hw.fv _ hal.2 v hm) (h.nf a ha.1 v hm) hi
  have R : Wls (Wmv (fun a => a ∈ ms ∧ Ls_ L a.toNat) (fun a => (ms.idxOf a : Int))) (rs.map wI) (V.map wI) := by
    rw [h.vl, List.map_map]
    exact Wls.maps (fun v hv => wm v (hr v hv) (h.rf v hv) (inS_of (fun h3 => hL.up _ ((frs_in _ _ _ _).2 ⟨((hr v hv).2 h3).2.1, Or.inr ⟨v, hv, h3, rfl⟩⟩))))
  have W := walk_bi B R (n := (cuL L T T.length).length) (n' := (nT (ns.map (cNd In))).length) (by rw [tI_len]; exact Nat.le_refl _) (by rw [tI_len]; exact Nat.le_refl _)
  exact ⟨W.1.symm, W.2.1⟩
end

theorem sm_list {n : Nat} : ∀ (l : List Int) (f : Nat → Int), l.Nodup → (∀ a ∈ l, 0 ≤ a ∧ a.toNat < n) → (∀ i, i < n → (i : Int) ∉ l → f i = 0) → sm_ f n = (l.map (fun a => f a.toNat)).sum
  | [], f, _, _, h0 => by
    rw [sm_congr n (g := fun _ => 0) (fun i hi => h0 i hi (by simp)), sm_zero]
    rfl
  | a :: l, f, hn, hl, h0 => by
    rw [List.nodup_cons] at hn
    have ha := hl a (by simp)
    have ih := sm_list l (fun i => if i = a.toNat then 0 else f i) hn.2 (fun b hb => hl b (List.mem_cons_of_mem _ hb)) (fun i hi hni => by
      split
      · rfl
      · rename_i c
        refine h0 i hi (fun d => ?_)
        rcases List.mem_cons.1 d with d | d
        · omega
        · exact hni d)
    have h1 := sm_step (f := fun i => if i = a.toNat then 0 else f i) (g := f) (k := a.toNat) (fun i hi => by rw [if_neg hi]) n ha.2
    rw [h1, ih, List.map_cons, List.sum_cons, if_pos rfl]
    have e : (l.map (fun b => if b.toNat = a.toNat then 0 else f b.toNat)) = l.map (fun b => f b.toNat) := List.map_congr_left (fun b hb => by
      rw [if_neg]
      intro c
      have := (hl b (List.mem_cons_of_mem _ hb)).1
      have e2 : b = a := by omega
      rw [e2] at hb
      exact hn.1 hb)
    rw [e]
    omega
theorem sumF_int (z : Int → Nat) : ∀ l : List Int, ((sumF z l : Nat) : Int) = (l.map (fun a => (z a : Int))).sum
  | [] => rfl
  | a :: l => by
    rw [sumF_cons, List.map_cons, List.sum_cons, ← sumF_int z l]
    omega
theorem cut_used {T : List Tw1} {rs : List (Int × Int)} {L : List Bool} (hL : Grn T [] (frs T rs true) L) (hok : Sok_ T L) (hW : Wiv T []) (hk : ∀ i, Alv T i → 1 ≤ (T.getD i t0).1 ∧ (T.getD i t0).1 ≤ 5) (h5 : ∀ i, Alv T i → (T.getD i t0).1 = 5 → (T.getD i t0).2.1 = []) (hw2 : Wvw (cuL L T T.length) []) (hr2 : ∀ v ∈ rs, Vq (cuL L T T.length) v) :
    (usd (cuL L T T.length)).2 = (szV (Vr4.vwW (cuL L T T.length) [] rs).2.2 : Int) := by
  have S := vis_of hw2 hr2
  have av := cu_alv hok
  have gt : ∀ i, Ls_ L i → (cuL L T T.length).getD i t0 = cuT L i (T.getD i t0) := fun i hi => by rw [cuL_at, if_pos (hok.al i hi).1]
  have fe : ∀ i, Ls_ L i → ((cuL L T T.length).getD i t0).2.1 = (cNd L ((T.getD i t0).1, (T.getD i t0).2.1)).2 := fun i hi => by
    rw [gt i hi]
    exact cuT_cN hL.cl (hok.al i hi).1 hi (hk i (hok.al i hi)) (hW.fl i (hok.al i hi)) (h5 i (hok.al i hi))
  have hlen := cuL_len L T T.length
  have hus := congrArg Prod.snd (usd_sm (cuL L T T.length))
  dsimp only at hus
  rw [hus, hlen]
  generalize Vr4.vwW (cuL L T T.length) [] rs = R at *
  obtain ⟨V, ms, ns⟩ := R
  dsimp only at *
  have key := hL.lt (fun i => Ls_ L i ∧ (i : Int) ∈ ms) (fun i hi hX v hv h3 => by
    have hl := hL.cl i hi hX.1 v (hv.mono (fun k hk => hk.1)) h3
    refine ⟨hl, ?_⟩
    have hal := hok.al i hX.1
    have hv0 := (hW.kps hal hv h3).1
    have hm : v ∈ (cNd L ((T.getD i t0).1, (T.getD i t0).2.1)).2 := by
      have hin : inS L v = true := inS_of (fun _ => hl)
      have hfl := hW.fl i hal
      unfold Kps at hv
      generalize T.getD i t0 = t at *
      obtain ⟨kd, fs, od, dd⟩ := t
      dsimp only at *
      have go : v ∈ fs → ¬ (kd = 4 ∧ inS L (fs.getD 0 (0, 0)) = false) → v ∈ (cNd L (kd, fs)).2 := fun hm hn => by
        unfold cNd
        refine List.mem_map.2 ⟨v, hm, ?_⟩
        dsimp only
        rw [if_neg]
        rintro (d | d)
        · exact hn d
        · rw [hin] at d
          cases d
      rcases hv with ⟨c, hm⟩ | ⟨c, e⟩ | ⟨c, h0, e⟩ | ⟨_, e0, he, _⟩
      · exact go hm (fun d => by omega)
      · exact go (by rw [e]; exact getD_in (by rw [hfl (Or.inl c)]; decide)) (fun d => by omega)
      · refine go (by rw [e]; exact getD_in (by rw [hfl (Or.inr c)]; decide)) (fun d => ?_)
        rw [inS_of (fun h => (h0 h).1)] at d
        cases d.2
      · cases he
    have := S.nf (i : Int) hX.2 v (by rw [Int.toNat_natCast, fe i hX.1]; exact hm) h3
    rw [show ((v.2.toNat : Nat) : Int) = v.2 by omega]
    exact this) (fun i hi => by
    refine ⟨hL.up i hi, ?_⟩
    obtain ⟨_, g2⟩ := (frs_in _ _ _ _).1 hi
    rcases g2 with ⟨_, _, c⟩ | ⟨v, hv, h3, e⟩
    · cases c
    · have h0 := ((hr2 v hv).2 h3).1
      rw [show ((i : Nat) : Int) = v.2 by omega]
      exact S.rf v hv h3)
  have inL : ∀ a ∈ ms, Ls_ L a.toNat := fun a ha => (av _).1 (S.al a ha).2
  rw [sm_list ms (owd (cuL L T T.length)) S.nd (fun a ha => ⟨(S.al a ha).1, (hok.al _ (inL a ha)).1⟩) (fun i hi hni => by
    have hn : L.getD i false = false := by
      cases c : L.getD i false
      · rfl
      · exact absurd (key i c).2 hni
    unfold owd
    rw [cuL_at, if_pos hi, cuT_n hn, if_pos rfl])]
  have e1 : szV ns = sumF (fun a => 1 + ((cuL L T T.length).getD a.toNat t0).2.1.length) ms := by
    refine szV_of (kd := fun _ => 0) ns ms S.len (fun i hi => ?_)
    have hm : ms.getD i 0 ∈ ms := getD_in hi
    rw [S.nw i hi]
    dsimp only
    rw [List.length_map]
    split
    · rename_i c
      have hl := inL _ hm
      rw [gt _ hl, cuT_k] at c
      rw [fe _ hl, h5 _ (hok.al _ hl) c]
      rfl
    · rfl
  rw [e1, sumF_int]
  congr 1
  refine List.map_congr_left (fun a ha => ?_)
  have hl := inL a ha
  unfold owd
  have e2 : ((cuL L T T.length).getD a.toNat t0).2.2 = (true, (T.getD a.toNat t0).2.2.2) := by rw [gt _ hl, cuT_y hl]
  rw [e2, if_neg (by rw [(hok.al _ hl).2]; simp), if_pos rfl]
  omega

def Nrg (s : Wrs) : Prop := s.rg = [] ∧ s.wt = []
theorem Nrg.cut {s : Wrs} (h : Nrg s) (g : List Bool → List Bool) (grow : Int) (mj : Bool) : Nrg (s.cut g grow mj) := by
  unfold Wrs.cut
  split
  · exact h
  · have e : (s.cR g mj).2.1 = [] := by
      unfold Wrs.cR
      rw [h.1]
      simp [Stl.turns, Stl.pass]
    exact ⟨by dsimp only; rw [h.1]; rfl, by dsimp only; rw [h.2, e]; rfl⟩
theorem cR_nil {s : Wrs} (h : Nrg s) (g : List Bool → List Bool) (mj : Bool) : (s.cR g mj).1 = s.c0 g mj := by
  unfold Wrs.cR
  rw [h.1]
  simp [Stl.turns, Stl.pass]
theorem Nrg.room {s : Wrs} (h : Nrg s) (g : Gfn) (most grow m : Int) : Nrg (s.room g most grow m).2 := by
  unfold Wrs.room
  split
  · exact h
  · exact h.cut _ _ _
theorem Nrg.grow {s : Wrs} (h : Nrg s) (g : Gfn) (most grow kd : Int) (l : List (Int × Int)) : Nrg (s.grow g most grow kd l).2.2 := by
  unfold Wrs.grow
  split
  · exact h.room g most grow _
  · exact h.room g most grow _
theorem Nrg.rt {s : Wrs} (h : Nrg s) (g : Gfn) (most grow k : Int) (A B : Nat) (I n : Int) : Nrg (s.rt g most grow k A B I n).2.2 := by
  unfold Wrs.rt
  by_cases k1 : k = 1
  · rw [if_pos k1]; exact h
  rw [if_neg k1]
  by_cases k3 : k = 3
  · rw [if_pos k3]; exact h
  rw [if_neg k3]
  by_cases k4 : k = 4
  · rw [if_pos k4]; exact h.grow ..
  rw [if_neg k4]
  by_cases k5 : k = 5
  · rw [if_pos k5]; exact h.grow ..
  rw [if_neg k5]
  by_cases k6 : k = 6
  · rw [if_pos k6]; exact h.grow ..
  rw [if_neg k6]
  by_cases k7 : k = 7
  · rw [if_pos k7]; exact h.grow ..
  rw [if_neg k7]
  by_cases k8 : k = 8
  · rw [if_pos k8]; exact h.grow ..
  rw [if_neg k8]
  by_cases k10 : k = 10
  · rw [if_pos k10]
    unfold Wrs.pop
    split
    · rw [if_neg (by rw [h.2]; simp)]
      exact h
    · exact h
  rw [if_neg k10]
  by_cases k11 : k = 11
  · rw [if_pos k11]; exact h
  rw [if_neg k11]
  by_cases k13 : k = 13
  · rw [if_pos k13]
    split
    · exact h
    · exact h
  rw [if_neg k13]
  by_cases k14 : k = 14
  · rw [if_pos k14]; exact h
  rw [if_neg k14]
  exact h
theorem Nrg.dos {s : Wrs} (h : Nrg s) (g : Gfn) (most grow k R A B I n : Int) (hk : k ≠ 9) : Nrg (s.dos g most grow k R A B I n).2 := by
  unfold Wrs.dos
  split
  · split
    · unfold Wrs.set
      dsimp only
      split
      · exact h
      · exact h
    · split
      · exact h.cut _ _ _
      · split
        · exact h.cut _ _ _
        · have hr := h.rt g most grow k A.toNat B.toNat I n
          split
          · exact hr
          · exact hr
  · exact h

section
variable {s : Wrs} {j : Nat} {g : List Bool → List Bool} {grow : Int}
theorem breaks (hi : Gi s j) (hj : j ≤ 10000) (hg : Gok s.T s.wt g) (hn : Nrg s) (hc : s.ccd g grow true = 0) {V : List (Int × Int)} {ms : List Int} {ns : List (Int × List (Int × Int))} (hv : Vr4.vwW s.T s.wt s.rs = (V, ms, ns)) {In : List Bool} (hI : Grn (nT ns) [] (frs (nT ns) V true) In) :
    (Vr4.vwW (nT (ns.map (cNd In))) [] V).1 = (Vr4.vwW (s.cut g grow true).T (s.cut g grow true).wt (s.cut g grow true).rs).1 ∧ (Vr4.vwW (nT (ns.map (cNd In))) [] V).2.2 = (Vr4.vwW (s.cut g grow true).T (s.cut g grow true).wt (s.cut g grow true).rs).2.2 ∧ (usd (s.cut g grow true).T).2 = (szV (Vr4.vwW (s.cut g grow true).T (s.cut g grow true).wt (s.cut g grow true).rs).2.2 : Int) := by
  have hG2 := hi.cut hj hg grow true
  have hn2 := hn.cut g grow true
  have hcF : s.cF g grow true = false := by
    unfold Wrs.ccd at hc
    cases c : s.cF g grow true
    · rfl
    · rw [c, if_pos rfl] at hc
      cases hc
  have eT : (s.cut g grow true).T = cuL (s.c0 g true) s.T s.T.length := by
    unfold Wrs.cut
    rw [if_neg (by rw [hcF]; simp), cR_nil hn]
  have eR : (s.cut g grow true).rs = s.rs := by
    unfold Wrs.cut
    split <;> rfl
  have hw2 := hG2.wvw hj
  have hr2 := hG2.rv
  have c0 := c0_ok (hi.wcv hj) hg true
  have hW := hi.iv
  have hvw := hi.wvw hj
  rw [hn.2] at c0 hv hW hvw
  rw [hn2.2, eT, eR]
  rw [hn2.2, eT] at hw2
  rw [eT, eR] at hr2
  have S := vis_of hvw hi.rv
  rw [hv] at S
  dsimp only at S
  obtain ⟨t1, t2⟩ := told_same S hvw hi.rv hi.kd hi.fl hi.g5 c0.1 (fun a ha => least_same S hi.fl hi.rv c0.1 hI ha)
  exact ⟨t1, t2, cut_used c0.1 c0.2 hW hi.kd hi.g5 hw2 hr2⟩
theorem Nvw.cn {V : List (Int × Int)} {ns : List (Int × List (Int × Int))} (h : Nvw V ns) (In : List Bool) : Wvw (nT (ns.map (cNd In))) [] ∧ ∀ v ∈ V, Vq (nT (ns.map (cNd In))) v := by
  have av : ∀ i, Alv (nT (ns.map (cNd In))) i ↔ i < ns.length := fun i => by rw [nT_alv, List.length_map]
  have tr : ∀ v, Vq (nT ns) v → Vq (nT (ns.map (cNd In))) v := fun v hv => hv.mono (fun _ ha => (av _).2 ((nT_alv ns _).1 ha))
  have gt : ∀ i, i < ns.length → (nT (ns.map (cNd In))).getD i t0 = ((ns.getD i (0, [])).1, (cNd In (ns.getD i (0, []))).2, false, false) := fun i hi => by
    rw [nT_at _ _ (by rw [List.length_map]; exact hi), cnx ns In hi]
    rfl
  refine ⟨⟨fun i hi v hv => ?_, (fun e he => by cases he), fun i => ?_, by rw [nT_len, List.length_map]; exact h.nl, by simp⟩, fun v hv => tr v (h.rt v hv)⟩
  · have hi := (av i).1 hi
    rw [gt i hi] at hv
    rcases cN_mem hv with e | ⟨hm, _⟩
    · rw [e]
      exact vq_gone _
    · exact tr v (h.fd i hi v hm)
  · by_cases c : i < ns.length
    · rw [gt i c]
      dsimp only [cNd]
      rw [List.length_map]
      exact h.tl i c
    · rw [List.getD_eq_getElem?_getD, List.getElem?_eq_none (by rw [nT_len, List.length_map]; omega)]
      simp [t0]
end

end Go.Proofs.Ytjhnhbeimjnloaa

/- A list of bools in memory, and in a box. -/
namespace Go.Proofs.Ytjhnhbeimjnloaa
open Go.RowKit W Kp Stl

def Lb (w : World) (ad : Option Addr) (L : List Bool) : Prop := 0 < L.length → ∃ b, ad = some ⟨b, 0, none⟩ ∧ b < w.heap.size ∧ ∀ i, i < L.length → w.cell? ⟨b, i, none⟩ = some (.bool (L.getD i false))
theorem row_bools {w : World} {base : Nat} {e : TypeId} {ad : Option Addr} {cap : Nat} {L : List Bool} (h : w.ownsRow base e 1 (.slice ad L.length cap) L.length (L.map Value.bool)) : Lb w ad L := fun hp => by
  obtain ⟨b, c, e1⟩ := row_shape h hp
  cases e1
  refine ⟨b, rfl, (row_lt h b rfl).2, fun i hi => ?_⟩
  have h1 : (L.map Value.bool)[i]? = some (.bool (L.getD i false)) := by
    rw [List.getElem?_map, List.getElem?_eq_getElem hi, List.getD_eq_getElem?_getD, List.getElem?_eq_getElem hi]
    rfl
  exact (row_cell h h1).1

structure Bbx (w : World) (ob : Nat) (ad : Option Addr) (c base : Nat) (L : List Bool) : Prop where
  blk : w.heap[ob]? = some (.cells #[.slice ad L.length c] 38 (0, 0))
  row : w.ownsRow base 4 1 (.slice ad L.length c) L.length (L.map Value.bool)
theorem Bbx.keep {w w' : World} {ob : Nat} {ad : Option Addr} {c base : Nat} {L : List Bool} (h : Bbx w ob ad c base L) (h1 : w'.heap[ob]? = w.heap[ob]?) (h2 : ∀ k, some k = (Value.slice ad L.length c).ownBlock → w'.heap[k]? = w.heap[k]?) : Bbx w' ob ad c base L := ⟨h1.trans h.blk, row_keep h.row h2⟩
theorem Bbx.below {w w' : World} {ob : Nat} {ad : Option Addr} {c base : Nat} {L : List Bool} (h : Bbx w ob ad c base L) (hb : Below w.heap.size w w') : Bbx w' ob ad c base L := h.keep (hb.block ob (lt_of_some h.blk)) (fun k e => hb.block k (row_lt h.row k e).2)
theorem Bbx.ne {w : World} {ob : Nat} {ad : Option Addr} {c base : Nat} {L : List Bool} (h : Bbx w ob ad c base L) : ∀ k, some k = (Value.slice ad L.length c).ownBlock → k ≠ ob := fun k e e' => by
  obtain ⟨cur, hc⟩ := row_type h.row k e
  rw [e', h.blk] at hc
  simp at hc
theorem infoB : (Try.prog.info? 4).map (fun i => (i.zero, i.size, i.bytes)) = some (some (.bool false), 1, 1) := by kernel_rfl
theorem made_rowB {w : World} {b k n : Nat} (h : w.ownsRow b 4 1 (.slice (some ⟨k, 0, none⟩) n n) n (madeCells (Value.bool false).cells (n * 1)).toList) :
    w.ownsRow b 4 1 (.slice (some ⟨k, 0, none⟩) n n) n ((List.replicate n false).map Value.bool) := by
  have e : (madeCells (Value.bool false).cells (n * 1)).toList = (List.replicate n false).map Value.bool := by
    show (madeCells #[Value.bool false] (n * 1)).toList = _
    rw [toList_madeCells_one]
    simp
  rwa [e] at h

end Go.Proofs.Ytjhnhbeimjnloaa
