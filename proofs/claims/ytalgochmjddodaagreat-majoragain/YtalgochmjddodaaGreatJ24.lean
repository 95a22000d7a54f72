/- Joined: Vw8, Wl3, Wl4, Mn4, Mn18, Ms1. -/
import Derived.Test.YtalgochmjddodaaGreatJ21
import Derived.Test.YtalgochmjddodaaGreatJ06
import Derived.Test.YtalgochmjddodaaGreatJ09
namespace Go.Proofs.YtalgochmjddodaaGreat
set_option maxRecDepth 100000
set_option maxHeartbeats 1000000
open Go.RowKit W Kp Stl
def Ln (w : World) (ad : Option Addr) (ns : List (Int × List (Int × Int))) : Prop :=
 ∃ m : List Vnd, nds m = ns /\ (∀ x ∈ m, Lp w x.2.1 x.2.2.2) /\ (0 < m.length -> ∃ b o, ad = some ⟨b, o, none⟩ /\ b < w.heap.size /\ ∀ i x, m[i]? = some x -> w.cell? ⟨b, o + i * 2, none⟩ = some (.int .i64 x.1) /\ w.cell? ⟨b, o + i * 2 + 1, none⟩ = some (.slice x.2.1 x.2.2.2.length x.2.2.1))
theorem Ln.below {w w' : World} {ad : Option Addr} {ns : List (Int × List (Int × Int))} (h : Ln w ad ns) (hb : Below w.heap.size w w') : Ln w' ad ns := by
 obtain ⟨m, h1, h2, h3⟩ := h
 refine ⟨m, h1, fun x hx => (h2 x hx).below hb, fun hp => ?_⟩
 obtain ⟨b, o, e, hl, hc⟩ := h3 hp
 exact ⟨b, o, e, Nat.lt_of_lt_of_le hl hb.size, fun i x hx => ⟨(hb.cell (p := ⟨b, o + i * 2, none⟩) hl).trans (hc i x hx).1, (hb.cell (p := ⟨b, o + i * 2 + 1, none⟩) hl).trans (hc i x hx).2⟩⟩
section
variable {w : World} {pw p q N O y g : Nat} {ws : List Int} {sd : Nat} {v0 : Value} {a1 : Option Addr} {k1 : Nat} {Q : List En} {l : List Int} {ra : Option Addr} {rc : Nat}
def vwL (N y g : Nat) (ws : List Int) (Q : List En) (l : List Int) : List (Int × Int) × Vst :=
 vls (met (thY N y g ws ++ thO N y g ws) (fun a => pk (ld N y g ws a)) (shL N y g ws Q) (thY N y g ws ++ thO N y g ws).length) (thY N y g ws ++ thO N y g ws) ([], []) l
theorem vwL_go (N y g : Nat) (ws : List Int) (Q : List En) (l : List Int) : Vgo (thY N y g ws ++ thO N y g ws) (fun a => pk (ld N y g ws a)) (shL N y g ws Q) ([], []) (vwL N y g ws Q l).2 (vwL N y g ws Q l).1 :=
 vls_go (met_go _) (VOk.start _) (by simp) l
theorem view_any (hq : Wq w pw p q N O y g ws sd v0 a1 k1 Q) (c3 : w.cell? ⟨pw, 3, none⟩ = some (.slice ra l.length rc)) (hl : Lq w ra l) (hm : l.length <= 100000) :
  Calls Tryz.prog 23 #[.pointer (some ⟨pw, 0, none⟩)] w fun e w' => ∃ r2 d2 na nn nc, e = .returned (.agg #[.slice r2 l.length d2, .slice na nn nc]) /\ Lp w' r2 (vwL N y g ws Q l).1 /\ Ln w' na (vwL N y g ws Q l).2.2 /\ nn = (vwL N y g ws Q l).2.2.length /\ Below w.heap.size w w' := by
 have ba := (Below.refl w.heap.size w).alloc (Nat.le_refl _) (.cells #[.slice none 0 0, .slice none 0 0] 52)
 have hr0 := heap_alloc_new w (.cells #[.slice none 0 0, .slice none 0 0] 52)
 have hq0 := hq.low ba
 have hl0 := hl.kf (Kf.of (B := 0) ba)
 have lpw := World.block_lt_of_cell? w _ c3
 have c30 := (ba.cell (p := ⟨pw, 3, none⟩) lpw).trans c3
 have lpw0 : pw < (w.alloc (.cells #[.slice none 0 0, .slice none 0 0] 52)).heap.size := Nat.lt_of_lt_of_le lpw ba.size
 have lr0 : w.heap.size < (w.alloc (.cells #[.slice none 0 0, .slice none 0 0] 52)).heap.size := by simp
 have P := newWalk_any hq0.c0 hq0.ar
 have k1' := hq.ar.hN'
 have k2' := hq.ar.hy
 have k3' := hq.ar.hO
 have k4' := hq.ar.hg
 have hTb : ∀ a ∈ thY N y g ws ++ thO N y g ws, 0 <= a /\ a < 2000 := fun a ha => by
  rcases List.mem_append.1 ha with ha | ha
  ·have := thY_bd a ha; omega
  ·have := thO_bd a ha; omega
 have hTl : (thY N y g ws ++ thO N y g ws).length <= 100000 := by
  have h1 : (thY N y g ws).length <= 2000 := ths_le _ _
  have h2 : (thO N y g ws).length <= 2000 := ths_le _ _
  simp
  omega
 have KV : Hid (∀ (kb mq : Nat) (w1 : World), Wk (w.alloc (.cells #[.slice none 0 0, .slice none 0 0] 52)) w1 kb mq pw (thY N y g ws ++ thO N y g ws) ([], []) (.slice none 0 0) [] -> Calls Tryz.prog 82 #[.pointer (some ⟨kb, 0, none⟩), .slice ra l.length rc] w1 fun e w' => ∃ vn' m' a2 c2, e = .returned (.slice a2 l.length c2) /\ w'.ownsRow w1.heap.size 95 2 (.slice a2 l.length c2) l.length (ev (vwL N y g ws Q l).1) /\ Wk (w.alloc (.cells #[.slice none 0 0, .slice none 0 0] 52)) w' kb mq pw (thY N y g ws ++ thO N y g ws) (vwL N y g ws Q l).2 vn' m' /\ Kv (w.alloc (.cells #[.slice none 0 0, .slice none 0 0] 52)) w1 [] w' m' /\ (∀ k, Fb m' k -> some k ≠ (Value.slice a2 l.length c2).ownBlock)) :=
  fun kb mq w1 h1 => values_any (meet_any hq0 hTb hTl _) (met_go _) h1 (VOk.start _) (by simp) l ra rc (hl0.kf (Kf.of (B := 0) h1.bel)) hm
 have hvl : Hid ((vwL N y g ws Q l).1.length = l.length) := vls_len _ _ _ _
 clear hq hq0 hl hl0 k1' k2' k3' k4' hTb hTl c3
 generalize vwL N y g ws Q l = R at *
 obtain ⟨V, s⟩ := R
 generalize thY N y g ws ++ thO N y g ws = T at *
 dsimp only at *
 go_enter Tryz.func23, Tryz.ntmps23
 go_wp2_with fail
 refine P.mono ?_
 clear P
 rintro e w1 ⟨kb, mq, rfl, h1⟩
 have x3 := (h1.bel.cell (p := ⟨pw, 3, none⟩) lpw0).trans c30
 have H1 : Hid (_) := h1
 clear h1
 go_wp2_with fail
 refine (KV.out kb mq w1 H1.out).mono ?_
 clear KV
 rintro e w2 ⟨vn, m, a2, c2, rfl, hr2, hW2, hK2, _⟩
 obtain ⟨na, nc, e2⟩ := row_slice hW2.row
 subst e2
 have z2 := hW2.cells.2.2.1
 have hb2 := ba.trans (hW2.bel.mono ba.size)
 have hr3 := (hW2.bel.block _ lr0).trans hr0
 have y0 : w2.cell? ⟨w.heap.size, 0, none⟩ = some (.slice none 0 0) := by simp [World.cell?, hr3]
 have y1 : w2.cell? ⟨w.heap.size, 1, none⟩ = some (.slice none 0 0) := by simp [World.cell?, hr3]
 have f0 : w2.frozen? ⟨w.heap.size, 0, none⟩ = false := by simp [World.frozen?, hr3]
 have f1 : w2.frozen? ⟨w.heap.size, 1, none⟩ = false := by simp [World.frozen?, hr3]
 have l2 : w.heap.size < w2.heap.size := lt_of_some hr3
 have HW2 : Hid (_ /\ _) := ⟨hW2, hr2⟩
 have hml : Hid (m.length = s.2.length) := hW2.len
 have HB2 : Hid (_) := hb2
 have HR3 : Hid (_ = _) := hr3
 clear hW2 hr2 hK2 hb2 hr3 ba hr0 x3 c30 H1
 go_wp2_with fail
 obtain ⟨W0, hW0⟩ : ∃ W0, W0 = (w2.setCell ⟨w.heap.size, 0, none⟩ (.slice a2 l.length c2)).setCell ⟨w.heap.size, 1, none⟩ (.slice na m.length nc) := ⟨_, rfl⟩
 rw [<- hW0]
 have g0 : W0.cell? ⟨w.heap.size, 0, none⟩ = some (.slice a2 l.length c2) := by
  rw [hW0, World.cell?_setCell_other _ _ _ _ (by simp)]
  exact World.cell?_setCell_same _ _ _ y0
 have g1 : W0.cell? ⟨w.heap.size, 1, none⟩ = some (.slice na m.length nc) := by
  rw [hW0]
  exact World.cell?_setCell_same _ _ _ ((World.cell?_setCell_other w2 ⟨w.heap.size, 0, none⟩ ⟨w.heap.size, 1, none⟩ _ (by simp)).trans y1)
 have hF : Fr (fun k => k = w.heap.size) w2 W0 := by rw [hW0]; exact ((Fr.refl (fun k => k = w.heap.size) w2).set w.heap.size 0 _ rfl).set w.heap.size 1 _ rfl
 clear hW0
 obtain ⟨hW2, hr2⟩ := HW2.out
 have eL : ∀ {ad : Option Addr} {L : List (Int × Int)}, Lv w2 ad L -> Lp W0 ad L := fun {ad L} h => h.1.keep hF.size (fun hp b e => by
  obtain ⟨b0, o0, cs, e0, hb⟩ := h.2 hp
  rw [e0] at e
  cases e
  refine hF.block _ (lt_of_some hb) (fun c => ?_)
  have c : b0 = w.heap.size := c
  rw [c, HR3.out] at hb
  simp at hb)
 refine bodyPost_ret (v := .agg #[.slice a2 l.length c2, .slice na m.length nc]) (by simp [results, Tryz.results23, go_sem, g0, g1]) rfl ⟨a2, c2, na, m.length, nc, rfl, eL (Lv.of (by rw [hvl.out]; exact hr2)), ⟨m, hW2.nd, fun x hx => eL (hW2.fl x hx), fun hp => ?_⟩, hml.out, HB2.out.trans (hF.below (Nat.le_of_lt l2) (fun k e => Nat.le_of_eq (Eq.symm e)))⟩
 obtain ⟨b, cap, e⟩ := row_shape hW2.row hp
 cases e
 obtain ⟨cur, hcur⟩ := row_type hW2.row b rfl
 have hne : b ≠ w.heap.size := fun c => by
  rw [c, HR3.out] at hcur
  simp at hcur
 refine ⟨b, 0, rfl, Nat.lt_of_lt_of_le (lt_of_some hcur) hF.size, fun i x hx => ?_⟩
 obtain ⟨n1, n2⟩ := nv_get m i x hx
 rw [Nat.zero_add]
 exact ⟨(World.cell?_of_block (a := ⟨b, i * 2, none⟩) (hF.block b (lt_of_some hcur) hne)).trans (row_cell hW2.row n1).1, (World.cell?_of_block (a := ⟨b, i * 2 + 1, none⟩) (hF.block b (lt_of_some hcur) hne)).trans (row_cell hW2.row n2).1⟩
end
end Go.Proofs.YtalgochmjddodaaGreat

namespace Go.Proofs.YtalgochmjddodaaGreat
open Go.RowKit W
section
variable {N O y g : Nat} {ws : List Int} {Y G : List Int}
theorem fcC_zero {x i : Int} (h : fcC N y g ws x i = 0) : tB N y g ws x = true /\ pk (ld N y g ws (aV x)) ≠ 5 /\ 0 <= i /\ i < stN N y g (aV x) (pf (ld N y g ws (aV x))) := by
 unfold fcC at h
 by_cases ht : tB N y g ws x = true
 ·rw [if_pos ht] at h
  by_cases h5 : pk (ld N y g ws (aV x)) = 5
  ·rw [if_pos h5] at h
   omega
  ·rw [if_neg h5] at h
   by_cases hi : i < 0 \/ stN N y g (aV x) (pf (ld N y g ws (aV x))) <= i
   ·rw [if_pos hi] at h
    omega
   ·exact ⟨ht, h5, by omega, by omega⟩
 ·rw [if_neg ht] at h
  omega
theorem tB_mem {x : Int} (h : Full2 N y g ws Y G) (hN : N <= 256) (hy : y <= N) (hO : O <= 1024) (hg : g <= O) (ht : tB N y g ws x = true) : aB x = true /\ (aV x ∈ Y \/ aV x ∈ G) := by
 obtain ⟨e1, e2⟩ := h.lists (O := O) hN hy hO hg
 unfold tB at ht
 rw [e1, e2] at ht
 simpa using ht
theorem Full2.stW (h : Full2 N y g ws Y G) (hl : ws.length = N + O) (hN : N <= 256) (hy : y <= N) (hO : O <= 1024) (hg : g <= O) (x i z : Int) : Full2 N y g (Proofs.YtalgochmjddodaaGreat.stW N y g ws x i z) Y G := by
 unfold Proofs.YtalgochmjddodaaGreat.stW
 by_cases h0 : fcC N y g ws x i = 0
 ·rw [if_pos h0]
  obtain ⟨ht, _, i0, i1⟩ := fcC_zero h0
  obtain ⟨_, hv⟩ := tB_mem h hN hy hO hg ht
  rw [h.stands hy hv] at i1
  split
  ·exact (h.set hl hy hg hv i0 i1).1
  ·exact h
 ·rw [if_neg h0]
  exact h
theorem stM_len (x i z c : Int) (M : List Int) : (stM N y g ws x i z c M).length <= M.length + 1 := by
 unfold stM
 split
 ·unfold mkM
  split
  ·exact len_addM _ _
  ·omega
 ·omega
end
end Go.Proofs.YtalgochmjddodaaGreat

namespace Go.Proofs.YtalgochmjddodaaGreat
open Go.RowKit W Apart2
structure WInv (N y g : Nat) (ws Y G rs : List Int) : Prop where
  full : Full2 N y g ws Y G
  rt : ∀ x ∈ rs, aB x = true -> aV x ∈ Y \/ aV x ∈ G
  fd : ∀ v, (v ∈ Y \/ v ∈ G) -> ∀ i, 0 <= i -> i < pf (ld N y g ws v) -> aB (ld N y g ws (v + 1 + i)) = true -> aV (ld N y g ws (v + 1 + i)) ∈ Y \/ aV (ld N y g ws (v + 1 + i)) ∈ G
section
variable {N O y g : Nat} {ws Y G rs : List Int}
theorem ew_at (n : Nat) (h : n < 1000000) : aB (ew 3 n) = true /\ aV (ew 3 n) = n := by
 have h0 := vc3_in (n : Int) (by omega) (by omega)
 have h1 := at_enc 3 n h0
 exact ⟨h1.1, h1.2 rfl⟩
theorem WInv.root (h : WInv N y g ws Y G rs) (k : Nat) (x : Int) (hx : aB x = true -> aV x ∈ Y \/ aV x ∈ G) : WInv N y g ws Y G (rs.set k x) :=
 ⟨h.full, fun z hz => by
  rcases List.mem_or_eq_of_mem_set hz with hz | hz
  ·exact h.rt z hz
  ·rw [hz]; exact hx, h.fd⟩
theorem WInv.at (h : WInv N y g ws Y G rs) (k : Nat) (hk : k < rs.length) (ha : aB (rs.getD k 0) = true) : aV (rs.getD k 0) ∈ Y \/ aV (rs.getD k 0) ∈ G :=
 h.rt _ (by rw [List.getD_eq_getElem?_getD, List.getElem?_eq_getElem hk]; exact List.getElem_mem hk) ha
theorem field_y (h : Full2 N y g ws Y G) {v i : Int} (hv : v ∈ Y) (i0 : 0 <= i) (i1 : i < pf (ld N y g ws v)) : 0 <= v + 1 + i /\ v + 1 + i < y := by
 have h1 := h.ty.mem v hv
 have h2 := h.iy v hv
 omega
theorem field_o (h : Full2 N y g ws Y G) {v i : Int} (hv : v ∈ G) (i0 : 0 <= i) (i1 : i < pf (ld N y g ws v)) : (N : Int) <= v + 1 + i /\ v + 1 + i < (N : Int) + g := by
 have h1 := h.to.mem v hv
 have h2 := h.io v hv
 omega
theorem field_i (h : Full2 N y g ws Y G) {v i : Int} (hv : v ∈ Y \/ v ∈ G) (i0 : 0 <= i) (i1 : i < pf (ld N y g ws v)) : iB N y g (v + 1 + i) = true := by
 rcases hv with hv | hv
 ·have := field_y h hv i0 i1
  exact iB_y this.1 this.2
 ·have := field_o h hv i0 i1
  exact iB_o this.1 this.2
theorem WInv.make (h : WInv N y g ws Y G rs) (hl : ws.length = N + O) {k f : Int} (hm : mkB N y k f = true) : WInv N (mkY N y k f) g (mkW N y k f ws) (Y ++ [(y : Int)]) G rs := by
 have hF := h.full.make hl hm
 obtain ⟨h1, h2⟩ := mkB_yes hm
 have hf := hc_bd k f h1
 have eY : mkY N y k f = y + 1 + f.toNat := by unfold mkY; rw [if_pos hm]
 have eW : mkW N y k f ws = fil ws y (hw k f) f.toNat := by unfold mkW; rw [if_pos hm]
 have hlt : y + f.toNat < ws.length := by omega
 rw [eY, eW] at hF ⊢
 have hh : ld N (y + 1 + f.toNat) g (fil ws y (hw k f) f.toNat) y = hw k f := ld_head _ _ hlt
 have hp := parts_head k f h1
 have mem : ∀ {z : Int}, (z ∈ Y \/ z ∈ G) -> (z ∈ Y ++ [(y : Int)] \/ z ∈ G) := fun hz => hz.imp (fun c => List.mem_append_left _ c) id
 refine ⟨hF, fun x hx ha => mem (h.rt x hx ha), fun v hv i i0 i1 ha => ?_⟩
 rcases hv with hv | hv
 ·rcases List.mem_append.1 hv with hv | hv
  ·have hi := h.full.iy v hv
   have e0 : ld N (y + 1 + f.toNat) g (fil ws y (hw k f) f.toNat) v = ld N y g ws v := by
    rw [ld_in (iB_y hi.1 (by omega)), ld_in (iB_y hi.1 hi.2), fil_get _ _ _ _ _ hlt, if_neg (by omega), if_neg (by omega)]
   rw [e0] at i1
   have hb := field_y h.full hv i0 i1
   have e1 : ld N (y + 1 + f.toNat) g (fil ws y (hw k f) f.toNat) (v + 1 + i) = ld N y g ws (v + 1 + i) := by
    rw [ld_in (iB_y hb.1 (by omega)), ld_in (iB_y hb.1 hb.2), fil_get _ _ _ _ _ hlt, if_neg (by omega), if_neg (by omega)]
   rw [e1] at ha ⊢
   exact mem (h.fd v (Or.inl hv) i i0 i1 ha)
  ·simp at hv
   subst hv
   rw [hh, hp.2.1] at i1
   have e1 : ld N (y + 1 + f.toNat) g (fil ws y (hw k f) f.toNat) ((y : Int) + 1 + i) = 2 := by
    rw [ld_in (iB_y (by omega) (by omega)), fil_get _ _ _ _ _ hlt, if_neg (by omega), if_pos (by omega)]
   rw [e1] at ha
   exact absurd ha (by decide)
 ·have hi := h.full.io v hv
  have e0 : ld N (y + 1 + f.toNat) g (fil ws y (hw k f) f.toNat) v = ld N y g ws v := by
   rw [ld_in (iB_o hi.1 hi.2), ld_in (iB_o hi.1 hi.2), fil_get _ _ _ _ _ hlt, if_neg (by omega), if_neg (by omega)]
  rw [e0] at i1
  have hb := field_o h.full hv i0 i1
  have e1 : ld N (y + 1 + f.toNat) g (fil ws y (hw k f) f.toNat) (v + 1 + i) = ld N y g ws (v + 1 + i) := by
   rw [ld_in (iB_o hb.1 hb.2), ld_in (iB_o hb.1 hb.2), fil_get _ _ _ _ _ hlt, if_neg (by omega), if_neg (by omega)]
  rw [e1] at ha ⊢
  exact mem (h.fd v (Or.inr hv) i i0 i1 ha)
theorem WInv.set (h : WInv N y g ws Y G rs) (hl : ws.length = N + O) (hy : y <= N) (hg : g <= O) {v i z : Int} (hv : v ∈ Y \/ v ∈ G) (i0 : 0 <= i) (i1 : i < pf (ld N y g ws v)) (hz : aB z = true -> aV z ∈ Y \/ aV z ∈ G) : WInv N y g (ws.set (v + 1 + i).toNat z) Y G rs := by
 obtain ⟨hF, hk⟩ := h.full.set (z := z) hl hy hg hv i0 i1
 have hb := iB_bd (O := O) (field_i h.full hv i0 i1) hy hg
 refine ⟨hF, h.rt, fun u hu j j0 j1 ha => ?_⟩
 rw [hk u hu] at j1
 have hi := field_i h.full hu j0 j1
 have hbi := iB_bd (O := O) hi hy hg
 have e1 : ld N y g (ws.set (v + 1 + i).toNat z) (u + 1 + j) = if (v + 1 + i).toNat = (u + 1 + j).toNat then z else ld N y g ws (u + 1 + j) := by
  rw [ld_in hi, ld_in hi, getD_set _ _ _ _ (by omega)]
 rw [e1] at ha ⊢
 split at ha
 ·rename_i e
  rw [if_pos e]
  exact hz ha
 ·rename_i e
  rw [if_neg e]
  exact h.fd u hu j j0 j1 ha
theorem WInv.tb (h : WInv N y g ws Y G rs) (hN : N <= 256) (hy : y <= N) (hO : O <= 1024) (hg : g <= O) (k : Nat) (hk : k < rs.length) : tB N y g ws (rs.getD k 0) = aB (rs.getD k 0) := by
 obtain ⟨e1, e2⟩ := h.full.lists (O := O) hN hy hO hg
 unfold tB
 rw [e1, e2]
 cases ha : aB (rs.getD k 0)
 ·rfl
 ·have := h.at k hk ha
  simpa using this
end
end Go.Proofs.YtalgochmjddodaaGreat

namespace Go.Proofs.YtalgochmjddodaaGreat
open Go.RowKit W Kp Stl Apart2
structure C0 where
  g : Nat
  ws : List Int
  G : List Int
def Ck.l0 (k : Ck) (z : C0) (a : Int) : Int := Proofs.YtalgochmjddodaaGreat.ld k.N k.y z.g z.ws a
def Ck.or (k : Ck) (z : C0) (s : Cs) (a b : Int) : Prop := (a = b /\ b ∈ z.G) \/ (a ∈ k.T /\ s.f a = b /\ b ≠ -1)
def Ck.ml (k : Ck) (s : Cs) (x0 x : Int) : Prop := x = x0 \/ (k.yg x0 = true /\ s.f (aV x0) ≠ -1 /\ x = ew 3 (s.f (aV x0)))
structure MI (k : Ck) (z : C0) (s : Cs) (H : List Int) : Prop where
  ci : CI k s
  zg : z.g <= s.g
  full : Full2 k.N k.y s.g s.ws k.T (z.G ++ H)
  zh : ∀ b ∈ z.G, b < (k.N : Int) + z.g
  yw : ∀ b, 0 <= b -> b < (k.y : Int) -> k.ld s b = k.l0 z b
  fh : ∀ a ∈ k.T, s.f a ≠ -1 -> s.f a ∈ H
  inj : ∀ a ∈ k.T, ∀ b ∈ k.T, s.f a ≠ -1 -> s.f a = s.f b -> a = b
  sur : ∀ b ∈ H, ∃ a ∈ k.T, s.f a = b
  hlo : ∀ b ∈ H, (k.N : Int) + z.g <= b
  hd : ∀ a b, k.or z s a b -> k.ld s b = k.l0 z a
  fd : ∀ a b, k.or z s a b -> ∀ i, 0 <= i -> i < pf (k.l0 z a) -> k.ml s (k.l0 z (a + 1 + i)) (k.ld s (b + 1 + i))
structure Pg (k : Ck) (s t : Cs) : Prop where
  f : ∀ a, s.f a ≠ -1 -> t.f a = s.f a
  g : s.g <= t.g
  cl : ∀ b, (k.N : Int) <= b -> b < (k.N : Int) + s.g -> k.yg (k.ld s b) = false -> k.yg (k.ld t b) = false
section
variable {k : Ck} {z : C0} {s t u : Cs} {H : List Int}
theorem Pg.refl (k : Ck) (s : Cs) : Pg k s s := ⟨fun _ _ => rfl, Nat.le_refl _, fun _ _ _ h => h⟩
theorem Pg.trans (h : Pg k s t) (j : Pg k t u) : Pg k s u :=
 ⟨fun a ha => (j.f a (by rw [h.f a ha]; exact ha)).trans (h.f a ha), Nat.le_trans h.g j.g, fun b h1 h2 h3 => j.cl b h1 (by have := h.g; omega) (h.cl b h1 h2 h3)⟩
theorem Pg.or (h : Pg k s t) {a b : Int} (ho : k.or z s a b) : k.or z t a b := by
 rcases ho with ho | ⟨h1, h2, h3⟩
 ·exact Or.inl ho
 ·exact Or.inr ⟨h1, (h.f a (by rw [h2]; exact h3)).trans h2, h3⟩
theorem Pg.ml (h : Pg k s t) {x0 x : Int} (ho : k.ml s x0 x) : k.ml t x0 x := by
 rcases ho with ho | ⟨h1, h2, h3⟩
 ·exact Or.inl ho
 ·exact Or.inr ⟨h1, by rw [h.f _ h2]; exact h2, by rw [h.f _ h2]; exact h3⟩
theorem MI.mem (h : MI k z s H) {a b : Int} (ho : k.or z s a b) : b ∈ z.G ++ H := by
 rcases ho with ⟨_, hb⟩ | ⟨h1, h2, h3⟩
 ·exact List.mem_append_left _ hb
 ·exact List.mem_append_right _ (h2 ▸ h.fh a h1 (by rw [h2]; exact h3))
theorem MI.from (h : MI k z s H) {b : Int} (hb : b ∈ z.G ++ H) : ∃ a, k.or z s a b := by
 rcases List.mem_append.1 hb with hb | hb
 ·exact ⟨b, Or.inl ⟨rfl, hb⟩⟩
 ·obtain ⟨a, ha, e⟩ := h.sur b hb
  have := h.hlo b hb
  exact ⟨a, Or.inr ⟨ha, e, by omega⟩⟩
theorem MI.bd (h : MI k z s H) {b : Int} (hb : b ∈ z.G ++ H) : (k.N : Int) <= b /\ b + (1 + pf (k.ld s b)) <= (k.N : Int) + s.g /\ pc (k.ld s b) = 0 := h.full.to.mem b hb
theorem MI.bdH (h : MI k z s H) {b : Int} (hb : b ∈ H) : (k.N : Int) <= b /\ b < (k.N : Int) + s.g := by
 have h1 := h.bd (List.mem_append_right _ hb)
 have := pf_bd (k.ld s b)
 omega
theorem CI.notT (h : CI k s) {a : Int} (ha : (k.N : Int) <= a) : a ∉ k.T := fun c => by
 have h1 := h.at_y c
 have := h.hy
 omega
theorem yg_old (h : CI k s) {n : Int} (h0 : (k.N : Int) <= n) (h1 : n < 1000000) : k.yg (ew 3 n) = false := by
 have e := at_enc 3 n (vc3_in n (by omega) (by omega))
 unfold Ck.yg
 rw [e.1, e.2 rfl]
 simp
 exact h.notT h0
theorem MI.cp (h : MI k z s H) {a : Int} (ha : a ∈ k.T) (hf : s.f a = -1) : MI k z (k.cp s a) (H ++ [((k.N + s.g : Nat) : Int)]) /\ Pg k s (k.cp s a) /\ (k.cp s a).f a = ((k.N + s.g : Nat) : Int) := by
 have ci := h.ci
 have hc := ci.cpB ha hf
 obtain ⟨t1, t2, t3⟩ := ci.th a ha
 have hp := pf_bd (k.ld s a)
 have hz := h.zg
 have hl := Ck.ld_cp ci.len ci.hy ci.hg t1 t3 hc
 obtain ⟨ci', _⟩ := ci.cp ha hf
 obtain ⟨fu, fe⟩ := h.full.copy ci.len ci.hy ci.hg hc (Or.inl ha)
 have ef : (k.cp s a).f = upf s.f a ((k.N + s.g : Nat) : Int) := by rw [Ck.cp_eq hc]
 have eg : (k.cp s a).g = s.g + (1 + (pf (k.ld s a)).toNat) := by rw [Ck.cp_eq hc]
 have e1 : ∀ b, b ≠ a -> (k.cp s a).f b = s.f b := fun b hb => by rw [ef]; unfold upf; rw [if_neg hb]
 have e2 : (k.cp s a).f a = ((k.N + s.g : Nat) : Int) := by rw [ef]; unfold upf; rw [if_pos rfl]
 have lo : ∀ b, b < (k.N : Int) + s.g -> k.ld (k.cp s a) b = k.ld s b := fun b hb => by rw [hl, if_neg (by omega)]
 have pg : Pg k s (k.cp s a) := ⟨fun b hb => e1 b (fun e => hb (by rw [e]; exact hf)), by rw [eg]; omega, fun b h1 h2 h3 => by rw [lo b h2]; exact h3⟩
 have or' : ∀ c b, k.or z (k.cp s a) c b -> k.or z s c b \/ (c = a /\ b = ((k.N + s.g : Nat) : Int)) := fun c b ho => by
  rcases ho with ho | ⟨o1, o2, o3⟩
  ·exact Or.inl (Or.inl ho)
  ·by_cases e : c = a
   ·rw [e, e2] at o2
    exact Or.inr ⟨e, o2.symm⟩
   ·rw [e1 c e] at o2
    exact Or.inl (Or.inr ⟨o1, o2, o3⟩)
 refine ⟨⟨ci', by rw [eg]; omega, by rw [<- List.append_assoc]; exact fu, h.zh, fun b h0 h1 => ?_, fun c hc' h1 => ?_, fun c hc' b hb h1 h2 => ?_, fun b hb => ?_, fun b hb => ?_, fun c b ho => ?_, fun c b ho i i0 i1 => ?_⟩, pg, e2⟩
 ·rw [lo b (by have := ci.hy; omega)]
  exact h.yw b h0 h1
 ·by_cases e : c = a
  ·rw [e, e2]; simp
  ·rw [e1 c e] at h1 ⊢
   exact List.mem_append_left _ (h.fh c hc' h1)
 ·by_cases ec : c = a
  ·by_cases eb : b = a
   ·rw [ec, eb]
   ·rw [ec, e2, e1 b eb] at h2
    have := h.bdH (h.fh b hb (by rw [<- h2]; omega))
    omega
  ·by_cases eb : b = a
   ·rw [eb, e2, e1 c ec] at h2
    rw [e1 c ec] at h1
    have := h.bdH (h.fh c hc' h1)
    omega
   ·rw [e1 c ec, e1 b eb] at h2
    rw [e1 c ec] at h1
    exact h.inj c hc' b hb h1 h2
 ·rcases List.mem_append.1 hb with hb | hb
  ·obtain ⟨c, hc', e⟩ := h.sur b hb
   have hn : s.f c ≠ -1 := by have := h.bdH hb; omega
   exact ⟨c, hc', by rw [pg.f c hn]; exact e⟩
  ·simp at hb
   exact ⟨a, ha, by rw [e2, hb]; omega⟩
 ·rcases List.mem_append.1 hb with hb | hb
  ·exact h.hlo b hb
  ·simp at hb
   omega
 ·rcases or' c b ho with ho | ⟨rfl, rfl⟩
  ·have hm := h.bd (h.mem ho)
   rw [lo b (by have := pf_bd (k.ld s b); omega)]
   exact h.hd c b ho
  ·have := h.yw c t1 (by omega)
   rw [<- this]
   exact fe
 ·rcases or' c b ho with ho | ⟨rfl, rfl⟩
  ·have hm := h.bd (h.mem ho)
   have e := h.hd c b ho
   rw [lo (b + 1 + i) (by rw [e] at hm; omega)]
   exact pg.ml (h.fd c b ho i i0 i1)
  ·have e := h.yw c t1 (by omega)
   rw [<- e] at i1
   refine Or.inl ?_
   rw [hl, if_pos (by omega), <- h.yw (c + 1 + i) (by omega) (by omega)]
   congr 1
   omega
theorem MI.st (h : MI k z s H) {a b i x : Int} (ho : k.or z s a b) (i0 : 0 <= i) (i1 : i < pf (k.l0 z a)) (hx : k.ml s (k.l0 z (a + 1 + i)) x) : MI k z (k.st s (b + 1 + i) x) H /\ k.ld (k.st s (b + 1 + i) x) (b + 1 + i) = x /\ (∀ c, c ≠ b + 1 + i -> k.ld (k.st s (b + 1 + i) x) c = k.ld s c) := by
 have ci := h.ci
 have hm := h.mem ho
 have hb := h.bd hm
 have e := h.hd a b ho
 rw [e] at hb
 have hi : iB k.N k.y s.g (b + 1 + i) = true := iB_o (by omega) (by omega)
 have hl := Ck.ld_st ci.len ci.hy ci.hg (b + 1 + i) x
 have same : k.ld (k.st s (b + 1 + i) x) (b + 1 + i) = x := by rw [hl, if_pos ⟨rfl, hi⟩]
 have oth : ∀ c, c ≠ b + 1 + i -> k.ld (k.st s (b + 1 + i) x) c = k.ld s c := fun c hc => by rw [hl, if_neg (fun e => hc e.1)]
 have ew : k.st s (b + 1 + i) x = { s with ws := s.ws.set (b + 1 + i).toNat x } := by unfold Ck.st; rw [if_pos hi]
 have ap : ∀ c d, k.or z s c d -> ∀ j, 0 <= j -> j < pf (k.l0 z c) -> d + 1 + j = b + 1 + i -> c = a /\ d = b /\ j = i := fun c d hcd j j0 j1 e3 => by
  have hd := h.mem hcd
  have ec := h.hd c d hcd
  have ed : d = b := by
   rcases Int.lt_trichotomy d b with l | l | l
   ·have := h.full.to.apart d hd b hm l
    have this : d + (1 + pf (k.ld s d)) <= b := this
    rw [ec] at this
    omega
   ·exact l
   ·have := h.full.to.apart b hm d hd l
    have this : b + (1 + pf (k.ld s b)) <= d := this
    rw [e] at this
    omega
  refine ⟨?_, ed, by omega⟩
  rw [ed] at hcd
  rcases hcd with ⟨c1, c2⟩ | ⟨c1, c2, c3⟩ <;> rcases ho with ⟨o1, o2⟩ | ⟨o1, o2, o3⟩
  ·omega
  ·have h5 := h.hlo b (o2 ▸ h.fh a o1 (by rw [o2]; exact o3))
   have h6 := h.zh b c2
   omega
  ·have h5 := h.hlo b (c2 ▸ h.fh c c1 (by rw [c2]; exact c3))
   have h6 := h.zh b o2
   omega
  ·exact h.inj c c1 a o1 (by rw [c2]; exact c3) (c2.trans o2.symm)
 have fl : Full2 k.N k.y (k.st s (b + 1 + i) x).g (k.st s (b + 1 + i) x).ws k.T (z.G ++ H) := by
  rw [ew]
  exact (h.full.set ci.len ci.hy ci.hg (v := b) (i := i) (z := x) (Or.inr hm) i0 (by show i < pf (k.ld s b); rw [e]; exact i1)).1
 refine ⟨⟨ci.st (by omega) x, h.zg, fl, h.zh, fun c h0 h1 => ?_, h.fh, h.inj, h.sur, h.hlo, fun c d hcd => ?_, fun c d hcd j j0 j1 => ?_⟩, same, oth⟩
 ·rw [oth c (by have := ci.hy; omega)]
  exact h.yw c h0 h1
 ·have hcd : k.or z s c d := hcd
  rw [oth d (fun e3 => ?_)]
  ·exact h.hd c d hcd
  ·exact h.full.to.field hm i0 (by show i < pf (k.ld s b); rw [e]; exact i1) (e3 ▸ h.mem hcd)
 ·have hcd : k.or z s c d := hcd
  by_cases e3 : d + 1 + j = b + 1 + i
  ·obtain ⟨rfl, rfl, rfl⟩ := ap c d hcd j j0 j1 e3
   rw [same]
   exact hx
  ·rw [oth _ e3]
   exact h.fd c d hcd j j0 j1
theorem Pg.st (ci : CI k s) {a x : Int} (hx : k.yg x = false) : Pg k s (k.st s a x) :=
 ⟨fun _ _ => rfl, Nat.le_refl _, fun b _ _ h3 => by
  rw [Ck.ld_st ci.len ci.hy ci.hg]
  split
  ·exact hx
  ·exact h3⟩
theorem MI.br (h : MI k z s H) (x : Int) : ∃ H', MI k z (k.br s x).2 H' /\ Pg k s (k.br s x).2 /\ k.yg (k.br s x).1 = false /\ (∃ H2, H' = H ++ H2) /\ (∀ x0, k.ml s x0 x -> k.ml (k.br s x).2 x0 (k.br s x).1) /\ (k.yg x = true -> (k.br s x).2.f (aV x) ≠ -1) /\ (k.br s x).1 = k.nw (k.br s x).2 x := by
 have ci := h.ci
 have n1 := ci.hN'
 have n2 := ci.hO
 have key : ∀ (t : Cs) (Ht : List Int), MI k z t Ht -> Pg k s t -> (k.yg x = true -> t.f (aV x) ≠ -1) -> k.yg (k.nw t x) = false /\ ∀ x0, k.ml s x0 x -> k.ml t x0 (k.nw t x) := fun t Ht ht pg hy => by
  by_cases c : k.yg x = true
  ·have hn := hy c
   have hT : aV x ∈ k.T := by
    unfold Ck.yg at c
    simp at c
    exact c.2
   have e : k.nw t x = ew 3 (t.f (aV x)) := by unfold Ck.nw; rw [c, if_pos (by simp [hn])]
   have hb := ht.bdH (ht.fh _ hT hn)
   have hg := ht.ci.hg
   rw [e]
   refine ⟨yg_old ht.ci hb.1 (by omega), fun x0 hm => ?_⟩
   rcases hm with rfl | ⟨m1, m2, m3⟩
   ·exact Or.inr ⟨c, hn, rfl⟩
   ·exfalso
    have hT0 : aV x0 ∈ k.T := by
     unfold Ck.yg at m1
     simp at m1
     exact m1.2
    have hb0 := h.bdH (h.fh _ hT0 m2)
    have hg0 := ci.hg
    rw [m3, yg_old ci hb0.1 (by omega)] at c
    simp at c
  ·have c : k.yg x = false := by simpa using c
   have e : k.nw t x = x := by unfold Ck.nw; rw [c]; simp
   rw [e]
   exact ⟨c, fun x0 hm => pg.ml hm⟩
 unfold Ck.br
 by_cases c : k.ls s x = true
 ·obtain ⟨c1, c2, c3⟩ := Ck.ls_yes c
  obtain ⟨m1, m2, m3⟩ := h.cp c2 c3
  have hn : (k.cp s (aV x)).f (aV x) ≠ -1 := by rw [m3]; omega
  obtain ⟨k1, k2⟩ := key _ _ m1 m2 (fun _ => hn)
  rw [if_pos c]
  exact ⟨_, m1, m2, k1, ⟨_, rfl⟩, k2, fun _ => hn, rfl⟩
 ·have hn : k.yg x = true -> s.f (aV x) ≠ -1 := fun hy e => c (by unfold Ck.ls; rw [hy, e]; rfl)
  obtain ⟨k1, k2⟩ := key s H h (Pg.refl _ _) hn
  rw [if_neg c]
  exact ⟨H, h, Pg.refl _ _, k1, ⟨[], by simp⟩, k2, hn, rfl⟩
theorem MI.kf (h : MI k z s H) {a b i : Int} (ho : k.or z s a b) (i0 : 0 <= i) (i1 : i < pf (k.l0 z a)) : ∃ H', MI k z (k.kf s (b + 1 + i)) H' /\ Pg k s (k.kf s (b + 1 + i)) /\ k.yg (k.ld (k.kf s (b + 1 + i)) (b + 1 + i)) = false /\ ∃ H2, H' = H ++ H2 := by
 obtain ⟨H', m1, m2, m3, m4, m5, _, _⟩ := h.br (k.ld s (b + 1 + i))
 obtain ⟨s1, s2, s3⟩ := m1.st (m2.or ho) i0 i1 (m5 _ (h.fd a b ho i i0 i1))
 refine ⟨H', s1, m2.trans (Pg.st m1.ci m3), ?_, m4⟩
 unfold Ck.kf
 rw [s2]
 exact m3
theorem MI.kfs (h : MI k z s H) {a b : Int} (ho : k.or z s a b) : ∀ n : Nat, (n : Int) <= pf (k.l0 z a) -> ∃ H', MI k z (k.kfs s b n) H' /\ Pg k s (k.kfs s b n) /\ (∀ i : Nat, i < n -> k.yg (k.ld (k.kfs s b n) (b + 1 + i)) = false) /\ ∃ H2, H' = H ++ H2
 | 0, _ => ⟨H, h, Pg.refl _ _, fun i hi => by omega, ⟨[], by simp⟩⟩
 | n + 1, hn => by
  obtain ⟨H1, m1, m2, m3, ⟨H2, m4⟩⟩ := MI.kfs h ho n (by omega)
  obtain ⟨H3, j1, j2, j3, ⟨H4, j4⟩⟩ := m1.kf (m2.or ho) (i := n) (by omega) (by omega)
  refine ⟨H3, j1, m2.trans j2, fun i hi => ?_, ⟨H2 ++ H4, by rw [j4, m4, List.append_assoc]⟩⟩
  by_cases e : i = n
  ·rw [e]; exact j3
  ·have hb := m1.bd (m1.mem (m2.or ho))
   have e2 := m1.hd _ _ (m2.or ho)
   rw [e2] at hb
   exact j2.cl _ (by omega) (by omega) (m3 i (by omega))
end
end Go.Proofs.YtalgochmjddodaaGreat

namespace Go.Proofs.YtalgochmjddodaaGreat
open Go.RowKit W Kp Stl
section
variable {k : Ck} {z : C0} {s t u : Cs} {H : List Int}
theorem pf_two {x : Int} (h : pc x = 0) (h3 : pk x = 1 \/ pk x = 3 \/ pk x = 4) : pf x = 2 := by
 unfold pc at h
 unfold pk at h3
 unfold pf
 split at h
 ·rename_i e
  rw [if_pos e] at h3 ⊢
  generalize x % 16 = a at *
  generalize x / 16 = f at *
  unfold hc at e
  rcases h3 with h3 | h3 | h3
  ·rw [if_pos h3] at e
   split at e
   ·assumption
   ·omega
  ·rw [if_neg (by omega), if_pos h3] at e
   split at e
   ·assumption
   ·omega
  ·rw [if_neg (by omega), if_neg (by omega), if_pos h3] at e
   split at e
   ·assumption
   ·omega
 ·omega
theorem pk_all {x : Int} (h : pc x = 0) : (pk x = 1 \/ pk x = 2) \/ pk x = 3 \/ pk x = 4 \/ (pk x = 5 /\ pf x = 0) := by
 unfold pc at h
 unfold pk pf
 split at h
 ·rename_i e
  rw [if_pos e, if_pos e]
  have hb := hc_bd _ _ e
  generalize x % 16 = a at *
  generalize x / 16 = f at *
  by_cases h5 : a = 5
  ·right; right; right
   refine ⟨h5, ?_⟩
   unfold hc at e
   rw [if_neg (by omega), if_neg (by omega), if_neg (by omega), if_neg (by omega), if_pos h5] at e
   split at e
   ·assumption
   ·omega
  ·omega
 ·omega
theorem kf_wk (k : Ck) (s : Cs) (a : Int) : (k.kf s a).wk = s.wk /\ (k.kf s a).ep = s.ep /\ (k.kf s a).nx = s.nx /\ (k.kf s a).rs = s.rs := by
 unfold Ck.kf Ck.st Ck.br
 dsimp only
 split <;> exact ⟨rfl, rfl, rfl, rfl⟩
theorem kfs_wk (k : Ck) (s : Cs) (a : Int) : ∀ n, (k.kfs s a n).wk = s.wk /\ (k.kfs s a n).ep = s.ep /\ (k.kfs s a n).nx = s.nx /\ (k.kfs s a n).rs = s.rs
 | 0 => ⟨rfl, rfl, rfl, rfl⟩
 | n + 1 => by
  obtain ⟨h1, h2, h3, h4⟩ := kfs_wk k s a n
  obtain ⟨j1, j2, j3, j4⟩ := kf_wk k (k.kfs s a n) (a + 1 + n)
  exact ⟨j1.trans h1, j2.trans h2, j3.trans h3, j4.trans h4⟩
theorem lk_nx (k : Ck) (s : Cs) (a : Int) : (k.lk s a).nx = s.nx /\ (k.lk s a).rs = s.rs := by
 unfold Ck.lk
 split
 ·exact ⟨(kfs_wk _ _ _ _).2.2.1, (kfs_wk _ _ _ _).2.2.2⟩
 ·split
  ·exact ⟨(kf_wk _ _ _).2.2.1, (kf_wk _ _ _).2.2.2⟩
  ·split <;> exact ⟨rfl, rfl⟩
theorem MI.turn (h : MI k z s H) (wk ep rs : List Int) (nx : Int) (hw : ∀ a ∈ wk, (k.N : Int) <= a /\ a <= 2000) (he : ∀ a ∈ ep, (k.N : Int) <= a /\ a <= 2000) (h0 : (k.N : Int) <= nx) (h1 : nx <= (k.N : Int) + k.O + 13) : MI k z { s with wk := wk, ep := ep, rs := rs, nx := nx } H :=
  { ci := { hN := h.ci.hN, hN' := h.ci.hN', hO := h.ci.hO, hy := h.ci.hy, hg := h.ci.hg, len := h.ci.len, th := h.ci.th, nd := h.ci.nd, room := h.ci.room, nx0 := h0, nx1 := h1, wk0 := hw, ep0 := he, tl := h.ci.tl }
    zg := h.zg, full := h.full, zh := h.zh, yw := h.yw, fh := h.fh, inj := h.inj, sur := h.sur, hlo := h.hlo, hd := h.hd, fd := h.fd }
theorem Pg.turn (k : Ck) (s : Cs) (wk ep rs : List Int) (nx : Int) : Pg k s { s with wk := wk, ep := ep, rs := rs, nx := nx } := ⟨fun _ _ => rfl, Nat.le_refl _, fun _ _ _ h => h⟩
def Lo (k : Ck) (s : Cs) (b : Int) : Prop := ∀ i, 0 <= i -> i < pf (k.ld s b) -> k.yg (k.ld s (b + 1 + i)) = false \/ (pk (k.ld s b) = 3 /\ i = 0 /\ b ∈ s.wk) \/ (pk (k.ld s b) = 4 /\ b ∈ s.ep)
theorem MI.lk (h : MI k z s H) {a b : Int} (ho : k.or z s a b) : ∃ H', MI k z (k.lk s b) H' /\ Pg k s (k.lk s b) /\ (∃ H2, H' = H ++ H2) /\ Lo k (k.lk s b) b /\ (∀ c ∈ s.wk, c ∈ (k.lk s b).wk) /\ ∀ c ∈ s.ep, c ∈ (k.lk s b).ep := by
 have hb := h.bd (h.mem ho)
 have hg := h.ci.hg
 have hN := h.ci.hN'
 have hO := h.ci.hO
 have e0 := h.hd a b ho
 have hbp := pf_bd (k.ld s b)
 unfold Ck.lk
 by_cases c1 : pk (k.ld s b) = 1 \/ pk (k.ld s b) = 2
 ·rw [if_pos c1]
  obtain ⟨H', m1, m2, m3, m4⟩ := h.kfs ho (pf (k.ld s b)).toNat (by rw [<- e0]; omega)
  have e1 := m1.hd a b (m2.or ho)
  refine ⟨H', m1, m2, m4, fun i i0 i1 => Or.inl ?_, fun c hc => by rw [(kfs_wk _ _ _ _).1]; exact hc, fun c hc => by rw [(kfs_wk _ _ _ _).2.1]; exact hc⟩
  rw [e1, <- e0] at i1
  have h3 := m3 i.toNat (by omega)
  rw [Int.toNat_of_nonneg i0] at h3
  exact h3
 ·rw [if_neg c1]
  by_cases c3 : pk (k.ld s b) = 3
  ·rw [if_pos c3]
   have hf2 := pf_two hb.2.2 (Or.inr (Or.inl c3))
   have h2 := h.turn (s.wk ++ [b]) s.ep s.rs s.nx (fun x hx => by
    rcases List.mem_append.1 hx with d | d
    ·exact h.ci.wk0 x d
    ·rw [List.mem_singleton] at d
     subst d
     omega) h.ci.ep0 h.ci.nx0 h.ci.nx1
   obtain ⟨H', m1, m2, m3, m4⟩ := h2.kf (a := a) (b := b) (i := 1) ho (by omega) (by rw [<- e0]; omega)
   have ea : b + 1 + 1 = b + 2 := by omega
   rw [ea] at m1 m2 m3
   have e1 := m1.hd a b (m2.or ho)
   refine ⟨H', m1, (Pg.turn k s (s.wk ++ [b]) s.ep s.rs s.nx).trans m2, m4, fun i i0 i1 => ?_, fun c hc => by rw [(kf_wk _ _ _).1]; exact List.mem_append_left _ hc, fun c hc => by rw [(kf_wk _ _ _).2.1]; exact hc⟩
   rw [e1, <- e0, hf2] at i1
   by_cases ei : i = 0
   ·refine Or.inr (Or.inl ⟨by rw [e1, <- e0]; exact c3, ei, ?_⟩)
    rw [(kf_wk _ _ _).1]
    simp
   ·have ei2 : i = 1 := by omega
    subst ei2
    rw [ea]
    exact Or.inl m3
  ·rw [if_neg c3]
   by_cases c4 : pk (k.ld s b) = 4
   ·rw [if_pos c4]
    refine ⟨H, h.turn s.wk (s.ep ++ [b]) s.rs s.nx h.ci.wk0 (fun x hx => by
     rcases List.mem_append.1 hx with d | d
     ·exact h.ci.ep0 x d
     ·rw [List.mem_singleton] at d
      subst d
      omega) h.ci.nx0 h.ci.nx1, Pg.turn k s s.wk (s.ep ++ [b]) s.rs s.nx, ⟨[], by simp⟩, fun i i0 i1 => Or.inr (Or.inr ⟨c4, by simp⟩), fun c hc => hc, fun c hc => List.mem_append_left _ hc⟩
   ·rw [if_neg c4]
    refine ⟨H, h, Pg.refl _ _, ⟨[], by simp⟩, fun i i0 i1 => ?_, fun c hc => hc, fun c hc => hc⟩
    have := pk_all hb.2.2
    omega
theorem Lo.go {b : Int} {K : List Int} (h : Lo k s b) (hs : MI k z s H) (ht : MI k z t K) (p : Pg k s t) {a : Int} (ho : k.or z s a b) (hw : b ∈ s.wk -> b ∈ t.wk) (he : b ∈ s.ep -> b ∈ t.ep) : Lo k t b := by
 have e0 := hs.hd a b ho
 have e1 := ht.hd a b (p.or ho)
 have hb := hs.bd (hs.mem ho)
 intro i i0 i1
 rw [e1, <- e0] at i1
 rw [e1, <- e0]
 rcases h i i0 i1 with d | ⟨d1, d2, d3⟩ | ⟨d1, d2⟩
 ·exact Or.inl (p.cl _ (by omega) (by omega) d)
 ·exact Or.inr (Or.inl ⟨d1, d2, hw d3⟩)
 ·exact Or.inr (Or.inr ⟨d1, he d2⟩)
end
end Go.Proofs.YtalgochmjddodaaGreat

namespace Go.Proofs.YtalgochmjddodaaGreat
open Go.RowKit W Kp Stl
def sumF (g : Int -> Nat) (l : List Int) : Nat := (l.map g).sum
theorem sumF_cons (g : Int -> Nat) (a : Int) (l : List Int) : sumF g (a :: l) = g a + sumF g l := by simp [sumF]
theorem sumF_app (g : Int -> Nat) (l m : List Int) : sumF g (l ++ m) = sumF g l + sumF g m := by simp [sumF]
theorem sumF_into {g h : Int -> Nat} (R : Int -> Int -> Prop) (hR : ∀ a b c, R a c -> R b c -> a = b) : ∀ (l T : List Int), l.Nodup -> T.Nodup -> (∀ b ∈ l, ∃ a ∈ T, R b a /\ g b = h a) -> sumF g l <= sumF h T
 | [], T, _, _, _ => Nat.zero_le _
 | b :: l, T, hl, hT, hx => by
  obtain ⟨a, ha, r, e⟩ := hx b (by simp)
  rw [List.nodup_cons] at hl
  have h1 := sum_less h T a hT ha
  have h2 := sumF_into R hR l (T.filter (fun c => !(c == a))) hl.2 (hT.filter _) (fun c hc => by
   obtain ⟨d, hd, r2, e2⟩ := hx c (List.mem_cons_of_mem _ hc)
   refine ⟨d, List.mem_filter.2 ⟨hd, ?_⟩, r2, e2⟩
   cases q : d == a
   ·rfl
   ·have q2 : d = a := by simpa using q
    rw [q2] at r2
    exact absurd (hR c b a r2 r ▸ hc) hl.1)
  rw [sumF_cons]
  unfold sumF at h2 ⊢
  omega
theorem sumF_sub {g : Int -> Nat} {l T : List Int} (hl : l.Nodup) (hT : T.Nodup) (hs : ∀ a ∈ l, a ∈ T) : sumF g l <= sumF g T :=
 sumF_into (fun a b => a = b) (fun _ _ _ h1 h2 => h1.trans h2.symm) l T hl hT (fun b hb => ⟨b, hs b hb, rfl, rfl⟩)
def szL (L : Int -> Int) (a : Int) : Nat := 1 + (pf (L a)).toNat
theorem Tile.sum {L : Int -> Int} {hi : Int} : ∀ {l : List Int} {a : Int}, Tile L hi a l -> (sumF (szL L) l : Int) = hi - a
 | [], a, h => by
  have h : a = hi := h
  simp [sumF, h]
 | x :: l, a, h => by
  obtain ⟨rfl, _, h1, ht⟩ := h
  have ih := Tile.sum ht
  have hp := pf_bd (L x)
  rw [sumF_cons]
  unfold szL at ih ⊢
  omega
theorem Tile.nodup {L : Int -> Int} {hi : Int} : ∀ {l : List Int} {a : Int}, Tile L hi a l -> l.Nodup
 | [], _, _ => List.nodup_nil
 | x :: l, a, h => by
  obtain ⟨rfl, _, _, ht⟩ := h
  rw [List.nodup_cons]
  refine ⟨fun c => ?_, Tile.nodup ht⟩
  have := (ht.mem x c).1
  have hp := pf_bd (L x)
  omega
def szV (ns : List (Int × List (Int × Int))) : Nat := (ns.map (fun nd => 1 + if nd.1 = 5 then 0 else nd.2.length)).sum
theorem szV_of {kd : Int -> Int} {z : Int -> Nat} : ∀ (ns : List (Int × List (Int × Int))) (l : List Int), ns.length = l.length -> (∀ i, i < l.length -> (1 + if (ns.getD i (0, [])).1 = 5 then 0 else (ns.getD i (0, [])).2.length) = z (l.getD i 0)) -> szV ns = sumF z l
 | [], [], _, _ => rfl
 | [], x :: l, h, _ => by simp at h
 | x :: ns, [], h, _ => by simp at h
 | nd :: ns, a :: l, h, e => by
  have h0 := e 0 (by simp)
  have h1 := szV_of (kd := kd) ns l (by simpa using h) (fun i hi => by
   have := e (i + 1) (by simpa using hi)
   simpa using this)
  rw [sumF_cons, <- h1]
  simp at h0
  simp [szV, h0]
theorem view_bd (N y g : Nat) (ws : List Int) (Q : List En) (rs : List Int) : (vwL N y g ws Q rs).1.length = rs.length /\ (vwL N y g ws Q rs).2.2.length <= 4000 /\ ∀ nd ∈ (vwL N y g ws Q rs).2.2, nd.2.length <= Q.length + 12 := by
 have hv := vwL_go N y g ws Q rs
 refine ⟨vls_len _ _ _ _, ?_, fun nd hnd => ?_⟩
 ·rw [hv.ok.len]
  refine Nat.le_trans hv.ok.le ?_
  rw [List.length_append]
  have h1 : (thY N y g ws).length <= 2000 := ths_le _ _
  have h2 : (thO N y g ws).length <= 2000 := ths_le _ _
  omega
 ·obtain ⟨i, hi, e⟩ := List.mem_iff_getElem.1 hnd
  obtain ⟨nd', q1, _, q3, _⟩ := hv.nw i (Nat.zero_le _) (by rw [<- hv.ok.len]; exact hi)
  rw [List.getElem?_eq_getElem hi, e] at q1
  have q1 : nd = nd' := by simpa using q1
  rw [q1, q3]
  exact shL_len N y g ws Q _
section
variable {N O y g : Nat} {ws Y G : List Int}
theorem shL_n (h : Full2 N y g ws Y G) (hy : y <= N) (Q : List En) {a : Int} (ha : a ∈ Y \/ a ∈ G) (h5 : pk (ld N y g ws a) ≠ 5) : ((shL N y g ws Q a).length : Int) = pf (ld N y g ws a) := by
 have hp := pf_bd (ld N y g ws a)
 unfold shL
 rw [if_neg h5, h.stands hy ha]
 simp
 omega
theorem Full2.nd (h : Full2 N y g ws Y G) (hy : y <= N) : (Y ++ G).Nodup := by
 rw [List.nodup_append]
 refine ⟨h.ty.nodup, h.to.nodup, fun a ha b hb e => ?_⟩
 have := h.iy a ha
 have := h.io b hb
 omega
theorem view_size (h : Full2 N y g ws Y G) (hN : N <= 256) (hy : y <= N) (hO : O <= 1024) (hg : g <= O) (Q : List En) (rs : List Int) : szV (vwL N y g ws Q rs).2.2 <= y + g := by
 have hv := vwL_go N y g ws Q rs
 obtain ⟨e1, e2⟩ := h.lists (O := O) hN hy hO hg
 generalize vwL N y g ws Q rs = r at hv ⊢
 obtain ⟨vs, ms, ns⟩ := r
 rw [e1, e2] at hv
 have hok := hv.ok
 have hl : ns.length = ms.length := hok.len
 have hnd : ms.Nodup := hok.nd
 have hsub : ∀ a ∈ ms, a ∈ Y ++ G := hok.sub
 have key : szV ns = sumF (szL (ld N y g ws)) ms := by
  refine szV_of (kd := fun a => pk (ld N y g ws a)) ns ms hl (fun i hi => ?_)
  obtain ⟨nd, q1, q2, q3, _⟩ := hv.nw i (Nat.zero_le _) hi
  have q0 : ns.getD i (0, []) = nd := by
   rw [List.getD_eq_getElem?_getD]
   have q1 : ns[i]? = some nd := q1
   rw [q1]
   rfl
  rw [q0]
  dsimp only at q2 q3
  have hm : ms.getD i 0 ∈ ms := by
   rw [List.getD_eq_getElem?_getD, List.getElem?_eq_getElem hi]
   exact List.getElem_mem hi
  have hYG : ms.getD i 0 ∈ Y \/ ms.getD i 0 ∈ G := List.mem_append.1 (hsub _ hm)
  have hp0 : pc (ld N y g ws (ms.getD i 0)) = 0 := by
   rcases hYG with d | d
   ·exact (h.ty.mem _ d).2.2
   ·exact (h.to.mem _ d).2.2
  unfold szL
  by_cases h5 : nd.1 = 5
  ·rw [if_pos h5]
   rw [q2] at h5
   have := pk_all hp0
   omega
  ·rw [if_neg h5, q3]
   rw [q2] at h5
   have := shL_n h hy Q hYG h5
   omega
 rw [key]
 have h1 := sumF_sub (g := szL (ld N y g ws)) hnd (h.nd hy) hsub
 rw [sumF_app] at h1
 have h2 := h.ty.sum
 have h3 := h.to.sum
 omega
end
end Go.Proofs.YtalgochmjddodaaGreat
