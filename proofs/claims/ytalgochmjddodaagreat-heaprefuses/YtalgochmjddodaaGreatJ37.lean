/- Joined: Vw9, Hx1, OpenZ. -/
import Derived.Test.YtalgochmjddodaaGreatJ17
import Derived.Test.YtalgochmjddodaaGreatJ36
import Derived.Test.YtalgochmjddodaaGreatJ03
import Derived.Test.YtalgochmjddodaaGreatJ27
import Derived.Test.YtalgochmjddodaaGreatJ04
import Derived.Lib.SmallJoins
namespace Go.Proofs.YtalgochmjddodaaGreat
set_option maxRecDepth 100000
set_option maxHeartbeats 1000000
open Go.RowKit W Kp Stl
def LpN (w : World) (base : Nat) (ad : Option Addr) (l : List (Int × Int)) : Prop := Lp w ad l /\ (0 < l.length -> ∃ b o, ad = some ⟨b, o, none⟩ /\ base <= b)
def LnN (w : World) (base : Nat) (ad : Option Addr) (ns : List (Int × List (Int × Int))) : Prop :=
 ∃ m : List Vnd, nds m = ns /\ (∀ x ∈ m, Lp w x.2.1 x.2.2.2) /\ (∀ k, Fb m k -> base <= k) /\ (0 < m.length -> ∃ b o, ad = some ⟨b, o, none⟩ /\ base <= b /\ b < w.heap.size /\ ∀ i x, m[i]? = some x -> w.cell? ⟨b, o + i * 2, none⟩ = some (.int .i64 x.1) /\ w.cell? ⟨b, o + i * 2 + 1, none⟩ = some (.slice x.2.1 x.2.2.2.length x.2.2.1))
theorem LnN.ln {w : World} {base : Nat} {ad : Option Addr} {ns : List (Int × List (Int × Int))} (h : LnN w base ad ns) : Ln w ad ns := by
 obtain ⟨m, h1, h2, _, h4⟩ := h
 exact ⟨m, h1, h2, fun hp => by
  obtain ⟨b, o, e, _, l, c⟩ := h4 hp
  exact ⟨b, o, e, l, c⟩⟩
theorem LpN.fr {F : Nat -> Prop} {w w' : World} {base : Nat} {ad : Option Addr} {l : List (Int × Int)} (h : LpN w base ad l) (f : Fr F w w') (hF : ∀ b, F b -> b < base) : LpN w' base ad l :=
 ⟨h.1.keep f.size (fun hp b e => by
  obtain ⟨b0, o0, e0, hb⟩ := h.2 hp
  obtain ⟨b1, o1, e1, l1, _⟩ := h.1 hp
  rw [e0] at e e1
  cases e
  cases e1
  exact f.block b0 l1 (fun d => by have h9 : b0 < base := hF b0 d; omega)), h.2⟩
theorem LnN.fr {F : Nat -> Prop} {w w' : World} {base : Nat} {ad : Option Addr} {ns : List (Int × List (Int × Int))} (h : LnN w base ad ns) (f : Fr F w w') (hF : ∀ b, F b -> b < base) : LnN w' base ad ns := by
 obtain ⟨m, h1, h2, h3, h4⟩ := h
 refine ⟨m, h1, fun x hx => (h2 x hx).keep f.size (fun hp b e => ?_), h3, fun hp => ?_⟩
 ·obtain ⟨b1, o1, e1, l1, _⟩ := h2 x hx hp
  rw [e1] at e
  cases e
  have h8 := h3 b1 ⟨x, hx, hp, o1, e1⟩
  exact f.block b1 l1 (fun d => by have h9 : b1 < base := hF b1 d; omega)
 ·obtain ⟨b, o, e, g1, g2, c⟩ := h4 hp
  have hb : w'.heap[b]? = w.heap[b]? := f.block b g2 (fun d => by have := hF _ d; omega)
  exact ⟨b, o, e, g1, Nat.lt_of_lt_of_le g2 f.size, fun i x hx => ⟨(World.cell?_of_block (a := ⟨b, o + i * 2, none⟩) hb).trans (c i x hx).1, (World.cell?_of_block (a := ⟨b, o + i * 2 + 1, none⟩) hb).trans (c i x hx).2⟩⟩
theorem LpN.below {w w' : World} {base : Nat} {ad : Option Addr} {l : List (Int × Int)} (h : LpN w base ad l) (hb : Below w.heap.size w w') : LpN w' base ad l := h.fr (F := fun _ => False) (Fr.of hb) (fun _ d => d.elim)
theorem LnN.below {w w' : World} {base : Nat} {ad : Option Addr} {ns : List (Int × List (Int × Int))} (h : LnN w base ad ns) (hb : Below w.heap.size w w') : LnN w' base ad ns := h.fr (F := fun _ => False) (Fr.of hb) (fun _ d => d.elim)
section
variable {w : World} {pw p q N O y g : Nat} {ws : List Int} {sd : Nat} {v0 : Value} {a1 : Option Addr} {k1 : Nat} {Q : List En} {l : List Int} {ra : Option Addr} {rc : Nat}
theorem view_new (hq : Wq w pw p q N O y g ws sd v0 a1 k1 Q) (c3 : w.cell? ⟨pw, 3, none⟩ = some (.slice ra l.length rc)) (hl : Lq w ra l) (hm : l.length <= 100000) :
  Calls Tryz.prog 23 #[.pointer (some ⟨pw, 0, none⟩)] w fun e w' => ∃ r2 d2 na nn nc, e = .returned (.agg #[.slice r2 l.length d2, .slice na nn nc]) /\ LpN w' w.heap.size r2 (vwL N y g ws Q l).1 /\ LnN w' w.heap.size na (vwL N y g ws Q l).2.2 /\ nn = (vwL N y g ws Q l).2.2.length /\ Below w.heap.size w w' := by
 have ba := (Below.refl w.heap.size w).alloc (Nat.le_refl _) (.cells #[.slice none 0 0, .slice none 0 0] 52)
 have hr0 := heap_alloc_new w (.cells #[.slice none 0 0, .slice none 0 0] 52)
 have hq0 := hq.low ba
 have hl0 := hl.kf (Kf.of (B := 0) ba)
 have lpw := World.block_lt_of_cell? w _ c3
 have c30 := (ba.cell (p := ⟨pw, 3, none⟩) lpw).trans c3
 have lpw0 : pw < (w.alloc (.cells #[.slice none 0 0, .slice none 0 0] 52)).heap.size := Nat.lt_of_lt_of_le lpw ba.size
 have lr0 : w.heap.size < (w.alloc (.cells #[.slice none 0 0, .slice none 0 0] 52)).heap.size := by simp
 have P := newWalk_any hq0.c0 hq0.ar
 have k1' := hq.ar.hN'
 have k2' := hq.ar.hy
 have k3' := hq.ar.hO
 have k4' := hq.ar.hg
 have hTb : ∀ a ∈ thY N y g ws ++ thO N y g ws, 0 <= a /\ a < 2000 := fun a ha => by
  rcases List.mem_append.1 ha with ha | ha
  ·have := thY_bd a ha; omega
  ·have := thO_bd a ha; omega
 have hTl : (thY N y g ws ++ thO N y g ws).length <= 100000 := by
  have h1 : (thY N y g ws).length <= 2000 := ths_le _ _
  have h2 : (thO N y g ws).length <= 2000 := ths_le _ _
  simp
  omega
 have KV : Hid (∀ (kb mq : Nat) (w1 : World), Wk (w.alloc (.cells #[.slice none 0 0, .slice none 0 0] 52)) w1 kb mq pw (thY N y g ws ++ thO N y g ws) ([], []) (.slice none 0 0) [] -> Calls Tryz.prog 82 #[.pointer (some ⟨kb, 0, none⟩), .slice ra l.length rc] w1 fun e w' => ∃ vn' m' a2 c2, e = .returned (.slice a2 l.length c2) /\ w'.ownsRow w1.heap.size 95 2 (.slice a2 l.length c2) l.length (ev (vwL N y g ws Q l).1) /\ Wk (w.alloc (.cells #[.slice none 0 0, .slice none 0 0] 52)) w' kb mq pw (thY N y g ws ++ thO N y g ws) (vwL N y g ws Q l).2 vn' m' /\ Kv (w.alloc (.cells #[.slice none 0 0, .slice none 0 0] 52)) w1 [] w' m' /\ (∀ k, Fb m' k -> some k ≠ (Value.slice a2 l.length c2).ownBlock)) :=
  fun kb mq w1 h1 => values_any (meet_any hq0 hTb hTl _) (met_go _) h1 (VOk.start _) (by simp) l ra rc (hl0.kf (Kf.of (B := 0) h1.bel)) hm
 have hvl : Hid ((vwL N y g ws Q l).1.length = l.length) := vls_len _ _ _ _
 clear hq hq0 hl hl0 k1' k2' k3' k4' hTb hTl c3
 generalize vwL N y g ws Q l = R at *
 obtain ⟨V, s⟩ := R
 generalize thY N y g ws ++ thO N y g ws = T at *
 dsimp only at *
 go_enter Tryz.func23, Tryz.ntmps23
 go_wp2_with fail
 refine P.mono ?_
 clear P
 rintro e w1 ⟨kb, mq, rfl, h1⟩
 have x3 := (h1.bel.cell (p := ⟨pw, 3, none⟩) lpw0).trans c30
 have H1 : Hid (_) := h1
 clear h1
 go_wp2_with fail
 refine (KV.out kb mq w1 H1.out).mono ?_
 clear KV
 rintro e w2 ⟨vn, m, a2, c2, rfl, hr2, hW2, hK2, _⟩
 obtain ⟨na, nc, e2⟩ := row_slice hW2.row
 subst e2
 have z2 := hW2.cells.2.2.1
 have hb2 := ba.trans (hW2.bel.mono ba.size)
 have hr3 := (hW2.bel.block _ lr0).trans hr0
 have y0 : w2.cell? ⟨w.heap.size, 0, none⟩ = some (.slice none 0 0) := by simp [World.cell?, hr3]
 have y1 : w2.cell? ⟨w.heap.size, 1, none⟩ = some (.slice none 0 0) := by simp [World.cell?, hr3]
 have f0 : w2.frozen? ⟨w.heap.size, 0, none⟩ = false := by simp [World.frozen?, hr3]
 have f1 : w2.frozen? ⟨w.heap.size, 1, none⟩ = false := by simp [World.frozen?, hr3]
 have l2 : w.heap.size < w2.heap.size := lt_of_some hr3
 have HW2 : Hid (_ /\ _) := ⟨hW2, hr2⟩
 have hml : Hid (m.length = s.2.length) := hW2.len
 have HB2 : Hid (_) := hb2
 have HR3 : Hid (_ = _) := hr3
 have hs1 : w.heap.size <= w1.heap.size := by
  have := H1.out.bel.size
  simp at this
  omega
 have HFB : Hid (∀ k, Fb m k -> w.heap.size <= k) := fun k hk => (hK2.2 k hk).elim (fun ⟨x, hx, _⟩ => by cases hx) (fun d => Nat.le_trans hs1 d)
 clear hW2 hr2 hK2 hb2 hr3 ba hr0 x3 c30 H1
 go_wp2_with fail
 obtain ⟨W0, hW0⟩ : ∃ W0, W0 = (w2.setCell ⟨w.heap.size, 0, none⟩ (.slice a2 l.length c2)).setCell ⟨w.heap.size, 1, none⟩ (.slice na m.length nc) := ⟨_, rfl⟩
 rw [<- hW0]
 have g0 : W0.cell? ⟨w.heap.size, 0, none⟩ = some (.slice a2 l.length c2) := by
  rw [hW0, World.cell?_setCell_other _ _ _ _ (by simp)]
  exact World.cell?_setCell_same _ _ _ y0
 have g1 : W0.cell? ⟨w.heap.size, 1, none⟩ = some (.slice na m.length nc) := by
  rw [hW0]
  exact World.cell?_setCell_same _ _ _ ((World.cell?_setCell_other w2 ⟨w.heap.size, 0, none⟩ ⟨w.heap.size, 1, none⟩ _ (by simp)).trans y1)
 have hF : Fr (fun k => k = w.heap.size) w2 W0 := by rw [hW0]; exact ((Fr.refl (fun k => k = w.heap.size) w2).set w.heap.size 0 _ rfl).set w.heap.size 1 _ rfl
 clear hW0
 obtain ⟨hW2, hr2⟩ := HW2.out
 have eL : ∀ {ad : Option Addr} {L : List (Int × Int)}, Lv w2 ad L -> Lp W0 ad L := fun {ad L} h => h.1.keep hF.size (fun hp b e => by
  obtain ⟨b0, o0, cs, e0, hb⟩ := h.2 hp
  rw [e0] at e
  cases e
  refine hF.block _ (lt_of_some hb) (fun c => ?_)
  have c : b0 = w.heap.size := c
  rw [c, HR3.out] at hb
  simp at hb)
 refine bodyPost_ret (v := .agg #[.slice a2 l.length c2, .slice na m.length nc]) (by simp [results, Tryz.results23, go_sem, g0, g1]) rfl ⟨a2, c2, na, m.length, nc, rfl, ⟨eL (Lv.of (by rw [hvl.out]; exact hr2)), fun hp => ?_⟩, ⟨m, hW2.nd, fun x hx => eL (hW2.fl x hx), HFB.out, fun hp => ?_⟩, hml.out, HB2.out.trans (hF.below (Nat.le_of_lt l2) (fun k e => Nat.le_of_eq (Eq.symm e)))⟩
 ·obtain ⟨b, cap, e⟩ := row_shape hr2 (by rw [<- hvl.out]; exact hp)
  cases e
  exact ⟨b, 0, rfl, Nat.le_trans hs1 (row_lt hr2 b rfl).1⟩
 obtain ⟨b, cap, e⟩ := row_shape hW2.row hp
 cases e
 have hbs := (row_lt hW2.row b rfl).1
 simp at hbs
 obtain ⟨cur, hcur⟩ := row_type hW2.row b rfl
 have hne : b ≠ w.heap.size := fun c => by
  rw [c, HR3.out] at hcur
  simp at hcur
 refine ⟨b, 0, rfl, by omega, Nat.lt_of_lt_of_le (lt_of_some hcur) hF.size, fun i x hx => ?_⟩
 obtain ⟨n1, n2⟩ := nv_get m i x hx
 rw [Nat.zero_add]
 exact ⟨(World.cell?_of_block (a := ⟨b, i * 2, none⟩) (hF.block b (lt_of_some hcur) hne)).trans (row_cell hW2.row n1).1, (World.cell?_of_block (a := ⟨b, i * 2 + 1, none⟩) (hF.block b (lt_of_some hcur) hne)).trans (row_cell hW2.row n2).1⟩
end
end Go.Proofs.YtalgochmjddodaaGreat

namespace Go.Proofs.YtalgochmjddodaaGreat
set_option maxRecDepth 100000
set_option maxHeartbeats 1000000
open Go.RowKit W Kp Stl
section
variable {a : Wc} {hp : Nat} {F : Nat -> Prop} {S : Ww} {w : World}
theorem viewH_new (h : (heO a hp).J F S w) (hq : S.q.length <= 90000) :
  Calls Tryz.prog 23 #[.pointer (some ⟨a.pw, 0, none⟩)] w fun e w' => ∃ r2 d2 na nc, e = .returned (.agg #[.slice r2 12 d2, .slice na (vwL a.N S.s.y S.s.g S.s.ws S.q S.s.rs).2.2.length nc]) /\ LpN w' w.heap.size r2 (vwL a.N S.s.y S.s.g S.s.ws S.q S.s.rs).1 /\ LnN w' w.heap.size na (vwL a.N S.s.y S.s.g S.s.ws S.q S.s.rs).2.2 /\ Below w.heap.size w w' := by
 obtain ⟨FW, h1, _⟩ := he_ws h
 obtain ⟨F0, g1, _⟩ := ws_wod h1
 obtain ⟨c0, _, c2, c3, _, rl, _, cr9⟩ := wod_cells g1
 have ha := (wod_arena g1).1
 obtain ⟨F0', ar, cr, ⟨F00, ad, cap, ⟨own, pq, hM, hO⟩, d2, d3, d4, _⟩, r0, r1, hFW⟩ := h1
 have hl : Lq w (some ⟨a.nb, 0, none⟩) S.s.rs := by
  have hr := hM.rt
  refine ⟨fun _ => ⟨a.nb, 0, rfl, lt_of_some hr, fun i hi => ?_⟩, fun _ => ⟨a.nb, 0, _, rfl, hr⟩⟩
  rw [Nat.zero_add]
  exact (cr9 i (by rw [<- rl]; exact hi)).1
 have P := view_new (l := S.s.rs) (ra := some ⟨a.nb, 0, none⟩) (rc := 12) ⟨c0, c2, ha, d2, row_pairs d3, hq⟩ (by rw [rl]; exact c3) hl (by rw [rl]; decide)
 rw [rl] at P
 refine P.mono ?_
 rintro e w' ⟨r2, d2, na, nn, nc, rfl, q1, q2, rfl, q4⟩
 exact ⟨r2, d2, na, nc, rfl, q1, q2, q4⟩
theorem usedH_any (h : (heO a hp).J F S w) : Calls Tryz.prog 24 #[.pointer (some ⟨a.p, 0, none⟩)] w fun e w' => e = .returned (.tuple #[.int .i64 S.s.y, .int .i64 S.s.g]) /\ Below w.heap.size w w' :=
 used_any w (he_at h).1
def LwN (w : World) (base : Nat) (ad : Option Addr) (l : List Int) : Prop := 0 < l.length -> ∃ b, ad = some ⟨b, 0, none⟩ /\ base <= b /\ b < w.heap.size /\ ∀ i, i < l.length -> w.cell? ⟨b, i, none⟩ = some (.int .i64 (l.getD i 0))
theorem LwN.fr {X : Nat -> Prop} {w w' : World} {base : Nat} {ad : Option Addr} {l : List Int} (h : LwN w base ad l) (f : Fr X w w') (hF : ∀ b, X b -> b < base) : LwN w' base ad l := fun hp => by
 obtain ⟨b, e, h1, h2, h3⟩ := h hp
 exact ⟨b, e, h1, Nat.lt_of_lt_of_le h2 f.size, fun i hi => (World.cell?_of_block (a := ⟨b, i, none⟩) (f.block b h2 (fun d => by have := hF b d; omega))).trans (h3 i hi)⟩
theorem LwN.below {w w' : World} {base : Nat} {ad : Option Addr} {l : List Int} (h : LwN w base ad l) (hb : Below w.heap.size w w') : LwN w' base ad l := h.fr (X := fun _ => False) (Fr.of hb) (fun _ d => d.elim)
theorem LwN.lies {w : World} {base : Nat} {ad : Option Addr} {l : List Int} (h : LwN w base ad l) : Lies w ad l := fun hp => by
 obtain ⟨b, e, _, _, h3⟩ := h hp
 exact ⟨b, e, h3⟩
theorem wordsH_any (h : (heO a hp).J F S w) : Calls Tryz.prog 34 #[.pointer (some ⟨a.p, 0, none⟩)] w fun e w' => ∃ ad cap, e = .returned (.slice ad S.s.ws.length cap) /\ LwN w' w.heap.size ad S.s.ws /\ Below w.heap.size w w' := by
 have hl := (he_wbd h).l1
 refine (words_any w (he_at h).1).mono ?_
 rintro e w' ⟨b, cap, rfl, h1, h2, h3⟩
 refine ⟨some ⟨b, 0, none⟩, cap, by rw [hl], fun hp => ⟨b, rfl, h1, ?_, fun i hi => h2 i (by omega)⟩, h3⟩
 exact World.block_lt_of_cell? w' ⟨b, 0, none⟩ (h2 0 (by omega))
theorem he_lens (h : (heO a hp).J F S w) : ∃ ar cr ad cap, w.cell? ⟨a.sd, 0, none⟩ = some (.slice ar S.r.length cr) /\ w.cell? ⟨a.sd, 1, none⟩ = some (.slice ad S.q.length cap) := by
 obtain ⟨FW, h1, _⟩ := he_ws h
 obtain ⟨F0', ar, cr, ⟨F00, ad, cap, _, d2, _⟩, _⟩ := h1
 exact ⟨ar, cr, ad, cap, by simp [World.cell?, d2], by simp [World.cell?, d2]⟩
theorem he_rts (h : (heO a hp).J F S w) : w.heap[a.nb]? = some (.cells (S.s.rs.map (Value.int .i64)).toArray 2 (0, 0)) := by
 obtain ⟨FW, h1, _⟩ := he_ws h
 obtain ⟨F0', ar, cr, ⟨F00, ad, cap, ⟨own, pq, hM, hO⟩, _⟩, _⟩ := h1
 exact hM.rt
theorem newH_no (n o : Int) (w : World) (h : n < 16 \/ 256 < n \/ o < 0 \/ 1024 < o) :
  Calls Tryz.prog 28 #[.int .i64 n, .int .i64 o] w fun e w' => e = .returned (.tuple #[.pointer none, .agg #[.int .i64 1, .int .i64 (-1)]]) /\ Below w.heap.size w w' := by
 have hba := (Below.refl w.heap.size w).alloc (Nat.le_refl _) (.cells #[.int .i64 0, .int .i64 0] 28)
 have hr0 := heap_alloc_new w (.cells #[.int .i64 0, .int .i64 0] 28)
 have P := newW_no n o (w.alloc (.cells #[.int .i64 0, .int .i64 0] 28)) h
 clear h
 go_enter Tryz.func28, Tryz.ntmps28
 go_wp2_with fail
 refine P.mono ?_
 clear P
 rintro e w1 ⟨rfl, hb1⟩
 have hr1 := (hb1.block w.heap.size (by simp)).trans hr0
 have hB1 := hba.trans (hb1.mono (by simp))
 have hs1 := hb1.size
 simp at hs1
 have y0 : w1.cell? ⟨w.heap.size, 0, none⟩ = some (.int .i64 0) := by simp [World.cell?, hr1]
 have y1 : w1.cell? ⟨w.heap.size, 1, none⟩ = some (.int .i64 0) := by simp [World.cell?, hr1]
 have f0 : w1.frozen? ⟨w.heap.size, 0, none⟩ = false := by simp [World.frozen?, hr1]
 have f1 : w1.frozen? ⟨w.heap.size, 1, none⟩ = false := by simp [World.frozen?, hr1]
 have l1 : w.heap.size < w1.heap.size := by omega
 have hne : ¬ w.heap.size = w1.heap.size := by omega
 have hne2 : ¬ w1.heap.size = w.heap.size := by omega
 clear hb1 hr0 hba hr1
 go_wp2_with fail
 go_region_law (fail)
 all_goals
  obtain ⟨W0, hW0⟩ : ∃ W0, W0 = (w1.setCell ⟨w.heap.size, 0, none⟩ (.int .i64 1)).setCell ⟨w.heap.size, 1, none⟩ (.int .i64 (-1)) := ⟨_, rfl⟩
  rw [<- hW0]
  have sz0 : W0.heap.size = w1.heap.size := by rw [hW0]; simp [World.setCell]
  have g0 : W0.cell? ⟨w.heap.size, 0, none⟩ = some (.int .i64 1) := by
   rw [hW0, World.cell?_setCell_other _ _ _ _ (by simp)]
   exact World.cell?_setCell_same _ _ _ y0
  have g1 : W0.cell? ⟨w.heap.size, 1, none⟩ = some (.int .i64 (-1)) := by
   rw [hW0]
   exact World.cell?_setCell_same _ _ _ ((World.cell?_setCell_other w1 ⟨w.heap.size, 0, none⟩ ⟨w.heap.size, 1, none⟩ _ (by simp)).trans y1)
  have hF0 : Below w.heap.size w W0 := by
   rw [hW0]
   exact hB1.trans ((((Fr.refl (fun k => k = w.heap.size) w1).set w.heap.size 0 _ rfl).set w.heap.size 1 _ rfl).below (Nat.le_of_lt l1) (fun x e => by have e : x = w.heap.size := e; omega))
  have hbN := ((Below.refl W0.heap.size W0).alloc (Nat.le_refl _) (.cells #[.int .i64 1, .int .i64 (-1)] 28)).drew
  have r0 := (hbN.cell (p := ⟨w.heap.size, 0, none⟩) (by show w.heap.size < _; omega)).trans g0
  have r1 := (hbN.cell (p := ⟨w.heap.size, 1, none⟩) (by show w.heap.size < _; omega)).trans g1
  have hfin := hF0.trans (hbN.mono (by omega))
  clear y0 y1 f0 f1 hW0 hbN g0 g1
  generalize (W0.alloc (.cells #[.int .i64 1, .int .i64 (-1)] 28)).drew = WF at *
  go_wp2_with fail
  refine bodyPost_ret (v := .tuple #[.pointer none, .agg #[.int .i64 1, .int .i64 (-1)]]) (by simp [results, Tryz.results28, go_sem, r0, r1]) rfl ⟨rfl, hfin⟩
theorem LpN.base {w : World} {b b' : Nat} {ad : Option Addr} {l : List (Int × Int)} (h : LpN w b ad l) (hb : b' <= b) : LpN w b' ad l :=
 ⟨h.1, fun hp => by
  obtain ⟨k, o, e, hk⟩ := h.2 hp
  exact ⟨k, o, e, by omega⟩⟩
theorem LnN.base {w : World} {b b' : Nat} {ad : Option Addr} {ns : List (Int × List (Int × Int))} (h : LnN w b ad ns) (hb : b' <= b) : LnN w b' ad ns := by
 obtain ⟨m, h1, h2, h3, h4⟩ := h
 refine ⟨m, h1, h2, fun k hk => Nat.le_trans hb (h3 k hk), fun hp => ?_⟩
 obtain ⟨k, o, e, g1, g2⟩ := h4 hp
 exact ⟨k, o, e, by omega, g2⟩
theorem LwN.base {w : World} {b b' : Nat} {ad : Option Addr} {l : List Int} (h : LwN w b ad l) (hb : b' <= b) : LwN w b' ad l := fun hp => by
 obtain ⟨k, e, h1, h2⟩ := h hp
 exact ⟨k, e, by omega, h2⟩
end
end Go.Proofs.YtalgochmjddodaaGreat

namespace Go.Proofs.YtalgochmjddodaaGreat
set_option maxRecDepth 100000
open Go.ChangeShapes Go.WideShapes Go.ChangeAt Go.RowKit Go.Joins Go.Deep W Stl
theorem cellsStepZ : Tryz.prog.cellsOf 65 = 6 := by kernel_rfl
theorem cellsIZ : Tryz.prog.cellsOf 3 = 1 := by kernel_rfl
theorem cellsLZ : Tryz.prog.cellsOf 2 = 1 := by kernel_rfl
structure S6 where
  k : Int
  R : Int
  A : Int
  B : Int
  I : Int
  n : Int
def s60 : S6 := ⟨0, 0, 0, 0, 0, 0⟩
def K64 (a : Int) : Prop := -9223372036854775808 <= a /\ a <= 9223372036854775807
structure C6 (w : World) (b o : Nat) (s : S6) : Prop where
  c0 : w.cell? ⟨b, o, none⟩ = some (.int .i64 s.k)
  c1 : w.cell? ⟨b, o + 1, none⟩ = some (.int .i64 s.R)
  c2 : w.cell? ⟨b, o + 2, none⟩ = some (.int .i64 s.A)
  c3 : w.cell? ⟨b, o + 3, none⟩ = some (.int .i64 s.B)
  c4 : w.cell? ⟨b, o + 4, none⟩ = some (.int .i64 s.I)
  c5 : w.cell? ⟨b, o + 5, none⟩ = some (.int .i64 s.n)
theorem C6.below {w w' : World} {b o B : Nat} {s : S6} (h : C6 w b o s) (hb : Below B w w') (hB : b < B) : C6 w' b o s :=
 ⟨(hb.cell (p := ⟨b, o, none⟩) hB).trans h.c0, (hb.cell (p := ⟨b, o + 1, none⟩) hB).trans h.c1, (hb.cell (p := ⟨b, o + 2, none⟩) hB).trans h.c2, (hb.cell (p := ⟨b, o + 3, none⟩) hB).trans h.c3, (hb.cell (p := ⟨b, o + 4, none⟩) hB).trans h.c4, (hb.cell (p := ⟨b, o + 5, none⟩) hB).trans h.c5⟩
def L6 (w : World) (ad : Option Addr) (l : List S6) : Prop :=
 0 < l.length -> ∃ b o, ad = some ⟨b, o, none⟩ /\ b < w.heap.size /\ ∀ i, i < l.length -> C6 w b (o + i * 6) (l.getD i s60) /\ K64 (l.getD i s60).k /\ K64 (l.getD i s60).R /\ K64 (l.getD i s60).A /\ K64 (l.getD i s60).B /\ K64 (l.getD i s60).I /\ K64 (l.getD i s60).n
theorem list6z {α : Type} {cs : List α} (h : cs.length = 6) : ∃ c0 c1 c2 c3 c4 c5, cs = [c0, c1, c2, c3, c4, c5] := by
 match cs, h with
 | [c0, c1, c2, c3, c4, c5], _ => exact ⟨c0, c1, c2, c3, c4, c5, rfl⟩
theorem kbnd {a : Int} (h : (Lit.int .i64 a).wf = true) : K64 a := by
 have : IntKind.i64.min <= a /\ a <= 9223372036854775807 := by simpa [Lit.wf] using h
 exact ⟨this.1, this.2⟩
theorem open_step6 {H : Type} {enc : TypeId × Value -> H} {W : World} {sp : Nat -> Bool} {held : Bool} {fuel : Nat} {cs : List Value} {x : DataW H × List MemPlace}
  (hf : DataW.trod enc Tryz.prog W 0 sp held fuel 65 cs = some x) : ∃ s : S6, cs = [.int .i64 s.k, .int .i64 s.R, .int .i64 s.A, .int .i64 s.B, .int .i64 s.I, .int .i64 s.n] /\ K64 s.k /\ K64 s.R /\ K64 s.A /\ K64 s.B /\ K64 s.I /\ K64 s.n := by
 obtain ⟨xs, m, _, hx, hl, hlen, hg⟩ := DataW.trod_struct Tryz.underlying65 hf
 rw [cellsStepZ] at hl
 obtain ⟨c0, c1, c2, c3, c4, c5, rfl⟩ := list6z hl
 match xs, hlen with
 | [y0, y1, y2, y3, y4, y5], _ =>
  have t0 := hg 0 _ rfl
  have t1 := hg 1 _ rfl
  have t2 := hg 2 _ rfl
  have t3 := hg 3 _ rfl
  have t4 := hg 4 _ rfl
  have t5 := hg 5 _ rfl
  simp [cellsIZ, cellsLZ] at t0 t1 t2 t3 t4 t5
  obtain ⟨k, e0, _, w0⟩ := DataW.trod_int Tryz.underlying3 t0
  obtain ⟨R, e1, _, w1⟩ := DataW.trod_int Tryz.underlying3 t1
  obtain ⟨A, e2, _, w2⟩ := DataW.trod_int Tryz.underlying3 t2
  obtain ⟨B, e3, _, w3⟩ := DataW.trod_int Tryz.underlying3 t3
  obtain ⟨I, e4, _, w4⟩ := DataW.trod_int Tryz.underlying3 t4
  obtain ⟨n, e5, _, w5⟩ := DataW.trod_int Tryz.underlying2 t5
  simp at e0 e1 e2 e3 e4 e5
  exact ⟨⟨k, R, A, B, I, n⟩, by rw [e0, e1, e2, e3, e4, e5], kbnd w0, kbnd w1, kbnd w2, kbnd w3, kbnd w4, kbnd w5⟩
theorem open_heaps {H : Type} {enc : TypeId × Value -> H} {W : World} {sp : Nat -> Bool} {held : Bool} {fuel len cap : Nat} {ad : Option Addr} {x : DataW H × List MemPlace}
  (hf : DataW.trod enc Tryz.prog W 0 sp held fuel 58 [.slice ad len cap] = some x) : ∃ l : List S6, l.length = len /\ L6 W ad l := by
 rcases open_slice Tryz.underlying58 hf with ⟨hcs, _⟩ | ⟨z, l, c, m, n, D, Pl, hcs, hb, hl, hm, hmm, _, hall⟩
 ·simp at hcs
  obtain ⟨rfl, rfl, rfl⟩ := hcs
  exact ⟨[], rfl, fun h => by simp at h⟩
 ·simp at hcs
  obtain ⟨rfl, rfl, rfl⟩ := hcs
  have hlm : len <= m := by rw [hmm]; split <;> omega
  have key : ∀ i, i < len -> ∃ s : S6, (W.cell? (z.add (i * 6)) = some (.int .i64 s.k) /\ W.cell? (z.add (i * 6 + 1)) = some (.int .i64 s.R) /\ W.cell? (z.add (i * 6 + 2)) = some (.int .i64 s.A) /\ W.cell? (z.add (i * 6 + 3)) = some (.int .i64 s.B) /\ W.cell? (z.add (i * 6 + 4)) = some (.int .i64 s.I) /\ W.cell? (z.add (i * 6 + 5)) = some (.int .i64 s.n)) /\ K64 s.k /\ K64 s.R /\ K64 s.A /\ K64 s.B /\ K64 s.I /\ K64 s.n := by
   intro i hi
   obtain ⟨cs', h1, h2⟩ := hall i (by omega)
   rw [cellsStepZ] at h1
   obtain ⟨_, _, hcell⟩ := World.cells?_some h1
   obtain ⟨s, rfl, hb⟩ := open_step6 h2
   refine ⟨s, ⟨?_, ?_, ?_, ?_, ?_, ?_⟩, hb⟩
   ·have := hcell 0 (by omega); rw [add_add] at this; simpa using this
   ·have := hcell 1 (by omega); rw [add_add] at this; simpa using this
   ·have := hcell 2 (by omega); rw [add_add] at this; simpa using this
   ·have := hcell 3 (by omega); rw [add_add] at this; simpa using this
   ·have := hcell 4 (by omega); rw [add_add] at this; simpa using this
   ·have := hcell 5 (by omega); rw [add_add] at this; simpa using this
  have : Inhabited S6 := ⟨s60⟩
  obtain ⟨S, hS⟩ := choose_lt key
  refine ⟨(List.range len).map S, by simp, fun hp => ?_⟩
  simp only [List.length_map, List.length_range] at hp ⊢
  obtain ⟨b, o, spot⟩ := z
  have h0 := (hS 0 hp).1.1
  have hspot : spot = none := by simpa [Addr.add] using World.cell?_spot h0
  subst hspot
  refine ⟨b, o, rfl, World.block_lt_of_cell? W (⟨b, o, none⟩ : Addr) (by simpa [Addr.add] using h0), fun i hi => ?_⟩
  obtain ⟨⟨k0, k1, k2, k3, k4, k5⟩, k6⟩ := hS i hi
  have ea : ∀ j, (⟨b, o, none⟩ : Addr).add j = ⟨b, o + j, none⟩ := fun j => by simp [Addr.add]
  rw [ea] at k0 k1 k2 k3 k4 k5
  have eg : ((List.range len).map S).getD i s60 = S i := by simp [hi]
  rw [eg]
  exact ⟨⟨k0, by rw [Nat.add_assoc]; exact k1, by rw [Nat.add_assoc]; exact k2, by rw [Nat.add_assoc]; exact k3, by rw [Nat.add_assoc]; exact k4, by rw [Nat.add_assoc]; exact k5⟩, k6⟩
end Go.Proofs.YtalgochmjddodaaGreat
