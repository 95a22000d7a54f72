/- Joined: Gv1, Gv2, Gw1. -/
import Derived.Test.YtogknhogphkddaaGreatJ16
import Derived.Test.YtogknhogphkddaaGreatJ01
import Derived.Test.YtogknhogphkddaaGreatJ10
import Derived.Test.YtogknhogphkddaaGreatJ14
import Derived.Test.YtogknhogphkddaaGreatJ08
import Derived.Deep.RegionHeld3
import Derived.Test.YtogknhogphkddaaGreatJ02
import Derived.Test.YtogknhogphkddaaGreatJ04
/- A grove in memory, by labels. -/
namespace Go.Proofs.YtogknhogphkddaaGreat
open Go.RowKit W Kp Stl

def alb (T : List Tw1) (x : Int) : Bool := decide (0 ≤ x) && (decide (x.toNat < T.length) && !(T.getD x.toNat t0).2.2.2)
theorem alb_iff {T : List Tw1} {x : Int} : alb T x = true ↔ 0 ≤ x ∧ Alv T x.toNat := by
  unfold alb Alv
  simp
theorem alb_no {T : List Tw1} {x : Int} (h : ¬ (0 ≤ x ∧ Alv T x.toNat)) : alb T x = false := by
  cases e : alb T x
  · rfl
  · exact absurd (alb_iff.1 e) h
abbrev Fm := Nat → Option Addr × Nat
abbrev fsV (T : List Tw1) (fm : Fm) (i : Nat) : Value := .slice (fm i).1 (T.getD i t0).2.1.length (fm i).2
abbrev thV (T : List Tw1) (fm : Fm) (i : Nat) : Value := .agg #[.int .i64 (T.getD i t0).1, fsV T fm i]
def gvF (T : List Tw1) (fm : Fm) (x : Int) : Option Value := if alb T x = true then some (thV T fm x.toNat) else none
theorem gvF_yes {T : List Tw1} {fm : Fm} {x : Int} (h : 0 ≤ x ∧ Alv T x.toNat) : gvF T fm x = some (thV T fm x.toNat) := by
  unfold gvF
  rw [if_pos (alb_iff.2 h)]
theorem gvF_no {T : List Tw1} {fm : Fm} {x : Int} (h : ¬ (0 ≤ x ∧ Alv T x.toNat)) : gvF T fm x = none := by
  unfold gvF
  rw [alb_no h]
  rfl
structure Gl where
  own : Nat → Nat
  mb : Nat
  bp : Nat
  rb : Nat
  fm : Fm
  ag : Nat
  n : Nat
  a0 : Option Addr
  k0 : Nat
  a1 : Option Addr
  k1 : Nat

structure G2 (l : Gl) (T : List Tw1) (w : World) : Prop where
  mp : Mh w l.mb l.n (gvF T l.fm)
  mn : l.n ≤ T.length
  mo : l.own l.mb = 2
  fl : ∀ i, Alv T i → w.ownsRow 0 54 2 (fsV T l.fm i) (T.getD i t0).2.1.length (ev (T.getD i t0).2.1)
  fo : ∀ i, Alv T i → ∀ k, some k = (fsV T l.fm i).ownBlock → l.own k = 10 + i
  ag : ∀ i, Alv T i → (T.getD i t0).2.2.1 = decide (i < l.ag)
  al : l.ag ≤ T.length
structure G3 (l : Gl) (r q : List En) (w : World) : Prop where
  sd : Sds w l.bp l.a0 l.k0 l.a1 l.k1 r q
  so : l.own l.bp = 3
  ro : ∀ k, some k = (Value.slice l.a0 r.length l.k0).ownBlock → l.own k = 5
  qo : ∀ k, some k = (Value.slice l.a1 q.length l.k1).ownBlock → l.own k = 6
structure G4 (l : Gl) (rs : List (Int × Int)) (w : World) : Prop where
  rt : w.heap[l.rb]? = some (.cells (ev rs).toArray 54 (0, 0))
  rl : rs.length = 12
  ro : l.own l.rb = 4
structure Gvy (gp : Nat) (most grow : Int) (l : Gl) (s : Wrs) (w : World) : Prop where
  blk : w.heap[gp]? = some (.cells #[.int .i64 most, .int .i64 grow, .map (some l.mb), .int .i64 s.T.length, .int .i64 l.ag, .pointer (some ⟨l.bp, 0, none⟩), .slice (some ⟨l.rb, 0, none⟩) 12 12] 56 (0, 0))
  bo : l.own gp = 1
  g2 : G2 l s.T w
  g3 : G3 l s.rg s.wt w
  g4 : G4 l s.rs w
  lt : ∀ b, l.own b ≠ 0 → b < w.heap.size

section
variable {gp : Nat} {most grow : Int} {l : Gl} {s : Wrs} {w w' : World} {T : List Tw1} {r q : List En} {rs : List (Int × Int)}
theorem G2.keep (h : G2 l T w) (hk : ∀ b, l.own b = 2 ∨ 10 ≤ l.own b → w'.heap[b]? = w.heap[b]?) : G2 l T w' :=
  { h with
    mp := h.mp.same (hk _ (Or.inl h.mo))
    fl := fun i hi => row_keep (h.fl i hi) (fun k e => hk k (Or.inr (by rw [h.fo i hi k e]; omega))) }
theorem G3.keep (h : G3 l r q w) (hk : ∀ b, l.own b = 3 ∨ l.own b = 5 ∨ l.own b = 6 → w'.heap[b]? = w.heap[b]?) : G3 l r q w' :=
  { h with sd := h.sd.keep (hk _ (Or.inl h.so)) (fun k e => hk k (Or.inr (Or.inl (h.ro k e)))) (fun k e => hk k (Or.inr (Or.inr (h.qo k e)))) }
theorem G4.keep (h : G4 l rs w) (hk : ∀ b, l.own b = 4 → w'.heap[b]? = w.heap[b]?) : G4 l rs w' := { h with rt := (hk _ h.ro).trans h.rt }
theorem Gvy.keep (h : Gvy gp most grow l s w) (hs : w.heap.size ≤ w'.heap.size) (hk : ∀ b, l.own b ≠ 0 → w'.heap[b]? = w.heap[b]?) : Gvy gp most grow l s w' :=
  { blk := (hk _ (by rw [h.bo]; decide)).trans h.blk
    bo := h.bo
    g2 := h.g2.keep (fun b hb => hk b (by omega))
    g3 := h.g3.keep (fun b hb => hk b (by omega))
    g4 := h.g4.keep (fun b hb => hk b (by omega))
    lt := fun b hb => Nat.lt_of_lt_of_le (h.lt b hb) hs }
end

def grO (gp : Nat) (most grow : Int) (rb : Nat) : Ob Wrs where
  J F s w := ∃ l, Gvy gp most grow l s w ∧ l.rb = rb ∧ ∀ b, F b ↔ l.own b ≠ 0
  lt := by
    rintro F s w ⟨l, h, _, hF⟩ b hb
    exact h.lt b ((hF b).1 hb)
  keep := by
    rintro F s w w' ⟨l, h, hr, hF⟩ hs hk
    exact ⟨l, h.keep hs (fun b hb => hk b ((hF b).2 hb)), hr, hF⟩

section
variable {gp : Nat} {most grow : Int} {l : Gl} {F : Nat → Prop} {s : Wrs} {w w' : World}
theorem Gvy.below (h : Gvy gp most grow l s w) (hb : Below w.heap.size w w') : Gvy gp most grow l s w' := h.keep hb.size (fun b ho => hb.block b (h.lt b ho))
theorem Gvy.cells (h : Gvy gp most grow l s w) : w.cell? ⟨gp, 0, none⟩ = some (.int .i64 most) ∧ w.cell? ⟨gp, 1, none⟩ = some (.int .i64 grow) ∧ w.cell? ⟨gp, 2, none⟩ = some (.map (some l.mb)) ∧ w.cell? ⟨gp, 3, none⟩ = some (.int .i64 s.T.length) ∧ w.cell? ⟨gp, 4, none⟩ = some (.int .i64 l.ag) ∧
    w.cell? ⟨gp, 5, none⟩ = some (.pointer (some ⟨l.bp, 0, none⟩)) ∧ w.cell? ⟨gp, 6, none⟩ = some (.slice (some ⟨l.rb, 0, none⟩) 12 12) ∧ (∀ o, w.frozen? ⟨gp, o, none⟩ = false) ∧ gp < w.heap.size := by
  have h1 := h.blk
  refine ⟨?_, ?_, ?_, ?_, ?_, ?_, ?_, fun o => by simp [World.frozen?, h1], lt_of_some h1⟩ <;> simp [World.cell?, h1]
theorem Gvy.rbq {rb : Nat} (h : Gvy gp most grow l s w) (e : w.cell? ⟨gp, 6, none⟩ = some (.slice (some ⟨rb, 0, none⟩) 12 12)) : l.rb = rb := by
  have c := h.cells.2.2.2.2.2.2.1
  rw [e] at c
  cases c
  rfl
theorem G4.cells {rs : List (Int × Int)} (h : G4 l rs w) : l.rb < w.heap.size ∧ rs.length = 12 ∧
    (∀ i, i < 12 → w.cell? ⟨l.rb, i * 2, none⟩ = some (.int .i64 (rs.getD i (0, 0)).1) ∧ w.cell? ⟨l.rb, i * 2 + 1, none⟩ = some (.int .i64 (rs.getD i (0, 0)).2) ∧ w.frozen? ⟨l.rb, i * 2, none⟩ = false ∧ w.frozen? ⟨l.rb, i * 2 + 1, none⟩ = false) := by
  have h2 := h.rt
  have hl := h.rl
  refine ⟨lt_of_some h2, hl, fun i hi => ?_⟩
  obtain ⟨e1, e2⟩ := ev_get rs i (by omega)
  refine ⟨?_, ?_, by simp [World.frozen?, h2], by simp [World.frozen?, h2]⟩
  · simp [World.cell?, h2]
    simpa using e1
  · simp [World.cell?, h2]
    simpa using e2
end

end Go.Proofs.YtogknhogphkddaaGreat

/- A grove in memory: find, isGuardian, fields, get, length, same: contracts. -/
namespace Go.Proofs.YtogknhogphkddaaGreat
open Go.RowKit W Kp Stl

theorem zeroTh (w : World) : (zeroValue 76).run Tryz.prog w = .ok (.agg #[.int .i64 0, .slice none 0 0]) w := by
  kernel_rfl

theorem alloc_snd (w : World) (a o : Obj) : ((w.alloc a).alloc o).heap[w.heap.size + 1]? = some o := by
  have h := heap_alloc_new (w.alloc a) o
  rwa [show (w.alloc a).heap.size = w.heap.size + 1 by simp] at h
theorem two_cells {w : World} {p : Nat} {a b : Value} {T : TypeId} (h : w.heap[p]? = some (.cells #[a, b] T (0, 0))) : w.cell? ⟨p, 0, none⟩ = some a ∧ w.cell? ⟨p, 1, none⟩ = some b ∧ (∀ o, w.frozen? ⟨p, o, none⟩ = false) ∧ p < w.heap.size :=
  ⟨by simp [World.cell?, h], by simp [World.cell?, h], fun o => by simp [World.frozen?, h], lt_of_some h⟩

section
variable {gp : Nat} {most grow : Int} {l : Gl} {s : Wrs} {w : World}

set_option maxRecDepth 100000 in
set_option maxHeartbeats 2000000 in
theorem find_no (v : Int × Int) (hv : v.1 ≠ 3) :
    Calls Tryz.prog 40 #[.pointer (some ⟨gp, 0, none⟩), .agg #[.int .i64 v.1, .int .i64 v.2]] w fun e w' => e = .returned (.tuple #[.agg #[.int .i64 0, .slice none 0 0], .bool false]) ∧ Below w.heap.size w w' := by
  obtain ⟨k, x⟩ := v
  dsimp only at hv ⊢
  go_enter Tryz.func40, Tryz.ntmps40
  go_wp2_with fail
  exact bodyPost_ret (v := .tuple #[.agg #[.int .i64 0, .slice none 0 0], .bool false]) (by simp [results, Tryz.results40, go_sem]) rfl ⟨rfl, ((Below.refl _ _).alloc (Nat.le_refl _) _).alloc (by simp) _⟩

set_option maxRecDepth 100000 in
set_option maxHeartbeats 2000000 in
theorem find_yes (h : Gvy gp most grow l s w) (x : Int) (hx : 0 ≤ x ∧ Alv s.T x.toNat) (hT : s.T.length ≤ 10000) :
    Calls Tryz.prog 40 #[.pointer (some ⟨gp, 0, none⟩), .agg #[.int .i64 3, .int .i64 x]] w fun e w' => e = .returned (.tuple #[thV s.T l.fm x.toNat, .bool true]) ∧ Below w.heap.size w w' := by
  obtain ⟨_, _, c2, _, _, _, _, _, lg⟩ := h.cells
  have hl : x < 10000 := by have := hx.2.1; omega
  have L : ∀ W, Below w.heap.size w W → (Instr.lookup 47 (.map (some l.mb)) (.int .i64 x) true).run Tryz.prog W = .ok (.tuple #[thV s.T l.fm x.toNat, .bool true]) W := fun W hb => by
    have := (h.below hb).g2.mp.look_ok (t := 47) (e := 76) Tryz.underlying47 (zeroTh W) (x := x) hx.1 (by omega)
    rw [gvF_yes hx] at this
    exact this
  have b1 : Below w.heap.size w ((w.alloc (.cells #[.int .i64 3, .int .i64 x] 54)).alloc (.cells #[.int .i64 0, .slice none 0 0] 76)) := ((Below.refl _ _).alloc (Nat.le_refl _) _).alloc (by simp) _
  have d2 := (b1.cell (p := ⟨gp, 2, none⟩) lg).trans c2
  have d1 : ((w.alloc (.cells #[.int .i64 3, .int .i64 x] 54)).alloc (.cells #[.int .i64 0, .slice none 0 0] 76)).cell? ⟨w.heap.size, 1, none⟩ = some (.int .i64 x) := by simp [go_sem]
  have hn := alloc_snd w (.cells #[.int .i64 3, .int .i64 x] 54) (.cells #[.int .i64 0, .slice none 0 0] 76)
  clear h hT
  dsimp only [thV, fsV] at L ⊢
  generalize (s.T.getD x.toNat t0).1 = kd at *
  generalize (s.T.getD x.toNat t0).2.1.length = n at *
  generalize (l.fm x.toNat).1 = ad at *
  generalize (l.fm x.toNat).2 = cp at *
  clear hx
  go_enter Tryz.func40, Tryz.ntmps40
  go_wp2_with fail
  generalize (w.alloc (.cells #[.int .i64 3, .int .i64 x] 54)).alloc (.cells #[.int .i64 0, .slice none 0 0] 76) = W at *
  obtain ⟨e0, e1, f0, lw⟩ := two_cells hn
  have HN : Hid (_ = _) := hn
  have HB : Hid (Below w.heap.size w W) := b1
  have L1 := L _ b1.drew
  have L2 := L _ (b1.alloc b1.size (.cells #[.int .i64 0, .slice none 0 0] 76)).drew
  clear L b1 hn
  go_region_held3 (fun w' => w'.cell? ⟨gp, 2, none⟩ = some (.map (some l.mb)) ∧ w'.cell? ⟨w.heap.size, 1, none⟩ = some (.int .i64 x)) (go_keep) (fail)
  all_goals
    clear L1 L2
    go_wp2_with fail
    have hs := HB.out.size
    obtain ⟨r0, r1, _, _⟩ := two_cells ((Below.heap_alloc _ (.cells #[.int .i64 kd, .slice ad n cp] 76) _ (by simpa using lw)).trans (set_two (v1 := .int .i64 kd) (v2 := .slice ad n cp) HN.out))
    exact bodyPost_ret (v := .tuple #[.agg #[.int .i64 kd, .slice ad n cp], .bool true]) (by simp [results, Tryz.results40, go_sem, r0, r1]) rfl ⟨rfl, (((HB.out.setCell (by simp) _).setCell (by simp) _).alloc (by simpa using hs) _).drew⟩

set_option maxRecDepth 100000 in
set_option maxHeartbeats 2000000 in
theorem isGuardianG_any (h : Gvy gp most grow l s w) (v : Int × Int) (hv : v.1 = 3 → 0 ≤ v.2 ∧ Alv s.T v.2.toNat) (hT : s.T.length ≤ 10000) :
    Calls Tryz.prog 41 #[.pointer (some ⟨gp, 0, none⟩), .agg #[.int .i64 v.1, .int .i64 v.2]] w fun e w' => e = .returned (.bool (gdb s.T v)) ∧ Below w.heap.size w w' := by
  obtain ⟨k, x⟩ := v
  by_cases h3 : k = 3
  · subst h3
    have P := find_yes (h.below ((Below.refl _ w).alloc (Nat.le_refl _) (.cells #[.int .i64 3, .int .i64 x] 54))) x (hv rfl) hT
    have e : gdb s.T (3, x) = decide ((s.T.getD x.toNat t0).1 = 5) := by unfold gdb; rw [Bool.eq_iff_iff]; simp
    rw [e]
    clear h hv hT e
    dsimp only [thV, fsV] at P ⊢
    generalize (s.T.getD x.toNat t0).1 = kd at *
    generalize (s.T.getD x.toNat t0).2.1.length = n at *
    generalize (l.fm x.toNat).1 = ad at *
    generalize (l.fm x.toNat).2 = cp at *
    go_enter Tryz.func41, Tryz.ntmps41
    go_wp2_with fail
    refine P.mono ?_
    clear P
    rintro e w1 ⟨rfl, hb⟩
    have HB : Hid (Below w.heap.size w w1) := ((Below.refl _ w).alloc (Nat.le_refl _) _).trans (hb.mono (by simp))
    clear hb
    go_wp2_with fail
    go_ret
    exact ⟨rfl, HB.out.alloc HB.out.size _⟩
  · have P := find_no (gp := gp) (w := w.alloc (.cells #[.int .i64 k, .int .i64 x] 54)) (k, x) h3
    have e : gdb s.T (k, x) = false := by unfold gdb; simp [h3]
    rw [e]
    clear h hv hT e
    go_enter Tryz.func41, Tryz.ntmps41
    go_wp2_with fail
    refine P.mono ?_
    clear P
    rintro e w1 ⟨rfl, hb⟩
    have HB : Hid (Below w.heap.size w w1) := ((Below.refl _ w).alloc (Nat.le_refl _) _).trans (hb.mono (by simp))
    clear hb
    go_wp2_with fail
    go_ret
    exact ⟨rfl, HB.out.alloc HB.out.size _⟩

set_option maxRecDepth 100000 in
set_option maxHeartbeats 2000000 in
theorem fieldsG_no (h : Gvy gp most grow l s w) (v : Int × Int) (hv : v.1 = 3 → 0 ≤ v.2 ∧ Alv s.T v.2.toNat) (hT : s.T.length ≤ 10000) (hk : v.1 = 3 → (s.T.getD v.2.toNat t0).1 = 5) :
    Calls Tryz.prog 67 #[.pointer (some ⟨gp, 0, none⟩), .agg #[.int .i64 v.1, .int .i64 v.2]] w fun e w' => e = .returned (.tuple #[.slice none 0 0, .int .i64 2]) ∧ Below w.heap.size w w' := by
  obtain ⟨k, x⟩ := v
  by_cases h3 : k = 3
  · subst h3
    have P := find_yes (h.below ((Below.refl _ w).alloc (Nat.le_refl _) (.cells #[.int .i64 3, .int .i64 x] 54))) x (hv rfl) hT
    have hk := hk rfl
    clear h hv hT
    dsimp only [thV, fsV] at P hk ⊢
    rw [hk] at P
    clear hk
    generalize (s.T.getD x.toNat t0).2.1.length = n at *
    generalize (l.fm x.toNat).1 = ad at *
    generalize (l.fm x.toNat).2 = cp at *
    go_enter Tryz.func67, Tryz.ntmps67
    go_wp2_with fail
    refine P.mono ?_
    clear P
    rintro e w1 ⟨rfl, hb⟩
    have HB : Hid (Below w.heap.size w w1) := ((Below.refl _ w).alloc (Nat.le_refl _) _).trans (hb.mono (by simp))
    clear hb
    go_wp2_with fail
    go_ret2
    exact ⟨rfl, HB.out.alloc HB.out.size _⟩
  · have P := find_no (gp := gp) (w := w.alloc (.cells #[.int .i64 k, .int .i64 x] 54)) (k, x) h3
    clear h hv hT hk
    go_enter Tryz.func67, Tryz.ntmps67
    go_wp2_with fail
    refine P.mono ?_
    clear P
    rintro e w1 ⟨rfl, hb⟩
    have HB : Hid (Below w.heap.size w w1) := ((Below.refl _ w).alloc (Nat.le_refl _) _).trans (hb.mono (by simp))
    clear hb
    go_wp2_with fail
    go_ret2
    exact ⟨rfl, HB.out.alloc HB.out.size _⟩

set_option maxRecDepth 100000 in
set_option maxHeartbeats 2000000 in
theorem fieldsG_yes (h : Gvy gp most grow l s w) (x : Int) (hv : 0 ≤ x ∧ Alv s.T x.toNat) (hT : s.T.length ≤ 10000) (hk : (s.T.getD x.toNat t0).1 ≠ 5) :
    Calls Tryz.prog 67 #[.pointer (some ⟨gp, 0, none⟩), .agg #[.int .i64 3, .int .i64 x]] w fun e w' => e = .returned (.tuple #[fsV s.T l.fm x.toNat, .int .i64 0]) ∧ Below w.heap.size w w' := by
  have P := find_yes (h.below ((Below.refl _ w).alloc (Nat.le_refl _) (.cells #[.int .i64 3, .int .i64 x] 54))) x hv hT
  clear h hv hT
  dsimp only [thV, fsV] at P hk ⊢
  generalize (s.T.getD x.toNat t0).1 = kd at *
  generalize (s.T.getD x.toNat t0).2.1.length = n at *
  generalize (l.fm x.toNat).1 = ad at *
  generalize (l.fm x.toNat).2 = cp at *
  go_enter Tryz.func67, Tryz.ntmps67
  go_wp2_with fail
  refine P.mono ?_
  clear P
  rintro e w1 ⟨rfl, hb⟩
  have HB : Hid (Below w.heap.size w w1) := ((Below.refl _ w).alloc (Nat.le_refl _) _).trans (hb.mono (by simp))
  clear hb
  go_wp2_with fail
  go_ret2
  exact ⟨rfl, HB.out.alloc HB.out.size _⟩

set_option maxRecDepth 100000 in
set_option maxHeartbeats 2000000 in
theorem getG_no2 (h : Gvy gp most grow l s w) (v : Int × Int) (i : Int) (hv : v.1 = 3 → 0 ≤ v.2 ∧ Alv s.T v.2.toNat) (hT : s.T.length ≤ 10000) (hk : v.1 = 3 → (s.T.getD v.2.toNat t0).1 = 5) :
    Calls Tryz.prog 43 #[.pointer (some ⟨gp, 0, none⟩), .agg #[.int .i64 v.1, .int .i64 v.2], .int .i64 i] w fun e w' => e = .returned (.tuple #[.agg #[.int .i64 0, .int .i64 0], .int .i64 2]) ∧ Below w.heap.size w w' := by
  obtain ⟨k, x⟩ := v
  have b1 : Below w.heap.size w ((w.alloc (.cells #[.int .i64 k, .int .i64 x] 54)).alloc (.cells #[.int .i64 0, .int .i64 0] 54)) := ((Below.refl _ _).alloc (Nat.le_refl _) _).alloc (by simp) _
  have P := fieldsG_no (h.below b1) (k, x) hv hT hk
  clear h hv hT hk
  go_enter Tryz.func43, Tryz.ntmps43
  go_wp2_with fail
  refine P.mono ?_
  clear P
  rintro e w1 ⟨rfl, hb⟩
  have hq := (hb.block (w.heap.size + 1) (by simp)).trans (alloc_snd w (.cells #[.int .i64 k, .int .i64 x] 54) (.cells #[.int .i64 0, .int .i64 0] 54))
  obtain ⟨e0, e1, f0, lw⟩ := two_cells hq
  have HN : Hid (_ = _) := hq
  have HB : Hid (Below w.heap.size w w1) := b1.trans (hb.mono (by simp; omega))
  clear hb b1 hq
  go_wp2_with fail
  obtain ⟨r0, r1, _, _⟩ := two_cells (set_two (v1 := .int .i64 0) (v2 := .int .i64 0) HN.out)
  exact bodyPost_ret (v := .tuple #[.agg #[.int .i64 0, .int .i64 0], .int .i64 2]) (by simp [results, Tryz.results43, go_sem, r0, r1]) rfl ⟨rfl, (HB.out.setCell (by simp) _).setCell (by simp) _⟩

set_option maxRecDepth 100000 in
set_option maxHeartbeats 2000000 in
theorem getG_no1 (h : Gvy gp most grow l s w) (x i : Int) (hv : 0 ≤ x ∧ Alv s.T x.toNat) (hT : s.T.length ≤ 10000) (hk : (s.T.getD x.toNat t0).1 ≠ 5) (hi : i < 0 ∨ ((s.T.getD x.toNat t0).2.1.length : Int) ≤ i) :
    Calls Tryz.prog 43 #[.pointer (some ⟨gp, 0, none⟩), .agg #[.int .i64 3, .int .i64 x], .int .i64 i] w fun e w' => e = .returned (.tuple #[.agg #[.int .i64 0, .int .i64 0], .int .i64 1]) ∧ Below w.heap.size w w' := by
  have b1 : Below w.heap.size w ((w.alloc (.cells #[.int .i64 3, .int .i64 x] 54)).alloc (.cells #[.int .i64 0, .int .i64 0] 54)) := ((Below.refl _ _).alloc (Nat.le_refl _) _).alloc (by simp) _
  have P := fieldsG_yes (h.below b1) x hv hT hk
  clear h hv hT hk
  dsimp only [fsV] at P
  generalize (s.T.getD x.toNat t0).2.1.length = n at *
  generalize (l.fm x.toNat).1 = ad at *
  generalize (l.fm x.toNat).2 = cp at *
  by_cases h0 : i < 0
  all_goals
    first
      | (have hin : (n : Int) ≤ i := by omega)
      | skip
    go_enter Tryz.func43, Tryz.ntmps43
    go_wp2_with fail
    refine P.mono ?_
    clear P
    rintro e w1 ⟨rfl, hb⟩
    have hq := (hb.block (w.heap.size + 1) (by simp)).trans (alloc_snd w (.cells #[.int .i64 3, .int .i64 x] 54) (.cells #[.int .i64 0, .int .i64 0] 54))
    obtain ⟨e0, e1, f0, lw⟩ := two_cells hq
    have HN : Hid (_ = _) := hq
    have HB : Hid (Below w.heap.size w w1) := b1.trans (hb.mono (by simp; omega))
    clear hb b1 hq hi
    go_wp2_with fail
    obtain ⟨r0, r1, _, _⟩ := two_cells (set_two (v1 := .int .i64 0) (v2 := .int .i64 0) HN.out)
    exact bodyPost_ret (v := .tuple #[.agg #[.int .i64 0, .int .i64 0], .int .i64 1]) (by simp [results, Tryz.results43, go_sem, r0, r1]) rfl ⟨rfl, (HB.out.setCell (by simp) _).setCell (by simp) _⟩

set_option maxRecDepth 100000 in
set_option maxHeartbeats 2000000 in
theorem getG_yes (h : Gvy gp most grow l s w) (x : Int) (i : Nat) (hv : 0 ≤ x ∧ Alv s.T x.toNat) (hT : s.T.length ≤ 10000) (hk : (s.T.getD x.toNat t0).1 ≠ 5) (hi : i < (s.T.getD x.toNat t0).2.1.length) :
    Calls Tryz.prog 43 #[.pointer (some ⟨gp, 0, none⟩), .agg #[.int .i64 3, .int .i64 x], .int .i64 i] w fun e w' => e = .returned (.tuple #[.agg #[.int .i64 ((s.T.getD x.toNat t0).2.1.getD i (0, 0)).1, .int .i64 ((s.T.getD x.toNat t0).2.1.getD i (0, 0)).2], .int .i64 0]) ∧ Below w.heap.size w w' := by
  have b1 : Below w.heap.size w ((w.alloc (.cells #[.int .i64 3, .int .i64 x] 54)).alloc (.cells #[.int .i64 0, .int .i64 0] 54)) := ((Below.refl _ _).alloc (Nat.le_refl _) _).alloc (by simp) _
  have P := fieldsG_yes (h.below b1) x hv hT hk
  have hlp := row_pairs (h.g2.fl _ hv.2)
  obtain ⟨b, o, ead, lb, hcl⟩ := hlp (by omega)
  have hc := hcl i hi
  clear h hv hT hk hcl
  dsimp only [fsV] at P
  rw [ead] at P
  generalize (s.T.getD x.toNat t0).2.1.getD i (0, 0) = y at *
  generalize (s.T.getD x.toNat t0).2.1.length = n at *
  generalize (l.fm x.toNat).2 = cp at *
  clear ead
  go_enter Tryz.func43, Tryz.ntmps43
  go_wp2_with fail
  refine P.mono ?_
  clear P
  rintro e w1 ⟨rfl, hb⟩
  have hq := (hb.block (w.heap.size + 1) (by simp)).trans (alloc_snd w (.cells #[.int .i64 3, .int .i64 x] 54) (.cells #[.int .i64 0, .int .i64 0] 54))
  obtain ⟨e0, e1, f0, lw⟩ := two_cells hq
  have HN : Hid (_ = _) := hq
  have HB : Hid (Below w.heap.size w w1) := b1.trans (hb.mono (by simp; omega))
  have g0 := (HB.out.cell (p := ⟨b, o + i * 2, none⟩) lb).trans hc.1
  have g1 := (HB.out.cell (p := ⟨b, o + i * 2 + 1, none⟩) lb).trans hc.2
  clear hb b1 hq hc
  go_wp2_with fail
  obtain ⟨r0, r1, _, _⟩ := two_cells (set_two (v1 := .int .i64 y.1) (v2 := .int .i64 y.2) HN.out)
  exact bodyPost_ret (v := .tuple #[.agg #[.int .i64 y.1, .int .i64 y.2], .int .i64 0]) (by simp [results, Tryz.results43, go_sem, r0, r1]) rfl ⟨rfl, (HB.out.setCell (by simp) _).setCell (by simp) _⟩

set_option maxRecDepth 100000 in
set_option maxHeartbeats 1000000 in
theorem intValue_any (x : Int) (w : World) : Calls Tryz.prog 46 #[.int .i64 x] w fun e w' => e = .returned (.agg #[.int .i64 1, .int .i64 x]) ∧ Below w.heap.size w w' := by
  go_enter Tryz.func46, Tryz.ntmps46
  go_wp2_with fail
  exact bodyPost_ret (v := .agg #[.int .i64 1, .int .i64 x]) (by simp [results, Tryz.results46, go_sem]) rfl ⟨rfl, (Below.refl _ _).alloc (Nat.le_refl _) _⟩
set_option maxRecDepth 100000 in
set_option maxHeartbeats 1000000 in
theorem refValue_any (x : Int) (w : World) : Calls Tryz.prog 74 #[.int .i64 x] w fun e w' => e = .returned (.agg #[.int .i64 3, .int .i64 x]) ∧ Below w.heap.size w w' := by
  go_enter Tryz.func74, Tryz.ntmps74
  go_wp2_with fail
  exact bodyPost_ret (v := .agg #[.int .i64 3, .int .i64 x]) (by simp [results, Tryz.results74, go_sem]) rfl ⟨rfl, (Below.refl _ _).alloc (Nat.le_refl _) _⟩
end

end Go.Proofs.YtogknhogphkddaaGreat

/- A grove's walk in memory: its block, its map, its nodes; what may turn while it goes. -/
namespace Go.Proofs.YtogknhogphkddaaGreat
open Go.RowKit W Kp Stl

structure Kg (B : Nat) (w w' : World) : Prop where
  os : w'.os = w.os
  tape : w'.tape = w.tape
  output : w'.output = w.output
  size : w.heap.size ≤ w'.heap.size
  low : ∀ k : Nat, k < w.heap.size → k < B → w'.heap[k]? = w.heap[k]?
  oth : ∀ (k : Nat) cs e m, w.heap[k]? = some (Obj.cells cs e m) → e ≠ 84 → e ≠ 80 → w'.heap[k]? = w.heap[k]?

section
variable {B : Nat} {w w' w'' : World}
theorem Kg.refl (B : Nat) (w : World) : Kg B w w := ⟨rfl, rfl, rfl, Nat.le_refl _, fun _ _ _ => rfl, fun _ _ _ _ _ _ _ => rfl⟩
theorem Kg.trans (h : Kg B w w') (k : Kg B w' w'') : Kg B w w'' :=
  ⟨k.os.trans h.os, k.tape.trans h.tape, k.output.trans h.output, Nat.le_trans h.size k.size, fun i hi hb => (k.low i (Nat.lt_of_lt_of_le hi h.size) hb).trans (h.low i hi hb), fun i cs e m hi h1 h2 => (k.oth i cs e m ((h.oth i cs e m hi h1 h2).trans hi) h1 h2).trans (h.oth i cs e m hi h1 h2)⟩
theorem Kg.of (h : Below w.heap.size w w') : Kg B w w' := ⟨h.os, h.tape, h.output, h.size, fun k hk _ => h.block k hk, fun k _ _ _ hi _ _ => h.block k (lt_of_some hi)⟩
theorem Kg.below (h : Kg B w w') (hB : B ≤ w.heap.size) : Below B w w' := ⟨h.os, h.tape, h.output, h.size, fun k hk => h.low k (by omega) hk⟩
theorem Kg.set {pk o : Nat} {cs : Array Value} {m : Nat × Nat} {e : TypeId} {v : Value} (hp : w.heap[pk]? = some (.cells cs e m)) (he : e = 84 ∨ e = 80) (hB : B ≤ pk) : Kg B w (w.setCell ⟨pk, o, none⟩ v) :=
  ⟨rfl, rfl, rfl, by simp [World.setCell], fun k _ hk => Below.heap_setCell _ _ _ _ (fun c => by have c : k = pk := c; omega), fun k cs2 e2 m2 hk h1 h2 => Below.heap_setCell _ _ _ _ (fun c => by
    have c : k = pk := c
    rw [c, hp] at hk
    simp at hk
    rcases he with he | he
    · exact h1 (hk.2.1.symm.trans he)
    · exact h2 (hk.2.1.symm.trans he))⟩
theorem Kg.grown {row : Option Nat} (g : w.grownBy w' row) (hr : ∀ k, row = some k → B ≤ k ∧ ∀ cs e m, w.heap[k]? = some (.cells cs e m) → e = 84 ∨ e = 80) : Kg B w w' :=
  ⟨g.os, g.tape, g.output, g.size, fun k hk hb => g.block k hk (fun e => by have := (hr k e.symm).1; omega), fun k cs e m hk h1 h2 => g.block k (lt_of_some hk) (fun c => ((hr k c.symm).2 cs e m hk).elim h1 h2)⟩
theorem Lv.kg {ad : Option Addr} {l : List (Int × Int)} (h : Lv w ad l) (k : Kg B w w') : Lv w' ad l := by
  have hk : 0 < l.length → ∀ b, ad = some b → w'.heap[b.block]? = w.heap[b.block]? := fun hp b e => by
    obtain ⟨b0, o0, cs, e0, hb⟩ := h.2 hp
    rw [e0] at e
    cases e
    exact k.oth _ _ _ _ hb (by decide) (by decide)
  refine ⟨h.1.keep k.size hk, fun hp => ?_⟩
  obtain ⟨b0, o0, cs, e0, hb⟩ := h.2 hp
  exact ⟨b0, o0, cs, e0, (hk hp _ e0).trans hb⟩
end

def Kvg (w0 w : World) (m : List Vnd) (w' : World) (m' : List Vnd) : Prop := Kg w0.heap.size w w' ∧ ∀ k, Fb m' k → Fb m k ∨ w.heap.size ≤ k
theorem Kvg.refl (w0 w : World) (m : List Vnd) : Kvg w0 w m w m := ⟨Kg.refl _ _, fun _ h => Or.inl h⟩
theorem Kvg.trans {w0 w w' w'' : World} {m m' m'' : List Vnd} (h : Kvg w0 w m w' m') (k : Kvg w0 w' m' w'' m'') : Kvg w0 w m w'' m'' :=
  ⟨h.1.trans k.1, fun i hi => (k.2 i hi).elim (h.2 i) (fun c => Or.inr (Nat.le_trans h.1.size c))⟩
theorem Kvg.of {w0 w w' : World} {m : List Vnd} (h : Below w.heap.size w w') : Kvg w0 w m w' m := ⟨Kg.of h, fun _ h => Or.inl h⟩
theorem Kvg.new {w0 w w' w'' : World} {m m' : List Vnd} {X : Nat → Prop} (h : Kvg w0 w m w' m') (f : Fr X w' w'') (hx : ∀ k, X k → w.heap.size ≤ k) : Kvg w0 w m w'' m' :=
  ⟨⟨f.os.trans h.1.os, f.tape.trans h.1.tape, f.output.trans h.1.output, Nat.le_trans h.1.size f.size, fun k hk hb => (f.block k (Nat.lt_of_lt_of_le hk h.1.size) (fun c => by have := hx k c; omega)).trans (h.1.low k hk hb),
    fun k cs e mm hk h1 h2 => (f.block k (Nat.lt_of_lt_of_le (lt_of_some hk) h.1.size) (fun c => by have := hx k c; have := lt_of_some hk; omega)).trans (h.1.oth k cs e mm hk h1 h2)⟩, h.2⟩

def mtF (ms : List Int) (x : Int) : Option Value := if ms.contains x = true then some (.int .i64 (ms.idxOf x : Int)) else none
theorem mtF_snoc {ms : List Int} {a : Int} (hn : a ∉ ms) : upm (mtF ms) a (.int .i64 ms.length) = mtF (ms ++ [a]) := by
  funext b
  unfold upm mtF
  by_cases e : b = a
  · subst e
    rw [if_pos rfl, if_pos (by simp), List.idxOf_append, if_neg hn]
    simp
  · rw [if_neg e]
    by_cases c : b ∈ ms
    · rw [if_pos (by simp [c]), if_pos (by simp [c]), List.idxOf_append, if_pos c]
    · rw [if_neg (by simpa using c), if_neg (by simp [c, e])]
theorem mtF_no {ms : List Int} {a : Int} (h : a ∉ ms) : mtF ms a = none := by unfold mtF; rw [if_neg (by simpa using h)]
theorem mtF_yes {ms : List Int} {a : Int} (h : a ∈ ms) : mtF ms a = some (.int .i64 (ms.idxOf a : Int)) := by unfold mtF; rw [if_pos (by simpa using h)]

structure Wkg (w0 w : World) (kb mq gp : Nat) (s : Vst) (vn : Value) (m : List Vnd) : Prop where
  blk : w.heap[kb]? = some (.cells #[.pointer (some ⟨gp, 0, none⟩), .map (some mq), vn] 84 (0, 0))
  lo : w0.heap.size ≤ kb ∧ w0.heap.size ≤ mq
  mp : Mh w mq s.1.length (mtF s.1)
  row : w.ownsRow w0.heap.size 80 2 vn m.length (nv m)
  nd : nds m = s.2
  fl : ∀ x ∈ m, Lv w x.2.1 x.2.2.2
  bel : Below w0.heap.size w0 w

section
variable {w0 w w' : World} {kb mq gp : Nat} {s : Vst} {vn : Value} {m : List Vnd}
theorem Wkg.below (h : Wkg w0 w kb mq gp s vn m) (hb : Below w.heap.size w w') : Wkg w0 w' kb mq gp s vn m :=
  ⟨(hb.block kb (lt_of_some h.blk)).trans h.blk, h.lo, h.mp.same (hb.block mq h.mp.lt), row_keep h.row (fun k hk => hb.block k (row_lt h.row k hk).2), h.nd, fun x hx => (h.fl x hx).kg (Kg.of (B := 0) hb), h.bel.trans (hb.mono h.bel.size)⟩
theorem Wkg.cells (h : Wkg w0 w kb mq gp s vn m) : w.cell? ⟨kb, 0, none⟩ = some (.pointer (some ⟨gp, 0, none⟩)) ∧ w.cell? ⟨kb, 1, none⟩ = some (.map (some mq)) ∧ w.cell? ⟨kb, 2, none⟩ = some vn ∧ kb < w.heap.size :=
  ⟨by simp [World.cell?, h.blk], by simp [World.cell?, h.blk], by simp [World.cell?, h.blk], lt_of_some h.blk⟩
theorem Wkg.len (h : Wkg w0 w kb mq gp s vn m) : m.length = s.2.length := by rw [← h.nd]; simp [nds]
theorem Wkg.fb (h : Wkg w0 w kb mq gp s vn m) (k : Nat) (hk : Fb m k) : k < w.heap.size := by
  obtain ⟨x, hx, hl, o, e⟩ := hk
  obtain ⟨b, o', cs, e', hb⟩ := (h.fl x hx).2 hl
  rw [e] at e'
  cases e'
  exact lt_of_some hb
theorem Wkg.but {X : Nat → Prop} (h : Wkg w0 w kb mq gp s vn m) (f : Fr X w w') (hX : ∀ k, k < w.heap.size → X k → (∃ cs, w.heap[k]? = some (.cells cs 54 (0, 0))) ∧ ¬ Fb m k ∧ w0.heap.size ≤ k) : Wkg w0 w' kb mq gp s vn m := by
  obtain ⟨es, ck, hmb⟩ := h.mp.blk
  have n1 : ¬ X kb := fun c => by
    obtain ⟨⟨cs, hc⟩, _⟩ := hX kb (lt_of_some h.blk) c
    rw [h.blk] at hc
    simp at hc
  have n2 : ¬ X mq := fun c => by
    obtain ⟨⟨cs, hc⟩, _⟩ := hX mq h.mp.lt c
    rw [hmb] at hc
    simp at hc
  refine ⟨(f.block kb (lt_of_some h.blk) n1).trans h.blk, h.lo, h.mp.same (f.block mq h.mp.lt n2), row_keep h.row (fun k hk => f.block k (row_lt h.row k hk).2 (fun c => ?_)), h.nd, fun x hx => ?_, h.bel.trans ⟨f.os, f.tape, f.output, f.size, fun k hk => f.block k (Nat.lt_of_lt_of_le hk h.bel.size) (fun c => by have := (hX k (Nat.lt_of_lt_of_le hk h.bel.size) c).2.2; omega)⟩⟩
  · obtain ⟨⟨cs, hc⟩, _⟩ := hX k (row_lt h.row k hk).2 c
    obtain ⟨cur, hcur⟩ := row_type h.row k hk
    rw [hcur] at hc
    simp at hc
  · have hl := h.fl x hx
    have hk : 0 < x.2.2.2.length → ∀ b, x.2.1 = some b → w'.heap[b.block]? = w.heap[b.block]? := fun hp b e => by
      obtain ⟨b0, o0, cs, e0, hb⟩ := hl.2 hp
      have e' := e
      rw [e0] at e'
      cases e'
      exact f.block _ (lt_of_some hb) (fun c => (hX _ (lt_of_some hb) c).2.1 ⟨x, hx, hp, o0, e0⟩)
    refine ⟨hl.1.keep f.size hk, fun hp => ?_⟩
    obtain ⟨b0, o0, cs, e0, hb⟩ := hl.2 hp
    exact ⟨b0, o0, cs, e0, (hk hp _ e0).trans hb⟩
end

end Go.Proofs.YtogknhogphkddaaGreat
