/- Joined: Mj26, Mk1, Sd8, Sd9, Sdb, Mj27. -/
import Derived.Test.YtmocakafnnkjfabGreatJ23
import Derived.Test.YtmocakafnnkjfabGreatJ18
import Derived.Test.YtmocakafnnkjfabGreatJ07
import Derived.Test.YtmocakafnnkjfabGreatJ10
/- A great cut in memory: Things once more, DeleteFunc of a list that may be nil, whole, all of two rows: contracts. -/
namespace Go.Proofs.YtmocakafnnkjfabGreat
open Go.RowKit W Kp Stl

set_option maxRecDepth 100000 in
set_option maxHeartbeats 1000000 in
theorem things2_any {p q N O y g : Nat} {ws : List Int} (w : World) (h : At w p q N O y g ws) :
    Calls Tryz.prog 24 #[.pointer (some ⟨p, 0, none⟩)] w fun e w' => ∃ v1 v2, e = .returned (.tuple #[v1, v2]) ∧ w'.ownsRow w.heap.size 3 1 v1 (thY N y g ws).length ((thY N y g ws).map (Value.int .i64)) ∧ w'.ownsRow w.heap.size 3 1 v2 (thO N y g ws).length ((thO N y g ws).map (Value.int .i64)) ∧ (∀ b, some b = v1.ownBlock → some b ≠ v2.ownBlock) ∧ Below w.heap.size w w' := by
  obtain ⟨c0, c1, c2, c3, c4, c5, c6⟩ := h.cells
  have lp := h.ltp
  have lq := h.ltq
  have k1 := h.hN'
  have k2 := h.hy
  have k3 := h.hO
  have k4 := h.hg
  go_enter Tryz.func24, Tryz.ntmps24
  go_wp2_with fail
  refine (each1_any 0 N y w.heap.size _ ((h.alloc _).alloc _) ((Below.heap_alloc _ _ _ (by simp)).trans (heap_alloc_new _ _)) (by omega) (by omega) (by omega) (by omega) (by omega) (by omega)).mono ?_
  rintro e w1 ⟨rfl, v1, hc1, hown1, hS1⟩
  have h1 : At w1 p q N O y g ws := ((h.alloc _).alloc _).same (hS1.block p (by simp; omega) (by omega)) (hS1.block q (by simp; omega) (by omega))
  have hc2 : w1.heap[w.heap.size + 1]? = some (.cells #[.slice none 0 0] 56 (0, 0)) := (hS1.block (w.heap.size + 1) (by simp) (by omega)).trans (new_top _ (by simp))
  have CC1 : Hid (w1.heap[w.heap.size]? = some (.cells #[v1] 56 (0, 0))) := hc1
  have CC2 : Hid (w1.heap[w.heap.size + 1]? = some (.cells #[.slice none 0 0] 56 (0, 0))) := hc2
  have hz1 := hS1.size
  simp only [World.size_alloc] at hz1
  clear hc1 hc2 c0 c1 c2 c3 c4 c5 c6
  obtain ⟨c0, c1, c2, c3, c4, c5, c6⟩ := h1.cells
  go_wp2_with fail
  refine (each2_any N O g (w.heap.size + 1) _ h1 CC2.out (by omega) (by omega) (by omega) (by omega) (by omega) (by omega)).mono ?_
  rintro e w2 ⟨rfl, v2, hc2, hown2, hS2⟩
  have x1 : w2.cell? ⟨w.heap.size, 0, none⟩ = some v1 := by
    have := (hS2.block w.heap.size (by omega) (by omega)).trans CC1.out
    simp [World.cell?, this]
  have x2 : w2.cell? ⟨w.heap.size + 1, 0, none⟩ = some v2 := by simp [World.cell?, hc2]
  have hz2 := hS2.size
  clear hc2
  go_wp2_with fail
  go_quiet (fail)
  go_wp2_with fail
  go_ret2
  have hap : ∀ b, some b = v1.ownBlock → some b ≠ v2.ownBlock := fun b e e' => by
    have q1 := (row_lt hown1 b e).2
    have q2 := (row_lt hown2 b e').1
    omega
  simp only [World.size_alloc] at hown1 hS1
  have e1 : thY N y g ws = ths N y g ws (0 + (y : Int)) 2000 0 := by rw [Int.zero_add]; rfl
  refine ⟨v1, v2, rfl, ?_, ?_, hap, ?_⟩
  · rw [e1]
    exact owned_below (owned_mono (base := w.heap.size + 1 + 1) (owned_sb hown1 hS2 (Nat.le_refl _) (by omega)) (by omega)) (below_drewN (Below.refl _ _) _)
  · exact owned_below (owned_mono hown2 (by omega)) (below_drewN (Below.refl _ _) _)
  · exact below_drewN ((((Below.refl _ _).alloc (Nat.le_refl _) _).alloc (by simp) _).trans ((hS1.below (by omega) (Nat.le_refl _)).trans (hS2.below (by omega) (by omega)))) _

set_option maxRecDepth 100000 in
set_option maxHeartbeats 1000000 in
theorem delFI_nil (f : Nat) (c : Array Value) (p : Int → Bool) (hf : Ent f) (w : World) :
    Calls Tryz.prog 180 #[.slice none 0 0, .func (.func f) #[] c] w fun r w' => r = .returned (.slice none 0 0) ∧ Below w.heap.size w w' := by
  have P := indexFI_any f c p hf w [] (fun w' x hx _ => by cases hx) none 0 (by simp) (fun h => by simp at h)
  clear hf
  go_enter Tryz.func180, Tryz.ntmps180
  go_wp2_with fail
  refine P.mono ?_
  clear P
  rintro r w1 ⟨hb1, ⟨rfl, _⟩ | ⟨i0, _, hi0, _⟩⟩
  · go_wp2_with fail
    go_ret
    exact ⟨rfl, hb1⟩
  · simp at hi0
theorem delFI_both (f : Nat) (c : Array Value) (p : Int → Bool) (hf : Ent f) (w : World) (l : List Int) (ad : Option Addr) (cap B : Nat)
    (hl : ∀ (w' : World) (x : Int), x ∈ l → Fr (fun b => some b = (Value.slice ad l.length cap).ownBlock) w w' → Calls Tryz.prog f (#[.int .i64 x] ++ c) w' fun r w'' => r = .returned (.bool (p x)) ∧ Below w'.heap.size w' w'')
    (hm : l.length ≤ 100000) (hr : w.ownsRow B 3 1 (.slice ad l.length cap) l.length (l.map (Value.int .i64))) :
    Calls Tryz.prog 180 #[.slice ad l.length cap, .func (.func f) #[] c] w fun r w' => r = .returned (.slice ad (kpL p l).length cap) ∧ w'.ownsRow B 3 1 (.slice ad (kpL p l).length cap) (kpL p l).length ((kpL p l).map (Value.int .i64)) ∧ Fr (fun b => some b = (Value.slice ad l.length cap).ownBlock) w w' := by
  rcases hr.2 with ⟨hv, hn⟩ | ⟨g, cap', cur, hv, _⟩
  · have hl0 : l = [] := List.eq_nil_of_length_eq_zero hn
    subst hl0
    simp at hv
    obtain ⟨rfl, rfl⟩ := hv
    refine (delFI_nil f c p hf w).mono ?_
    rintro r w' ⟨rfl, hb⟩
    exact ⟨rfl, World.ownsRow_nil _ _ _ _, Fr.of hb⟩
  · simp at hv
    obtain ⟨rfl, rfl⟩ := hv
    have e : ∀ n cap, (fun b => some b = (Value.slice (some ⟨g, 0, none⟩) n cap).ownBlock) = (fun b => b = g) := fun n cap => by
      funext b
      simp [Value.ownBlock]
    rw [e] at hl ⊢
    exact delFI_any f c p hf w l g cap B hl hm hr

set_option maxRecDepth 100000 in
set_option maxHeartbeats 1000000 in
theorem wholeJ_any {pk pw p q N O y g : Nat} {ws : List Int} (w : World) (hA : At w p q N O y g ws) (c1 : w.cell? ⟨pk, 0, none⟩ = some (.pointer (some ⟨pw, 0, none⟩))) (c2 : w.cell? ⟨pw, 0, none⟩ = some (.pointer (some ⟨p, 0, none⟩))) (l : List Int) (ad : Option Addr) (cap B : Nat) (e : Int) (hl : l.length ≤ 100000) (hlb : ∀ x ∈ l, 0 ≤ x ∧ x ≤ 100000)
    (hr : w.ownsRow B 3 1 (.slice ad l.length cap) l.length (l.map (Value.int .i64))) (hB : pk < B ∧ pw < B ∧ p < B ∧ q < B) :
    Calls Tryz.prog 142 #[.pointer (some ⟨pk, 0, none⟩), .slice ad l.length cap, .int .i64 e] w fun r w' => r = .returned (.slice ad (kpL (fun x => decide (e ≤ x + pf (ld N y g ws x))) l).length cap) ∧ w'.ownsRow B 3 1 (.slice ad (kpL (fun x => decide (e ≤ x + pf (ld N y g ws x))) l).length cap) (kpL (fun x => decide (e ≤ x + pf (ld N y g ws x))) l).length ((kpL (fun x => decide (e ≤ x + pf (ld N y g ws x))) l).map (Value.int .i64)) ∧ Fr (fun b => some b = (Value.slice ad l.length cap).ownBlock) w w' := by
  have hmf : ∀ (fn : Fn) (first cap : Array Value) (w : World), (Instr.makeFunc fn first cap).run Tryz.prog w = .ok (.func fn first cap) w := fun _ _ _ _ => rfl
  obtain ⟨W, hW⟩ : ∃ W, W = (w.alloc (.cells #[.pointer (some ⟨pk, 0, none⟩)] 143)).alloc (.cells #[.int .i64 e] 3) := ⟨_, rfl⟩
  have hb0 : Below w.heap.size w W := by rw [hW]; exact ((Below.refl _ w).alloc (Nat.le_refl _) _).alloc (by simp) _
  have x0 : W.heap[w.heap.size]? = some (.cells #[.pointer (some ⟨pk, 0, none⟩)] 143 (0, 0)) := by
    rw [hW, Below.heap_alloc _ _ _ (by simp)]
    exact heap_alloc_new _ _
  have x1 : W.heap[w.heap.size + 1]? = some (.cells #[.int .i64 e] 3 (0, 0)) := by
    rw [hW]
    simpa using heap_alloc_new (w.alloc (.cells #[.pointer (some ⟨pk, 0, none⟩)] 143)) (.cells #[.int .i64 e] 3)
  have lk := World.block_lt_of_cell? w _ c1
  have lw := World.block_lt_of_cell? w _ c2
  have lp := hA.ltp
  have lq := hA.ltq
  have hs0 : W.heap.size = w.heap.size + 2 := by rw [hW]; simp
  have hrW : W.ownsRow B 3 1 (.slice ad l.length cap) l.length (l.map (Value.int .i64)) := row_keep hr (fun b e => hb0.block b (row_lt hr b e).2)
  have P := delFI_both 181 #[.pointer (some ⟨w.heap.size, 0, none⟩), .pointer (some ⟨w.heap.size + 1, 0, none⟩)] (fun x => decide (e ≤ x + pf (ld N y g ws x))) ent_wh1 W l ad cap B (fun w' x hx hf => by
    have hn : ∀ b, some b = (Value.slice ad l.length cap).ownBlock → B ≤ b ∧ b < w.heap.size := fun b e => row_lt hr b e
    have k0 : ∀ b, b < B → b < w.heap.size → w'.heap[b]? = w.heap[b]? := fun b hb hb2 => (hf.block b (by omega) (fun e => by have := (hn b e).1; omega)).trans (hb0.block b hb2)
    have k1 : ∀ b, w.heap.size ≤ b → b < W.heap.size → w'.heap[b]? = W.heap[b]? := fun b hb hb2 => hf.block b hb2 (fun e => by have := (hn b e).2; omega)
    have y0 := (k1 w.heap.size (Nat.le_refl _) (by omega)).trans x0
    have y1 := (k1 (w.heap.size + 1) (by omega) (by omega)).trans x1
    exact whole1J_any w' (hA.same (k0 p hB.2.2.1 lp) (k0 q hB.2.2.2 lq)) (by simp [World.cell?, y0]) ((World.cell?_of_block (a := ⟨pk, 0, none⟩) (k0 pk hB.1 lk)).trans c1) ((World.cell?_of_block (a := ⟨pw, 0, none⟩) (k0 pw hB.2.1 lw)).trans c2) (by simp [World.cell?, y1]) x (hlb x hx)) hl hrW
  have HB : Hid (Below w.heap.size w W ∧ ∀ b, some b = (Value.slice ad l.length cap).ownBlock → b < w.heap.size) := ⟨hb0, fun b e => (row_lt hr b e).2⟩
  have HW0 : Hid (W = (w.alloc (.cells #[.pointer (some ⟨pk, 0, none⟩)] 143)).alloc (.cells #[.int .i64 e] 3)) := hW
  clear hA hr hrW x0 x1 hb0 hs0 hW lk lw lp lq c1 c2
  generalize (fun x => decide (e ≤ x + pf (ld N y g ws x))) = pp at P ⊢
  go_enter Tryz.func142, Tryz.ntmps142
  go_wp2_with fail
  rw [← HW0.out]
  refine P.mono ?_
  clear P
  rintro r w1 ⟨rfl, hown, hf⟩
  have HF : Hid (w1.ownsRow B 3 1 (.slice ad (kpL pp l).length cap) (kpL pp l).length ((kpL pp l).map (Value.int .i64)) ∧ Fr (fun b => some b = (Value.slice ad l.length cap).ownBlock) w w1) := ⟨hown, (Fr.of HB.out.1).trans hf (fun b e => Or.inl e)⟩
  clear hown hf
  go_wp2_with fail
  go_ret
  exact ⟨rfl, HF.out.1, HF.out.2⟩

set_option maxRecDepth 100000 in
set_option maxHeartbeats 2000000 in
theorem allR_any (w : World) (pk : Nat) (G Y : List Int) (ga ya : Option Addr) (gc yc : Nat) (d1 : w.cell? ⟨pk, 1, none⟩ = some (.slice ya Y.length yc)) (d2 : w.cell? ⟨pk, 2, none⟩ = some (.slice ga G.length gc)) (yr : w.ownsRow 0 3 1 (.slice ya Y.length yc) Y.length (Y.map (Value.int .i64))) (gr : w.ownsRow 0 3 1 (.slice ga G.length gc) G.length (G.map (Value.int .i64))) (hl : G.length + Y.length ≤ 4000) :
    Calls Tryz.prog 143 #[.pointer (some ⟨pk, 0, none⟩)] w fun e w' => ∃ a d, e = .returned (.slice a (G.length + Y.length) d) ∧ w'.ownsRow w.heap.size 3 1 (.slice a (G.length + Y.length) d) (G.length + Y.length) ((G ++ Y).map (Value.int .i64)) ∧ Below w.heap.size w w' := by
  have lk := World.block_lt_of_cell? w _ d1
  have hba := (Below.refl w.drew.heap.size w.drew).alloc (Nat.le_refl _) (.cells #[.slice ga G.length gc, .slice ya Y.length yc] 56)
  have hB0 : Below w.heap.size w (w.drew.alloc (.cells #[.slice ga G.length gc, .slice ya Y.length yc] 56)) := (Below.refl w.heap.size w).drew.trans (hba.mono (Nat.le_refl _))
  have hx := heap_alloc_new w.drew (.cells #[.slice ga G.length gc, .slice ya Y.length yc] 56)
  have P := concatI_any (w.drew.alloc (.cells #[.slice ga G.length gc, .slice ya Y.length yc] 56)) w.heap.size G Y ga ya gc yc (by simp only [World.cell?]; rw [show w.heap.size = w.drew.heap.size from rfl, hx]; rfl) (by simp only [World.cell?]; rw [show w.heap.size = w.drew.heap.size from rfl, hx]; rfl) (row_keep gr (fun b e => hB0.block b (row_lt gr b e).2)) (row_keep yr (fun b e => hB0.block b (row_lt yr b e).2)) (by omega)
  have HB0 : Hid (Below w.heap.size w (w.drew.alloc (.cells #[.slice ga G.length gc, .slice ya Y.length yc] 56))) := hB0
  clear yr gr hba hx hB0
  go_enter Tryz.func143, Tryz.ntmps143
  go_wp2_with fail
  go_region_held3 (fun w' => w'.cell? ⟨pk, 1, none⟩ = some (.slice ya Y.length yc) ∧ w'.cell? ⟨pk, 2, none⟩ = some (.slice ga G.length gc)) (go_keep)
    (first
      | (go_at_call 182; refine P.mono ?_; clear P; rintro e w3 ⟨a, d, rfl, hown, hb⟩; have hB3 := HB0.out.trans (hb.mono HB0.out.size); have y1 := (hB3.cell (p := ⟨pk, 1, none⟩) lk).trans d1; have y2 := (hB3.cell (p := ⟨pk, 2, none⟩) lk).trans d2; have HO : Hid (w3.ownsRow w.heap.size 3 1 (.slice a (G.length + Y.length) d) (G.length + Y.length) ((G ++ Y).map (Value.int .i64)) ∧ Below w.heap.size w w3) := ⟨row_base hown (fun b e => Nat.le_trans HB0.out.size (row_lt hown b e).1), hB3⟩; clear hown hb hB3))
  clear y1 y2 d1 d2
  go_wp2_with fail
  go_ret
  exact ⟨a, d, rfl, HO.out.1, HO.out.2⟩

end Go.Proofs.YtmocakafnnkjfabGreat

/- A great cut: what it begins with, what it comes to: lists alone. -/
namespace Go.Proofs.YtmocakafnnkjfabGreat
open Go.RowKit W Kp Stl

def Wst.j0 (a : Wc) (s : Wst) : Jk := ⟨a, s, kpL (fun x => decide ((s.y : Int) ≤ x + pf (ld a.N s.y s.g s.ws x))) (thY a.N s.y s.g s.ws), kpL (fun x => decide ((a.N : Int) + s.g ≤ x + pf (ld a.N s.y s.g s.ws x))) (thO a.N s.y s.g s.ws)⟩
def js0 : Js := ⟨fun _ => -1, [], []⟩
def Ww.j2 (a : Wc) (S : Ww) : Js × List En := (S.s.j0 a).sp ((S.s.j0 a).kr js0 12, S.q)
def Ww.j3 (a : Wc) (S : Ww) : Js := ((S.s.j0 a).sS (S.j2 a) S.r).1
def Ww.r3 (a : Wc) (S : Ww) : List En := (S.s.j0 a).sR (S.j2 a) S.r
def Ww.q3 (a : Wc) (S : Ww) : List En := (S.s.j0 a).sQ (S.j2 a) S.r
def Ww.j4 (a : Wc) (S : Ww) : Js := ((S.s.j0 a).pl (S.j3 a)).1
def Ww.n4 (a : Wc) (S : Ww) : Int := ((S.s.j0 a).pl (S.j3 a)).2 - a.N
def Ww.jfull (a : Wc) (S : Ww) : Bool := decide ((a.O : Int) < S.n4 a)
def Ww.k5 (a : Wc) (S : Ww) : Jk := (S.s.j0 a).tlA (S.j4 a)
def Ww.j5 (a : Wc) (S : Ww) : Js := ((S.k5 a).tS (S.j4 a, S.q3 a) (S.r3 a)).1
def Ww.k6 (a : Wc) (S : Ww) : Jk := (S.k5 a).sl (S.j5 a)
def Ww.gcut (a : Wc) (S : Ww) : Ww := if S.jfull a = true then S else ⟨(S.k6 a).s, (S.k5 a).tR (S.j4 a, S.q3 a) (S.r3 a), (S.k5 a).tQ (S.j4 a, S.q3 a) (S.r3 a)⟩
def Ww.gcode (a : Wc) (S : Ww) : Int := if S.jfull a = true then 3 else 0

section
variable {a : Wc} {s : Wst}

theorem kpL_sub {p : Int → Bool} {l : List Int} {x : Int} (h : x ∈ kpL p l) : x ∈ l := (List.mem_filter.1 h).1
theorem kpL_le (p : Int → Bool) (l : List Int) : (kpL p l).length ≤ l.length := List.length_filter_le _ _
theorem JI.start (hN : a.N ≤ 256) (hO : a.O ≤ 1024) (hy : s.y ≤ a.N) (hg : s.g ≤ a.O) : JI (s.j0 a) js0 := by
  have bY : ∀ x ∈ (s.j0 a).Y, 0 ≤ x ∧ x < s.y := fun x hx => by
    have h1 := thY_bd x (kpL_sub hx)
    omega
  have bG : ∀ x ∈ (s.j0 a).G, (a.N : Int) ≤ x ∧ x < (a.N : Int) + s.g := fun x hx => by
    have h1 := ths_bd _ _ x (kpL_sub hx)
    omega
  have nd : (s.j0 a).T.Nodup := by
    unfold Jk.T
    rw [List.nodup_append]
    refine ⟨(ths_nd 2000 _).filter _, (ths_nd 2000 0).filter _, fun x hx z hz e => ?_⟩
    have h1 := bG x hx
    have h2 := bY z hz
    omega
  have tl : (s.j0 a).T.length ≤ 4000 := by
    unfold Jk.T
    rw [List.length_append]
    have h1 : (s.j0 a).G.length ≤ 2000 := Nat.le_trans (kpL_le _ _) (ths_le _ _)
    have h2 : (s.j0 a).Y.length ≤ 2000 := Nat.le_trans (kpL_le _ _) (ths_le _ _)
    omega
  refine ⟨nd, fun x hx => ?_, fun x hx => by simp [js0] at hx, fun x hx => by simp [js0] at hx, tl, ?_⟩
  · rcases List.mem_append.1 hx with d | d
    · have := bG x d
      omega
    · have := bY x d
      omega
  · show ((s.j0 a).T.filter (fun _ => _)).length + 0 + 0 ≤ _
    exact List.length_filter_le _ _
end

end Go.Proofs.YtmocakafnnkjfabGreat

/- Concat of two lists of entries: a contract. -/
namespace Go.Proofs.YtmocakafnnkjfabGreat
open Go.RowKit W Kp Stl

end Go.Proofs.YtmocakafnnkjfabGreat

/- Full, Reg, Copy of a Side: contracts. -/
namespace Go.Proofs.YtmocakafnnkjfabGreat
open Go.RowKit W Kp Stl

structure Sds (w : World) (p : Nat) (a0 : Option Addr) (k0 : Nat) (a1 : Option Addr) (k1 : Nat) (r q : List En) : Prop where
  blk : w.heap[p]? = some (.cells #[.slice a0 r.length k0, .slice a1 q.length k1] 162 (0, 0))
  r0 : w.ownsRow 0 95 2 (.slice a0 r.length k0) r.length (ev r)
  q0 : w.ownsRow 0 95 2 (.slice a1 q.length k1) q.length (ev q)

theorem row_li {w : World} {base : Nat} {e : TypeId} {ad : Option Addr} {cap : Nat} {l : List En} (h : w.ownsRow base e 2 (.slice ad l.length cap) l.length (ev l)) : Li w ad l cap := by
  refine ⟨row_pairs h, ?_, ?_⟩
  · rcases h.2 with ⟨hv, h0⟩ | ⟨g, cap', cur, hv, _, _, hc, _⟩
    · omega
    · simp at hv; omega
  · intro e0
    rcases h.2 with ⟨hv, h0⟩ | ⟨g, cap', cur, hv, _⟩
    · simp at hv; exact ⟨h0, hv.2.2⟩
    · rw [e0] at hv; simp at hv

theorem Sds.keep {w w' : World} {p : Nat} {a0 a1 : Option Addr} {k0 k1 : Nat} {r q : List En} (h : Sds w p a0 k0 a1 k1 r q) (h1 : w'.heap[p]? = w.heap[p]?) (h2 : ∀ k, some k = (Value.slice a0 r.length k0).ownBlock → w'.heap[k]? = w.heap[k]?) (h3 : ∀ k, some k = (Value.slice a1 q.length k1).ownBlock → w'.heap[k]? = w.heap[k]?) : Sds w' p a0 k0 a1 k1 r q :=
  ⟨h1.trans h.blk, row_keep h.r0 h2, row_keep h.q0 h3⟩
theorem Sds.below {w w' : World} {p : Nat} {a0 a1 : Option Addr} {k0 k1 : Nat} {r q : List En} (h : Sds w p a0 k0 a1 k1 r q) (hb : Below w.heap.size w w') : Sds w' p a0 k0 a1 k1 r q :=
  h.keep (hb.block p (lt_of_some h.blk)) (fun k e => hb.block k (row_lt h.r0 k e).2) (fun k e => hb.block k (row_lt h.q0 k e).2)
theorem Sds.np {w : World} {p : Nat} {a0 a1 : Option Addr} {k0 k1 : Nat} {r q : List En} (h : Sds w p a0 k0 a1 k1 r q) {b n : Nat} {v : Value} {l : List Value} (hr : w.ownsRow b 95 2 v n l) : ∀ k, some k = v.ownBlock → k ≠ p := by
  intro k e e'
  obtain ⟨cur, hc⟩ := row_type hr k e
  rw [e', h.blk] at hc
  simp at hc

def fulB (n : Nat) : Bool := decide (24 ≤ n)
theorem fulB_yes {n : Nat} (h : 24 ≤ n) : fulB n = true := by simp [fulB, h]
theorem fulB_no {n : Nat} (h : ¬ 24 ≤ n) : fulB n = false := by simp [fulB, h]

theorem ful_eq {n0 n1 : Nat} (h0 : n0 ≤ 100000) (h1 : n1 ≤ 100000) : Hid (decide ((24 : Int) ≤ IntKind.i64.wrap ((n0 : Int) + (n1 : Int))) = fulB (n0 + n1)) := by
  show _ = _
  rw [show IntKind.i64.wrap ((n0 : Int) + (n1 : Int)) = (n0 : Int) + n1 by rw [IntKind.wrap_i64]; omega]
  unfold fulB
  by_cases h : 24 ≤ n0 + n1
  · rw [decide_eq_true h, decide_eq_true (by omega)]
  · rw [decide_eq_false h, decide_eq_false (by omega)]

set_option maxRecDepth 100000 in
set_option maxHeartbeats 400000 in
theorem full_any' (w : World) (p : Nat) (a0 a1 : Option Addr) (n0 k0 n1 k1 : Nat) (h : w.heap[p]? = some (.cells #[.slice a0 n0 k0, .slice a1 n1 k1] 162 (0, 0))) (h0 : n0 ≤ 100000) (h1 : n1 ≤ 100000) :
    Calls Tryz.prog 115 #[.pointer (some ⟨p, 0, none⟩)] w fun e w' => e = .returned (.bool (fulB (n0 + n1))) ∧ Below w.heap.size w w' := by
  have c0 : w.cell? ⟨p, 0, none⟩ = some (.slice a0 n0 k0) := by simp [World.cell?, h]
  have c1 : w.cell? ⟨p, 1, none⟩ = some (.slice a1 n1 k1) := by simp [World.cell?, h]
  clear h
  have HE := ful_eq h0 h1
  go_enter Tryz.func115, Tryz.ntmps115
  go_wp2_with fail
  go_region_held3 (fun w' => w'.cell? ⟨p, 0, none⟩ = some (.slice a0 n0 k0) ∧ w'.cell? ⟨p, 1, none⟩ = some (.slice a1 n1 k1)) (go_keep) (fail)
  go_wp2_with fail
  go_ret
  exact ⟨by rw [← HE.out]; rfl, (Below.refl _ _).drew⟩

theorem Sds.cells {w : World} {p : Nat} {a0 a1 : Option Addr} {k0 k1 : Nat} {r q : List En} (h : Sds w p a0 k0 a1 k1 r q) : w.cell? ⟨p, 0, none⟩ = some (.slice a0 r.length k0) ∧ w.cell? ⟨p, 1, none⟩ = some (.slice a1 q.length k1) ∧ w.frozen? ⟨p, 0, none⟩ = false ∧ w.frozen? ⟨p, 1, none⟩ = false ∧ p < w.heap.size :=
  ⟨by simp [World.cell?, h.blk], by simp [World.cell?, h.blk], by simp [World.frozen?, h.blk], by simp [World.frozen?, h.blk], lt_of_some h.blk⟩

theorem set_fst {w : World} {p : Nat} {x y v : Value} {T : TypeId} (h : w.heap[p]? = some (.cells #[x, y] T (0, 0))) : (w.setCell ⟨p, 0, none⟩ v).heap[p]? = some (.cells #[v, y] T (0, 0)) := by
  simp only [World.setCell, Array.getElem?_modify, if_true, h, Option.map_some]
  simp
set_option maxRecDepth 100000 in
set_option maxHeartbeats 1000000 in
theorem reg_any (w : World) (p : Nat) (a0 a1 : Option Addr) (k0 k1 : Nat) (r q : List En) (g z : Int) (h : Sds w p a0 k0 a1 k1 r q) (h0 : r.length ≤ 90000) (h1 : q.length ≤ 90000) :
    Calls Tryz.prog 57 #[.pointer (some ⟨p, 0, none⟩), .agg #[.int .i64 g, .int .i64 z]] w fun e w' => e = .returned (.bool (!fulB (r.length + q.length))) ∧
      ((24 ≤ r.length + q.length ∧ Below w.heap.size w w') ∨ (¬ 24 ≤ r.length + q.length ∧ ∃ b1 c1, Sds w' p (some ⟨b1, 0, none⟩) c1 a1 k1 (r ++ [(g, z)]) q ∧ w.heap.size ≤ b1 ∧ Fr (fun k => k = p) w w')) := by
  obtain ⟨c0, c1, f0, f1, lp⟩ := h.cells
  have H : Hid (Sds w p a0 k0 a1 k1 r q) := h
  have hb1 := (Below.refl w.heap.size w).alloc (Nat.le_refl _) (.cells #[.int .i64 g, .int .i64 z] 95)
  have HLi : Hid (Li w a0 r k0) := row_li h.r0
  by_cases hf : 24 ≤ r.length + q.length
  · rw [fulB_yes hf]
    clear h
    go_enter Tryz.func57, Tryz.ntmps57
    go_wp2_with fail
    refine (full_any' _ p a0 a1 r.length k0 q.length k1 ((hb1.block p lp).trans H.out.blk) (by omega) (by omega)).mono ?_
    rintro e w1 ⟨rfl, hb⟩
    rw [fulB_yes hf]
    have hb2 := hb1.trans (hb.mono (by simp))
    go_wp2_with fail
    go_ret
    exact ⟨rfl, Or.inl ⟨hf, hb2⟩⟩
  · rw [fulB_no hf]
    clear h
    go_enter Tryz.func57, Tryz.ntmps57
    go_wp2_with fail
    refine (full_any' _ p a0 a1 r.length k0 q.length k1 ((hb1.block p lp).trans H.out.blk) (by omega) (by omega)).mono ?_
    rintro e w1 ⟨rfl, hb⟩
    rw [fulB_no hf]
    have hb2 := hb1.trans (hb.mono (by simp))
    have hl0 : w.heap.size < w1.heap.size := by have := hb.size; simp at this; omega
    have y0 : w1.cell? ⟨w.heap.size, 0, none⟩ = some (.int .i64 g) := (hb.cell (by simp)).trans (by simp)
    have y1 : w1.cell? ⟨w.heap.size, 1, none⟩ = some (.int .i64 z) := (hb.cell (by simp)).trans (by simp)
    have y2 := (hb2.cell (p := ⟨p, 0, none⟩) lp).trans c0
    have y3 := (hb2.frozen (p := ⟨p, 0, none⟩) lp).trans f0
    have lp1 : p < w1.heap.size := by omega
    have hLi1 := HLi.out.below hb2
    clear hb hb1
    go_wp2_with fail
    go_region_with (go_at_call 116; refine (with_any _ a0 r k0 g z (hLi1.below ((Below.refl _ _).drew)) (by omega)).mono ?_; rintro e w5 ⟨b1, cap1, rfl, hown, hb5⟩; have e4 := (hb5.cell (p := ⟨p, 0, none⟩) lp1).trans y2; have e5 := (hb5.frozen (p := ⟨p, 0, none⟩) lp1).trans y3)
    all_goals
      go_wp2_with fail
      go_ret
      refine ⟨rfl, Or.inr ⟨hf, b1, cap1, ?_⟩⟩
      have hbw : Below w.heap.size w w5 := hb2.drew.trans (hb5.mono (by simp; omega))
      have lb : w1.heap.size ≤ b1 := (row_lt hown b1 rfl).1
      have hS := H.out.below hbw
      have hfr : Fr (fun k => k = p) w (w5.setCell ⟨p, 0, none⟩ (.slice (some ⟨b1, 0, none⟩) (r.length + 1) cap1)) := (Fr.of hbw).set p 0 _ rfl
      have kk : ∀ k, k ≠ p → (w5.setCell ⟨p, 0, none⟩ (.slice (some ⟨b1, 0, none⟩) (r.length + 1) cap1)).heap[k]? = w5.heap[k]? := fun k hk => Below.heap_setCell _ _ _ _ hk
      refine ⟨⟨by simpa using set_fst hS.blk, ?_, row_keep hS.q0 (fun k e => kk k (hS.np hS.q0 k e))⟩, by omega, hfr⟩
      have := row_base (base' := 0) (row_keep (w' := w5.setCell ⟨p, 0, none⟩ (.slice (some ⟨b1, 0, none⟩) (r.length + 1) cap1)) hown (fun k e => kk k (hS.np hown k e))) (fun _ _ => Nat.zero_le _)
      simpa using this

end Go.Proofs.YtmocakafnnkjfabGreat

/- At, Copy of a Side: contracts. -/
namespace Go.Proofs.YtmocakafnnkjfabGreat
open Go.RowKit W Kp Stl

set_option maxRecDepth 100000 in
set_option maxHeartbeats 1000000 in
theorem copyS_any (w : World) (p : Nat) (a0 a1 : Option Addr) (k0 k1 : Nat) (r q : List En) (h : Sds w p a0 k0 a1 k1 r q) (h0 : r.length ≤ 90000) (h1 : q.length ≤ 90000) :
    Calls Tryz.prog 141 #[.pointer (some ⟨p, 0, none⟩)] w fun e w' => ∃ p' b0 c0 b1 c1, e = .returned (.pointer (some ⟨p', 0, none⟩)) ∧ w.heap.size ≤ p' ∧ Sds w' p' b0 c0 b1 c1 r q ∧ (∀ z, b0 = some z → w.heap.size ≤ z.block) ∧ (∀ z, b1 = some z → w.heap.size ≤ z.block) ∧ (∀ k, some k = (Value.slice b0 r.length c0).ownBlock → some k ≠ (Value.slice b1 q.length c1).ownBlock) ∧ Below w.heap.size w w' := by
  obtain ⟨c0, c1, f0, f1, lp⟩ := h.cells
  have HR : Hid (Li w a0 r k0) := row_li h.r0
  have HQ : Hid (Li w a1 q k1) := row_li h.q0
  clear h f0 f1
  go_enter Tryz.func141, Tryz.ntmps141
  go_wp2_with fail
  have hd := (Below.refl w.heap.size w).drew
  go_region_held3 (fun w' => w'.cell? ⟨p, 0, none⟩ = some (.slice a0 r.length k0) ∧ w'.cell? ⟨p, 1, none⟩ = some (.slice a1 q.length k1)) (first | exact ⟨c0, c1⟩ | exact ⟨u0, u1⟩ | exact ⟨v0, v1⟩ | go_keep)
    (first | (have hb8 := hb3; go_at_call 176; refine (cloneE_any _ a1 q k1 (HQ.out.below hb3) (by omega)).mono ?_; rintro e w5 ⟨d1, e1, rfl, hQ5, hb5⟩; have l5 := hb5.size; have v0 := (hb5.cell (p := ⟨p, 0, none⟩) (Nat.lt_of_lt_of_le lp l3)).trans u0; have v1 := (hb5.cell (p := ⟨p, 1, none⟩) (Nat.lt_of_lt_of_le lp l3)).trans u1)
           | (go_at_call 176; refine (cloneE_any _ a0 r k0 (HR.out.below hd) (by omega)).mono ?_; rintro e w3 ⟨d0, e0, rfl, hR3, hb3'⟩; have hb3 : Below w.heap.size w w3 := hd.trans hb3'; have l3 := hb3.size; have u0 := (hb3.cell (p := ⟨p, 0, none⟩) lp).trans c0; have u1 := (hb3.cell (p := ⟨p, 1, none⟩) lp).trans c1))
  go_wp2_with fail
  go_ret
  refine ⟨w5.heap.size, d0, e0, d1, e1, rfl, Nat.le_trans l3 l5, ⟨heap_alloc_new _ _, row_base (row_alloc (row_keep hR3 (fun k e => hb5.block k (row_lt hR3 k e).2)) _) (fun _ _ => Nat.zero_le _), row_base (row_alloc hQ5 _) (fun _ _ => Nat.zero_le _)⟩, fun z e => (row_lt hR3 z.block (by rw [e]; rfl)).1, fun z e => Nat.le_trans l3 (row_lt hQ5 z.block (by rw [e]; rfl)).1, fun k e e' => ?_, (hb3.trans (hb5.mono l3)).alloc (Nat.le_trans l3 l5) _⟩
  have q1 := (row_lt hR3 k e).2
  have q2 := (row_lt hQ5 k e').1
  omega

end Go.Proofs.YtmocakafnnkjfabGreat

/- A great cut in memory: newCut: a contract. -/
namespace Go.Proofs.YtmocakafnnkjfabGreat
open Go.RowKit W Kp Stl

abbrev nuB (a : Wc) (mq ps : Nat) (yv ov : Value) : Obj := .cells #[.pointer (some ⟨a.pw, 0, none⟩), yv, ov, .map (some mq), .pointer (some ⟨ps, 0, none⟩), .slice none 0 0, .slice none 0 0] 146 (0, 0)
structure Nu (a : Wc) (S : Ww) (w : World) (pk mq ps : Nat) (b0 : Option Addr) (d0 : Nat) (b1 : Option Addr) (d1 : Nat) (yv ov : Value) (T : List Int) (w' : World) : Prop where
  bl : Below w.heap.size w w'
  cb : w'.heap[pk]? = some (nuB a mq ps yv ov)
  sd : Sds w' ps b0 d0 b1 d1 S.r S.q
  mp : Mp w' mq T (fun _ => -1)
  mq0 : w.heap.size = mq
  mp1 : mq < ps
  pp : ps < pk
  l0 : ∀ k, some k = (Value.slice b0 S.r.length d0).ownBlock → mq < k ∧ k < pk
  l1 : ∀ k, some k = (Value.slice b1 S.q.length d1).ownBlock → mq < k ∧ k < pk
  ln : ∀ k, some k = (Value.slice b0 S.r.length d0).ownBlock → some k ≠ (Value.slice b1 S.q.length d1).ownBlock

section
variable {a : Wc} {S : Ww} {w w' w'' : World} {pk mq ps : Nat} {b0 b1 : Option Addr} {d0 d1 : Nat} {yv ov : Value} {T : List Int}

theorem Nu.fr {X : Nat → Prop} (h : Nu a S w pk mq ps b0 d0 b1 d1 yv ov T w') (f : Fr X w' w'') (hX : ∀ b, X b → pk < b) : Nu a S w pk mq ps b0 d0 b1 d1 yv ov T w'' := by
  have h1 := h.mq0
  have h2 := h.mp1
  have h3 := h.pp
  have h4 := lt_of_some h.cb
  have hk : ∀ b, b ≤ pk → w''.heap[b]? = w'.heap[b]? := fun b hb => f.block b (by omega) (fun d => by have := hX b d; omega)
  exact { bl := ⟨f.os.trans h.bl.os, f.tape.trans h.bl.tape, f.output.trans h.bl.output, Nat.le_trans h.bl.size f.size, fun b hb => (hk b (by omega)).trans (h.bl.block b hb)⟩
          cb := (hk pk (Nat.le_refl _)).trans h.cb
          sd := ⟨(hk ps (by omega)).trans h.sd.blk, row_keep h.sd.r0 (fun b e => hk b (by have := (h.l0 b e).2; omega)), row_keep h.sd.q0 (fun b e => hk b (by have := (h.l1 b e).2; omega))⟩
          mp := h.mp.same (hk mq (by omega))
          mq0 := h.mq0, mp1 := h.mp1, pp := h.pp, l0 := h.l0, l1 := h.l1, ln := h.ln }
theorem Nu.below (h : Nu a S w pk mq ps b0 d0 b1 d1 yv ov T w') (f : Below w'.heap.size w' w'') : Nu a S w pk mq ps b0 d0 b1 d1 yv ov T w'' := h.fr (Fr.of (X := fun _ => False) f) (fun _ d => d.elim)
theorem Nu.set (h : Nu a S w pk mq ps b0 d0 b1 d1 yv ov T w') (i : Nat) (v : Value) {yv' ov' : Value} (e : (w'.setCell ⟨pk, i, none⟩ v).heap[pk]? = some (nuB a mq ps yv' ov')) : Nu a S w pk mq ps b0 d0 b1 d1 yv' ov' T (w'.setCell ⟨pk, i, none⟩ v) := by
  have h1 := h.mq0
  have h2 := h.mp1
  have h3 := h.pp
  have f : Fr (fun b => b = pk) w' (w'.setCell ⟨pk, i, none⟩ v) := (Fr.refl _ w').set pk i v rfl
  have hk : ∀ b, b < pk → (w'.setCell ⟨pk, i, none⟩ v).heap[b]? = w'.heap[b]? := fun b hb => f.block b (by have := lt_of_some h.cb; omega) (fun d => by omega)
  exact { bl := ⟨f.os.trans h.bl.os, f.tape.trans h.bl.tape, f.output.trans h.bl.output, Nat.le_trans h.bl.size f.size, fun b hb => (hk b (by omega)).trans (h.bl.block b hb)⟩
          cb := e
          sd := ⟨(hk ps (by omega)).trans h.sd.blk, row_keep h.sd.r0 (fun b e => hk b (h.l0 b e).2), row_keep h.sd.q0 (fun b e => hk b (h.l1 b e).2)⟩
          mp := h.mp.same (hk mq (by omega))
          mq0 := h.mq0, mp1 := h.mp1, pp := h.pp, l0 := h.l0, l1 := h.l1, ln := h.ln }
theorem Nu.set1 (h : Nu a S w pk mq ps b0 d0 b1 d1 yv ov T w') (v : Value) : Nu a S w pk mq ps b0 d0 b1 d1 v ov T (w'.setCell ⟨pk, 1, none⟩ v) := h.set 1 v (by
  simp only [World.setCell, Array.getElem?_modify, if_true, h.cb, Option.map_some]
  simp)
theorem Nu.set2 (h : Nu a S w pk mq ps b0 d0 b1 d1 yv ov T w') (v : Value) : Nu a S w pk mq ps b0 d0 b1 d1 yv v T (w'.setCell ⟨pk, 2, none⟩ v) := h.set 2 v (by
  simp only [World.setCell, Array.getElem?_modify, if_true, h.cb, Option.map_some]
  simp)
theorem Nu.add {x : Int} (h : Nu a S w pk mq ps b0 d0 b1 d1 yv ov T w') (f : Fr (fun b => b = mq) w' w'') (hm : Mp w'' mq (T ++ [x]) (fun _ => -1)) : Nu a S w pk mq ps b0 d0 b1 d1 yv ov (T ++ [x]) w'' := by
  have h1 := h.mq0
  have h2 := h.mp1
  have h3 := h.pp
  have h4 := lt_of_some h.cb
  have hk : ∀ b, b ≤ pk → b ≠ mq → w''.heap[b]? = w'.heap[b]? := fun b hb hn => f.block b (by omega) (fun d => hn d)
  exact { bl := ⟨f.os.trans h.bl.os, f.tape.trans h.bl.tape, f.output.trans h.bl.output, Nat.le_trans h.bl.size f.size, fun b hb => (hk b (by omega) (by omega)).trans (h.bl.block b hb)⟩
          cb := (hk pk (Nat.le_refl _) (by omega)).trans h.cb
          sd := ⟨(hk ps (by omega) (by omega)).trans h.sd.blk, row_keep h.sd.r0 (fun b e => hk b (by have := (h.l0 b e).2; omega) (by have := (h.l0 b e).1; omega)), row_keep h.sd.q0 (fun b e => hk b (by have := (h.l1 b e).2; omega) (by have := (h.l1 b e).1; omega))⟩
          mp := hm
          mq0 := h.mq0, mp1 := h.mp1, pp := h.pp, l0 := h.l0, l1 := h.l1, ln := h.ln }
theorem Nu.cells (h : Nu a S w pk mq ps b0 d0 b1 d1 yv ov T w') : w'.cell? ⟨pk, 0, none⟩ = some (.pointer (some ⟨a.pw, 0, none⟩)) ∧ w'.cell? ⟨pk, 1, none⟩ = some yv ∧ w'.cell? ⟨pk, 2, none⟩ = some ov ∧ w'.cell? ⟨pk, 3, none⟩ = some (.map (some mq)) ∧ (∀ i, w'.frozen? ⟨pk, i, none⟩ = false) ∧ pk < w'.heap.size := by
  have h2 := h.cb
  refine ⟨?_, ?_, ?_, ?_, fun i => ?_, lt_of_some h2⟩
  all_goals first | simp [World.cell?, h2] | simp [World.frozen?, h2]
theorem Nu.done {FW : Nat → Prop} {ya ga : Option Addr} {yc gc : Nat} (hw : (wodO a).J FW S.s w) (hJ : JI (S.s.j0 a) js0) (h : Nu a S w pk mq ps b0 d0 b1 d1 (.slice ya (S.s.j0 a).Y.length yc) (.slice ga (S.s.j0 a).G.length gc) (S.s.j0 a).T w')
    (yr : w'.ownsRow (pk + 1) 3 1 (.slice ya (S.s.j0 a).Y.length yc) (S.s.j0 a).Y.length ((S.s.j0 a).Y.map (Value.int .i64))) (gr : w'.ownsRow (pk + 1) 3 1 (.slice ga (S.s.j0 a).G.length gc) (S.s.j0 a).G.length ((S.s.j0 a).G.map (Value.int .i64))) (hn : ∀ b, some b = (Value.slice ya (S.s.j0 a).Y.length yc).ownBlock → some b ≠ (Value.slice ga (S.s.j0 a).G.length gc).ownBlock) :
    ∃ F', (mkSd (mjI ⟨pk, mq, ps, .slice ya (S.s.j0 a).Y.length yc, .slice ga (S.s.j0 a).G.length gc⟩ (S.s.j0 a)) ps (.slice b0 S.r.length d0)).J F' (js0, S.q) w' ∧ (∀ b, some b = (Value.slice b0 S.r.length d0).ownBlock → ¬ F' b ∧ w.heap.size ≤ b) ∧ (∀ b, F' b → FW b ∨ w.heap.size ≤ b) := by
  have m0 := h.mq0
  have m1 := h.mp1
  have m2 := h.pp
  have lk := lt_of_some h.cb
  have hlt := (wodO a).lt hw
  classical
  obtain ⟨own, hown⟩ : ∃ own : Nat → Nat, own = fun b => if FW b then 1 else if b = pk then 5 else if b = mq then 6 else if some b = (Value.slice ya (S.s.j0 a).Y.length yc).ownBlock then 9 else if some b = (Value.slice ga (S.s.j0 a).G.length gc).ownBlock then 10 else 0 := ⟨_, rfl⟩
  have nW : ∀ b, w.heap.size ≤ b → ¬ FW b := fun b hb d => by have := hlt b d; omega
  have o1 : ∀ b, FW b ↔ own b = 1 := fun b => by
    rw [hown]
    dsimp only
    by_cases d : FW b
    · simp [d]
    · rw [if_neg d]
      refine ⟨fun e => absurd e d, fun e => ?_⟩
      split at e
      · omega
      · split at e
        · omega
        · split at e
          · omega
          · split at e <;> omega
  have ok : own pk = 5 := by rw [hown]; dsimp only; rw [if_neg (nW pk (by omega)), if_pos rfl]
  have om : own mq = 6 := by rw [hown]; dsimp only; rw [if_neg (nW mq (by omega)), if_neg (by omega), if_pos rfl]
  have oy : ∀ b, some b = (Value.slice ya (S.s.j0 a).Y.length yc).ownBlock → own b = 9 := fun b e => by
    have q := (row_lt yr b e).1
    rw [hown]
    dsimp only
    rw [if_neg (nW b (by omega)), if_neg (by omega), if_neg (by omega), if_pos e]
  have og : ∀ b, some b = (Value.slice ga (S.s.j0 a).G.length gc).ownBlock → own b = 10 := fun b e => by
    have q := (row_lt gr b e).1
    rw [hown]
    dsimp only
    rw [if_neg (nW b (by omega)), if_neg (by omega), if_neg (by omega), if_neg (fun e2 => hn b e2 e), if_pos e]
  have ol : ∀ b, own b ≠ 0 → b < w'.heap.size ∧ (FW b ∨ b = pk ∨ b = mq ∨ pk < b) := fun b hb => by
    rw [hown] at hb
    dsimp only at hb
    by_cases d : FW b
    · have := hlt b d
      have := h.bl.size
      exact ⟨by omega, Or.inl d⟩
    · rw [if_neg d] at hb
      by_cases e1 : b = pk
      · exact ⟨by omega, Or.inr (Or.inl e1)⟩
      · rw [if_neg e1] at hb
        by_cases e2 : b = mq
        · exact ⟨by omega, Or.inr (Or.inr (Or.inl e2))⟩
        · rw [if_neg e2] at hb
          by_cases e3 : some b = (Value.slice ya (S.s.j0 a).Y.length yc).ownBlock
          · have := row_lt yr b e3
            exact ⟨this.2, Or.inr (Or.inr (Or.inr (by omega)))⟩
          · rw [if_neg e3] at hb
            by_cases e4 : some b = (Value.slice ga (S.s.j0 a).G.length gc).ownBlock
            · have := row_lt gr b e4
              exact ⟨this.2, Or.inr (Or.inr (Or.inr (by omega)))⟩
            · rw [if_neg e4] at hb
              exact absurd rfl hb
  clear hown
  have HM : (mjI ⟨pk, mq, ps, .slice ya (S.s.j0 a).Y.length yc, .slice ga (S.s.j0 a).G.length gc⟩ (S.s.j0 a)).J (fun b => own b ≠ 0) js0 w' := by
    refine ⟨⟨.slice none 0 0, .slice none 0 0, FW, own, ?_, fun b => Iff.rfl⟩, hJ⟩
    exact { wd := (wodO a).keep hw h.bl.size (fun b hb => h.bl.block b (hlt b hb))
            w1 := o1
            cb := h.cb
            k1 := ok
            mp := h.mp
            m1 := om
            tr := World.ownsRow_nil _ _ _ _
            to_ := fun b e => by simp [Value.ownBlock] at e
            er := World.ownsRow_nil _ _ _ _
            eo := fun b e => by simp [Value.ownBlock] at e
            yr := row_base yr (fun _ _ => Nat.zero_le _)
            yo := oy
            gr := row_base gr (fun _ _ => Nat.zero_le _)
            go := og
            lt := fun b hb => (ol b hb).1 }
  have nps : ¬ own ps ≠ 0 := fun d => by
    rcases (ol ps d).2 with q | q | q | q
    · exact nW ps (by omega) q
    · omega
    · omega
    · omega
  have n1 : ∀ k, mq < k → k < pk → ¬ own k ≠ 0 := fun k k1 k2 d => by
    rcases (ol k d).2 with q | q | q | q
    · exact nW k (by omega) q
    · omega
    · omega
    · omega
  have npr : ∀ k, some k = (Value.slice b0 S.r.length d0).ownBlock → k ≠ ps := fun k e e' => by
    obtain ⟨cs, hc⟩ := row_type h.sd.r0 k e
    rw [e', h.sd.blk] at hc
    simp at hc
  refine ⟨fun b => own b ≠ 0 ∨ b = ps ∨ some b = (Value.slice b1 S.q.length d1).ownBlock, ⟨fun b => own b ≠ 0, b1, d1, HM, h.sd.blk, h.sd.q0, fun k hk => Or.inl hk, Or.inr (Or.inl rfl), nps, fun k e => ⟨Or.inr (Or.inr e), n1 k (h.l1 k e).1 (h.l1 k e).2⟩, fun k hk => ?_⟩, fun b e => ⟨fun d => ?_, by have := (h.l0 b e).1; omega⟩, fun b d => ?_⟩
  · rcases hk with d | d | d
    · exact (ol k d).1
    · omega
    · have := (h.l1 k d).2
      omega
  · rcases d with d | d | d
    · exact n1 b (h.l0 b e).1 (h.l0 b e).2 d
    · exact npr b e d
    · exact h.ln b e d
  · rcases d with d | d | d
    · rcases (ol b d).2 with q | q | q | q
      · exact Or.inl q
      · exact Or.inr (by omega)
      · exact Or.inr (by omega)
      · exact Or.inr (by omega)
    · exact Or.inr (by omega)
    · have := (h.l1 b d).1
      exact Or.inr (by omega)
end

end Go.Proofs.YtmocakafnnkjfabGreat
