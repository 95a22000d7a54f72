/- Joined: Mj25, Mj26, Mk1, Sd8, Sd9, Sdb. -/
import Derived.Test.YtalgochmjddodaaGreatJ21
import Derived.Test.YtalgochmjddodaaGreatJ12
import Derived.Lib.SliceRun
import Derived.Test.YtalgochmjddodaaGreatJ17
import Derived.Test.YtalgochmjddodaaGreatJ06
import Derived.Test.YtalgochmjddodaaGreatJ09
namespace Go.Proofs.YtalgochmjddodaaGreat
set_option maxRecDepth 100000
set_option maxHeartbeats 2000000
open Go.RowKit W Kp Stl
def kpL (p : Int -> Bool) (l : List Int) : List Int := l.filter (fun x => !p x)
theorem kpL_snoc (p : Int -> Bool) (l : List Int) (x : Int) : kpL p (l ++ [x]) = if p x = true then kpL p l else kpL p l ++ [x] := by
 unfold kpL
 rw [List.filter_append]
 cases h : p x <;> simp [h]
theorem kpL_none {p : Int -> Bool} {l : List Int} (h : ∀ e ∈ l, p e = false) : kpL p l = l := by
 unfold kpL
 rw [List.filter_eq_self]
 intro a ha
 rw [h a ha]
 rfl
theorem row_sets {base size n g cap i : Nat} {e : TypeId} : ∀ (vs : List Value) (o : Nat) {w : World} {xs : List Value}, w.ownsRow base e size (.slice (some ⟨g, 0, none⟩) n cap) n xs -> i <= o -> ∃ xs', (w.setCells g o vs).ownsRow base e size (.slice (some ⟨g, 0, none⟩) n cap) n xs' /\ xs'.take i = xs.take i
 | [], o, w, xs, h, _ => ⟨xs, h, rfl⟩
 | v :: vs, o, w, xs, h, hi => by
  obtain ⟨xs', h1, h2⟩ := row_sets vs (o + 1) (row_set h o v) (by omega : i <= o + 1)
  refine ⟨xs', h1, h2.trans ?_⟩
  rw [List.take_set_of_le hi]
theorem fr_sets {g : Nat} : ∀ (vs : List Value) (o : Nat) (w : World), Fr (fun b => b = g) w (w.setCells g o vs)
 | [], _, w => Fr.refl _ w
 | v :: vs, o, w => ((Fr.refl (fun b => b = g) w).set g o v rfl).trans (fr_sets vs (o + 1) _) (fun _ e => Or.inl e)
theorem delFI_any (f : Nat) (c : Array Value) (p : Int -> Bool) (hf : Ent f) (w : World) (l : List Int) (g cap B : Nat)
  (hl : ∀ (w' : World) (x : Int), x ∈ l -> Fr (fun b => b = g) w w' -> Calls Tryz.prog f (#[.int .i64 x] ++ c) w' fun r w'' => r = .returned (.bool (p x)) /\ Below w'.heap.size w' w'')
  (hm : l.length <= 100000) (hr : w.ownsRow B 3 1 (.slice (some ⟨g, 0, none⟩) l.length cap) l.length (l.map (Value.int .i64))) :
  Calls Tryz.prog 213 #[.slice (some ⟨g, 0, none⟩) l.length cap, .func (.func f) #[] c] w fun r w' => r = .returned (.slice (some ⟨g, 0, none⟩) (kpL p l).length cap) /\ w'.ownsRow B 3 1 (.slice (some ⟨g, 0, none⟩) (kpL p l).length cap) (kpL p l).length ((kpL p l).map (Value.int .i64)) /\ Fr (fun b => b = g) w w' := by
 have HL : Hid (∀ (w' : World) (x : Int), x ∈ l -> Fr (fun b => b = g) w w' -> Calls Tryz.prog f (#[.int .i64 x] ++ c) w' fun r w'' => r = .returned (.bool (p x)) /\ Below w'.heap.size w' w'') := hl
 have P := indexFI_any f c p hf w l (fun w' x hx hb => HL.out w' x hx (Fr.of hb)) (some ⟨g, 0, none⟩) cap hm (row_ints hr)
 have HR : Hid (w.ownsRow B 3 1 (.slice (some ⟨g, 0, none⟩) l.length cap) l.length (l.map (Value.int .i64))) := hr
 have hcp := row_caps hr
 have hcf : ∀ (args : Array Value) (w : World), (callFunc f args).run Tryz.prog w = .ok (.enter f args) w := hf
 clear hl hr hf
 go_enter Tryz.func213, Tryz.ntmps213
 go_wp2_with fail
 refine P.mono ?_
 clear P
 rintro r w1 ⟨hb1, ⟨rfl, hn⟩ | ⟨i0, rfl, hi0, hpi, hn⟩⟩
 ·have HF : Hid (kpL p l = l /\ w1.ownsRow B 3 1 (.slice (some ⟨g, 0, none⟩) l.length cap) l.length (l.map (Value.int .i64)) /\ Fr (fun b => b = g) w w1) := ⟨kpL_none hn, row_keep HR.out (fun b e => hb1.block b (row_lt HR.out b e).2), Fr.of hb1⟩
  clear hb1 hn
  go_wp2_with fail
  go_ret
  rw [HF.out.1]
  exact ⟨rfl, HF.out.2⟩
 ·have i0' : (i0 : Int) < l.length := by omega
  have HE0 : Hid (kpL p (l.take (i0 + 1)) = l.take i0 /\ w1.ownsRow B 3 1 (.slice (some ⟨g, 0, none⟩) l.length cap) l.length (l.map (Value.int .i64)) /\ Fr (fun b => b = g) w w1) := by
   refine ⟨?_, row_keep HR.out (fun b e => hb1.block b (row_lt HR.out b e).2), Fr.of hb1⟩
   rw [take_snoc l i0 hi0 0, kpL_snoc, if_pos hpi, kpL_none hn]
  clear hn hpi hb1
  go_wp2_with fail
  have e12 : ((i0 : Int) == -1) = false := by rw [beq_eq_false_iff_ne]; omega
  rw [e12]
  clear e12
  go_loopw [5, 6] (fun iv jv wr => ∃ (i j : Nat), i < j /\ j <= l.length /\ iv = .int .i64 i /\ jv = .int .i64 j /\ Hid ((kpL p (l.take j)).length = i /\ wr.ownsRow B 3 1 (.slice (some ⟨g, 0, none⟩) l.length cap) l.length ((kpL p (l.take j) ++ l.drop i).map (Value.int .i64)) /\ Fr (fun b => b = g) w wr)) (fun _ jv _ => l.length - (intOf jv).toNat)
  case atStart =>
   refine ⟨i0, i0 + 1, by omega, by omega, rfl, by go_num, ?_⟩
   obtain ⟨h1, h2, h3⟩ := HE0.out
   refine ⟨by rw [h1, List.length_take]; omega, ?_, h3⟩
   rw [h1, List.take_append_drop]
   exact h2
  case round =>
   clear HE0 hi0 i0'
   obtain ⟨i, j, hij, hj, rfl, rfl, HI⟩ := hrel
   by_cases hlt : j < l.length
   ·have hd : l.getD j 0 ∈ l := by rw [List.getD_eq_getElem?_getD, List.getElem?_eq_getElem hlt]; exact List.getElem_mem hlt
    have hx : ((kpL p (l.take j) ++ l.drop i).map (Value.int .i64))[j]? = some (.int .i64 (l.getD j 0)) := by
     have e := HI.out.1
     rw [List.getElem?_map, List.getElem?_append_right (by omega), List.getElem?_drop, e, show i + (j - i) = j from by omega, List.getElem?_eq_getElem hlt, List.getD_eq_getElem?_getD, List.getElem?_eq_getElem hlt]
     rfl
    have x1 := (row_cell HI.out.2.1 hx).1
    have P := HL.out wr (l.getD j 0) hd HI.out.2.2
    have HT : Hid (l.take (j + 1) = l.take j ++ [l.getD j 0]) := take_snoc l j hlt 0
    generalize l.getD j 0 = x at x1 P HT
    have j0 : (0 : Int) <= (j : Int) := by omega
    have j1 : (j : Int) < l.length := by omega
    have i0 : (0 : Int) <= (i : Int) := by omega
    have i1 : (i : Int) < l.length := by omega
    clear hx hd
    go_wp2_with fail
    refine P.mono ?_
    clear P x1
    rintro r w2 ⟨rfl, hb2⟩
    have HR2 : Hid (w2.ownsRow B 3 1 (.slice (some ⟨g, 0, none⟩) l.length cap) l.length ((kpL p (l.take j) ++ l.drop i).map (Value.int .i64)) /\ Fr (fun b => b = g) w w2) := ⟨row_keep HI.out.2.1 (fun b e => hb2.block b (row_lt HI.out.2.1 b e).2), HI.out.2.2.trans (Fr.of (X := fun b => b = g) hb2) (fun _ d => Or.inl d)⟩
    clear hb2
    cases hp : p x
    ·have hy : ∃ y, ((kpL p (l.take j) ++ l.drop i).map (Value.int .i64))[i]? = some (Value.int .i64 y) := by
      have e := HI.out.1
      have hil : i < l.length := by omega
      refine ⟨l[i], ?_⟩
      rw [List.getElem?_map, List.getElem?_append_right (by omega), List.getElem?_drop, e, Nat.sub_self, Nat.add_zero, List.getElem?_eq_getElem hil]
      rfl
     obtain ⟨y, hy⟩ := hy
     obtain ⟨y1, y2⟩ := row_cell HR2.out.1 hy
     have HI' : Hid ((kpL p (l.take (j + 1))).length = i + 1 /\ (w2.setCell ⟨g, i, none⟩ (.int .i64 x)).ownsRow B 3 1 (.slice (some ⟨g, 0, none⟩) l.length cap) l.length ((kpL p (l.take (j + 1)) ++ l.drop (i + 1)).map (Value.int .i64)) /\ Fr (fun b => b = g) w (w2.setCell ⟨g, i, none⟩ (.int .i64 x))) := by
      have e := HI.out.1
      have hil : i < l.length := by omega
      have ek : kpL p (l.take (j + 1)) = kpL p (l.take j) ++ [x] := by rw [HT.out, kpL_snoc, hp]; rfl
      refine ⟨by rw [ek, List.length_append, e]; rfl, ?_, HR2.out.2.trans ((Fr.refl (fun b => b = g) w2).set g i _ rfl) (fun _ d => Or.inl d)⟩
      have h5 := row_set HR2.out.1 i (Value.int .i64 x)
      have e6 : ((kpL p (l.take j) ++ l.drop i).map (Value.int .i64)).set i (.int .i64 x) = (kpL p (l.take (j + 1)) ++ l.drop (i + 1)).map (Value.int .i64) := by
       rw [ek, <- List.map_set, List.set_append_right _ _ (by omega), e, Nat.sub_self, List.drop_eq_getElem_cons hil, List.set_cons_zero, List.append_assoc]
       rfl
      rw [e6] at h5
      exact h5
     clear hp hy HI HR2 HT
     go_wp2_with fail
     go_roundw
     case rel => exact ⟨i + 1, j + 1, by omega, by omega, by go_num, by go_num, HI'⟩
     case measure => simp [intOf]; omega
    ·have HI' : Hid ((kpL p (l.take (j + 1))).length = i /\ w2.ownsRow B 3 1 (.slice (some ⟨g, 0, none⟩) l.length cap) l.length ((kpL p (l.take (j + 1)) ++ l.drop i).map (Value.int .i64)) /\ Fr (fun b => b = g) w w2) := by
      have ek : kpL p (l.take (j + 1)) = kpL p (l.take j) := by rw [HT.out, kpL_snoc, hp]; rfl
      rw [ek]
      exact ⟨HI.out.1, HR2.out⟩
     clear hp HI HR2 HT
     go_wp2_with fail
     go_roundw
     case rel => exact ⟨i, j + 1, by omega, by omega, rfl, by go_num, HI'⟩
     case measure => simp [intOf]; omega
   ·obtain rfl : j = l.length := by omega
    have hlen : ((kpL p (l.take l.length) ++ l.drop i).map (Value.int .i64)).length = l.length := by
     have e := HI.out.1
     rw [List.length_map, List.length_append, e, List.length_drop]
     omega
    have hcl : ∀ ty, (Builtin.clear_ #[105] ty #[.slice (some ⟨g, i, none⟩) (l.length - i) (cap - i)]).run Tryz.prog wr = .ok (.tuple #[]) (wr.setCells g i (List.replicate (l.length - i) (.int .i64 0))) := fun ty =>
     Lib.run_clear_slice wr _ _ ty _ Tryz.underlying105 (fun w => zeroI w) rfl rfl g i _ _ (by omega) (fun k hk => by
      rw [(row_cell HI.out.2.1 (List.getElem?_eq_getElem (by rw [hlen]; omega : i + k < _))).1]; rfl) (fun k hk => (row_cell HI.out.2.1 (List.getElem?_eq_getElem (by rw [hlen]; omega : i + k < _))).2)
    have HZ : Hid ((kpL p l).length = i /\ (wr.setCells g i (List.replicate (l.length - i) (.int .i64 0))).ownsRow B 3 1 (.slice (some ⟨g, 0, none⟩) i cap) i ((kpL p l).map (Value.int .i64)) /\ Fr (fun b => b = g) w (wr.setCells g i (List.replicate (l.length - i) (.int .i64 0)))) := by
     obtain ⟨h1, h2, h3⟩ := HI.out
     rw [List.take_length] at h1 h2
     refine ⟨h1, ?_, h3.trans (fr_sets _ _ _) (fun _ d => Or.inl d)⟩
     obtain ⟨xs, h4, h5⟩ := row_sets (i := i) (List.replicate (l.length - i) (Value.int .i64 0)) i h2 (Nat.le_refl _)
     have h6 := row_front h4 i (by omega)
     rw [h5, List.map_append, List.take_append_of_le_length (by simp; omega), List.take_of_length_le (by simp; omega)] at h6
     exact h6
    have i0 : (0 : Int) <= (i : Int) := by omega
    have i1 : (i : Int) < l.length := by omega
    clear hlt HI hlen
    go_wp2_with fail
    go_ret
    rw [HZ.out.1]
    exact ⟨rfl, HZ.out.2⟩
end Go.Proofs.YtalgochmjddodaaGreat

namespace Go.Proofs.YtalgochmjddodaaGreat
set_option maxRecDepth 100000
set_option maxHeartbeats 2000000
open Go.RowKit W Kp Stl
theorem things2_any {p q N O y g : Nat} {ws : List Int} (w : World) (h : At w p q N O y g ws) :
  Calls Tryz.prog 127 #[.pointer (some ⟨p, 0, none⟩)] w fun e w' => ∃ v1 v2, e = .returned (.tuple #[v1, v2]) /\ w'.ownsRow w.heap.size 3 1 v1 (thY N y g ws).length ((thY N y g ws).map (Value.int .i64)) /\ w'.ownsRow w.heap.size 3 1 v2 (thO N y g ws).length ((thO N y g ws).map (Value.int .i64)) /\ (∀ b, some b = v1.ownBlock -> some b ≠ v2.ownBlock) /\ Below w.heap.size w w' := by
 obtain ⟨c0, c1, c2, c3, c4, c5, c6⟩ := h.cells
 have lp := h.ltp
 have lq := h.ltq
 have k1 := h.hN'
 have k2 := h.hy
 have k3 := h.hO
 have k4 := h.hg
 go_enter Tryz.func127, Tryz.ntmps127
 go_wp2_with fail
 refine (each1_any 0 N y w.heap.size _ ((h.alloc _).alloc _) ((Below.heap_alloc _ _ _ (by simp)).trans (heap_alloc_new _ _)) (by omega) (by omega) (by omega) (by omega) (by omega) (by omega)).mono ?_
 rintro e w1 ⟨rfl, v1, hc1, hown1, hS1⟩
 have h1 : At w1 p q N O y g ws := ((h.alloc _).alloc _).same (hS1.block p (by simp; omega) (by omega)) (hS1.block q (by simp; omega) (by omega))
 have hc2 : w1.heap[w.heap.size + 1]? = some (.cells #[.slice none 0 0] 105 (0, 0)) := (hS1.block (w.heap.size + 1) (by simp) (by omega)).trans (new_top _ (by simp))
 have CC1 : Hid (w1.heap[w.heap.size]? = some (.cells #[v1] 105 (0, 0))) := hc1
 have CC2 : Hid (w1.heap[w.heap.size + 1]? = some (.cells #[.slice none 0 0] 105 (0, 0))) := hc2
 have hz1 := hS1.size
 simp only [World.size_alloc] at hz1
 clear hc1 hc2 c0 c1 c2 c3 c4 c5 c6
 obtain ⟨c0, c1, c2, c3, c4, c5, c6⟩ := h1.cells
 go_wp2_with fail
 refine (each2_any N O g (w.heap.size + 1) _ h1 CC2.out (by omega) (by omega) (by omega) (by omega) (by omega) (by omega)).mono ?_
 rintro e w2 ⟨rfl, v2, hc2, hown2, hS2⟩
 have x1 : w2.cell? ⟨w.heap.size, 0, none⟩ = some v1 := by
  have := (hS2.block w.heap.size (by omega) (by omega)).trans CC1.out
  simp [World.cell?, this]
 have x2 : w2.cell? ⟨w.heap.size + 1, 0, none⟩ = some v2 := by simp [World.cell?, hc2]
 have hz2 := hS2.size
 clear hc2
 go_wp2_with fail
 go_quiet (fail)
 go_wp2_with fail
 go_ret2
 have hap : ∀ b, some b = v1.ownBlock -> some b ≠ v2.ownBlock := fun b e e' => by
  have q1 := (row_lt hown1 b e).2
  have q2 := (row_lt hown2 b e').1
  omega
 simp only [World.size_alloc] at hown1 hS1
 have e1 : thY N y g ws = ths N y g ws (0 + (y : Int)) 2000 0 := by rw [Int.zero_add]; rfl
 refine ⟨v1, v2, rfl, ?_, ?_, hap, ?_⟩
 ·rw [e1]
  exact owned_below (owned_mono (base := w.heap.size + 1 + 1) (owned_sb hown1 hS2 (Nat.le_refl _) (by omega)) (by omega)) (below_drewN (Below.refl _ _) _)
 ·exact owned_below (owned_mono hown2 (by omega)) (below_drewN (Below.refl _ _) _)
 ·exact below_drewN ((((Below.refl _ _).alloc (Nat.le_refl _) _).alloc (by simp) _).trans ((hS1.below (by omega) (Nat.le_refl _)).trans (hS2.below (by omega) (by omega)))) _
theorem delFI_nil (f : Nat) (c : Array Value) (p : Int -> Bool) (hf : Ent f) (w : World) :
  Calls Tryz.prog 213 #[.slice none 0 0, .func (.func f) #[] c] w fun r w' => r = .returned (.slice none 0 0) /\ Below w.heap.size w w' := by
 have P := indexFI_any f c p hf w [] (fun w' x hx _ => by cases hx) none 0 (by simp) (fun h => by simp at h)
 clear hf
 go_enter Tryz.func213, Tryz.ntmps213
 go_wp2_with fail
 refine P.mono ?_
 clear P
 rintro r w1 ⟨hb1, ⟨rfl, _⟩ | ⟨i0, _, hi0, _⟩⟩
 ·go_wp2_with fail
  go_ret
  exact ⟨rfl, hb1⟩
 ·simp at hi0
theorem delFI_both (f : Nat) (c : Array Value) (p : Int -> Bool) (hf : Ent f) (w : World) (l : List Int) (ad : Option Addr) (cap B : Nat)
  (hl : ∀ (w' : World) (x : Int), x ∈ l -> Fr (fun b => some b = (Value.slice ad l.length cap).ownBlock) w w' -> Calls Tryz.prog f (#[.int .i64 x] ++ c) w' fun r w'' => r = .returned (.bool (p x)) /\ Below w'.heap.size w' w'')
  (hm : l.length <= 100000) (hr : w.ownsRow B 3 1 (.slice ad l.length cap) l.length (l.map (Value.int .i64))) :
  Calls Tryz.prog 213 #[.slice ad l.length cap, .func (.func f) #[] c] w fun r w' => r = .returned (.slice ad (kpL p l).length cap) /\ w'.ownsRow B 3 1 (.slice ad (kpL p l).length cap) (kpL p l).length ((kpL p l).map (Value.int .i64)) /\ Fr (fun b => some b = (Value.slice ad l.length cap).ownBlock) w w' := by
 rcases hr.2 with ⟨hv, hn⟩ | ⟨g, cap', cur, hv, _⟩
 ·have hl0 : l = [] := List.eq_nil_of_length_eq_zero hn
  subst hl0
  simp at hv
  obtain ⟨rfl, rfl⟩ := hv
  refine (delFI_nil f c p hf w).mono ?_
  rintro r w' ⟨rfl, hb⟩
  exact ⟨rfl, World.ownsRow_nil _ _ _ _, Fr.of hb⟩
 ·simp at hv
  obtain ⟨rfl, rfl⟩ := hv
  have e : ∀ n cap, (fun b => some b = (Value.slice (some ⟨g, 0, none⟩) n cap).ownBlock) = (fun b => b = g) := fun n cap => by
   funext b
   simp [Value.ownBlock]
  rw [e] at hl ⊢
  exact delFI_any f c p hf w l g cap B hl hm hr
theorem wholeJ_any {pk pw p q N O y g : Nat} {ws : List Int} (w : World) (hA : At w p q N O y g ws) (c1 : w.cell? ⟨pk, 0, none⟩ = some (.pointer (some ⟨pw, 0, none⟩))) (c2 : w.cell? ⟨pw, 0, none⟩ = some (.pointer (some ⟨p, 0, none⟩))) (l : List Int) (ad : Option Addr) (cap B : Nat) (e : Int) (hl : l.length <= 100000) (hlb : ∀ x ∈ l, 0 <= x /\ x <= 100000)
  (hr : w.ownsRow B 3 1 (.slice ad l.length cap) l.length (l.map (Value.int .i64))) (hB : pk < B /\ pw < B /\ p < B /\ q < B) :
  Calls Tryz.prog 150 #[.pointer (some ⟨pk, 0, none⟩), .slice ad l.length cap, .int .i64 e] w fun r w' => r = .returned (.slice ad (kpL (fun x => decide (e <= x + pf (ld N y g ws x))) l).length cap) /\ w'.ownsRow B 3 1 (.slice ad (kpL (fun x => decide (e <= x + pf (ld N y g ws x))) l).length cap) (kpL (fun x => decide (e <= x + pf (ld N y g ws x))) l).length ((kpL (fun x => decide (e <= x + pf (ld N y g ws x))) l).map (Value.int .i64)) /\ Fr (fun b => some b = (Value.slice ad l.length cap).ownBlock) w w' := by
 have hmf : ∀ (fn : Fn) (first cap : Array Value) (w : World), (Instr.makeFunc fn first cap).run Tryz.prog w = .ok (.func fn first cap) w := fun _ _ _ _ => rfl
 obtain ⟨W, hW⟩ : ∃ W, W = (w.alloc (.cells #[.pointer (some ⟨pk, 0, none⟩)] 130)).alloc (.cells #[.int .i64 e] 3) := ⟨_, rfl⟩
 have hb0 : Below w.heap.size w W := by rw [hW]; exact ((Below.refl _ w).alloc (Nat.le_refl _) _).alloc (by simp) _
 have x0 : W.heap[w.heap.size]? = some (.cells #[.pointer (some ⟨pk, 0, none⟩)] 130 (0, 0)) := by
  rw [hW, Below.heap_alloc _ _ _ (by simp)]
  exact heap_alloc_new _ _
 have x1 : W.heap[w.heap.size + 1]? = some (.cells #[.int .i64 e] 3 (0, 0)) := by
  rw [hW]
  simpa using heap_alloc_new (w.alloc (.cells #[.pointer (some ⟨pk, 0, none⟩)] 130)) (.cells #[.int .i64 e] 3)
 have lk := World.block_lt_of_cell? w _ c1
 have lw := World.block_lt_of_cell? w _ c2
 have lp := hA.ltp
 have lq := hA.ltq
 have hs0 : W.heap.size = w.heap.size + 2 := by rw [hW]; simp
 have hrW : W.ownsRow B 3 1 (.slice ad l.length cap) l.length (l.map (Value.int .i64)) := row_keep hr (fun b e => hb0.block b (row_lt hr b e).2)
 have P := delFI_both 214 #[.pointer (some ⟨w.heap.size, 0, none⟩), .pointer (some ⟨w.heap.size + 1, 0, none⟩)] (fun x => decide (e <= x + pf (ld N y g ws x))) ent_wh1 W l ad cap B (fun w' x hx hf => by
  have hn : ∀ b, some b = (Value.slice ad l.length cap).ownBlock -> B <= b /\ b < w.heap.size := fun b e => row_lt hr b e
  have k0 : ∀ b, b < B -> b < w.heap.size -> w'.heap[b]? = w.heap[b]? := fun b hb hb2 => (hf.block b (by omega) (fun e => by have := (hn b e).1; omega)).trans (hb0.block b hb2)
  have k1 : ∀ b, w.heap.size <= b -> b < W.heap.size -> w'.heap[b]? = W.heap[b]? := fun b hb hb2 => hf.block b hb2 (fun e => by have := (hn b e).2; omega)
  have y0 := (k1 w.heap.size (Nat.le_refl _) (by omega)).trans x0
  have y1 := (k1 (w.heap.size + 1) (by omega) (by omega)).trans x1
  exact whole1J_any w' (hA.same (k0 p hB.2.2.1 lp) (k0 q hB.2.2.2 lq)) (by simp [World.cell?, y0]) ((World.cell?_of_block (a := ⟨pk, 0, none⟩) (k0 pk hB.1 lk)).trans c1) ((World.cell?_of_block (a := ⟨pw, 0, none⟩) (k0 pw hB.2.1 lw)).trans c2) (by simp [World.cell?, y1]) x (hlb x hx)) hl hrW
 have HB : Hid (Below w.heap.size w W /\ ∀ b, some b = (Value.slice ad l.length cap).ownBlock -> b < w.heap.size) := ⟨hb0, fun b e => (row_lt hr b e).2⟩
 have HW0 : Hid (W = (w.alloc (.cells #[.pointer (some ⟨pk, 0, none⟩)] 130)).alloc (.cells #[.int .i64 e] 3)) := hW
 clear hA hr hrW x0 x1 hb0 hs0 hW lk lw lp lq c1 c2
 generalize (fun x => decide (e <= x + pf (ld N y g ws x))) = pp at P ⊢
 go_enter Tryz.func150, Tryz.ntmps150
 go_wp2_with fail
 rw [<- HW0.out]
 refine P.mono ?_
 clear P
 rintro r w1 ⟨rfl, hown, hf⟩
 have HF : Hid (w1.ownsRow B 3 1 (.slice ad (kpL pp l).length cap) (kpL pp l).length ((kpL pp l).map (Value.int .i64)) /\ Fr (fun b => some b = (Value.slice ad l.length cap).ownBlock) w w1) := ⟨hown, (Fr.of HB.out.1).trans hf (fun b e => Or.inl e)⟩
 clear hown hf
 go_wp2_with fail
 go_ret
 exact ⟨rfl, HF.out.1, HF.out.2⟩
theorem allR_any (w : World) (pk : Nat) (G Y : List Int) (ga ya : Option Addr) (gc yc : Nat) (d1 : w.cell? ⟨pk, 1, none⟩ = some (.slice ya Y.length yc)) (d2 : w.cell? ⟨pk, 2, none⟩ = some (.slice ga G.length gc)) (yr : w.ownsRow 0 3 1 (.slice ya Y.length yc) Y.length (Y.map (Value.int .i64))) (gr : w.ownsRow 0 3 1 (.slice ga G.length gc) G.length (G.map (Value.int .i64))) (hl : G.length + Y.length <= 4000) :
  Calls Tryz.prog 151 #[.pointer (some ⟨pk, 0, none⟩)] w fun e w' => ∃ a d, e = .returned (.slice a (G.length + Y.length) d) /\ w'.ownsRow w.heap.size 3 1 (.slice a (G.length + Y.length) d) (G.length + Y.length) ((G ++ Y).map (Value.int .i64)) /\ Below w.heap.size w w' := by
 have lk := World.block_lt_of_cell? w _ d1
 have hba := (Below.refl w.drew.heap.size w.drew).alloc (Nat.le_refl _) (.cells #[.slice ga G.length gc, .slice ya Y.length yc] 105)
 have hB0 : Below w.heap.size w (w.drew.alloc (.cells #[.slice ga G.length gc, .slice ya Y.length yc] 105)) := (Below.refl w.heap.size w).drew.trans (hba.mono (Nat.le_refl _))
 have hx := heap_alloc_new w.drew (.cells #[.slice ga G.length gc, .slice ya Y.length yc] 105)
 have P := concatI_any (w.drew.alloc (.cells #[.slice ga G.length gc, .slice ya Y.length yc] 105)) w.heap.size G Y ga ya gc yc (by simp only [World.cell?]; rw [show w.heap.size = w.drew.heap.size from rfl, hx]; rfl) (by simp only [World.cell?]; rw [show w.heap.size = w.drew.heap.size from rfl, hx]; rfl) (row_keep gr (fun b e => hB0.block b (row_lt gr b e).2)) (row_keep yr (fun b e => hB0.block b (row_lt yr b e).2)) (by omega)
 have HB0 : Hid (Below w.heap.size w (w.drew.alloc (.cells #[.slice ga G.length gc, .slice ya Y.length yc] 105))) := hB0
 clear yr gr hba hx hB0
 go_enter Tryz.func151, Tryz.ntmps151
 go_wp2_with fail
 go_region_held3 (fun w' => w'.cell? ⟨pk, 1, none⟩ = some (.slice ya Y.length yc) /\ w'.cell? ⟨pk, 2, none⟩ = some (.slice ga G.length gc)) (go_keep)
  (first
   | (go_at_call 215; refine P.mono ?_; clear P; rintro e w3 ⟨a, d, rfl, hown, hb⟩; have hB3 := HB0.out.trans (hb.mono HB0.out.size); have y1 := (hB3.cell (p := ⟨pk, 1, none⟩) lk).trans d1; have y2 := (hB3.cell (p := ⟨pk, 2, none⟩) lk).trans d2; have HO : Hid (w3.ownsRow w.heap.size 3 1 (.slice a (G.length + Y.length) d) (G.length + Y.length) ((G ++ Y).map (Value.int .i64)) /\ Below w.heap.size w w3) := ⟨row_base hown (fun b e => Nat.le_trans HB0.out.size (row_lt hown b e).1), hB3⟩; clear hown hb hB3))
 clear y1 y2 d1 d2
 go_wp2_with fail
 go_ret
 exact ⟨a, d, rfl, HO.out.1, HO.out.2⟩
end Go.Proofs.YtalgochmjddodaaGreat

namespace Go.Proofs.YtalgochmjddodaaGreat
open Go.RowKit W Kp Stl
def Wst.j0 (a : Wc) (s : Wst) : Jk := ⟨a, s, kpL (fun x => decide ((s.y : Int) <= x + pf (ld a.N s.y s.g s.ws x))) (thY a.N s.y s.g s.ws), kpL (fun x => decide ((a.N : Int) + s.g <= x + pf (ld a.N s.y s.g s.ws x))) (thO a.N s.y s.g s.ws)⟩
def js0 : Js := ⟨fun _ => -1, [], []⟩
def Ww.j2 (a : Wc) (S : Ww) : Js × List En := (S.s.j0 a).sp ((S.s.j0 a).kr js0 12, S.q)
def Ww.j3 (a : Wc) (S : Ww) : Js := ((S.s.j0 a).sS (S.j2 a) S.r).1
def Ww.r3 (a : Wc) (S : Ww) : List En := (S.s.j0 a).sR (S.j2 a) S.r
def Ww.q3 (a : Wc) (S : Ww) : List En := (S.s.j0 a).sQ (S.j2 a) S.r
def Ww.j4 (a : Wc) (S : Ww) : Js := ((S.s.j0 a).pl (S.j3 a)).1
def Ww.n4 (a : Wc) (S : Ww) : Int := ((S.s.j0 a).pl (S.j3 a)).2 - a.N
def Ww.jfull (a : Wc) (S : Ww) : Bool := decide ((a.O : Int) < S.n4 a)
def Ww.k5 (a : Wc) (S : Ww) : Jk := (S.s.j0 a).tlA (S.j4 a)
def Ww.j5 (a : Wc) (S : Ww) : Js := ((S.k5 a).tS (S.j4 a, S.q3 a) (S.r3 a)).1
def Ww.k6 (a : Wc) (S : Ww) : Jk := (S.k5 a).sl (S.j5 a)
def Ww.gcut (a : Wc) (S : Ww) : Ww := if S.jfull a = true then S else ⟨(S.k6 a).s, (S.k5 a).tR (S.j4 a, S.q3 a) (S.r3 a), (S.k5 a).tQ (S.j4 a, S.q3 a) (S.r3 a)⟩
def Ww.gcode (a : Wc) (S : Ww) : Int := if S.jfull a = true then 3 else 0
section
variable {a : Wc} {s : Wst}
theorem kpL_sub {p : Int -> Bool} {l : List Int} {x : Int} (h : x ∈ kpL p l) : x ∈ l := (List.mem_filter.1 h).1
theorem kpL_le (p : Int -> Bool) (l : List Int) : (kpL p l).length <= l.length := List.length_filter_le _ _
theorem JI.start (hN : a.N <= 256) (hO : a.O <= 1024) (hy : s.y <= a.N) (hg : s.g <= a.O) : JI (s.j0 a) js0 := by
 have bY : ∀ x ∈ (s.j0 a).Y, 0 <= x /\ x < s.y := fun x hx => by
  have h1 := thY_bd x (kpL_sub hx)
  omega
 have bG : ∀ x ∈ (s.j0 a).G, (a.N : Int) <= x /\ x < (a.N : Int) + s.g := fun x hx => by
  have h1 := ths_bd _ _ x (kpL_sub hx)
  omega
 have nd : (s.j0 a).T.Nodup := by
  unfold Jk.T
  rw [List.nodup_append]
  refine ⟨(ths_nd 2000 _).filter _, (ths_nd 2000 0).filter _, fun x hx z hz e => ?_⟩
  have h1 := bG x hx
  have h2 := bY z hz
  omega
 have tl : (s.j0 a).T.length <= 4000 := by
  unfold Jk.T
  rw [List.length_append]
  have h1 : (s.j0 a).G.length <= 2000 := Nat.le_trans (kpL_le _ _) (ths_le _ _)
  have h2 : (s.j0 a).Y.length <= 2000 := Nat.le_trans (kpL_le _ _) (ths_le _ _)
  omega
 refine ⟨nd, fun x hx => ?_, fun x hx => by simp [js0] at hx, fun x hx => by simp [js0] at hx, tl, ?_⟩
 ·rcases List.mem_append.1 hx with d | d
  ·have := bG x d
   omega
  ·have := bY x d
   omega
 ·show ((s.j0 a).T.filter (fun _ => _)).length + 0 + 0 <= _
  exact List.length_filter_le _ _
end
end Go.Proofs.YtalgochmjddodaaGreat

namespace Go.Proofs.YtalgochmjddodaaGreat
open Go.RowKit W Kp Stl
end Go.Proofs.YtalgochmjddodaaGreat

namespace Go.Proofs.YtalgochmjddodaaGreat
set_option maxRecDepth 100000
set_option maxHeartbeats 1000000
open Go.RowKit W Kp Stl
structure Sds (w : World) (p : Nat) (a0 : Option Addr) (k0 : Nat) (a1 : Option Addr) (k1 : Nat) (r q : List En) : Prop where
  blk : w.heap[p]? = some (.cells #[.slice a0 r.length k0, .slice a1 q.length k1] 72 (0, 0))
  r0 : w.ownsRow 0 101 2 (.slice a0 r.length k0) r.length (ev r)
  q0 : w.ownsRow 0 101 2 (.slice a1 q.length k1) q.length (ev q)
theorem row_li {w : World} {base : Nat} {e : TypeId} {ad : Option Addr} {cap : Nat} {l : List En} (h : w.ownsRow base e 2 (.slice ad l.length cap) l.length (ev l)) : Li w ad l cap := by
 refine ⟨row_pairs h, ?_, ?_⟩
 ·rcases h.2 with ⟨hv, h0⟩ | ⟨g, cap', cur, hv, _, _, hc, _⟩
  ·omega
  ·simp at hv; omega
 ·intro e0
  rcases h.2 with ⟨hv, h0⟩ | ⟨g, cap', cur, hv, _⟩
  ·simp at hv; exact ⟨h0, hv.2.2⟩
  ·rw [e0] at hv; simp at hv
theorem Sds.keep {w w' : World} {p : Nat} {a0 a1 : Option Addr} {k0 k1 : Nat} {r q : List En} (h : Sds w p a0 k0 a1 k1 r q) (h1 : w'.heap[p]? = w.heap[p]?) (h2 : ∀ k, some k = (Value.slice a0 r.length k0).ownBlock -> w'.heap[k]? = w.heap[k]?) (h3 : ∀ k, some k = (Value.slice a1 q.length k1).ownBlock -> w'.heap[k]? = w.heap[k]?) : Sds w' p a0 k0 a1 k1 r q :=
 ⟨h1.trans h.blk, row_keep h.r0 h2, row_keep h.q0 h3⟩
theorem Sds.below {w w' : World} {p : Nat} {a0 a1 : Option Addr} {k0 k1 : Nat} {r q : List En} (h : Sds w p a0 k0 a1 k1 r q) (hb : Below w.heap.size w w') : Sds w' p a0 k0 a1 k1 r q :=
 h.keep (hb.block p (lt_of_some h.blk)) (fun k e => hb.block k (row_lt h.r0 k e).2) (fun k e => hb.block k (row_lt h.q0 k e).2)
theorem Sds.np {w : World} {p : Nat} {a0 a1 : Option Addr} {k0 k1 : Nat} {r q : List En} (h : Sds w p a0 k0 a1 k1 r q) {b n : Nat} {v : Value} {l : List Value} (hr : w.ownsRow b 101 2 v n l) : ∀ k, some k = v.ownBlock -> k ≠ p := by
 intro k e e'
 obtain ⟨cur, hc⟩ := row_type hr k e
 rw [e', h.blk] at hc
 simp at hc
def fulB (n : Nat) : Bool := decide (24 <= n)
theorem fulB_yes {n : Nat} (h : 24 <= n) : fulB n = true := by simp [fulB, h]
theorem fulB_no {n : Nat} (h : ¬ 24 <= n) : fulB n = false := by simp [fulB, h]
theorem ful_eq {n0 n1 : Nat} (h0 : n0 <= 100000) (h1 : n1 <= 100000) : Hid (decide ((24 : Int) <= IntKind.i64.wrap ((n0 : Int) + (n1 : Int))) = fulB (n0 + n1)) := by
 show _ = _
 rw [show IntKind.i64.wrap ((n0 : Int) + (n1 : Int)) = (n0 : Int) + n1 by rw [IntKind.wrap_i64]; omega]
 unfold fulB
 by_cases h : 24 <= n0 + n1
 ·rw [decide_eq_true h, decide_eq_true (by omega)]
 ·rw [decide_eq_false h, decide_eq_false (by omega)]
theorem full_any' (w : World) (p : Nat) (a0 a1 : Option Addr) (n0 k0 n1 k1 : Nat) (h : w.heap[p]? = some (.cells #[.slice a0 n0 k0, .slice a1 n1 k1] 72 (0, 0))) (h0 : n0 <= 100000) (h1 : n1 <= 100000) :
  Calls Tryz.prog 124 #[.pointer (some ⟨p, 0, none⟩)] w fun e w' => e = .returned (.bool (fulB (n0 + n1))) /\ Below w.heap.size w w' := by
 have c0 : w.cell? ⟨p, 0, none⟩ = some (.slice a0 n0 k0) := by simp [World.cell?, h]
 have c1 : w.cell? ⟨p, 1, none⟩ = some (.slice a1 n1 k1) := by simp [World.cell?, h]
 clear h
 have HE := ful_eq h0 h1
 go_enter Tryz.func124, Tryz.ntmps124
 go_wp2_with fail
 go_region_held3 (fun w' => w'.cell? ⟨p, 0, none⟩ = some (.slice a0 n0 k0) /\ w'.cell? ⟨p, 1, none⟩ = some (.slice a1 n1 k1)) (go_keep) (fail)
 go_wp2_with fail
 go_ret
 exact ⟨by rw [<- HE.out]; rfl, (Below.refl _ _).drew⟩
theorem Sds.cells {w : World} {p : Nat} {a0 a1 : Option Addr} {k0 k1 : Nat} {r q : List En} (h : Sds w p a0 k0 a1 k1 r q) : w.cell? ⟨p, 0, none⟩ = some (.slice a0 r.length k0) /\ w.cell? ⟨p, 1, none⟩ = some (.slice a1 q.length k1) /\ w.frozen? ⟨p, 0, none⟩ = false /\ w.frozen? ⟨p, 1, none⟩ = false /\ p < w.heap.size :=
 ⟨by simp [World.cell?, h.blk], by simp [World.cell?, h.blk], by simp [World.frozen?, h.blk], by simp [World.frozen?, h.blk], lt_of_some h.blk⟩
theorem set_fst {w : World} {p : Nat} {x y v : Value} {T : TypeId} (h : w.heap[p]? = some (.cells #[x, y] T (0, 0))) : (w.setCell ⟨p, 0, none⟩ v).heap[p]? = some (.cells #[v, y] T (0, 0)) := by
 simp only [World.setCell, Array.getElem?_modify, if_true, h, Option.map_some]
 simp
theorem reg_any (w : World) (p : Nat) (a0 a1 : Option Addr) (k0 k1 : Nat) (r q : List En) (g z : Int) (h : Sds w p a0 k0 a1 k1 r q) (h0 : r.length <= 90000) (h1 : q.length <= 90000) :
  Calls Tryz.prog 56 #[.pointer (some ⟨p, 0, none⟩), .agg #[.int .i64 g, .int .i64 z]] w fun e w' => e = .returned (.bool (!fulB (r.length + q.length))) /\
   ((24 <= r.length + q.length /\ Below w.heap.size w w') \/ (¬ 24 <= r.length + q.length /\ ∃ b1 c1, Sds w' p (some ⟨b1, 0, none⟩) c1 a1 k1 (r ++ [(g, z)]) q /\ w.heap.size <= b1 /\ Fr (fun k => k = p) w w')) := by
 obtain ⟨c0, c1, f0, f1, lp⟩ := h.cells
 have H : Hid (Sds w p a0 k0 a1 k1 r q) := h
 have hb1 := (Below.refl w.heap.size w).alloc (Nat.le_refl _) (.cells #[.int .i64 g, .int .i64 z] 101)
 have HLi : Hid (Li w a0 r k0) := row_li h.r0
 by_cases hf : 24 <= r.length + q.length
 ·rw [fulB_yes hf]
  clear h
  go_enter Tryz.func56, Tryz.ntmps56
  go_wp2_with fail
  refine (full_any' _ p a0 a1 r.length k0 q.length k1 ((hb1.block p lp).trans H.out.blk) (by omega) (by omega)).mono ?_
  rintro e w1 ⟨rfl, hb⟩
  rw [fulB_yes hf]
  have hb2 := hb1.trans (hb.mono (by simp))
  go_wp2_with fail
  go_ret
  exact ⟨rfl, Or.inl ⟨hf, hb2⟩⟩
 ·rw [fulB_no hf]
  clear h
  go_enter Tryz.func56, Tryz.ntmps56
  go_wp2_with fail
  refine (full_any' _ p a0 a1 r.length k0 q.length k1 ((hb1.block p lp).trans H.out.blk) (by omega) (by omega)).mono ?_
  rintro e w1 ⟨rfl, hb⟩
  rw [fulB_no hf]
  have hb2 := hb1.trans (hb.mono (by simp))
  have hl0 : w.heap.size < w1.heap.size := by have := hb.size; simp at this; omega
  have y0 : w1.cell? ⟨w.heap.size, 0, none⟩ = some (.int .i64 g) := (hb.cell (by simp)).trans (by simp)
  have y1 : w1.cell? ⟨w.heap.size, 1, none⟩ = some (.int .i64 z) := (hb.cell (by simp)).trans (by simp)
  have y2 := (hb2.cell (p := ⟨p, 0, none⟩) lp).trans c0
  have y3 := (hb2.frozen (p := ⟨p, 0, none⟩) lp).trans f0
  have lp1 : p < w1.heap.size := by omega
  have hLi1 := HLi.out.below hb2
  clear hb hb1
  go_wp2_with fail
  go_region_with (go_at_call 125; refine (with_any _ a0 r k0 g z (hLi1.below ((Below.refl _ _).drew)) (by omega)).mono ?_; rintro e w5 ⟨b1, cap1, rfl, hown, hb5⟩; have e4 := (hb5.cell (p := ⟨p, 0, none⟩) lp1).trans y2; have e5 := (hb5.frozen (p := ⟨p, 0, none⟩) lp1).trans y3)
  all_goals
   go_wp2_with fail
   go_ret
   refine ⟨rfl, Or.inr ⟨hf, b1, cap1, ?_⟩⟩
   have hbw : Below w.heap.size w w5 := hb2.drew.trans (hb5.mono (by simp; omega))
   have lb : w1.heap.size <= b1 := (row_lt hown b1 rfl).1
   have hS := H.out.below hbw
   have hfr : Fr (fun k => k = p) w (w5.setCell ⟨p, 0, none⟩ (.slice (some ⟨b1, 0, none⟩) (r.length + 1) cap1)) := (Fr.of hbw).set p 0 _ rfl
   have kk : ∀ k, k ≠ p -> (w5.setCell ⟨p, 0, none⟩ (.slice (some ⟨b1, 0, none⟩) (r.length + 1) cap1)).heap[k]? = w5.heap[k]? := fun k hk => Below.heap_setCell _ _ _ _ hk
   refine ⟨⟨by simpa using set_fst hS.blk, ?_, row_keep hS.q0 (fun k e => kk k (hS.np hS.q0 k e))⟩, by omega, hfr⟩
   have := row_base (base' := 0) (row_keep (w' := w5.setCell ⟨p, 0, none⟩ (.slice (some ⟨b1, 0, none⟩) (r.length + 1) cap1)) hown (fun k e => kk k (hS.np hown k e))) (fun _ _ => Nat.zero_le _)
   simpa using this
end Go.Proofs.YtalgochmjddodaaGreat

namespace Go.Proofs.YtalgochmjddodaaGreat
set_option maxRecDepth 100000
set_option maxHeartbeats 1000000
open Go.RowKit W Kp Stl
theorem copyS_any (w : World) (p : Nat) (a0 a1 : Option Addr) (k0 k1 : Nat) (r q : List En) (h : Sds w p a0 k0 a1 k1 r q) (h0 : r.length <= 90000) (h1 : q.length <= 90000) :
    Calls Tryz.prog 149 #[.pointer (some ⟨p, 0, none⟩)] w fun e w' => ∃ p' b0 c0 b1 c1, e = .returned (.pointer (some ⟨p', 0, none⟩)) /\ w.heap.size <= p' /\ Sds w' p' b0 c0 b1 c1 r q /\ (∀ z, b0 = some z -> w.heap.size <= z.block) /\ (∀ z, b1 = some z -> w.heap.size <= z.block) /\ (∀ k, some k = (Value.slice b0 r.length c0).ownBlock -> some k ≠ (Value.slice b1 q.length c1).ownBlock) /\ Below w.heap.size w w' := by
  obtain ⟨c0, c1, f0, f1, lp⟩ := h.cells
  have HR : Hid (Li w a0 r k0) := row_li h.r0
  have HQ : Hid (Li w a1 q k1) := row_li h.q0
  clear h f0 f1
  go_enter Tryz.func149, Tryz.ntmps149
  go_wp2_with fail
  have hd := (Below.refl w.heap.size w).drew
  go_region_held3 (fun w' => w'.cell? ⟨p, 0, none⟩ = some (.slice a0 r.length k0) /\ w'.cell? ⟨p, 1, none⟩ = some (.slice a1 q.length k1)) (first | exact ⟨c0, c1⟩ | exact ⟨u0, u1⟩ | exact ⟨v0, v1⟩ | go_keep)
    (first | (have hb8 := hb3; go_at_call 210; refine (cloneE_any _ a1 q k1 (HQ.out.below hb3) (by omega)).mono ?_; rintro e w5 ⟨d1, e1, rfl, hQ5, hb5⟩; have l5 := hb5.size; have v0 := (hb5.cell (p := ⟨p, 0, none⟩) (Nat.lt_of_lt_of_le lp l3)).trans u0; have v1 := (hb5.cell (p := ⟨p, 1, none⟩) (Nat.lt_of_lt_of_le lp l3)).trans u1)
           | (go_at_call 210; refine (cloneE_any _ a0 r k0 (HR.out.below hd) (by omega)).mono ?_; rintro e w3 ⟨d0, e0, rfl, hR3, hb3'⟩; have hb3 : Below w.heap.size w w3 := hd.trans hb3'; have l3 := hb3.size; have u0 := (hb3.cell (p := ⟨p, 0, none⟩) lp).trans c0; have u1 := (hb3.cell (p := ⟨p, 1, none⟩) lp).trans c1))
  go_wp2_with fail
  go_ret
  refine ⟨w5.heap.size, d0, e0, d1, e1, rfl, Nat.le_trans l3 l5, ⟨heap_alloc_new _ _, row_base (row_alloc (row_keep hR3 (fun k e => hb5.block k (row_lt hR3 k e).2)) _) (fun _ _ => Nat.zero_le _), row_base (row_alloc hQ5 _) (fun _ _ => Nat.zero_le _)⟩, fun z e => (row_lt hR3 z.block (by rw [e]; rfl)).1, fun z e => Nat.le_trans l3 (row_lt hQ5 z.block (by rw [e]; rfl)).1, fun k e e' => ?_, (hb3.trans (hb5.mono l3)).alloc (Nat.le_trans l3 l5) _⟩
  have q1 := (row_lt hR3 k e).2
  have q2 := (row_lt hQ5 k e').1
  omega
end Go.Proofs.YtalgochmjddodaaGreat
