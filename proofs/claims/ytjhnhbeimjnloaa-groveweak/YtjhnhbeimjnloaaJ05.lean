/- Joined: Vp4, Sat, Vw2, Vw4, Tnx, Mn3, Wr1, Hc1, Wdp, Gx1. -/
import Derived.Test.YtjhnhbeimjnloaaJ00
import Derived.Test.YtjhnhbeimjnloaaJ02
import Derived.Test.YtjhnhbeimjnloaaJ03
import Derived.Test.YtjhnhbeimjnloaaJ01
import Derived.Test.YtjhnhbeimjnloaaJ04
/- Nodes and values in memory: where they lie. -/
namespace Go.Proofs.Ytjhnhbeimjnloaa
open Go.RowKit W Kp Stl

abbrev Vnd := Int × Option Addr × Nat × List (Int × Int)
def nv (m : List Vnd) : List Value := m.flatMap fun x => [.int .i64 x.1, .slice x.2.1 x.2.2.2.length x.2.2.1]
def nds (m : List Vnd) : List (Int × List (Int × Int)) := m.map fun x => (x.1, x.2.2.2)
theorem nv_append (a b : List Vnd) : nv (a ++ b) = nv a ++ nv b := by simp [nv]
theorem nv_get : ∀ (l : List Vnd) (i : Nat) (x : Vnd), l[i]? = some x → (nv l)[i * 2]? = some (.int .i64 x.1) ∧ (nv l)[i * 2 + 1]? = some (.slice x.2.1 x.2.2.2.length x.2.2.1)
  | [], i, x, h => by simp at h
  | e :: r, 0, x, h => by
    simp at h
    subst h
    simp [nv]
  | e :: r, i + 1, x, h => by
    have h2 := nv_get r i x (by simpa using h)
    have e1 : (nv (e :: r)) = .int .i64 e.1 :: .slice e.2.1 e.2.2.2.length e.2.2.1 :: nv r := by simp [nv]
    rw [e1, show (i + 1) * 2 = i * 2 + 1 + 1 by omega]
    simpa using h2
theorem nv_set : ∀ (l : List Vnd) (i : Nat) (x : Vnd) (ad : Option Addr) (c : Nat) (vs : List (Int × Int)), l[i]? = some x → nv (l.set i (x.1, ad, c, vs)) = (nv l).set (i * 2 + 1) (.slice ad vs.length c)
  | [], _, _, _, _, _, _ => rfl
  | e :: l, 0, x, ad, c, vs, h => by
    simp at h
    subst h
    simp [nv]
  | e :: l, i + 1, x, ad, c, vs, h => by
    have ih := nv_set l i x ad c vs (by simpa using h)
    have e1 : (nv (e :: l)) = .int .i64 e.1 :: .slice e.2.1 e.2.2.2.length e.2.2.1 :: nv l := by simp [nv]
    have e2 : (nv (e :: l.set i (x.1, ad, c, vs))) = .int .i64 e.1 :: .slice e.2.1 e.2.2.2.length e.2.2.1 :: nv (l.set i (x.1, ad, c, vs)) := by simp [nv]
    rw [List.set_cons_succ, e2, e1, ih, show (i + 1) * 2 + 1 = i * 2 + 1 + 1 + 1 by omega]
    simp

theorem row_put {w : World} {base size n g cap : Nat} {e : TypeId} {xs : List Value} (h : w.ownsRow base e size (.slice (some ⟨g, 0, none⟩) n cap) n xs) (i : Nat) (u : Value) : (w.setCell ⟨g, i, none⟩ u).ownsRow base e size (.slice (some ⟨g, 0, none⟩) n cap) n (xs.set i u) := by
  refine ⟨by rw [List.length_set]; exact h.1, ?_⟩
  rcases h.2 with ⟨hv, _⟩ | ⟨g', cap', cur, hv, hb, hg, h1, h2, h3, h4⟩
  · simp at hv
  · simp at hv
    obtain ⟨rfl, rfl⟩ := hv
    refine Or.inr ⟨g, cap, cur.setIfInBounds i u, rfl, hb, ?_, h1, h2, by rw [Array.size_setIfInBounds]; exact h3, ?_⟩
    · simp only [World.setCell, Array.getElem?_modify, if_true, hg, Option.map_some]
      rfl
    · rw [Array.toList_setIfInBounds, List.take_set, h4]

def Lv (w : World) (ad : Option Addr) (l : List (Int × Int)) : Prop := Lp w ad l ∧ (0 < l.length → ∃ b o cs, ad = some ⟨b, o, none⟩ ∧ w.heap[b]? = some (.cells cs 41 (0, 0)))

section
variable {B : Nat} {w w' w'' : World}
theorem Lv.nil {ad : Option Addr} : Lv w ad [] := ⟨fun h => by simp at h, fun h => by simp at h⟩
theorem Lv.of {base cap : Nat} {ad : Option Addr} {l : List (Int × Int)} (h : w.ownsRow base 41 2 (.slice ad l.length cap) l.length (ev l)) : Lv w ad l := by
  refine ⟨row_pairs h, fun hp => ?_⟩
  obtain ⟨b0, c0, e0⟩ := row_shape h hp
  obtain ⟨cs, hc⟩ := row_type h b0 (by rw [e0]; rfl)
  cases e0
  exact ⟨b0, 0, cs, rfl, hc⟩
end

def Fb (m : List Vnd) (k : Nat) : Prop := ∃ x ∈ m, 0 < x.2.2.2.length ∧ ∃ o, x.2.1 = some ⟨k, o, none⟩

theorem row_cell {w : World} {base size n g cap : Nat} {e : TypeId} {xs : List Value} (h : w.ownsRow base e size (.slice (some ⟨g, 0, none⟩) n cap) n xs) {i : Nat} {u : Value} (hi : xs[i]? = some u) : w.cell? ⟨g, i, none⟩ = some u ∧ w.frozen? ⟨g, i, none⟩ = false := by
  rcases h.2 with ⟨hv, _⟩ | ⟨g', cap', cur, hv, hb, hg, h1, h2, h3, h4⟩
  · simp at hv
  · simp at hv
    obtain ⟨rfl, rfl⟩ := hv
    rw [← h4] at hi
    have hlt : i < n * size := by
      rcases Nat.lt_or_ge i (n * size) with c | c
      · exact c
      · rw [List.getElem?_take, if_neg (by omega)] at hi
        simp at hi
    rw [List.getElem?_take_of_lt hlt] at hi
    constructor
    · simp [World.cell?, hg]
      simpa using hi
    · simp [World.frozen?, hg]

def LpN (w : World) (base : Nat) (ad : Option Addr) (l : List (Int × Int)) : Prop := Lp w ad l ∧ (0 < l.length → ∃ b o, ad = some ⟨b, o, none⟩ ∧ base ≤ b)
def LnN (w : World) (base : Nat) (ad : Option Addr) (ns : List (Int × List (Int × Int))) : Prop :=
  ∃ m : List Vnd, nds m = ns ∧ (∀ x ∈ m, Lp w x.2.1 x.2.2.2) ∧ (∀ k, Fb m k → base ≤ k) ∧ (0 < m.length → ∃ b o, ad = some ⟨b, o, none⟩ ∧ base ≤ b ∧ b < w.heap.size ∧ ∀ i x, m[i]? = some x → w.cell? ⟨b, o + i * 2, none⟩ = some (.int .i64 x.1) ∧ w.cell? ⟨b, o + i * 2 + 1, none⟩ = some (.slice x.2.1 x.2.2.2.length x.2.2.1))
end Go.Proofs.Ytjhnhbeimjnloaa

/- At of a Side: a contract. -/
namespace Go.Proofs.Ytjhnhbeimjnloaa
open Go.RowKit W Kp Stl

def atL (q : List En) (g : Int) : List Int := (q.filter (fun e => e.1 == g)).map (·.2)
theorem atL_yes (q : List En) (g : Int) (j : Nat) (h : j < q.length) (e : (q.getD j (0, 0)).1 = g) : atL (q.take (j + 1)) g = atL (q.take j) g ++ [(q.getD j (0, 0)).2] := by
  unfold atL
  rw [take_snoc q j h (0, 0), List.filter_append, List.map_append, List.filter_cons, e]
  simp
theorem atL_no (q : List En) (g : Int) (j : Nat) (h : j < q.length) (e : ¬ (q.getD j (0, 0)).1 = g) : atL (q.take (j + 1)) g = atL (q.take j) g := by
  unfold atL
  rw [take_snoc q j h (0, 0), List.filter_append, List.map_append, List.filter_cons]
  rw [if_neg (by simpa using e)]
  simp
theorem atL_len (q : List En) (g : Int) : (atL q g).length ≤ q.length := by
  unfold atL
  rw [List.length_map]
  exact List.length_filter_le _ _

set_option maxRecDepth 100000 in
set_option maxHeartbeats 1000000 in
theorem atS_any (w : World) (p : Nat) (v0 : Value) (a1 : Option Addr) (k1 : Nat) (q : List En) (g : Int) (h : w.heap[p]? = some (.cells #[v0, .slice a1 q.length k1] 63 (0, 0))) (hp : Lp w a1 q) (hm : q.length ≤ 90000) :
    Calls Try.prog 101 #[.pointer (some ⟨p, 0, none⟩), .int .i64 g] w fun e w' => ∃ ad cap, e = .returned (.slice ad (atL q g).length cap) ∧ w'.ownsRow w.heap.size 2 1 (.slice ad (atL q g).length cap) (atL q g).length ((atL q g).map (Value.int .i64)) ∧ Below w.heap.size w w' := by
  obtain ⟨i0, hi, hz0, hz1, hz2⟩ := info_parts info64
  have c1 : w.cell? ⟨p, 1, none⟩ = some (.slice a1 q.length k1) := by simp [World.cell?, h]
  have HP : Hid (Lp w a1 q) := hp
  clear h hp
  go_enter Try.func101, Try.ntmps101
  go_wp2_with fail
  go_loopw [5, 13] (fun tv iv wr => ∃ (j : Nat) (T : List Int) (at1 : Option Addr) (ct : Nat), j ≤ q.length ∧ iv = .int .i64 j ∧ Hid (T = atL (q.take j) g) ∧ tv = .slice at1 T.length ct ∧ wr.ownsRow w.heap.size 2 1 (.slice at1 T.length ct) T.length (T.map (Value.int .i64)) ∧ Below w.heap.size w wr) (fun _ iv _ => q.length - (intOf iv).toNat)
  case atStart => exact ⟨0, [], none, 0, Nat.zero_le _, rfl, rfl, rfl, World.ownsRow_nil _ _ _ _, Below.refl _ _⟩
  case round =>
    obtain ⟨j, T, at1, ct, hj, rfl, HT, rfl, hT, hb⟩ := hrel
    have hTl : T.length ≤ 90000 := by
      have := atL_len (q.take j) g
      rw [HT.out]
      simp at this
      omega
    by_cases hlt : j < q.length
    · obtain ⟨b0, o0, e0, hb0, hc⟩ := HP.out.below hb (by omega)
      obtain ⟨x1, x2⟩ := hc j hlt
      clear hc
      subst e0
      have hs := hb.size
      by_cases cq : (q.getD j (0, 0)).1 = g
      · have HT' : Hid (T ++ [(q.getD j (0, 0)).2] = atL (q.take (j + 1)) g) := by show _ = _; rw [atL_yes q g j hlt cq, HT.out]
        rw [cq] at x1
        generalize (q.getD j (0, 0)).2 = z at x2 HT'
        clear cq
        have hT1 := row_alloc hT (.cells #[.int .i64 g, .int .i64 z] 96)
        have hb1 := hb.alloc hs (.cells #[.int .i64 g, .int .i64 z] 96)
        go_wp2_with (at_builtin; refine wpList_append_own_at _ rfl _ _ 109 rfl w.heap.size 2 i0 (.int .i64 0) 1 8 Try.underlying109 hi hz0 hz1 hz2 rfl (by decide) (.slice at1 T.length ct) T.length (T.map (Value.int .i64)) rfl (row_alloc hT1 _) ⟨wr.heap.size + 1, 0, none⟩ 1 1 [.int .i64 z] rfl rfl ?_ ?_ ?_ ?_ ?_ ?_; (intro j u hj; match j, hj with | 0, hj => (simp at hj; subst hj; simp [Addr.add])); (intro u hu; simp at hu; subst hu; rfl); (unfold maxLen; omega); omega; (simp; omega); intro v' w4 hown4 hgrow4 _ hloc4; obtain ⟨b4, cap4, ev4⟩ := row_shape hown4 (Nat.succ_pos _); subst ev4)
        have hT4 : w4.ownsRow w.heap.size 2 1 (.slice (some ⟨b4, 0, none⟩) (T ++ [z]).length cap4) (T ++ [z]).length ((T ++ [z]).map (Value.int .i64)) := by simpa using hown4
        have hb4 := (hb1.alloc hb1.size _).grown hgrow4 (by simp; omega) (fun k e => (row_lt hT k e.symm).1)
        clear hown4 hgrow4 hloc4 hT hT1 hb hb1 x1 x2
        go_wp2_with fail
        go_roundw
        case rel => exact ⟨j + 1, T ++ [z], some ⟨b4, 0, none⟩, cap4, by omega, by go_num, HT', by simp, hT4, hb4⟩
        case measure => simp [intOf]; omega
      · have HT' : Hid (T = atL (q.take (j + 1)) g) := by show _ = _; rw [atL_no q g j hlt cq, HT.out]
        generalize (q.getD j (0, 0)).1 = x at x1 cq
        generalize (q.getD j (0, 0)).2 = z at x2
        have hT1 := row_alloc hT (.cells #[.int .i64 x, .int .i64 z] 96)
        have hb1 := hb.alloc hs (.cells #[.int .i64 x, .int .i64 z] 96)
        clear hT hb
        go_wp2_with fail
        go_roundw
        case rel => exact ⟨j + 1, T, at1, ct, by omega, by go_num, HT', rfl, hT1, hb1⟩
        case measure => simp [intOf]; omega
    · obtain rfl : j = q.length := by omega
      rw [List.take_length] at HT
      go_wp2_with fail
      go_ret
      rw [← HT.out]
      exact ⟨at1, ct, rfl, hT, hb⟩

end Go.Proofs.Ytjhnhbeimjnloaa

/- A walk in memory: its block, its map, its nodes; what may turn while it goes. -/
namespace Go.Proofs.Ytjhnhbeimjnloaa
open Go.RowKit W Kp Stl

section
variable {B : Nat} {w w' w'' : World}
end

def nb (ms : List Int) (a : Int) : Int := if ms.contains a = true then (ms.idxOf a : Int) else -1
section
variable {w0 w w' : World} {pk mq pw : Nat} {T : List Int} {s : Vst} {vn : Value} {m : List Vnd}
end

end Go.Proofs.Ytjhnhbeimjnloaa

/- A walk begins: a contract. -/
namespace Go.Proofs.Ytjhnhbeimjnloaa
open Go.RowKit W Kp Stl

section
variable {w : World} {pw p q N O y g : Nat} {ws : List Int}

end

end Go.Proofs.Ytjhnhbeimjnloaa

/- What becomes of memory, and of the blocks that are its own. -/
namespace Go.Proofs.Ytjhnhbeimjnloaa
open Go.RowKit W Kp Stl

structure Tn (F : Nat → Prop) (w : World) (F' : Nat → Prop) (w' : World) : Prop where
  fr : Fr F w w'
  sub : ∀ b, F' b → F b ∨ w.heap.size ≤ b
theorem Tn.trans {F F' F'' : Nat → Prop} {w w' w'' : World} (h : Tn F w F' w') (k : Tn F' w' F'' w'') : Tn F w F'' w'' :=
  ⟨h.fr.trans k.fr h.sub, fun b hb => (k.sub b hb).elim (h.sub b) (fun c => Or.inr (Nat.le_trans h.fr.size c))⟩
theorem Tn.of {F : Nat → Prop} {w w' : World} (h : Below w.heap.size w w') : Tn F w F w' := ⟨Fr.of h, fun _ h => Or.inl h⟩
theorem Tn.below {F F' : Nat → Prop} {w w' w'' : World} (h : Tn F w F' w') (hb : Below w'.heap.size w' w'') : Tn F w F' w'' := h.trans (Tn.of hb)
theorem row_front {w : World} {base g n cap : Nat} {e : TypeId} {xs : List Value} (h : w.ownsRow base e 1 (.slice (some ⟨g, 0, none⟩) n cap) n xs) (m : Nat) (hm : m ≤ n) : w.ownsRow base e 1 (.slice (some ⟨g, 0, none⟩) m cap) m (xs.take m) := by
  obtain ⟨h1, h2⟩ := h
  rcases h2 with ⟨hv, _⟩ | ⟨g', cap', cur, hv, hb, hh, h3, h4, h5, h6⟩
  · simp at hv
  · simp at hv
    obtain ⟨rfl, rfl⟩ := hv
    refine ⟨by rw [List.length_take]; omega, Or.inr ⟨g, cap, cur, rfl, hb, hh, by omega, h4, h5, ?_⟩⟩
    rw [← h6, List.take_take]
    congr 1
    omega
theorem row_caps {w : World} {base g n cap : Nat} {e : TypeId} {xs : List Value} (h : w.ownsRow base e 1 (.slice (some ⟨g, 0, none⟩) n cap) n xs) : n ≤ cap ∧ cap ≤ maxLen := by
  rcases h.2 with ⟨hv, _⟩ | ⟨g', cap', cur, hv, hb, hh, h3, h4, h5, h6⟩
  · simp at hv
  · simp at hv
    obtain ⟨rfl, rfl⟩ := hv
    exact ⟨h3, h4⟩

end Go.Proofs.Ytjhnhbeimjnloaa

/- A small cut in memory: its blocks by labels, what turns and what stays. -/
namespace Go.Proofs.Ytjhnhbeimjnloaa
open Go.RowKit W Kp Stl


structure Cc where
  pk : Nat
  mq : Nat
  pw : Nat
  p : Nat
  q : Nat
  pc : Nat
  pq : Nat
  sd : Nat
  nb : Nat
  c : Int
  M : List Int

section
variable {c : Cc} {k : Ck} {own : Nat → Nat} {s : Cs} {vw ve : Value} {w w' : World}

end

section
variable {c : Cc} {k : Ck} {vw ve : Value} {F : Nat → Prop} {s : Cs} {w w' : World}

end

end Go.Proofs.Ytjhnhbeimjnloaa

/- The document's world in memory, by labels. -/
namespace Go.Proofs.Ytjhnhbeimjnloaa
open Go.RowKit W Kp Stl

abbrev Tnd := Tw1 × Option Addr × Nat
def tv (m : List Tnd) : List Value := m.flatMap fun x => [.int .i64 x.1.1, .slice x.2.1 x.1.2.1.length x.2.2, .bool x.1.2.2.1, .bool x.1.2.2.2]
section
variable {rp rb : Nat} {most grow : Int} {own : Nat → Nat} {s : Wrs} {m : List Tnd} {vT v2 v3 : Value} {w w' : World}

end

section
variable {rp rb : Nat} {most grow : Int} {F : Nat → Prop} {s : Wrs} {w w' : World}

end

end Go.Proofs.Ytjhnhbeimjnloaa

/- A heap: Uses, Check, and the document's UsesOf, StepFault: contracts. -/
namespace Go.Proofs.Ytjhnhbeimjnloaa
open Go.RowKit W Kp Stl

def usK (k : Int) : Int :=
  if k = 1 ∨ k = 2 ∨ k = 8 then 1 else if k = 3 ∨ k = 5 ∨ k = 10 ∨ k = 11 ∨ k = 13 then 3 else if k = 4 ∨ k = 6 ∨ k = 7 ∨ k = 14 then 7
  else if k = 9 ∨ k = 12 then 6 else if k = 15 ∨ k = 16 then 0 else -1
def ckN (k n : Int) : Int := if k = 1 then vc 1 n else if k = 5 then hc 2 n else 0
def rtB (r : Int) : Bool := decide (0 ≤ r) && decide (r < 12)
def ckC (k R A B n : Int) : Int :=
  if usK k = -1 then 2 else if (decide (usK k = 1 ∨ usK k = 3 ∨ usK k = 7) && !rtB R) || (decide (usK k = 3 ∨ usK k = 6 ∨ usK k = 7) && !rtB A) || (decide (usK k = 6 ∨ usK k = 7) && !rtB B) then 1 else ckN k n
theorem kind_all (k : Int) : k = 1 ∨ k = 2 ∨ k = 3 ∨ k = 4 ∨ k = 5 ∨ k = 6 ∨ k = 7 ∨ k = 8 ∨ k = 9 ∨ k = 10 ∨ k = 11 ∨ k = 12 ∨ k = 13 ∨ k = 14 ∨ k = 15 ∨ k = 16 ∨ (k < 1 ∨ 16 < k) := by omega
theorem usK_no {k : Int} (h : k < 1 ∨ 16 < k) : usK k = -1 := by
  unfold usK
  rw [if_neg (by omega), if_neg (by omega), if_neg (by omega), if_neg (by omega), if_neg (by omega)]

set_option maxRecDepth 100000 in
set_option maxHeartbeats 1000000 in
theorem usesH_any (k : Int) (w : World) : Calls Try.prog 36 #[.int .i64 k] w fun e w' => e = .returned (.int .i64 (usK k)) ∧ w' = w := by
  rcases kind_all k with rfl | rfl | rfl | rfl | rfl | rfl | rfl | rfl | rfl | rfl | rfl | rfl | rfl | rfl | rfl | rfl | h
  case' inr.inr.inr.inr.inr.inr.inr.inr.inr.inr.inr.inr.inr.inr.inr.inr =>
    rw [usK_no h]
    have h1 : ¬ k = 1 := by omega
    have h2 : ¬ k = 2 := by omega
    have h3 : ¬ k = 3 := by omega
    have h4 : ¬ k = 4 := by omega
    have h5 : ¬ k = 5 := by omega
    have h6 : ¬ k = 6 := by omega
    have h7 : ¬ k = 7 := by omega
    have h8 : ¬ k = 8 := by omega
    have h9 : ¬ k = 9 := by omega
    have h10 : ¬ k = 10 := by omega
    have h11 : ¬ k = 11 := by omega
    have h12 : ¬ k = 12 := by omega
    have h13 : ¬ k = 13 := by omega
    have h14 : ¬ k = 14 := by omega
    have h15 : ¬ k = 15 := by omega
    have h16 : ¬ k = 16 := by omega
    clear h
  all_goals
    go_enter Try.func36, Try.ntmps36
    go_wp2_with fail
    go_ret
    exact ⟨rfl, rfl⟩
set_option maxRecDepth 100000 in
theorem isRoot_any (r : Int) (w : World) : Calls Try.prog 37 #[.int .i64 r] w fun e w' => e = .returned (.bool (rtB r)) ∧ w' = w := by
  by_cases h0 : 0 ≤ r
  · by_cases h1 : r < 12
    · have e : rtB r = true := by unfold rtB; rw [decide_eq_true h0, decide_eq_true h1]; rfl
      rw [e]
      go_enter Try.func37, Try.ntmps37
      go_wp2_with fail
      go_ret
      exact ⟨rfl, rfl⟩
    · have e : rtB r = false := by unfold rtB; rw [decide_eq_false h1, Bool.and_false]
      rw [e]
      go_enter Try.func37, Try.ntmps37
      go_wp2_with fail
      go_ret
      exact ⟨rfl, rfl⟩
  · have e : rtB r = false := by unfold rtB; rw [decide_eq_false h0, Bool.false_and]
    rw [e]
    go_enter Try.func37, Try.ntmps37
    go_wp2_with fail
    go_ret
    exact ⟨rfl, rfl⟩

end Go.Proofs.Ytjhnhbeimjnloaa

/- Steps of the document's world, of lists: what a step leaves, what it tells. -/
namespace Go.Proofs.Ytjhnhbeimjnloaa
open Go.RowKit W Kp Stl

abbrev Gfn := List Tw1 → List En → List Bool → List Bool
def gdb (T : List Tw1) (v : Int × Int) : Bool := v.1 == 3 && (T.getD v.2.toNat t0).1 == 5
def fdb (T : List Tw1) (v : Int × Int) : Bool := v.1 == 3 && !((T.getD v.2.toNat t0).1 == 5)
theorem gdb_iff {T : List Tw1} {v : Int × Int} : gdb T v = true ↔ v.1 = 3 ∧ (T.getD v.2.toNat t0).1 = 5 := by
  unfold gdb
  generalize (T.getD v.2.toNat t0).1 = k
  simp
theorem fdb_iff {T : List Tw1} {v : Int × Int} : fdb T v = true ↔ v.1 = 3 ∧ (T.getD v.2.toNat t0).1 ≠ 5 := by
  unfold fdb
  generalize (T.getD v.2.toNat t0).1 = k
  simp
abbrev stf (T : List Tw1) (j i : Nat) (y : Int × Int) : List Tw1 := T.set j ((T.getD j t0).1, (T.getD j t0).2.1.set i y, (T.getD j t0).2.2)
def Wrs.room (g : Gfn) (most grow : Int) (s : Wrs) (m : Int) : Int × Wrs :=
  if m ≤ most - (usd s.T).1 then (0, s) else (s.ccd (g s.T s.wt) grow (decide (grow - (usd s.T).2 < (usd s.T).1)), s.cut (g s.T s.wt) grow (decide (grow - (usd s.T).2 < (usd s.T).1)))
def Wrs.put (s : Wrs) (kd : Int) (l : List (Int × Int)) : Wrs := { s with T := s.T ++ [(kd, l, false, false)] }
def Wrs.grow (g : Gfn) (most grow : Int) (s : Wrs) (kd : Int) (l : List (Int × Int)) : (Int × Int) × Int × Wrs :=
  if (s.room g most grow (1 + l.length)).1 = 0 then ((3, ((s.room g most grow (1 + l.length)).2.T.length : Int)), 0, (s.room g most grow (1 + l.length)).2.put kd l)
  else ((0, 0), (s.room g most grow (1 + l.length)).1, (s.room g most grow (1 + l.length)).2)
def Wrs.pop (s : Wrs) (v : Int × Int) : (Int × Int) × Int × Wrs :=
  if gdb s.T v = true then (if pqI v.2 s.wt < s.wt.length then ((3, (s.wt.getD (pqI v.2 s.wt) (0, 0)).2), 0, { s with wt := s.wt.take (pqI v.2 s.wt) ++ s.wt.drop (pqI v.2 s.wt + 1) }) else ((0, 0), 4, s)) else ((0, 0), 2, s)
def Wrs.fc (s : Wrs) (v : Int × Int) (I : Int) : Int := if fdb s.T v = true then (if I < 0 ∨ ((s.T.getD v.2.toNat t0).2.1.length : Int) ≤ I then 1 else 0) else 2
def Wrs.rt (g : Gfn) (most grow : Int) (s : Wrs) (k : Int) (A B : Nat) (I n : Int) : (Int × Int) × Int × Wrs :=
  if k = 1 then ((1, n), 0, s) else if k = 3 then (s.rs.getD A (0, 0), 0, s) else if k = 4 then s.grow g most grow 1 [s.rs.getD A (0, 0), s.rs.getD B (0, 0)] else if k = 5 then s.grow g most grow 2 (List.replicate n.toNat (s.rs.getD A (0, 0)))
  else if k = 6 then s.grow g most grow 3 [s.rs.getD A (0, 0), s.rs.getD B (0, 0)] else if k = 7 then s.grow g most grow 4 [s.rs.getD A (0, 0), s.rs.getD B (0, 0)] else if k = 8 then s.grow g most grow 5 [] else if k = 10 then s.pop (s.rs.getD A (0, 0))
  else if k = 11 then ((if s.fc (s.rs.getD A (0, 0)) I = 0 then (s.T.getD (s.rs.getD A (0, 0)).2.toNat t0).2.1.getD I.toNat (0, 0) else (0, 0)), s.fc (s.rs.getD A (0, 0)) I, s)
  else if k = 13 then (if fdb s.T (s.rs.getD A (0, 0)) = true then ((1, ((s.T.getD (s.rs.getD A (0, 0)).2.toNat t0).2.1.length : Int)), 0, s) else ((0, 0), 2, s))
  else if k = 14 then ((1, if s.rs.getD A (0, 0) = s.rs.getD B (0, 0) then 1 else 0), 0, s) else ((0, 0), 0, s)
def Wrs.reg (s : Wrs) (t d : Int × Int) : Int × Wrs :=
  if t.1 = 3 ∧ gdb s.T d = true then (if 24 ≤ s.rg.length + s.wt.length then (3, s) else (0, { s with rg := s.rg ++ [(d.2, t.2)] })) else (2, s)
def Wrs.set (s : Wrs) (v : Int × Int) (I : Int) (y : Int × Int) : Int × Wrs := (s.fc v I, if s.fc v I = 0 then { s with T := stf s.T v.2.toNat I.toNat y } else s)
def Wrs.dos (g : Gfn) (most grow : Int) (s : Wrs) (k R A B I n : Int) : Int × Wrs :=
  if ckC k R A B n = 0 then (if k = 9 then s.reg (s.rs.getD A.toNat (0, 0)) (s.rs.getD B.toNat (0, 0)) else if k = 12 then s.set (s.rs.getD A.toNat (0, 0)) I (s.rs.getD B.toNat (0, 0))
    else if k = 15 then (s.ccd (g s.T s.wt) grow false, s.cut (g s.T s.wt) grow false) else if k = 16 then (s.ccd (g s.T s.wt) grow true, s.cut (g s.T s.wt) grow true)
    else if (s.rt g most grow k A.toNat B.toNat I n).2.1 = 0 then (0, { (s.rt g most grow k A.toNat B.toNat I n).2.2 with rs := (s.rt g most grow k A.toNat B.toNat I n).2.2.rs.set R.toNat (s.rt g most grow k A.toNat B.toNat I n).1 })
    else ((s.rt g most grow k A.toNat B.toNat I n).2.1, (s.rt g most grow k A.toNat B.toNat I n).2.2))
  else (ckC k R A B n, s)

end Go.Proofs.Ytjhnhbeimjnloaa

/- A grove's cut, of lists: marking. -/
namespace Go.Proofs.Ytjhnhbeimjnloaa
open Go.RowKit W Kp Stl

structure Cst where
  A : List Bool
  td : List Int
  hd : Int → List (Int × Int)
  m : Nat
def mk1 (s : Cst) (v : Int × Int) : Cst := if inS s.A v = true then s else { s with A := s.A.set v.2.toNat true, td := s.td ++ [v.2] }
def mks (s : Cst) (l : List (Int × Int)) : Cst := l.foldl mk1 s
def lke (s : Cst) (k v : Int × Int) : Cst := if inS s.A k = true then mk1 s v else { s with hd := fun x => if x = k.2 then s.hd x ++ [v] else s.hd x, m := s.m + 1 }
def lkb (T : List Tw1) (wt : List En) (s : Cst) (i : Int) : Cst :=
  if (T.getD i.toNat t0).1 = 1 ∨ (T.getD i.toNat t0).1 = 2 then mks s (T.getD i.toNat t0).2.1
  else if (T.getD i.toNat t0).1 = 3 then mk1 s ((T.getD i.toNat t0).2.1.getD 1 (0, 0))
  else if (T.getD i.toNat t0).1 = 4 then lke s ((T.getD i.toNat t0).2.1.getD 0 (0, 0)) ((T.getD i.toNat t0).2.1.getD 1 (0, 0))
  else if (T.getD i.toNat t0).1 = 5 then mks s ((atL wt i).map fun x => (3, x)) else s
def lkC (T : List Tw1) (wt : List En) (s : Cst) (i : Int) : Cst := mks (lkb T wt s i) ((lkb T wt s i).hd i)

theorem mks_snoc (s : Cst) (l : List (Int × Int)) (v : Int × Int) : mks s (l ++ [v]) = mk1 (mks s l) v := by simp [mks, List.foldl_append]

def Dn_ (T : List Tw1) (wt : List En) (s : Cst) (P : Int → Prop) (i : Nat) : Prop :=
  ((T.getD i t0).1 ≠ 4 → ∀ v, Kps T wt (fun _ => True) i v → v.1 = 3 → Ls_ s.A v.2.toNat) ∧
  ((T.getD i t0).1 = 4 → (((T.getD i t0).2.1.getD 0 (0, 0)).1 = 3 ∧ (¬ Ls_ s.A ((T.getD i t0).2.1.getD 0 (0, 0)).2.toNat ∨ P ((T.getD i t0).2.1.getD 0 (0, 0)).2) ∧ (T.getD i t0).2.1.getD 1 (0, 0) ∈ s.hd ((T.getD i t0).2.1.getD 0 (0, 0)).2) ∨
    (((T.getD i t0).2.1.getD 1 (0, 0)).1 = 3 → Ls_ s.A ((T.getD i t0).2.1.getD 1 (0, 0)).2.toNat))

structure Mi (T : List Tw1) (wt : List En) (is : List Bool) (s : Cst) (E : List Int) : Prop where
  len : s.A.length = T.length
  al : ∀ k, Ls_ s.A k → Alv T k
  lt : ∀ X, Cls T wt X → (∀ k, Ls_ is k → X k) → ∀ k, Ls_ s.A k → X k
  td : ∀ x, x ∈ E ∨ x ∈ s.td → 0 ≤ x ∧ Ls_ s.A x.toNat
  hd : ∀ x v, v ∈ s.hd x → ∃ i, Ls_ s.A i ∧ (T.getD i t0).1 = 4 ∧ (T.getD i t0).2.1.getD 0 (0, 0) = (3, x) ∧ v = (T.getD i t0).2.1.getD 1 (0, 0)
  dn : ∀ i : Nat, Ls_ s.A i → ¬ ((i : Int) ∈ E ∨ (i : Int) ∈ s.td) → Dn_ T wt s (fun x => x ∈ E ∨ x ∈ s.td) i

section
variable {T : List Tw1} {wt : List En} {is : List Bool} {s : Cst} {E : List Int}

theorem set_in {L : List Bool} {i k : Nat} (h : Ls_ L k) : Ls_ (L.set i true) k := by
  by_cases hi : i < L.length
  · unfold Ls_
    rw [getD_setB _ _ _ hi]
    split
    · rfl
    · exact h
  · rw [List.set_eq_of_length_le (by omega)]
    exact h
theorem mk1_up (s : Cst) (v : Int × Int) {k : Nat} (h : Ls_ s.A k) : Ls_ (mk1 s v).A k := by
  unfold mk1
  split
  · exact h
  · exact set_in h
theorem mk1_in (s : Cst) (v : Int × Int) (h3 : v.1 = 3) (hl : v.2.toNat < s.A.length) : Ls_ (mk1 s v).A v.2.toNat := by
  unfold mk1
  split
  · exact inS_yes ‹_› h3
  · unfold Ls_
    rw [getD_setB _ _ _ hl, if_pos rfl]
theorem mk1_len (s : Cst) (v : Int × Int) : (mk1 s v).A.length = s.A.length := by
  unfold mk1
  split
  · rfl
  · simp
theorem mk1_hd (s : Cst) (v : Int × Int) : (mk1 s v).hd = s.hd ∧ (mk1 s v).m = s.m := by
  unfold mk1
  split <;> exact ⟨rfl, rfl⟩
theorem mk1_td (s : Cst) (v : Int × Int) {x : Int} (h : x ∈ s.td) : x ∈ (mk1 s v).td := by
  unfold mk1
  split
  · exact h
  · exact List.mem_append_left _ h
theorem mk1_new (s : Cst) (v : Int × Int) (hv : v.1 = 3 → 0 ≤ v.2) {k : Nat} (h : Ls_ (mk1 s v).A k) : Ls_ s.A k ∨ (k : Int) ∈ (mk1 s v).td := by
  unfold mk1 at h ⊢
  split at h
  · exact Or.inl h
  · rename_i hn
    have hn : inS s.A v = false := by simpa using hn
    obtain ⟨h3, h4⟩ := inS_no hn
    rw [if_neg (by rw [hn]; decide)]
    unfold Ls_ at h
    dsimp only at h
    by_cases hl : v.2.toNat < s.A.length
    · rw [getD_setB _ _ _ hl] at h
      split at h
      · rename_i e
        refine Or.inr (List.mem_append_right _ ?_)
        have := hv h3
        simp
        omega
      · exact Or.inl h
    · rw [List.set_eq_of_length_le (by omega)] at h
      exact Or.inl h
theorem mks_hd (s : Cst) (l : List (Int × Int)) : (mks s l).hd = s.hd ∧ (mks s l).m = s.m ∧ (mks s l).A.length = s.A.length := by
  induction l generalizing s with
  | nil => exact ⟨rfl, rfl, rfl⟩
  | cons v l ih =>
    have h := ih (mk1 s v)
    exact ⟨h.1.trans (mk1_hd s v).1, h.2.1.trans (mk1_hd s v).2, h.2.2.trans (mk1_len s v)⟩
theorem mks_up (s : Cst) (l : List (Int × Int)) {k : Nat} (h : Ls_ s.A k) : Ls_ (mks s l).A k := by
  induction l generalizing s with
  | nil => exact h
  | cons v l ih => exact ih (mk1 s v) (mk1_up s v h)
theorem mks_tdm (s : Cst) (l : List (Int × Int)) {x : Int} (h : x ∈ s.td) : x ∈ (mks s l).td := by
  induction l generalizing s with
  | nil => exact h
  | cons v l ih => exact ih (mk1 s v) (mk1_td s v h)
theorem mks_in (s : Cst) (l : List (Int × Int)) (hl : ∀ v ∈ l, v.1 = 3 → v.2.toNat < s.A.length) : ∀ v ∈ l, v.1 = 3 → Ls_ (mks s l).A v.2.toNat := by
  induction l generalizing s with
  | nil => intro v hv; cases hv
  | cons u l ih =>
    intro v hv h3
    rcases List.mem_cons.1 hv with e | hv
    · exact mks_up (mk1 s u) l (by rw [e] at h3 ⊢; exact mk1_in s u h3 (hl u (by simp) h3))
    · exact ih (mk1 s u) (fun v hv h3 => by rw [mk1_len]; exact hl v (List.mem_cons_of_mem _ hv) h3) v hv h3
theorem mks_new (s : Cst) (l : List (Int × Int)) (hl : ∀ v ∈ l, v.1 = 3 → 0 ≤ v.2) {k : Nat} (h : Ls_ (mks s l).A k) : Ls_ s.A k ∨ (k : Int) ∈ (mks s l).td := by
  induction l generalizing s with
  | nil => exact Or.inl h
  | cons v l ih =>
    rcases ih (mk1 s v) (fun v hv h3 => hl v (List.mem_cons_of_mem _ hv) h3) h with c | c
    · rcases mk1_new s v (hl v (by simp)) c with c | c
      · exact Or.inl c
      · exact Or.inr (mks_tdm (mk1 s v) l c)
    · exact Or.inr c

theorem Dn_.mono {s s' : Cst} {P P' : Int → Prop} {i : Nat} (h : Dn_ T wt s P i) (h1 : ∀ k, Ls_ s.A k → Ls_ s'.A k) (h2 : ∀ x : Int, 0 ≤ x → Ls_ s'.A x.toNat → ¬ Ls_ s.A x.toNat → P' x) (h3 : ∀ x, P x → P' x) (h4 : ∀ x v, v ∈ s.hd x → v ∈ s'.hd x) (h0 : (T.getD i t0).1 = 4 → ((T.getD i t0).2.1.getD 0 (0, 0)).1 = 3 → 0 ≤ ((T.getD i t0).2.1.getD 0 (0, 0)).2) : Dn_ T wt s' P' i := by
  refine ⟨fun hk v hv h3' => h1 _ (h.1 hk v hv h3'), fun hk => ?_⟩
  rcases h.2 hk with ⟨a, b, c⟩ | a
  · refine Or.inl ⟨a, ?_, h4 _ _ c⟩
    by_cases hA : Ls_ s'.A ((T.getD i t0).2.1.getD 0 (0, 0)).2.toNat
    · right
      rcases b with b | b
      · exact h2 _ (h0 hk a) hA b
      · exact h3 _ b
    · exact Or.inl hA
  · exact Or.inr (fun e => h1 _ (a e))
theorem key_ok (hW : Wiv T wt) {i : Nat} (hi : Alv T i) (hk : (T.getD i t0).1 = 4) (j : Nat) (hj : j < 2) : ((T.getD i t0).2.1.getD j (0, 0)).1 = 3 → 0 ≤ ((T.getD i t0).2.1.getD j (0, 0)).2 ∧ Alv T ((T.getD i t0).2.1.getD j (0, 0)).2.toNat := fun h3 =>
  hW.fv i hi _ (getD_in (by rw [hW.fl i hi (Or.inr hk)]; exact hj)) h3
theorem mk1_no {s : Cst} {v : Int × Int} (h : inS s.A v = true) : mk1 s v = s := by
  unfold mk1
  rw [if_pos h]
theorem mk1_yes {s : Cst} {v : Int × Int} (h : inS s.A v = false) : mk1 s v = { s with A := s.A.set v.2.toNat true, td := s.td ++ [v.2] } := by
  unfold mk1
  rw [h]
  rfl
theorem Mi.mark (h : Mi T wt is s E) (hW : Wiv T wt) (v : Int × Int) (hv : v.1 = 3 → 0 ≤ v.2 ∧ Alv T v.2.toNat) (hJ : v.1 = 3 → ∀ X, Cls T wt X → (∀ k, Ls_ is k → X k) → X v.2.toNat) : Mi T wt is (mk1 s v) E := by
  cases hi : inS s.A v
  · obtain ⟨h3, h4⟩ := inS_no hi
    obtain ⟨v0, va⟩ := hv h3
    have hl : v.2.toNat < s.A.length := by rw [h.len]; exact va.1
    have hin : ∀ k, Ls_ (mk1 s v).A k ↔ v.2.toNat = k ∨ Ls_ s.A k := fun k => by
      rw [mk1_yes hi]
      unfold Ls_
      dsimp only
      rw [getD_setB _ _ _ hl]
      split
      · rename_i e
        exact ⟨fun _ => Or.inl e, fun _ => rfl⟩
      · rename_i e
        exact ⟨Or.inr, fun c => c.resolve_left e⟩
    have htd : ∀ x, x ∈ (mk1 s v).td ↔ x ∈ s.td ∨ x = v.2 := fun x => by rw [mk1_yes hi]; simp
    refine ⟨(mk1_len s v).trans h.len, fun k hk => ?_, fun X hX hb k hk => ?_, fun x hx => ?_, fun x u hu => ?_, fun i hi2 hn => ?_⟩
    · rcases (hin k).1 hk with e | hk
      · rw [← e]
        exact va
      · exact h.al k hk
    · rcases (hin k).1 hk with e | hk
      · rw [← e]
        exact hJ h3 X hX hb
      · exact h.lt X hX hb k hk
    · rcases hx with hx | hx
      · exact ⟨(h.td x (Or.inl hx)).1, mk1_up s v (h.td x (Or.inl hx)).2⟩
      · rcases (htd x).1 hx with hx | hx
        · exact ⟨(h.td x (Or.inr hx)).1, mk1_up s v (h.td x (Or.inr hx)).2⟩
        · rw [hx]
          exact ⟨v0, (hin _).2 (Or.inl rfl)⟩
    · rw [(mk1_hd s v).1] at hu
      obtain ⟨i, a, b⟩ := h.hd x u hu
      exact ⟨i, mk1_up s v a, b⟩
    · have hi3 : Ls_ s.A i := by
        rcases (hin i).1 hi2 with e | c
        · exact absurd (Or.inr ((htd _).2 (Or.inr (by omega)))) hn
        · exact c
      refine (h.dn i hi3 (fun c => hn (c.imp id (fun c => (htd _).2 (Or.inl c))))).mono (fun k hk => mk1_up s v hk) (fun x x0 ha hb => ?_) (fun x hx => hx.imp id (fun c => (htd _).2 (Or.inl c))) (fun x u hu => by rw [(mk1_hd s v).1]; exact hu) (fun hk h3 => (key_ok hW (h.al i hi3) hk 0 (by decide) h3).1)
      rcases (hin _).1 ha with e | c
      · exact Or.inr ((htd _).2 (Or.inr (by omega)))
      · exact absurd c hb
  · rw [mk1_no hi]
    exact h
theorem Mi.marks (h : Mi T wt is s E) (hW : Wiv T wt) (l : List (Int × Int)) (hv : ∀ v ∈ l, v.1 = 3 → 0 ≤ v.2 ∧ Alv T v.2.toNat) (hJ : ∀ v ∈ l, v.1 = 3 → ∀ X, Cls T wt X → (∀ k, Ls_ is k → X k) → X v.2.toNat) : Mi T wt is (mks s l) E := by
  induction l generalizing s with
  | nil => exact h
  | cons v l ih => exact ih (h.mark hW v (hv v (by simp)) (hJ v (by simp))) (fun u hu => hv u (List.mem_cons_of_mem _ hu)) (fun u hu => hJ u (List.mem_cons_of_mem _ hu))
theorem mk1_mm (s : Cst) (v : Int × Int) (hv : v.1 = 3 → v.2.toNat < s.A.length) : (mk1 s v).td.length + cnt (mk1 s v).A = s.td.length + cnt s.A := by
  cases hi : inS s.A v
  · obtain ⟨h3, h4⟩ := inS_no hi
    have hl := hv h3
    have h2 := cnt_set s.A v.2.toNat (by
      rw [List.getD_eq_getElem?_getD, List.getElem?_eq_getElem hl] at h4 ⊢
      exact h4)
    rw [mk1_yes hi]
    simp only [List.length_append, List.length_singleton]
    omega
  · rw [mk1_no hi]
theorem mks_mm (s : Cst) (l : List (Int × Int)) (hl : ∀ v ∈ l, v.1 = 3 → v.2.toNat < s.A.length) : (mks s l).td.length + cnt (mks s l).A = s.td.length + cnt s.A := by
  induction l generalizing s with
  | nil => rfl
  | cons v l ih => exact (ih (mk1 s v) (fun u hu h3 => by rw [mk1_len]; exact hl u (List.mem_cons_of_mem _ hu) h3)).trans (mk1_mm s v (hl v (by simp)))
theorem Mi.pop {t : List Int} {x : Int} (h : Mi T wt is s []) (hW : Wiv T wt) (e : s.td = t ++ [x]) : Mi T wt is { s with td := t } [x] := by
  have hm : ∀ y, (y ∈ [x] ∨ y ∈ t) ↔ (y ∈ ([] : List Int) ∨ y ∈ s.td) := fun y => by rw [e]; simp [or_comm]
  exact ⟨h.len, h.al, h.lt, fun y hy => h.td y ((hm y).1 hy), h.hd, fun i hi hn => (h.dn i hi (fun c => hn ((hm _).2 c))).mono (fun _ c => c) (fun _ _ a b => absurd a b) (fun y hy => (hm y).2 hy) (fun _ _ c => c) (fun hk h3 => (key_ok hW (h.al i hi) hk 0 (by decide) h3).1)⟩
theorem Mi.hold {i n : Nat} {x : Int} {u : Int × Int} (h : Mi T wt is s E) (hW : Wiv T wt) (hi : Ls_ s.A i) (hk : (T.getD i t0).1 = 4) (h0 : (T.getD i t0).2.1.getD 0 (0, 0) = (3, x)) (h1 : (T.getD i t0).2.1.getD 1 (0, 0) = u) :
    Mi T wt is { s with hd := fun y => if y = x then s.hd y ++ [u] else s.hd y, m := n } E := by
  refine ⟨h.len, h.al, h.lt, h.td, fun y v hv => ?_, fun j hj hn => (h.dn j hj hn).mono (fun _ c => c) (fun _ _ a b => absurd a b) (fun _ c => c) (fun y v hv => ?_) (fun hk h3 => (key_ok hW (h.al j hj) hk 0 (by decide) h3).1)⟩
  · dsimp only at hv
    split at hv
    · rename_i e
      rcases List.mem_append.1 hv with hv | hv
      · exact h.hd y v hv
      · simp at hv
        exact ⟨i, hi, hk, by rw [h0, e], by rw [hv, h1]⟩
    · exact h.hd y v hv
  · dsimp only
    split
    · exact List.mem_append_left _ hv
    · exact hv
theorem Mi.drop {i : Nat} (h : Mi T wt is s [(i : Int)]) (h7 : ¬ (i : Int) ∈ s.td → Dn_ T wt s (fun x => x ∈ s.td) i) (h8 : ∀ v ∈ s.hd i, v.1 = 3 → Ls_ s.A v.2.toNat) : Mi T wt is s [] := by
  refine ⟨h.len, h.al, h.lt, fun x hx => h.td x (hx.imp (fun c => by simp at c) id), h.hd, fun j hj hn => ?_⟩
  have hn : ¬ (j : Int) ∈ s.td := fun c => hn (Or.inr c)
  by_cases e : j = i
  · subst e
    have := h7 hn
    exact ⟨this.1, fun hk => (this.2 hk).imp (fun ⟨a, b, c⟩ => ⟨a, b.imp id Or.inr, c⟩) id⟩
  · have := h.dn j hj (fun c => c.elim (fun c => by simp at c; omega) hn)
    refine ⟨this.1, fun hk => ?_⟩
    rcases this.2 hk with ⟨a, b, c⟩ | a
    · rcases b with b | b | b
      · exact Or.inl ⟨a, Or.inl b, c⟩
      · refine Or.inr (h8 _ ?_)
        simp at b
        rw [← b]
        simpa using c
      · exact Or.inl ⟨a, Or.inr (Or.inr b), c⟩
    · exact Or.inr a
theorem atL_mem {i x : Int} : x ∈ atL wt i ↔ (∃ e ∈ wt, e.1 = i ∧ x = e.2) := by
  unfold atL
  simp only [List.mem_map, List.mem_filter, beq_iff_eq]
  constructor
  · rintro ⟨e, ⟨h1, h2⟩, rfl⟩
    exact ⟨e, h1, h2, rfl⟩
  · rintro ⟨e, h1, h2, rfl⟩
    exact ⟨e, ⟨h1, h2⟩, rfl⟩
theorem Mi.list {i : Nat} (h : Mi T wt is s [(i : Int)]) (hW : Wiv T wt) (hi : Ls_ s.A i) (l : List (Int × Int)) (hl : ∀ v ∈ l, Kps T wt (Ls_ s.A) i v) : Mi T wt is (mks s l) [(i : Int)] ∧ ∀ v ∈ l, v.1 = 3 → Ls_ (mks s l).A v.2.toNat :=
  ⟨h.marks hW l (fun v hv h3 => hW.kps (h.al i hi) (hl v hv) h3) (fun v hv h3 X hX hb => hX i (h.al i hi).1 (h.lt X hX hb i hi) v ((hl v hv).mono (fun k hk => h.lt X hX hb k hk)) h3),
    mks_in s l (fun v hv h3 => by rw [h.len]; exact (hW.kps (h.al i hi) (hl v hv) h3).2.1)⟩
theorem Mi.free {i : Nat} (h : Mi T wt is s [(i : Int)]) (hW : Wiv T wt) (hi : Ls_ s.A i) : Mi T wt is (mks s (s.hd i)) [(i : Int)] ∧ (∀ v ∈ s.hd i, v.1 = 3 → Ls_ (mks s (s.hd i)).A v.2.toNat) ∧ (∀ v ∈ s.hd i, v.1 = 3 → 0 ≤ v.2 ∧ v.2.toNat < s.A.length) := by
  have ho : ∀ v ∈ s.hd i, v.1 = 3 → 0 ≤ v.2 ∧ Alv T v.2.toNat := fun v hv h3 => by
    obtain ⟨j, a, b, c, e⟩ := h.hd _ _ hv
    rw [e] at h3 ⊢
    exact key_ok hW (h.al j a) b 1 (by decide) h3
  refine ⟨h.marks hW _ ho (fun v hv h3 X hX hb => ?_), mks_in s _ (fun v hv h3 => by rw [h.len]; exact (ho v hv h3).2.1), fun v hv h3 => ⟨(ho v hv h3).1, by rw [h.len]; exact (ho v hv h3).2.1⟩⟩
  obtain ⟨j, a, b, c, e⟩ := h.hd _ _ hv
  refine hX j (h.al j a).1 (h.lt X hX hb j a) v (Or.inr (Or.inr (Or.inl ⟨b, fun _ => ?_, e⟩))) h3
  rw [c]
  exact h.lt X hX hb _ (by simpa using hi)
end

end Go.Proofs.Ytjhnhbeimjnloaa
