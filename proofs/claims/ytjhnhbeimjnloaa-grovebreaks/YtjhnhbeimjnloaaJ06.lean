/- Joined: Vp4, Sat, Vw2, Vw4, Tnx, Mn3, Wr1, Hc1, Wdp, Vp2, Gi1. -/
import Derived.Test.YtjhnhbeimjnloaaJ00
import Derived.Test.YtjhnhbeimjnloaaJ02
import Derived.Test.YtjhnhbeimjnloaaJ04
import Derived.Test.YtjhnhbeimjnloaaJ01
import Derived.Test.YtjhnhbeimjnloaaJ05
import Derived.Test.YtjhnhbeimjnloaaJ03
/- Nodes and values in memory: where they lie. -/
namespace Go.Proofs.Ytjhnhbeimjnloaa
open Go.RowKit W Kp Stl

abbrev Vnd := Int × Option Addr × Nat × List (Int × Int)
def nv (m : List Vnd) : List Value := m.flatMap fun x => [.int .i64 x.1, .slice x.2.1 x.2.2.2.length x.2.2.1]
def nds (m : List Vnd) : List (Int × List (Int × Int)) := m.map fun x => (x.1, x.2.2.2)
theorem nv_append (a b : List Vnd) : nv (a ++ b) = nv a ++ nv b := by simp [nv]
theorem nv_get : ∀ (l : List Vnd) (i : Nat) (x : Vnd), l[i]? = some x → (nv l)[i * 2]? = some (.int .i64 x.1) ∧ (nv l)[i * 2 + 1]? = some (.slice x.2.1 x.2.2.2.length x.2.2.1)
  | [], i, x, h => by simp at h
  | e :: r, 0, x, h => by
    simp at h
    subst h
    simp [nv]
  | e :: r, i + 1, x, h => by
    have h2 := nv_get r i x (by simpa using h)
    have e1 : (nv (e :: r)) = .int .i64 e.1 :: .slice e.2.1 e.2.2.2.length e.2.2.1 :: nv r := by simp [nv]
    rw [e1, show (i + 1) * 2 = i * 2 + 1 + 1 by omega]
    simpa using h2
theorem nv_set : ∀ (l : List Vnd) (i : Nat) (x : Vnd) (ad : Option Addr) (c : Nat) (vs : List (Int × Int)), l[i]? = some x → nv (l.set i (x.1, ad, c, vs)) = (nv l).set (i * 2 + 1) (.slice ad vs.length c)
  | [], _, _, _, _, _, _ => rfl
  | e :: l, 0, x, ad, c, vs, h => by
    simp at h
    subst h
    simp [nv]
  | e :: l, i + 1, x, ad, c, vs, h => by
    have ih := nv_set l i x ad c vs (by simpa using h)
    have e1 : (nv (e :: l)) = .int .i64 e.1 :: .slice e.2.1 e.2.2.2.length e.2.2.1 :: nv l := by simp [nv]
    have e2 : (nv (e :: l.set i (x.1, ad, c, vs))) = .int .i64 e.1 :: .slice e.2.1 e.2.2.2.length e.2.2.1 :: nv (l.set i (x.1, ad, c, vs)) := by simp [nv]
    rw [List.set_cons_succ, e2, e1, ih, show (i + 1) * 2 + 1 = i * 2 + 1 + 1 + 1 by omega]
    simp

theorem row_put {w : World} {base size n g cap : Nat} {e : TypeId} {xs : List Value} (h : w.ownsRow base e size (.slice (some ⟨g, 0, none⟩) n cap) n xs) (i : Nat) (u : Value) : (w.setCell ⟨g, i, none⟩ u).ownsRow base e size (.slice (some ⟨g, 0, none⟩) n cap) n (xs.set i u) := by
  refine ⟨by rw [List.length_set]; exact h.1, ?_⟩
  rcases h.2 with ⟨hv, _⟩ | ⟨g', cap', cur, hv, hb, hg, h1, h2, h3, h4⟩
  · simp at hv
  · simp at hv
    obtain ⟨rfl, rfl⟩ := hv
    refine Or.inr ⟨g, cap, cur.setIfInBounds i u, rfl, hb, ?_, h1, h2, by rw [Array.size_setIfInBounds]; exact h3, ?_⟩
    · simp only [World.setCell, Array.getElem?_modify, if_true, hg, Option.map_some]
      rfl
    · rw [Array.toList_setIfInBounds, List.take_set, h4]

def Lv (w : World) (ad : Option Addr) (l : List (Int × Int)) : Prop := Lp w ad l ∧ (0 < l.length → ∃ b o cs, ad = some ⟨b, o, none⟩ ∧ w.heap[b]? = some (.cells cs 41 (0, 0)))

section
variable {B : Nat} {w w' w'' : World}
theorem Lv.nil {ad : Option Addr} : Lv w ad [] := ⟨fun h => by simp at h, fun h => by simp at h⟩
theorem Lv.of {base cap : Nat} {ad : Option Addr} {l : List (Int × Int)} (h : w.ownsRow base 41 2 (.slice ad l.length cap) l.length (ev l)) : Lv w ad l := by
  refine ⟨row_pairs h, fun hp => ?_⟩
  obtain ⟨b0, c0, e0⟩ := row_shape h hp
  obtain ⟨cs, hc⟩ := row_type h b0 (by rw [e0]; rfl)
  cases e0
  exact ⟨b0, 0, cs, rfl, hc⟩
end

def Fb (m : List Vnd) (k : Nat) : Prop := ∃ x ∈ m, 0 < x.2.2.2.length ∧ ∃ o, x.2.1 = some ⟨k, o, none⟩

theorem row_cell {w : World} {base size n g cap : Nat} {e : TypeId} {xs : List Value} (h : w.ownsRow base e size (.slice (some ⟨g, 0, none⟩) n cap) n xs) {i : Nat} {u : Value} (hi : xs[i]? = some u) : w.cell? ⟨g, i, none⟩ = some u ∧ w.frozen? ⟨g, i, none⟩ = false := by
  rcases h.2 with ⟨hv, _⟩ | ⟨g', cap', cur, hv, hb, hg, h1, h2, h3, h4⟩
  · simp at hv
  · simp at hv
    obtain ⟨rfl, rfl⟩ := hv
    rw [← h4] at hi
    have hlt : i < n * size := by
      rcases Nat.lt_or_ge i (n * size) with c | c
      · exact c
      · rw [List.getElem?_take, if_neg (by omega)] at hi
        simp at hi
    rw [List.getElem?_take_of_lt hlt] at hi
    constructor
    · simp [World.cell?, hg]
      simpa using hi
    · simp [World.frozen?, hg]

def Ln (w : World) (ad : Option Addr) (ns : List (Int × List (Int × Int))) : Prop :=
  ∃ m : List Vnd, nds m = ns ∧ (∀ x ∈ m, Lp w x.2.1 x.2.2.2) ∧ (0 < m.length → ∃ b o, ad = some ⟨b, o, none⟩ ∧ b < w.heap.size ∧ ∀ i x, m[i]? = some x → w.cell? ⟨b, o + i * 2, none⟩ = some (.int .i64 x.1) ∧ w.cell? ⟨b, o + i * 2 + 1, none⟩ = some (.slice x.2.1 x.2.2.2.length x.2.2.1))
theorem Ln.below {w w' : World} {ad : Option Addr} {ns : List (Int × List (Int × Int))} (h : Ln w ad ns) (hb : Below w.heap.size w w') : Ln w' ad ns := by
  obtain ⟨m, h1, h2, h3⟩ := h
  refine ⟨m, h1, fun x hx => (h2 x hx).below hb, fun hp => ?_⟩
  obtain ⟨b, o, e, hl, hc⟩ := h3 hp
  exact ⟨b, o, e, Nat.lt_of_lt_of_le hl hb.size, fun i x hx => ⟨(hb.cell (p := ⟨b, o + i * 2, none⟩) hl).trans (hc i x hx).1, (hb.cell (p := ⟨b, o + i * 2 + 1, none⟩) hl).trans (hc i x hx).2⟩⟩

def LpN (w : World) (base : Nat) (ad : Option Addr) (l : List (Int × Int)) : Prop := Lp w ad l ∧ (0 < l.length → ∃ b o, ad = some ⟨b, o, none⟩ ∧ base ≤ b)
def LnN (w : World) (base : Nat) (ad : Option Addr) (ns : List (Int × List (Int × Int))) : Prop :=
  ∃ m : List Vnd, nds m = ns ∧ (∀ x ∈ m, Lp w x.2.1 x.2.2.2) ∧ (∀ k, Fb m k → base ≤ k) ∧ (0 < m.length → ∃ b o, ad = some ⟨b, o, none⟩ ∧ base ≤ b ∧ b < w.heap.size ∧ ∀ i x, m[i]? = some x → w.cell? ⟨b, o + i * 2, none⟩ = some (.int .i64 x.1) ∧ w.cell? ⟨b, o + i * 2 + 1, none⟩ = some (.slice x.2.1 x.2.2.2.length x.2.2.1))
theorem LnN.ln {w : World} {base : Nat} {ad : Option Addr} {ns : List (Int × List (Int × Int))} (h : LnN w base ad ns) : Ln w ad ns := by
  obtain ⟨m, h1, h2, _, h4⟩ := h
  exact ⟨m, h1, h2, fun hp => by
    obtain ⟨b, o, e, _, l, c⟩ := h4 hp
    exact ⟨b, o, e, l, c⟩⟩
theorem LpN.fr {F : Nat → Prop} {w w' : World} {base : Nat} {ad : Option Addr} {l : List (Int × Int)} (h : LpN w base ad l) (f : Fr F w w') (hF : ∀ b, F b → b < base) : LpN w' base ad l :=
  ⟨h.1.keep f.size (fun hp b e => by
    obtain ⟨b0, o0, e0, hb⟩ := h.2 hp
    obtain ⟨b1, o1, e1, l1, _⟩ := h.1 hp
    rw [e0] at e e1
    cases e
    cases e1
    exact f.block b0 l1 (fun d => by have h9 : b0 < base := hF b0 d; omega)), h.2⟩
theorem LnN.fr {F : Nat → Prop} {w w' : World} {base : Nat} {ad : Option Addr} {ns : List (Int × List (Int × Int))} (h : LnN w base ad ns) (f : Fr F w w') (hF : ∀ b, F b → b < base) : LnN w' base ad ns := by
  obtain ⟨m, h1, h2, h3, h4⟩ := h
  refine ⟨m, h1, fun x hx => (h2 x hx).keep f.size (fun hp b e => ?_), h3, fun hp => ?_⟩
  · obtain ⟨b1, o1, e1, l1, _⟩ := h2 x hx hp
    rw [e1] at e
    cases e
    have h8 := h3 b1 ⟨x, hx, hp, o1, e1⟩
    exact f.block b1 l1 (fun d => by have h9 : b1 < base := hF b1 d; omega)
  · obtain ⟨b, o, e, g1, g2, c⟩ := h4 hp
    have hb : w'.heap[b]? = w.heap[b]? := f.block b g2 (fun d => by have := hF _ d; omega)
    exact ⟨b, o, e, g1, Nat.lt_of_lt_of_le g2 f.size, fun i x hx => ⟨(World.cell?_of_block (a := ⟨b, o + i * 2, none⟩) hb).trans (c i x hx).1, (World.cell?_of_block (a := ⟨b, o + i * 2 + 1, none⟩) hb).trans (c i x hx).2⟩⟩
theorem LpN.below {w w' : World} {base : Nat} {ad : Option Addr} {l : List (Int × Int)} (h : LpN w base ad l) (hb : Below w.heap.size w w') : LpN w' base ad l := h.fr (F := fun _ => False) (Fr.of hb) (fun _ d => d.elim)
theorem LnN.below {w w' : World} {base : Nat} {ad : Option Addr} {ns : List (Int × List (Int × Int))} (h : LnN w base ad ns) (hb : Below w.heap.size w w') : LnN w' base ad ns := h.fr (F := fun _ => False) (Fr.of hb) (fun _ d => d.elim)

end Go.Proofs.Ytjhnhbeimjnloaa

/- At of a Side: a contract. -/
namespace Go.Proofs.Ytjhnhbeimjnloaa
open Go.RowKit W Kp Stl

def atL (q : List En) (g : Int) : List Int := (q.filter (fun e => e.1 == g)).map (·.2)
theorem atL_yes (q : List En) (g : Int) (j : Nat) (h : j < q.length) (e : (q.getD j (0, 0)).1 = g) : atL (q.take (j + 1)) g = atL (q.take j) g ++ [(q.getD j (0, 0)).2] := by
  unfold atL
  rw [take_snoc q j h (0, 0), List.filter_append, List.map_append, List.filter_cons, e]
  simp
theorem atL_no (q : List En) (g : Int) (j : Nat) (h : j < q.length) (e : ¬ (q.getD j (0, 0)).1 = g) : atL (q.take (j + 1)) g = atL (q.take j) g := by
  unfold atL
  rw [take_snoc q j h (0, 0), List.filter_append, List.map_append, List.filter_cons]
  rw [if_neg (by simpa using e)]
  simp
theorem atL_len (q : List En) (g : Int) : (atL q g).length ≤ q.length := by
  unfold atL
  rw [List.length_map]
  exact List.length_filter_le _ _

set_option maxRecDepth 100000 in
set_option maxHeartbeats 1000000 in
theorem atS_any (w : World) (p : Nat) (v0 : Value) (a1 : Option Addr) (k1 : Nat) (q : List En) (g : Int) (h : w.heap[p]? = some (.cells #[v0, .slice a1 q.length k1] 63 (0, 0))) (hp : Lp w a1 q) (hm : q.length ≤ 90000) :
    Calls Try.prog 101 #[.pointer (some ⟨p, 0, none⟩), .int .i64 g] w fun e w' => ∃ ad cap, e = .returned (.slice ad (atL q g).length cap) ∧ w'.ownsRow w.heap.size 2 1 (.slice ad (atL q g).length cap) (atL q g).length ((atL q g).map (Value.int .i64)) ∧ Below w.heap.size w w' := by
  obtain ⟨i0, hi, hz0, hz1, hz2⟩ := info_parts info64
  have c1 : w.cell? ⟨p, 1, none⟩ = some (.slice a1 q.length k1) := by simp [World.cell?, h]
  have HP : Hid (Lp w a1 q) := hp
  clear h hp
  go_enter Try.func101, Try.ntmps101
  go_wp2_with fail
  go_loopw [5, 13] (fun tv iv wr => ∃ (j : Nat) (T : List Int) (at1 : Option Addr) (ct : Nat), j ≤ q.length ∧ iv = .int .i64 j ∧ Hid (T = atL (q.take j) g) ∧ tv = .slice at1 T.length ct ∧ wr.ownsRow w.heap.size 2 1 (.slice at1 T.length ct) T.length (T.map (Value.int .i64)) ∧ Below w.heap.size w wr) (fun _ iv _ => q.length - (intOf iv).toNat)
  case atStart => exact ⟨0, [], none, 0, Nat.zero_le _, rfl, rfl, rfl, World.ownsRow_nil _ _ _ _, Below.refl _ _⟩
  case round =>
    obtain ⟨j, T, at1, ct, hj, rfl, HT, rfl, hT, hb⟩ := hrel
    have hTl : T.length ≤ 90000 := by
      have := atL_len (q.take j) g
      rw [HT.out]
      simp at this
      omega
    by_cases hlt : j < q.length
    · obtain ⟨b0, o0, e0, hb0, hc⟩ := HP.out.below hb (by omega)
      obtain ⟨x1, x2⟩ := hc j hlt
      clear hc
      subst e0
      have hs := hb.size
      by_cases cq : (q.getD j (0, 0)).1 = g
      · have HT' : Hid (T ++ [(q.getD j (0, 0)).2] = atL (q.take (j + 1)) g) := by show _ = _; rw [atL_yes q g j hlt cq, HT.out]
        rw [cq] at x1
        generalize (q.getD j (0, 0)).2 = z at x2 HT'
        clear cq
        have hT1 := row_alloc hT (.cells #[.int .i64 g, .int .i64 z] 96)
        have hb1 := hb.alloc hs (.cells #[.int .i64 g, .int .i64 z] 96)
        go_wp2_with (at_builtin; refine wpList_append_own_at _ rfl _ _ 109 rfl w.heap.size 2 i0 (.int .i64 0) 1 8 Try.underlying109 hi hz0 hz1 hz2 rfl (by decide) (.slice at1 T.length ct) T.length (T.map (Value.int .i64)) rfl (row_alloc hT1 _) ⟨wr.heap.size + 1, 0, none⟩ 1 1 [.int .i64 z] rfl rfl ?_ ?_ ?_ ?_ ?_ ?_; (intro j u hj; match j, hj with | 0, hj => (simp at hj; subst hj; simp [Addr.add])); (intro u hu; simp at hu; subst hu; rfl); (unfold maxLen; omega); omega; (simp; omega); intro v' w4 hown4 hgrow4 _ hloc4; obtain ⟨b4, cap4, ev4⟩ := row_shape hown4 (Nat.succ_pos _); subst ev4)
        have hT4 : w4.ownsRow w.heap.size 2 1 (.slice (some ⟨b4, 0, none⟩) (T ++ [z]).length cap4) (T ++ [z]).length ((T ++ [z]).map (Value.int .i64)) := by simpa using hown4
        have hb4 := (hb1.alloc hb1.size _).grown hgrow4 (by simp; omega) (fun k e => (row_lt hT k e.symm).1)
        clear hown4 hgrow4 hloc4 hT hT1 hb hb1 x1 x2
        go_wp2_with fail
        go_roundw
        case rel => exact ⟨j + 1, T ++ [z], some ⟨b4, 0, none⟩, cap4, by omega, by go_num, HT', by simp, hT4, hb4⟩
        case measure => simp [intOf]; omega
      · have HT' : Hid (T = atL (q.take (j + 1)) g) := by show _ = _; rw [atL_no q g j hlt cq, HT.out]
        generalize (q.getD j (0, 0)).1 = x at x1 cq
        generalize (q.getD j (0, 0)).2 = z at x2
        have hT1 := row_alloc hT (.cells #[.int .i64 x, .int .i64 z] 96)
        have hb1 := hb.alloc hs (.cells #[.int .i64 x, .int .i64 z] 96)
        clear hT hb
        go_wp2_with fail
        go_roundw
        case rel => exact ⟨j + 1, T, at1, ct, by omega, by go_num, HT', rfl, hT1, hb1⟩
        case measure => simp [intOf]; omega
    · obtain rfl : j = q.length := by omega
      rw [List.take_length] at HT
      go_wp2_with fail
      go_ret
      rw [← HT.out]
      exact ⟨at1, ct, rfl, hT, hb⟩

end Go.Proofs.Ytjhnhbeimjnloaa

/- A walk in memory: its block, its map, its nodes; what may turn while it goes. -/
namespace Go.Proofs.Ytjhnhbeimjnloaa
open Go.RowKit W Kp Stl

section
variable {B : Nat} {w w' w'' : World}
end

def nb (ms : List Int) (a : Int) : Int := if ms.contains a = true then (ms.idxOf a : Int) else -1
section
variable {w0 w w' : World} {pk mq pw : Nat} {T : List Int} {s : Vst} {vn : Value} {m : List Vnd}
end

end Go.Proofs.Ytjhnhbeimjnloaa

/- A walk begins: a contract. -/
namespace Go.Proofs.Ytjhnhbeimjnloaa
open Go.RowKit W Kp Stl

section
variable {w : World} {pw p q N O y g : Nat} {ws : List Int}

end

end Go.Proofs.Ytjhnhbeimjnloaa

/- What becomes of memory, and of the blocks that are its own. -/
namespace Go.Proofs.Ytjhnhbeimjnloaa
open Go.RowKit W Kp Stl

structure Tn (F : Nat → Prop) (w : World) (F' : Nat → Prop) (w' : World) : Prop where
  fr : Fr F w w'
  sub : ∀ b, F' b → F b ∨ w.heap.size ≤ b
theorem Tn.trans {F F' F'' : Nat → Prop} {w w' w'' : World} (h : Tn F w F' w') (k : Tn F' w' F'' w'') : Tn F w F'' w'' :=
  ⟨h.fr.trans k.fr h.sub, fun b hb => (k.sub b hb).elim (h.sub b) (fun c => Or.inr (Nat.le_trans h.fr.size c))⟩
theorem Tn.of {F : Nat → Prop} {w w' : World} (h : Below w.heap.size w w') : Tn F w F w' := ⟨Fr.of h, fun _ h => Or.inl h⟩
theorem Tn.below {F F' : Nat → Prop} {w w' w'' : World} (h : Tn F w F' w') (hb : Below w'.heap.size w' w'') : Tn F w F' w'' := h.trans (Tn.of hb)
theorem row_front {w : World} {base g n cap : Nat} {e : TypeId} {xs : List Value} (h : w.ownsRow base e 1 (.slice (some ⟨g, 0, none⟩) n cap) n xs) (m : Nat) (hm : m ≤ n) : w.ownsRow base e 1 (.slice (some ⟨g, 0, none⟩) m cap) m (xs.take m) := by
  obtain ⟨h1, h2⟩ := h
  rcases h2 with ⟨hv, _⟩ | ⟨g', cap', cur, hv, hb, hh, h3, h4, h5, h6⟩
  · simp at hv
  · simp at hv
    obtain ⟨rfl, rfl⟩ := hv
    refine ⟨by rw [List.length_take]; omega, Or.inr ⟨g, cap, cur, rfl, hb, hh, by omega, h4, h5, ?_⟩⟩
    rw [← h6, List.take_take]
    congr 1
    omega
theorem row_caps {w : World} {base g n cap : Nat} {e : TypeId} {xs : List Value} (h : w.ownsRow base e 1 (.slice (some ⟨g, 0, none⟩) n cap) n xs) : n ≤ cap ∧ cap ≤ maxLen := by
  rcases h.2 with ⟨hv, _⟩ | ⟨g', cap', cur, hv, hb, hh, h3, h4, h5, h6⟩
  · simp at hv
  · simp at hv
    obtain ⟨rfl, rfl⟩ := hv
    exact ⟨h3, h4⟩

end Go.Proofs.Ytjhnhbeimjnloaa

/- A small cut in memory: its blocks by labels, what turns and what stays. -/
namespace Go.Proofs.Ytjhnhbeimjnloaa
open Go.RowKit W Kp Stl


structure Cc where
  pk : Nat
  mq : Nat
  pw : Nat
  p : Nat
  q : Nat
  pc : Nat
  pq : Nat
  sd : Nat
  nb : Nat
  c : Int
  M : List Int

section
variable {c : Cc} {k : Ck} {own : Nat → Nat} {s : Cs} {vw ve : Value} {w w' : World}

end

section
variable {c : Cc} {k : Ck} {vw ve : Value} {F : Nat → Prop} {s : Cs} {w w' : World}

end

end Go.Proofs.Ytjhnhbeimjnloaa

/- The document's world in memory, by labels. -/
namespace Go.Proofs.Ytjhnhbeimjnloaa
open Go.RowKit W Kp Stl

abbrev Tnd := Tw1 × Option Addr × Nat
def tv (m : List Tnd) : List Value := m.flatMap fun x => [.int .i64 x.1.1, .slice x.2.1 x.1.2.1.length x.2.2, .bool x.1.2.2.1, .bool x.1.2.2.2]
section
variable {rp rb : Nat} {most grow : Int} {own : Nat → Nat} {s : Wrs} {m : List Tnd} {vT v2 v3 : Value} {w w' : World}

end

section
variable {rp rb : Nat} {most grow : Int} {F : Nat → Prop} {s : Wrs} {w w' : World}

end

end Go.Proofs.Ytjhnhbeimjnloaa

/- A heap: Uses, Check, and the document's UsesOf, StepFault: contracts. -/
namespace Go.Proofs.Ytjhnhbeimjnloaa
open Go.RowKit W Kp Stl

def usK (k : Int) : Int :=
  if k = 1 ∨ k = 2 ∨ k = 8 then 1 else if k = 3 ∨ k = 5 ∨ k = 10 ∨ k = 11 ∨ k = 13 then 3 else if k = 4 ∨ k = 6 ∨ k = 7 ∨ k = 14 then 7
  else if k = 9 ∨ k = 12 then 6 else if k = 15 ∨ k = 16 then 0 else -1
def ckN (k n : Int) : Int := if k = 1 then vc 1 n else if k = 5 then hc 2 n else 0
def rtB (r : Int) : Bool := decide (0 ≤ r) && decide (r < 12)
def ckC (k R A B n : Int) : Int :=
  if usK k = -1 then 2 else if (decide (usK k = 1 ∨ usK k = 3 ∨ usK k = 7) && !rtB R) || (decide (usK k = 3 ∨ usK k = 6 ∨ usK k = 7) && !rtB A) || (decide (usK k = 6 ∨ usK k = 7) && !rtB B) then 1 else ckN k n
theorem kind_all (k : Int) : k = 1 ∨ k = 2 ∨ k = 3 ∨ k = 4 ∨ k = 5 ∨ k = 6 ∨ k = 7 ∨ k = 8 ∨ k = 9 ∨ k = 10 ∨ k = 11 ∨ k = 12 ∨ k = 13 ∨ k = 14 ∨ k = 15 ∨ k = 16 ∨ (k < 1 ∨ 16 < k) := by omega
theorem usK_no {k : Int} (h : k < 1 ∨ 16 < k) : usK k = -1 := by
  unfold usK
  rw [if_neg (by omega), if_neg (by omega), if_neg (by omega), if_neg (by omega), if_neg (by omega)]

set_option maxRecDepth 100000 in
set_option maxHeartbeats 1000000 in
theorem usesH_any (k : Int) (w : World) : Calls Try.prog 36 #[.int .i64 k] w fun e w' => e = .returned (.int .i64 (usK k)) ∧ w' = w := by
  rcases kind_all k with rfl | rfl | rfl | rfl | rfl | rfl | rfl | rfl | rfl | rfl | rfl | rfl | rfl | rfl | rfl | rfl | h
  case' inr.inr.inr.inr.inr.inr.inr.inr.inr.inr.inr.inr.inr.inr.inr.inr =>
    rw [usK_no h]
    have h1 : ¬ k = 1 := by omega
    have h2 : ¬ k = 2 := by omega
    have h3 : ¬ k = 3 := by omega
    have h4 : ¬ k = 4 := by omega
    have h5 : ¬ k = 5 := by omega
    have h6 : ¬ k = 6 := by omega
    have h7 : ¬ k = 7 := by omega
    have h8 : ¬ k = 8 := by omega
    have h9 : ¬ k = 9 := by omega
    have h10 : ¬ k = 10 := by omega
    have h11 : ¬ k = 11 := by omega
    have h12 : ¬ k = 12 := by omega
    have h13 : ¬ k = 13 := by omega
    have h14 : ¬ k = 14 := by omega
    have h15 : ¬ k = 15 := by omega
    have h16 : ¬ k = 16 := by omega
    clear h
  all_goals
    go_enter Try.func36, Try.ntmps36
    go_wp2_with fail
    go_ret
    exact ⟨rfl, rfl⟩
set_option maxRecDepth 100000 in
theorem isRoot_any (r : Int) (w : World) : Calls Try.prog 37 #[.int .i64 r] w fun e w' => e = .returned (.bool (rtB r)) ∧ w' = w := by
  by_cases h0 : 0 ≤ r
  · by_cases h1 : r < 12
    · have e : rtB r = true := by unfold rtB; rw [decide_eq_true h0, decide_eq_true h1]; rfl
      rw [e]
      go_enter Try.func37, Try.ntmps37
      go_wp2_with fail
      go_ret
      exact ⟨rfl, rfl⟩
    · have e : rtB r = false := by unfold rtB; rw [decide_eq_false h1, Bool.and_false]
      rw [e]
      go_enter Try.func37, Try.ntmps37
      go_wp2_with fail
      go_ret
      exact ⟨rfl, rfl⟩
  · have e : rtB r = false := by unfold rtB; rw [decide_eq_false h0, Bool.false_and]
    rw [e]
    go_enter Try.func37, Try.ntmps37
    go_wp2_with fail
    go_ret
    exact ⟨rfl, rfl⟩

end Go.Proofs.Ytjhnhbeimjnloaa

/- Steps of the document's world, of lists: what a step leaves, what it tells. -/
namespace Go.Proofs.Ytjhnhbeimjnloaa
open Go.RowKit W Kp Stl

abbrev Gfn := List Tw1 → List En → List Bool → List Bool
def gdb (T : List Tw1) (v : Int × Int) : Bool := v.1 == 3 && (T.getD v.2.toNat t0).1 == 5
def fdb (T : List Tw1) (v : Int × Int) : Bool := v.1 == 3 && !((T.getD v.2.toNat t0).1 == 5)
theorem gdb_iff {T : List Tw1} {v : Int × Int} : gdb T v = true ↔ v.1 = 3 ∧ (T.getD v.2.toNat t0).1 = 5 := by
  unfold gdb
  generalize (T.getD v.2.toNat t0).1 = k
  simp
theorem fdb_iff {T : List Tw1} {v : Int × Int} : fdb T v = true ↔ v.1 = 3 ∧ (T.getD v.2.toNat t0).1 ≠ 5 := by
  unfold fdb
  generalize (T.getD v.2.toNat t0).1 = k
  simp
abbrev stf (T : List Tw1) (j i : Nat) (y : Int × Int) : List Tw1 := T.set j ((T.getD j t0).1, (T.getD j t0).2.1.set i y, (T.getD j t0).2.2)
def Wrs.room (g : Gfn) (most grow : Int) (s : Wrs) (m : Int) : Int × Wrs :=
  if m ≤ most - (usd s.T).1 then (0, s) else (s.ccd (g s.T s.wt) grow (decide (grow - (usd s.T).2 < (usd s.T).1)), s.cut (g s.T s.wt) grow (decide (grow - (usd s.T).2 < (usd s.T).1)))
def Wrs.put (s : Wrs) (kd : Int) (l : List (Int × Int)) : Wrs := { s with T := s.T ++ [(kd, l, false, false)] }
def Wrs.grow (g : Gfn) (most grow : Int) (s : Wrs) (kd : Int) (l : List (Int × Int)) : (Int × Int) × Int × Wrs :=
  if (s.room g most grow (1 + l.length)).1 = 0 then ((3, ((s.room g most grow (1 + l.length)).2.T.length : Int)), 0, (s.room g most grow (1 + l.length)).2.put kd l)
  else ((0, 0), (s.room g most grow (1 + l.length)).1, (s.room g most grow (1 + l.length)).2)
def Wrs.pop (s : Wrs) (v : Int × Int) : (Int × Int) × Int × Wrs :=
  if gdb s.T v = true then (if pqI v.2 s.wt < s.wt.length then ((3, (s.wt.getD (pqI v.2 s.wt) (0, 0)).2), 0, { s with wt := s.wt.take (pqI v.2 s.wt) ++ s.wt.drop (pqI v.2 s.wt + 1) }) else ((0, 0), 4, s)) else ((0, 0), 2, s)
def Wrs.fc (s : Wrs) (v : Int × Int) (I : Int) : Int := if fdb s.T v = true then (if I < 0 ∨ ((s.T.getD v.2.toNat t0).2.1.length : Int) ≤ I then 1 else 0) else 2
def Wrs.rt (g : Gfn) (most grow : Int) (s : Wrs) (k : Int) (A B : Nat) (I n : Int) : (Int × Int) × Int × Wrs :=
  if k = 1 then ((1, n), 0, s) else if k = 3 then (s.rs.getD A (0, 0), 0, s) else if k = 4 then s.grow g most grow 1 [s.rs.getD A (0, 0), s.rs.getD B (0, 0)] else if k = 5 then s.grow g most grow 2 (List.replicate n.toNat (s.rs.getD A (0, 0)))
  else if k = 6 then s.grow g most grow 3 [s.rs.getD A (0, 0), s.rs.getD B (0, 0)] else if k = 7 then s.grow g most grow 4 [s.rs.getD A (0, 0), s.rs.getD B (0, 0)] else if k = 8 then s.grow g most grow 5 [] else if k = 10 then s.pop (s.rs.getD A (0, 0))
  else if k = 11 then ((if s.fc (s.rs.getD A (0, 0)) I = 0 then (s.T.getD (s.rs.getD A (0, 0)).2.toNat t0).2.1.getD I.toNat (0, 0) else (0, 0)), s.fc (s.rs.getD A (0, 0)) I, s)
  else if k = 13 then (if fdb s.T (s.rs.getD A (0, 0)) = true then ((1, ((s.T.getD (s.rs.getD A (0, 0)).2.toNat t0).2.1.length : Int)), 0, s) else ((0, 0), 2, s))
  else if k = 14 then ((1, if s.rs.getD A (0, 0) = s.rs.getD B (0, 0) then 1 else 0), 0, s) else ((0, 0), 0, s)
def Wrs.reg (s : Wrs) (t d : Int × Int) : Int × Wrs :=
  if t.1 = 3 ∧ gdb s.T d = true then (if 24 ≤ s.rg.length + s.wt.length then (3, s) else (0, { s with rg := s.rg ++ [(d.2, t.2)] })) else (2, s)
def Wrs.set (s : Wrs) (v : Int × Int) (I : Int) (y : Int × Int) : Int × Wrs := (s.fc v I, if s.fc v I = 0 then { s with T := stf s.T v.2.toNat I.toNat y } else s)
def Wrs.dos (g : Gfn) (most grow : Int) (s : Wrs) (k R A B I n : Int) : Int × Wrs :=
  if ckC k R A B n = 0 then (if k = 9 then s.reg (s.rs.getD A.toNat (0, 0)) (s.rs.getD B.toNat (0, 0)) else if k = 12 then s.set (s.rs.getD A.toNat (0, 0)) I (s.rs.getD B.toNat (0, 0))
    else if k = 15 then (s.ccd (g s.T s.wt) grow false, s.cut (g s.T s.wt) grow false) else if k = 16 then (s.ccd (g s.T s.wt) grow true, s.cut (g s.T s.wt) grow true)
    else if (s.rt g most grow k A.toNat B.toNat I n).2.1 = 0 then (0, { (s.rt g most grow k A.toNat B.toNat I n).2.2 with rs := (s.rt g most grow k A.toNat B.toNat I n).2.2.rs.set R.toNat (s.rt g most grow k A.toNat B.toNat I n).1 })
    else ((s.rt g most grow k A.toNat B.toNat I n).2.1, (s.rt g most grow k A.toNat B.toNat I n).2.2))
  else (ckC k R A B n, s)

end Go.Proofs.Ytjhnhbeimjnloaa

/- What a walk shows: lists. -/
namespace Go.Proofs.Ytjhnhbeimjnloaa
open Go.RowKit W Kp Stl

def wI (v : Int × Int) : Int := ew v.1 v.2
def Vq (T : List Tw1) (v : Int × Int) : Prop := vc v.1 v.2 = 0 ∧ (v.1 = 3 → 0 ≤ v.2 ∧ Alv T v.2.toNat)
theorem Vq.lt {T : List Tw1} {v : Int × Int} (h : Vq T v) (h3 : v.1 = 3) : 0 ≤ v.2 ∧ v.2 < T.length := by
  obtain ⟨h0, h1⟩ := h.2 h3
  have := h1.1
  exact ⟨h0, by omega⟩
def tI (n : Nat) : List Int := (List.range n).map (fun i : Nat => (i : Int))
theorem tI_mem {n : Nat} {a : Int} : a ∈ tI n ↔ 0 ≤ a ∧ a < n := by
  unfold tI
  simp only [List.mem_map, List.mem_range]
  constructor
  · rintro ⟨i, hi, e⟩
    omega
  · rintro ⟨h0, h1⟩
    exact ⟨a.toNat, by omega, by omega⟩
theorem tI_len (n : Nat) : (tI n).length = n := by simp [tI]
def kdW (T : List Tw1) (a : Int) : Int := (T.getD a.toNat t0).1
def shW (T : List Tw1) (wt : List En) (a : Int) : List Int := ((T.getD a.toNat t0).2.1.map wI) ++ (if (T.getD a.toNat t0).1 = 5 then (wt.filter (fun e => e.1 == a)).map (fun e => ew 3 e.2) else [])
structure Wvw (T : List Tw1) (wt : List En) : Prop where
  fv : ∀ i, Alv T i → ∀ v ∈ (T.getD i t0).2.1, Vq T v
  wv : ∀ e ∈ wt, 0 ≤ e.1 ∧ 0 ≤ e.2 ∧ Alv T e.2.toNat
  tl : ∀ i, (T.getD i t0).2.1.length ≤ 12
  l1 : T.length ≤ 10000
  l2 : wt.length ≤ 10000
section
variable {T : List Tw1} {M : Vst → Int → Vst} {s : Vst} {v : Int × Int}
theorem wI_dec (h : Vq T v) : dk (wI v) = v.1 ∧ dn (wI v) = v.2 := (dec_enc _ _ h.1).2
theorem vst_o (h : Vq T v) (h3 : v.1 ≠ 3) : vst M (tI T.length) s (wI v) = (v, s) := by
  unfold vst
  rw [(wI_dec h).1, (wI_dec h).2, if_neg h3]
theorem vst_met (h : Vq T v) (h3 : v.1 = 3) (hs : s.1.contains v.2 = true) : vst M (tI T.length) s (wI v) = ((3, (s.1.idxOf v.2 : Int)), s) := by
  unfold vst
  rw [(wI_dec h).1, (wI_dec h).2, if_pos h3, if_pos (List.contains_iff_mem.2 (tI_mem.2 (h.lt h3))), if_pos hs]
theorem vst_new (h : Vq T v) (h3 : v.1 = 3) (hs : s.1.contains v.2 = false) : vst M (tI T.length) s (wI v) = ((3, (s.1.length : Int)), M s v.2) := by
  unfold vst
  rw [(wI_dec h).1, (wI_dec h).2, if_pos h3, if_pos (List.contains_iff_mem.2 (tI_mem.2 (h.lt h3))), if_neg (by rw [hs]; simp)]
end

def Vr4.vwW (T : List Tw1) (wt : List En) (l : List (Int × Int)) : List (Int × Int) × Vst := vls (met (tI T.length) (kdW T) (shW T wt) T.length) (tI T.length) ([], []) (l.map wI)

end Go.Proofs.Ytjhnhbeimjnloaa

/- The document's world, cut: what is kept is closed, and the least such; lists alone. -/
namespace Go.Proofs.Ytjhnhbeimjnloaa
open Go.RowKit W Kp Stl

theorem gokx {T : List Tw1} {wt : List En} (hW : Wiv T wt) : ∃ g, Gok T wt g := by
  classical
  refine ⟨fun is => (List.range is.length).map (fun i => decide (∀ X : Nat → Prop, Cls T wt X → (∀ k, Ls_ is k → X k) → X i)), fun is hl hal => ?_⟩
  have key : ∀ i, Ls_ ((List.range is.length).map (fun i => decide (∀ X : Nat → Prop, Cls T wt X → (∀ k, Ls_ is k → X k) → X i))) i ↔ i < is.length ∧ ∀ X : Nat → Prop, Cls T wt X → (∀ k, Ls_ is k → X k) → X i := by
    intro i
    unfold Ls_
    by_cases hi : i < is.length
    · rw [List.getD_eq_getElem?_getD, List.getElem?_map, List.getElem?_range hi]
      simp [hi]
    · rw [List.getD_eq_getElem?_getD, List.getElem?_eq_none (by simpa using hi)]
      simp [hi]
  refine ⟨by simp, fun i hi => (key i).2 ⟨hi.lt, fun X _ hX => hX i hi⟩, fun i hi hx v hv h3 => ?_, fun X hX hs i hi => ((key i).1 hi).2 X hX hs⟩
  have k2 : ∀ X : Nat → Prop, Cls T wt X → (∀ k, Ls_ is k → X k) → X v.2.toNat := fun X hX hs => hX i hi (((key i).1 hx).2 X hX hs) v (hv.mono (fun k hk => ((key k).1 hk).2 X hX hs)) h3
  exact (key _).2 ⟨by rw [hl]; exact (k2 (Alv T) hW.cls hal).1, k2⟩
theorem gfn_ex : ∃ g : Gfn, ∀ T wt, Wiv T wt → Gok T wt (g T wt) := by
  classical
  refine ⟨fun T wt => if h : ∃ g, Gok T wt g then h.choose else id, fun T wt hW => ?_⟩
  have h := gokx hW
  dsimp only
  rw [dif_pos h]
  exact h.choose_spec

section
variable {σ : Type} {is : σ → Int → Bool} {kp : σ → Int → σ} {I : σ → List En → Prop} {R : List En}
theorem pass_ic (hk : ∀ s C e, I s C → e ∈ R → is s e.1 = true → I (kp s e.2) (C ++ [e])) : ∀ (l : List En) (s : σ) (C D : List En), (∀ e ∈ l, e ∈ R) → I s C → I (Stl.pass is kp l s C D).1 (Stl.pass is kp l s C D).2.1
  | [], _, _, _, _, h => h
  | e :: r, s, C, D, hR, h => by
    unfold Stl.pass
    have hr : ∀ x ∈ r, x ∈ R := fun x hx => hR x (List.mem_cons_of_mem _ hx)
    split
    · rename_i c
      exact pass_ic hk r _ _ _ hr (hk s C e h (hR e (by simp)) c)
    · exact pass_ic hk r _ _ _ hr h
theorem turns_ic (hk : ∀ s C e, I s C → e ∈ R → is s e.1 = true → I (kp s e.2) (C ++ [e])) : ∀ (n : Nat) (D : List En) (s : σ) (C : List En), (∀ e ∈ D, e ∈ R) → I s C → I (Stl.turns is kp n D s C).1 (Stl.turns is kp n D s C).2.1
  | 0, _, _, _, _, h => h
  | n + 1, D, s, C, hR, h => by
    have h1 := pass_ic hk D s C [] hR h
    unfold Stl.turns
    split
    · exact h1
    · exact turns_ic hk n _ _ _ (fun e he => hR e (pass_left _ _ D s C e he)) h1
end

structure Ci (s : Wrs) (g : List Bool → List Bool) (mj : Bool) (L : List Bool) (C : List En) : Prop where
  ok : Sok_ s.T L
  up : ∀ k, Ls_ (s.c0 g mj) k → Ls_ L k
  cl : Cls s.T s.wt (Ls_ L)
  cC : ∀ e ∈ C, e ∈ s.rg ∧ Ls_ L e.1.toNat ∧ Ls_ L e.2.toNat
  lt : ∀ X, Cls s.T s.wt X → (∀ k, Ls_ (s.c0 g mj) k → X k) → (∀ e ∈ s.rg, isd (s.c0 g mj) e.2 = false → X e.2.toNat) → ∀ k, Ls_ L k → X k
theorem c0_ok {s : Wrs} (h : Wcv s) {g : List Bool → List Bool} (hg : Gok s.T s.wt g) (mj : Bool) : Grn s.T s.wt (frs s.T s.rs mj) (s.c0 g mj) ∧ Sok_ s.T (s.c0 g mj) := by
  have hf := h.first mj
  exact ⟨hg _ hf.len hf.al, (hg.ok h.iv hf).1⟩
theorem cR_ci {s : Wrs} (h : Wcv s) {g : List Bool → List Bool} (hg : Gok s.T s.wt g) (mj : Bool) : Ci s g mj (s.cR g mj).1 (s.cR g mj).2.1 := by
  obtain ⟨h1, h2⟩ := c0_ok h hg mj
  unfold Wrs.cR
  refine turns_ic (I := fun L C => Ci s g mj L C) (R := s.rg.filter (fun e => !isd (s.c0 g mj) e.2)) (fun L C e hI he his => ?_) _ _ _ _ (fun e he => he) ⟨h2, fun k hk => hk, h1.cl, fun e he => by simp at he, fun X _ hX _ k hk => hX k hk⟩
  obtain ⟨he, hn⟩ := List.mem_filter.1 he
  have hn : isd (s.c0 g mj) e.2 = false := by simpa using hn
  have ha := (h.gv e he).2
  obtain ⟨p1, p2, p3⟩ := hI.ok.put ha.2
  have hG := hg _ p1.len p1.al
  have hu : ∀ k, Ls_ L k → Ls_ (kpg g L e.2) k := fun k hk => hG.up k (p3 k hk)
  refine ⟨(hg.ok h.iv p1).1, fun k hk => hu k (hI.up k hk), hG.cl, fun x hx => ?_, fun X hX h0 hR k hk => ?_⟩
  · rcases List.mem_append.1 hx with hx | hx
    · obtain ⟨q1, q2, q3⟩ := hI.cC x hx
      exact ⟨q1, hu _ q2, hu _ q3⟩
    · rw [List.mem_singleton.1 hx]
      exact ⟨he, hu _ his, hG.up _ p2⟩
  · refine hG.lt X hX (fun i hi => ?_) k hk
    unfold Ls_ at hi
    rw [getD_setB _ _ _ (by rw [hI.ok.len]; exact ha.2.1)] at hi
    split at hi
    · rename_i e1
      rw [← e1]
      exact hR e he hn
    · exact hI.lt X hX h0 hR i hi
theorem cR_len (s : Wrs) (g : List Bool → List Bool) (mj : Bool) : (s.cR g mj).2.1.length ≤ (s.rg.filter (fun e => !isd (s.c0 g mj) e.2)).length := by
  have := turns_len (is := isd) (kp := kpg g) (s.rg.length + 1) (s.rg.filter (fun e => !isd (s.c0 g mj) e.2)) (s.c0 g mj) []
  unfold Wrs.cR
  simp only [List.length_nil] at this
  omega
theorem c0_root {s : Wrs} (h : Wcv s) {g : List Bool → List Bool} (hg : Gok s.T s.wt g) (mj : Bool) {v : Int × Int} (hv : v ∈ s.rs) (h3 : v.1 = 3) : Ls_ (s.c0 g mj) v.2.toNat :=
  (c0_ok h hg mj).1.up _ ((frs_in _ _ _ _).2 ⟨(h.rv v hv h3).2.1, Or.inr ⟨v, hv, h3, rfl⟩⟩)

theorem cuL_at (L : List Bool) (T : List Tw1) (i : Nat) : (cuL L T T.length).getD i t0 = if i < T.length then cuT L i (T.getD i t0) else t0 := by
  by_cases h : i < T.length
  · rw [cuL_get L T T.length i (Nat.le_refl _) h, if_pos h, if_pos h]
  · rw [if_neg h, List.getD_eq_getElem?_getD, List.getElem?_eq_none (by rw [cuL_len]; omega)]
    rfl
theorem cuT_n {L : List Bool} {i : Nat} {t : Tw1} (hL : L.getD i false = false) : cuT L i t = (t.1, [], t.2.2.1, true) := by
  unfold cuT
  rw [if_neg (by rw [hL]; simp)]
theorem cuT_k (L : List Bool) (i : Nat) (t : Tw1) : (cuT L i t).1 = t.1 := by
  unfold cuT
  split <;> rfl
theorem cuT_y {L : List Bool} {i : Nat} {t : Tw1} (hL : L.getD i false = true) : (cuT L i t).2.2 = (true, t.2.2.2) := by
  unfold cuT
  rw [if_pos hL]
theorem cu_alv {T : List Tw1} {L : List Bool} (h : Sok_ T L) (i : Nat) : Alv (cuL L T T.length) i ↔ Ls_ L i := by
  unfold Alv
  rw [cuL_len, cuL_at]
  constructor
  · rintro ⟨h1, h2⟩
    rw [if_pos h1] at h2
    unfold Ls_
    cases c : L.getD i false
    · rw [cuT_n c] at h2
      cases h2
    · rfl
  · intro hi
    have ha := h.al i hi
    refine ⟨ha.1, ?_⟩
    rw [if_pos ha.1, cuT_y hi]
    exact ha.2
theorem cuT_f {L : List Bool} {i : Nat} {t : Tw1} (hL : L.getD i false = true) :
    (t.1 = 4 ∧ inS L (t.2.1.getD 0 (0, 0)) = false ∧ (cuT L i t).2.1 = [(2, 0), (2, 0)]) ∨ (t.1 = 3 ∧ inS L (t.2.1.getD 0 (0, 0)) = false ∧ (cuT L i t).2.1 = [(2, 0), t.2.1.getD 1 (0, 0)]) ∨ ((t.1 = 3 ∨ t.1 = 4 → inS L (t.2.1.getD 0 (0, 0)) = true) ∧ (cuT L i t).2.1 = t.2.1) := by
  unfold cuT
  rw [if_pos hL]
  dsimp only
  by_cases c4 : t.1 = 4 ∧ inS L (t.2.1.getD 0 (0, 0)) = false
  · rw [if_pos c4]
    exact Or.inl ⟨c4.1, c4.2, rfl⟩
  · rw [if_neg c4]
    by_cases c3 : t.1 = 3 ∧ inS L (t.2.1.getD 0 (0, 0)) = false
    · rw [if_pos c3]
      exact Or.inr (Or.inl ⟨c3.1, c3.2, rfl⟩)
    · rw [if_neg c3]
      refine Or.inr (Or.inr ⟨fun h => ?_, rfl⟩)
      cases c : inS L (t.2.1.getD 0 (0, 0))
      · rcases h with h | h
        · exact absurd ⟨h, c⟩ c3
        · exact absurd ⟨h, c⟩ c4
      · rfl

end Go.Proofs.Ytjhnhbeimjnloaa
