/- Joined: Sw3, Wo1, Wo2, Wo3, Wl. -/
import Derived.Test.YtakofbkmhmcnfabGreatJ04
import Derived.Deep.RegionLawGrows
import Derived.Deep.AppendLies
import Derived.Laws.OwnMore
import Derived.Test.YtakofbkmhmcnfabGreatJ03
/- append of a list that came in, nil or not, onto a row of its own: laws for the walk. -/
namespace Go.Proofs.YtakofbkmhmcnfabGreat
open Go.RowKit W Kp Stl

section
variable {P : Program} (w : World)

theorem run_append_src (base : Nat) (t ty e : TypeId) (i : TypeInfo) (z : Value) (size bytes : Nat) (ht : P.underlying t = some (.slice e)) (hi : P.info? e = some i) (hz : i.zero = some z)
    (hsize : i.size = size) (hby : i.bytes = bytes) (hzs : z.cells.size = size) (hsz : 0 < size)
    (v : Value) (n : Nat) (xs : List Value) (hown : w.ownsRow base e size v n xs)
    (ad : Option Addr) (m c : Nat) (news : List Value) (hl : news.length = m * size) (hnone : ad = none → m = 0 ∧ c = 0) (hnews : ∀ a, ad = some a → ∀ j u, news[j]? = some u → w.cell? (a.add j) = some u) (h1 : ∀ u ∈ news, u.oneCell' = true)
    (h63 : n + m ≤ maxLen) (hbytes : (n + m) * bytes ≤ 140737488355328) (hbase : base ≤ w.heap.size) :
    ∃ a' c' w', (Builtin.append_ #[t, t] ty #[v, .slice ad m c]).run P w = .ok (.slice a' (n + m) c') w' ∧ w'.ownsRow base e size (.slice a' (n + m) c') (n + m) (xs ++ news) ∧ w.grownBy w' v.ownBlock ∧ ((Value.slice a' (n + m) c').ownBlock = v.ownBlock ∨ (Value.slice a' (n + m) c').ownBlock = some w.heap.size) := by
  cases ad with
  | some a =>
    obtain ⟨v', w', hr, h2, h3, _, h5⟩ := run_append_own_at (P := P) w base t ty e i z size bytes ht hi hz hsize hby hzs hsz v n xs hown a m c news hl (hnews a rfl) h1 h63 hbytes hbase
    obtain ⟨a', c', rfl⟩ := row_slice h2
    exact ⟨a', c', w', hr, h2, h3, h5⟩
  | none =>
    obtain ⟨rfl, rfl⟩ := hnone rfl
    have hn : news = [] := List.eq_nil_of_length_eq_zero (by simpa using hl)
    subst hn
    have hr := run_append_owned_none (P := P) w base t ty e i size ht hi v n xs hown
    obtain ⟨a', c', rfl⟩ := row_slice hown
    exact ⟨a', c', w, hr, by simpa using hown, ⟨rfl, rfl, rfl, Nat.le_refl _, fun _ _ _ => rfl⟩, Or.inl rfl⟩

theorem wp_append_src {o : Oper} {a : Act} {K : Act → World → Prop} {Q : Exit → Act → World → Prop} (s x : Operand) (t : TypeId)
    (ho : o.op = .call { callee := .builtin .append, args := #[s, x], argTypes := #[t, t] })
    (base : Nat) (e : TypeId) (i : TypeInfo) (z : Value) (size bytes : Nat) (ht : P.underlying t = some (.slice e)) (hi : P.info? e = some i) (hz : i.zero = some z)
    (hsize : i.size = size) (hby : i.bytes = bytes) (hzs : z.cells.size = size) (hsz : 0 < size)
    (v : Value) (n : Nat) (xs : List Value) (hs : a.eval s = v) (hown : w.ownsRow base e size v n xs)
    (ad : Option Addr) (m c : Nat) (news : List Value) (hx : a.eval x = .slice ad m c) (hl : news.length = m * size) (hnone : ad = none → m = 0 ∧ c = 0) (hnews : ∀ a, ad = some a → ∀ j u, news[j]? = some u → w.cell? (a.add j) = some u) (h1 : ∀ u ∈ news, u.oneCell' = true)
    (h63 : n + m ≤ maxLen) (hbytes : (n + m) * bytes ≤ 140737488355328) (hbase : base ≤ w.heap.size)
    (h : ∀ a' c' w', w'.ownsRow base e size (.slice a' (n + m) c') (n + m) (xs ++ news) → w.grownBy w' v.ownBlock → ((Value.slice a' (n + m) c').ownBlock = v.ownBlock ∨ (Value.slice a' (n + m) c').ownBlock = some w.heap.size) → K (a.put o.dst (.slice a' (n + m) c')) w') : o.wp P a w K Q := by
  obtain ⟨a', c', w', hr, h2, h3, h4⟩ := run_append_src (P := P) w base t o.type e i z size bytes ht hi hz hsize hby hzs hsz v n xs hown ad m c news hl hnone hnews h1 h63 hbytes hbase
  unfold Oper.wp execOp
  simp only [ho, resolve, invoke, builtin, Sem.run_bind, Sem.run_pure, Result.andThen_ok, List.map_toArray, List.map_cons, List.map_nil, hs, hx, hr]
  exact h a' c' w' h2 h3 h4

/-- At the list of a plain region's operations. -/
theorem wpList_append_src {ops : Array Oper} {rest : List Oper} {o : Oper} {a : Act} {Q : Exit → Act → World → Prop} (hgd : o.guard = none) (s x : Operand) (t : TypeId)
    (ho : o.op = .call { callee := .builtin .append, args := #[s, x], argTypes := #[t, t] })
    (base : Nat) (e : TypeId) (i : TypeInfo) (z : Value) (size bytes : Nat) (ht : P.underlying t = some (.slice e)) (hi : P.info? e = some i) (hz : i.zero = some z)
    (hsize : i.size = size) (hby : i.bytes = bytes) (hzs : z.cells.size = size) (hsz : 0 < size)
    (v : Value) (n : Nat) (xs : List Value) (hs : a.eval s = v) (hown : w.ownsRow base e size v n xs)
    (ad : Option Addr) (m c : Nat) (news : List Value) (hx : a.eval x = .slice ad m c) (hl : news.length = m * size) (hnone : ad = none → m = 0 ∧ c = 0) (hnews : ∀ a, ad = some a → ∀ j u, news[j]? = some u → w.cell? (a.add j) = some u) (h1 : ∀ u ∈ news, u.oneCell' = true)
    (h63 : n + m ≤ maxLen) (hbytes : (n + m) * bytes ≤ 140737488355328) (hbase : base ≤ w.heap.size)
    (h : ∀ a' c' w', w'.ownsRow base e size (.slice a' (n + m) c') (n + m) (xs ++ news) → w.grownBy w' v.ownBlock → ((Value.slice a' (n + m) c').ownBlock = v.ownBlock ∨ (Value.slice a' (n + m) c').ownBlock = some w.heap.size) → wpList P ops Q rest (a.put o.dst (.slice a' (n + m) c')) w') : wpList P ops Q (o :: rest) a w :=
  wpList_plain hgd fun _ hK => wp_append_src w s x t ho base e i z size bytes ht hi hz hsize hby hzs hsz v n xs hs hown ad m c news hx hl hnone hnews h1 h63 hbytes hbase fun a' c' w' h2 h3 h4 => hK _ _ (h a' c' w' h2 h3 h4)

/-- At a step of a region that draws its order. -/
theorem step_append_src {ops : Array Oper} {o : Oper} {a : Act} {K : Act → World → Prop} {Q : Exit → Act → World → Prop} {E : Prop} (hgd : o.guard = none) (s x : Operand) (t : TypeId)
    (ho : o.op = .call { callee := .builtin .append, args := #[s, x], argTypes := #[t, t] })
    (base : Nat) (e : TypeId) (i : TypeInfo) (z : Value) (size bytes : Nat) (ht : P.underlying t = some (.slice e)) (hi : P.info? e = some i) (hz : i.zero = some z)
    (hsize : i.size = size) (hby : i.bytes = bytes) (hzs : z.cells.size = size) (hsz : 0 < size)
    (v : Value) (n : Nat) (xs : List Value) (hs : a.eval s = v) (hown : w.ownsRow base e size v n xs)
    (ad : Option Addr) (m c : Nat) (news : List Value) (hx : a.eval x = .slice ad m c) (hl : news.length = m * size) (hnone : ad = none → m = 0 ∧ c = 0) (hnews : ∀ a, ad = some a → ∀ j u, news[j]? = some u → w.cell? (a.add j) = some u) (h1 : ∀ u ∈ news, u.oneCell' = true)
    (h63 : n + m ≤ maxLen) (hbytes : (n + m) * bytes ≤ 140737488355328) (hbase : base ≤ w.heap.size)
    (h : ∀ a' c' w', w'.ownsRow base e size (.slice a' (n + m) c') (n + m) (xs ++ news) → w.grownBy w' v.ownBlock → ((Value.slice a' (n + m) c').ownBlock = v.ownBlock ∨ (Value.slice a' (n + m) c').ownBlock = some w.heap.size) → K (a.put o.dst (.slice a' (n + m) c')) w') :
    if Region.wanted o (yielded ops a.tmps) = true then Oper.wp P o a w K Q else E := by
  have hw : Region.wanted o (yielded ops a.tmps) = true := by simp [Region.wanted, hgd]
  rw [if_pos hw]
  exact wp_append_src w s x t ho base e i z size bytes ht hi hz hsize hby hzs hsz v n xs hs hown ad m c news hx hl hnone hnews h1 h63 hbytes hbase h

end

theorem Ls.cells {w : World} {ad : Option Addr} {l : List Int} (h : Ls w ad l) : ∀ a, ad = some a → ∀ j u, (l.map (Value.int .i64))[j]? = some u → w.cell? (a.add j) = some u := by
  intro a e j u hj
  have hjl : j < l.length := by simpa using (List.getElem?_eq_some_iff.1 hj).1
  obtain ⟨b, o, e2, hb, hc⟩ := h (by omega)
  rw [e] at e2
  cases e2
  have hx := hc j hjl
  rw [List.getElem?_map, List.getElem?_eq_getElem hjl] at hj
  simp at hj
  rw [Addr.add_lit, ← hj]
  simpa [List.getElem?_eq_getElem hjl] using hx
theorem Ls.below {w w' : World} {ad : Option Addr} {l : List Int} (h : Ls w ad l) (hb : Below w.heap.size w w') : Ls w' ad l :=
  h.keep hb.size (fun hp z e => by
    obtain ⟨b, o, e2, hlt, _⟩ := h hp
    rw [e] at e2
    cases e2
    exact hb.block _ hlt)
theorem ints_oneC (l : List Int) : ∀ u ∈ l.map (Value.int .i64), u.oneCell' = true := by
  intro u hu
  obtain ⟨x, _, rfl⟩ := List.mem_map.1 hu
  rfl

end Go.Proofs.YtakofbkmhmcnfabGreat

/- A wood: where a word leads; Kind: contracts. -/
namespace Go.Proofs.YtakofbkmhmcnfabGreat
open Go.RowKit W

set_option maxRecDepth 100000 in
set_option maxHeartbeats 400000 in
theorem indexI_any (w : World) (ad : Option Addr) (l : List Int) (cap : Nat) (v : Int) (h : Ls w ad l) (hm : l.length ≤ 100000) :
    Calls Tryz.prog 191 #[.slice ad l.length cap, .int .i64 v] w fun e w' => ∃ a : Int, e = .returned (.int .i64 a) ∧ decide (0 ≤ a) = l.contains v ∧ Below w.heap.size w w' := by
  have H : Hid (Ls w ad l) := h
  clear h
  go_enter Tryz.func191, Tryz.ntmps191
  go_wp2_with fail
  go_loopw [8] (fun iv wr => ∃ j : Nat, j ≤ l.length ∧ iv = .int .i64 j ∧ Hid (∀ i, i < j → ¬ l.getD i 0 = v) ∧ Below w.heap.size w wr) (fun iv _ => l.length - (intOf iv).toNat)
  case atStart => exact ⟨0, Nat.zero_le _, rfl, fun i h => by omega, Below.refl _ _⟩
  case round =>
    obtain ⟨j, hj, rfl, HN, hb⟩ := hrel
    by_cases hlt : j < l.length
    · obtain ⟨b0, o0, e0, hb0, hc⟩ := H.out.below hb (by omega)
      have x1 := hc j hlt
      subst e0
      have j0 : (0 : Int) ≤ (j : Int) := by omega
      have j1 : (j : Int) < (l.length : Int) := by omega
      by_cases hv : l.getD j 0 = v
      · have hin : l.contains v = true := by
          rw [List.contains_iff_mem, ← hv, List.getD_eq_getElem?_getD, List.getElem?_eq_getElem hlt]
          exact List.getElem_mem _
        rw [hv] at x1
        clear hc
        go_wp2_with fail
        go_ret
        exact ⟨j, rfl, by rw [hin]; simp, hb⟩
      · have HN' : Hid (∀ i, i < j + 1 → ¬ l.getD i 0 = v) := fun i hi => by
          by_cases c : i = j
          · rw [c]; exact hv
          · exact HN.out i (by omega)
        generalize l.getD j 0 = u at x1 hv
        have hv' : ¬ v = u := fun e => hv e.symm
        clear hc
        go_wp2_with fail
        go_roundw
        case rel => exact ⟨j + 1, by omega, by go_num, HN', hb⟩
        case measure => simp [intOf]; omega
    · obtain rfl : j = l.length := by omega
      have hin : l.contains v = false := by
        rw [Bool.eq_false_iff]
        intro hc
        rw [List.contains_iff_mem] at hc
        obtain ⟨i, hi, e⟩ := List.mem_iff_getElem.1 hc
        exact HN.out i hi (by simp [List.getElem?_eq_getElem hi, e])
      go_wp2_with fail
      go_ret
      exact ⟨-1, rfl, by rw [hin]; rfl, hb⟩

set_option maxRecDepth 100000 in
set_option maxHeartbeats 400000 in
theorem containsI_any (w : World) (ad : Option Addr) (l : List Int) (cap : Nat) (v : Int) (h : Ls w ad l) (hm : l.length ≤ 100000) :
    Calls Tryz.prog 172 #[.slice ad l.length cap, .int .i64 v] w fun e w' => e = .returned (.bool (l.contains v)) ∧ Below w.heap.size w w' := by
  have P := indexI_any w ad l cap v h hm
  clear h
  go_enter Tryz.func172, Tryz.ntmps172
  go_wp2_with fail
  refine P.mono ?_
  clear P
  rintro e w1 ⟨a, rfl, ha, hb1⟩
  have HA : Hid (decide (0 ≤ a) = l.contains v) := ha
  clear ha
  go_wp2_with fail
  go_ret
  exact ⟨by rw [← HA.out]; rfl, hb1⟩

/-- Does a word lead to a thing? -/
def tB (N y g : Nat) (ws : List Int) (x : Int) : Bool := aB x && ((thY N y g ws).contains (aV x) || (thO N y g ws).contains (aV x))
/-- Where it begins. -/
def tV (N y g : Nat) (ws : List Int) (x : Int) : Int := if tB N y g ws x = true then aV x else 0

set_option maxRecDepth 100000 in
set_option maxHeartbeats 400000 in
theorem thingAt_any {pw p q N O y g : Nat} {ws : List Int} (x : Int) (w : World) (hc : w.cell? ⟨pw, 0, none⟩ = some (.pointer (some ⟨p, 0, none⟩))) (h : At w p q N O y g ws) (hY : (thY N y g ws).length ≤ 100000) (hO : (thO N y g ws).length ≤ 100000) :
    Calls Tryz.prog 114 #[.pointer (some ⟨pw, 0, none⟩), .int .i64 x] w fun e w' => e = .returned (.tuple #[.int .i64 (tV N y g ws x), .bool (tB N y g ws x)]) ∧ Below w.heap.size w w' := by
  have HA : Hid (At w p q N O y g ws) := h
  have lpw := World.block_lt_of_cell? w _ hc
  clear h
  have P := at_any x w
  cases ha : aB x
  · have e1 : tB N y g ws x = false := by simp [tB, ha]
    have e2 : tV N y g ws x = 0 := by simp [tV, e1]
    rw [e1, e2]
    rw [ha] at P
    go_enter Tryz.func114, Tryz.ntmps114
    go_wp2_with fail
    refine P.mono ?_
    clear P
    rintro e w1 ⟨rfl, hb1⟩
    go_wp2_with fail
    go_ret2
    exact ⟨rfl, hb1⟩
  · rw [ha] at P
    have e1 : tB N y g ws x = ((thY N y g ws).contains (aV x) || (thO N y g ws).contains (aV x)) := by simp [tB, ha]
    have e2 : tV N y g ws x = if ((thY N y g ws).contains (aV x) || (thO N y g ws).contains (aV x)) = true then aV x else 0 := by unfold tV; rw [e1]
    rw [e1, e2]
    clear e1 e2
    generalize aV x = v at P
    obtain ⟨c1, hc1⟩ : ∃ b, (thY N y g ws).contains v = b := ⟨_, rfl⟩
    obtain ⟨c2, hc2⟩ : ∃ b, (thO N y g ws).contains v = b := ⟨_, rfl⟩
    rw [hc1, hc2]
    have HC1 : Hid ((thY N y g ws).contains v = c1) := hc1
    have HC2 : Hid ((thO N y g ws).contains v = c2) := hc2
    clear hc1 hc2
    have K : ∀ w1, Below w.heap.size w w1 → Calls Tryz.prog 24 #[.pointer (some ⟨p, 0, none⟩)] w1 fun e w' => ∃ d1 f1 d2 f2, e = .returned (.tuple #[.slice d1 (thY N y g ws).length f1, .slice d2 (thO N y g ws).length f2]) ∧ Hid (∀ w3, Below w'.heap.size w' w3 → Calls Tryz.prog 172 #[.slice d1 (thY N y g ws).length f1, .int .i64 v] w3 fun e w4 => e = .returned (.bool c1) ∧ Below w3.heap.size w3 w4) ∧ Hid (∀ w3, Below w'.heap.size w' w3 → Calls Tryz.prog 172 #[.slice d2 (thO N y g ws).length f2, .int .i64 v] w3 fun e w4 => e = .returned (.bool c2) ∧ Below w3.heap.size w3 w4) ∧ Below w1.heap.size w1 w' := fun w1 hb1 => by
      refine (things_any w1 (HA.out.below hb1 (Nat.le_refl _))).mono ?_
      rintro e w2 ⟨v1, v2, rfl, ho1, ho2, hb2⟩
      obtain ⟨d1, f1, rfl⟩ := row_slice ho1
      obtain ⟨d2, f2, rfl⟩ := row_slice ho2
      refine ⟨d1, f1, d2, f2, rfl, fun w3 hb3 => ?_, fun w3 hb3 => ?_, hb2⟩
      · rw [← HC1.out]
        exact containsI_any w3 d1 (thY N y g ws) f1 v ((row_ints ho1).below hb3) hY
      · rw [← HC2.out]
        exact containsI_any w3 d2 (thO N y g ws) f2 v ((row_ints ho2).below hb3) hO
    have HK : Hid (∀ w1, Below w.heap.size w w1 → _) := K
    clear K HC1 HC2
    cases c1
    · cases c2
      · simp only [Bool.or_self, Bool.false_eq_true, if_false]
        go_enter Tryz.func114, Tryz.ntmps114
        go_wp2_with fail
        refine P.mono ?_
        clear P
        rintro e w1 ⟨rfl, hb1⟩
        have y1 := (hb1.cell (p := ⟨pw, 0, none⟩) lpw).trans hc
        go_wp2_with fail
        refine (HK.out w1 hb1).mono ?_
        rintro e w2 ⟨d1, f1, d2, f2, rfl, L1, L2, hb2⟩
        have hb12 := hb1.trans (hb2.mono hb1.size)
        clear y1 hb1 hb2 HK
        go_wp2_with fail
        refine (L1.out w2 (Below.refl _ _)).mono ?_
        rintro e w3 ⟨rfl, hb3⟩
        have hb13 := hb12.trans (hb3.mono hb12.size)
        go_wp2_with fail
        refine (L2.out w3 hb3).mono ?_
        rintro e w4 ⟨rfl, hb4⟩
        have hb14 := hb13.trans (hb4.mono hb13.size)
        clear L1 L2 hb12 hb3 hb13 hb4
        go_wp2_with fail
        go_ret2
        exact ⟨rfl, hb14⟩
      · simp only [Bool.false_or, if_true]
        go_enter Tryz.func114, Tryz.ntmps114
        go_wp2_with fail
        refine P.mono ?_
        clear P
        rintro e w1 ⟨rfl, hb1⟩
        have y1 := (hb1.cell (p := ⟨pw, 0, none⟩) lpw).trans hc
        go_wp2_with fail
        refine (HK.out w1 hb1).mono ?_
        rintro e w2 ⟨d1, f1, d2, f2, rfl, L1, L2, hb2⟩
        have hb12 := hb1.trans (hb2.mono hb1.size)
        clear y1 hb1 hb2 HK
        go_wp2_with fail
        refine (L1.out w2 (Below.refl _ _)).mono ?_
        rintro e w3 ⟨rfl, hb3⟩
        have hb13 := hb12.trans (hb3.mono hb12.size)
        go_wp2_with fail
        refine (L2.out w3 hb3).mono ?_
        rintro e w4 ⟨rfl, hb4⟩
        have hb14 := hb13.trans (hb4.mono hb13.size)
        clear L1 L2 hb12 hb3 hb13 hb4
        go_wp2_with fail
        go_ret2
        exact ⟨rfl, hb14⟩
    · simp only [Bool.true_or, if_true]
      go_enter Tryz.func114, Tryz.ntmps114
      go_wp2_with fail
      refine P.mono ?_
      clear P
      rintro e w1 ⟨rfl, hb1⟩
      have y1 := (hb1.cell (p := ⟨pw, 0, none⟩) lpw).trans hc
      go_wp2_with fail
      refine (HK.out w1 hb1).mono ?_
      rintro e w2 ⟨d1, f1, d2, f2, rfl, L1, L2, hb2⟩
      have hb12 := hb1.trans (hb2.mono hb1.size)
      clear y1 hb1 hb2 HK
      go_wp2_with fail
      refine (L1.out w2 (Below.refl _ _)).mono ?_
      rintro e w3 ⟨rfl, hb3⟩
      have hb13 := hb12.trans (hb3.mono hb12.size)
      clear L1 L2 hb12 hb3
      go_wp2_with fail
      go_ret2
      exact ⟨rfl, hb13⟩

end Go.Proofs.YtakofbkmhmcnfabGreat

/- A wood: Kind, standing, fieldAt, Get: contracts. -/
namespace Go.Proofs.YtakofbkmhmcnfabGreat
open Go.RowKit W

/-- How many things there are at most. -/
theorem ths_le {N y g : Nat} {ws : List Int} {hi : Int} : ∀ (k : Nat) (a : Int), (ths N y g ws hi k a).length ≤ k
  | 0, _ => by simp [ths]
  | k + 1, a => by
    have ih := ths_le (N := N) (y := y) (g := g) (ws := ws) (hi := hi) k (a + (1 + pf (ld N y g ws a)))
    unfold ths
    split
    · split
      · rw [List.length_cons]
        omega
      · simp
    · simp

section
variable {pw p q N O y g : Nat} {ws : List Int}

theorem thingAt_any' (x : Int) (w : World) (hc : w.cell? ⟨pw, 0, none⟩ = some (.pointer (some ⟨p, 0, none⟩))) (h : At w p q N O y g ws) :
    Calls Tryz.prog 114 #[.pointer (some ⟨pw, 0, none⟩), .int .i64 x] w fun e w' => e = .returned (.tuple #[.int .i64 (tV N y g ws x), .bool (tB N y g ws x)]) ∧ Below w.heap.size w w' :=
  thingAt_any x w hc h (Nat.le_trans (ths_le _ _) (by decide)) (Nat.le_trans (ths_le _ _) (by decide))

set_option maxRecDepth 100000 in
set_option maxHeartbeats 400000 in
theorem kind_any (x : Int) (w : World) (hc : w.cell? ⟨pw, 0, none⟩ = some (.pointer (some ⟨p, 0, none⟩))) (h : At w p q N O y g ws) :
    Calls Tryz.prog 56 #[.pointer (some ⟨pw, 0, none⟩), .int .i64 x] w fun e w' => e = .returned (.tuple #[.int .i64 (if tB N y g ws x = true then pk (ld N y g ws (aV x)) else 0), .int .i64 (if tB N y g ws x = true then pf (ld N y g ws (aV x)) else 0), .int .i64 (if tB N y g ws x = true then pc (ld N y g ws (aV x)) else 2)]) ∧ Below w.heap.size w w' := by
  have HA : Hid (At w p q N O y g ws) := h
  have lpw := World.block_lt_of_cell? w _ hc
  have P := thingAt_any' x w hc h
  clear h
  cases ht : tB N y g ws x
  · rw [ht] at P
    simp only [Bool.false_eq_true, if_false]
    generalize tV N y g ws x = v at P
    go_enter Tryz.func56, Tryz.ntmps56
    go_wp2_with fail
    refine P.mono ?_
    clear P
    rintro e w1 ⟨rfl, hb1⟩
    go_wp2_with fail
    go_ret3
    exact ⟨rfl, hb1⟩
  · rw [ht] at P
    have ev : tV N y g ws x = aV x := by simp [tV, ht]
    rw [ev] at P
    simp only [if_true]
    generalize aV x = v at P
    go_enter Tryz.func56, Tryz.ntmps56
    go_wp2_with fail
    refine P.mono ?_
    clear P
    rintro e w1 ⟨rfl, hb1⟩
    have y1 := (hb1.cell (p := ⟨pw, 0, none⟩) lpw).trans hc
    go_wp2_with fail
    refine (thing_any v w1 (HA.out.below hb1 (Nat.le_refl _))).mono ?_
    rintro e w2 ⟨rfl, hb2⟩
    have hb12 := hb1.trans (hb2.mono hb1.size)
    clear y1 hb1 hb2
    go_wp2_with fail
    go_ret3
    exact ⟨rfl, hb12⟩

/-- How many fields of a thing stand. -/
def stN (N y g : Nat) (a f : Int) : Int := min f ((if hB N g a = true then (N : Int) + g else (y : Int)) - a - 1)

set_option maxRecDepth 100000 in
set_option maxHeartbeats 400000 in
theorem standing_any (a f : Int) (w : World) (hc : w.cell? ⟨pw, 0, none⟩ = some (.pointer (some ⟨p, 0, none⟩))) (h : At w p q N O y g ws) (a0 : 0 ≤ a) (a1 : a ≤ 100000) :
    Calls Tryz.prog 170 #[.pointer (some ⟨pw, 0, none⟩), .int .i64 a, .int .i64 f] w fun e w' => e = .returned (.int .i64 (stN N y g a f)) ∧ Below w.heap.size w w' := by
  have HA : Hid (At w p q N O y g ws) := h
  have lpw := World.block_lt_of_cell? w _ hc
  have k1 := h.hN'
  have k2 := h.hy
  have k3 := h.hO
  have k4 := h.hg
  clear h
  unfold stN
  cases ho : hB N g a
  · simp only [Bool.false_eq_true, if_false]
    by_cases hm : f ≤ (y : Int) - a - 1
    · rw [Int.min_eq_left hm]
      have hm2 : ¬ ((y : Int) - a - 1 < f) := by omega
      go_enter Tryz.func170, Tryz.ntmps170
      go_wp2_with fail
      refine (used_any w HA.out).mono ?_
      rintro e w1 ⟨rfl, hb1⟩
      have y1 := (hb1.cell (p := ⟨pw, 0, none⟩) lpw).trans hc
      go_wp2_with fail
      refine (bounds_any w1 (HA.out.below hb1 (Nat.le_refl _))).mono ?_
      rintro e w2 ⟨rfl, hb2⟩
      have hb12 := hb1.trans (hb2.mono hb1.size)
      have y2 := (hb12.cell (p := ⟨pw, 0, none⟩) lpw).trans hc
      clear y1
      have P := old_any a w2 (HA.out.below hb12 (Nat.le_refl _))
      rw [ho] at P
      go_wp2_with fail
      refine P.mono ?_
      clear P
      rintro e w3 ⟨rfl, hb3⟩
      have hb13 := hb12.trans (hb3.mono hb12.size)
      clear y2 hb1 hb2 hb12 hb3
      go_wp2_with fail
      go_ret
      exact ⟨rfl, hb13⟩
    · rw [Int.min_eq_right (by omega)]
      have hm2 : (y : Int) - a - 1 < f := by omega
      go_enter Tryz.func170, Tryz.ntmps170
      go_wp2_with fail
      refine (used_any w HA.out).mono ?_
      rintro e w1 ⟨rfl, hb1⟩
      have y1 := (hb1.cell (p := ⟨pw, 0, none⟩) lpw).trans hc
      go_wp2_with fail
      refine (bounds_any w1 (HA.out.below hb1 (Nat.le_refl _))).mono ?_
      rintro e w2 ⟨rfl, hb2⟩
      have hb12 := hb1.trans (hb2.mono hb1.size)
      have y2 := (hb12.cell (p := ⟨pw, 0, none⟩) lpw).trans hc
      clear y1
      have P := old_any a w2 (HA.out.below hb12 (Nat.le_refl _))
      rw [ho] at P
      go_wp2_with fail
      refine P.mono ?_
      clear P
      rintro e w3 ⟨rfl, hb3⟩
      have hb13 := hb12.trans (hb3.mono hb12.size)
      clear y2 hb1 hb2 hb12 hb3
      go_wp2_with fail
      go_ret
      exact ⟨rfl, hb13⟩
  · simp only [if_true]
    by_cases hm : f ≤ (N : Int) + g - a - 1
    · rw [Int.min_eq_left hm]
      have hm2 : ¬ ((N : Int) + g - a - 1 < f) := by omega
      go_enter Tryz.func170, Tryz.ntmps170
      go_wp2_with fail
      refine (used_any w HA.out).mono ?_
      rintro e w1 ⟨rfl, hb1⟩
      have y1 := (hb1.cell (p := ⟨pw, 0, none⟩) lpw).trans hc
      go_wp2_with fail
      refine (bounds_any w1 (HA.out.below hb1 (Nat.le_refl _))).mono ?_
      rintro e w2 ⟨rfl, hb2⟩
      have hb12 := hb1.trans (hb2.mono hb1.size)
      have y2 := (hb12.cell (p := ⟨pw, 0, none⟩) lpw).trans hc
      clear y1
      have P := old_any a w2 (HA.out.below hb12 (Nat.le_refl _))
      rw [ho] at P
      go_wp2_with fail
      refine P.mono ?_
      clear P
      rintro e w3 ⟨rfl, hb3⟩
      have hb13 := hb12.trans (hb3.mono hb12.size)
      clear y2 hb1 hb2 hb12 hb3
      go_wp2_with fail
      go_ret
      exact ⟨rfl, hb13⟩
    · rw [Int.min_eq_right (by omega)]
      have hm2 : (N : Int) + g - a - 1 < f := by omega
      go_enter Tryz.func170, Tryz.ntmps170
      go_wp2_with fail
      refine (used_any w HA.out).mono ?_
      rintro e w1 ⟨rfl, hb1⟩
      have y1 := (hb1.cell (p := ⟨pw, 0, none⟩) lpw).trans hc
      go_wp2_with fail
      refine (bounds_any w1 (HA.out.below hb1 (Nat.le_refl _))).mono ?_
      rintro e w2 ⟨rfl, hb2⟩
      have hb12 := hb1.trans (hb2.mono hb1.size)
      have y2 := (hb12.cell (p := ⟨pw, 0, none⟩) lpw).trans hc
      clear y1
      have P := old_any a w2 (HA.out.below hb12 (Nat.le_refl _))
      rw [ho] at P
      go_wp2_with fail
      refine P.mono ?_
      clear P
      rintro e w3 ⟨rfl, hb3⟩
      have hb13 := hb12.trans (hb3.mono hb12.size)
      clear y2 hb1 hb2 hb12 hb3
      go_wp2_with fail
      go_ret
      exact ⟨rfl, hb13⟩
end

end Go.Proofs.YtakofbkmhmcnfabGreat

/- A wood: fieldAt, Get: contracts. -/
namespace Go.Proofs.YtakofbkmhmcnfabGreat
open Go.RowKit W

theorem pf_bd (h : Int) : 0 ≤ pf h ∧ pf h ≤ 12 := by
  unfold pf
  split
  · have := hc_bd _ _ (by assumption)
    omega
  · omega
theorem ths_bd {N y g : Nat} {ws : List Int} {hi : Int} : ∀ (k : Nat) (a x : Int), x ∈ ths N y g ws hi k a → a ≤ x ∧ x < hi
  | 0, _, _, h => by simp [ths] at h
  | k + 1, a, x, h => by
    unfold ths at h
    split at h
    · split at h
      · rcases List.mem_cons.1 h with h | h
        · rw [h]; exact ⟨Int.le_refl _, by assumption⟩
        · have h1 := ths_bd k _ x h
          have h2 := pf_bd (ld N y g ws a)
          omega
      · simp at h
    · simp at h
/-- Where a thing begins is a place in use. -/
theorem tB_bd {N O y g : Nat} {ws : List Int} {x : Int} (h : tB N y g ws x = true) (hN : N ≤ 256) (hy : y ≤ N) (hO : O ≤ 1024) (hg : g ≤ O) : 0 ≤ aV x ∧ aV x ≤ 1280 := by
  unfold tB at h
  simp only [Bool.and_eq_true, Bool.or_eq_true, List.contains_iff_mem] at h
  rcases h.2 with h | h
  · have := ths_bd _ _ _ h
    omega
  · have := ths_bd _ _ _ h
    omega

/-- The code of a field. -/
def fcC (N y g : Nat) (ws : List Int) (x i : Int) : Int :=
  if tB N y g ws x = true then (if pk (ld N y g ws (aV x)) = 5 then 2 else if i < 0 ∨ stN N y g (aV x) (pf (ld N y g ws (aV x))) ≤ i then 1 else 0) else 2

section
variable {pw p q N O y g : Nat} {ws : List Int}

set_option maxRecDepth 100000 in
set_option maxHeartbeats 1000000 in
theorem fieldAt_any (x i : Int) (w : World) (hc : w.cell? ⟨pw, 0, none⟩ = some (.pointer (some ⟨p, 0, none⟩))) (h : At w p q N O y g ws) :
    Calls Tryz.prog 109 #[.pointer (some ⟨pw, 0, none⟩), .int .i64 x, .int .i64 i] w fun e w' => e = .returned (.tuple #[.int .i64 (if fcC N y g ws x i = 0 then aV x else 0), .int .i64 (if fcC N y g ws x i = 0 then aV x + 1 + i else 0), .int .i64 (fcC N y g ws x i)]) ∧ Below w.heap.size w w' := by
  have HA : Hid (At w p q N O y g ws) := h
  have lpw := World.block_lt_of_cell? w _ hc
  have P := thingAt_any' x w hc h
  have k1 := h.hN'
  have k2 := h.hy
  have k3 := h.hO
  have k4 := h.hg
  clear h
  cases ht : tB N y g ws x
  · rw [ht] at P
    have e0 : fcC N y g ws x i = 2 := by unfold fcC; rw [ht, if_neg (by simp)]
    rw [e0, if_neg (by decide), if_neg (by decide)]
    generalize tV N y g ws x = v at P
    go_enter Tryz.func109, Tryz.ntmps109
    go_wp2_with fail
    refine P.mono ?_
    clear P
    rintro e w1 ⟨rfl, hb1⟩
    go_wp2_with fail
    go_ret3
    exact ⟨rfl, hb1⟩
  · obtain ⟨b0, b1⟩ := tB_bd (O := O) ht k1 k2 k3 k4
    have hpf := pf_bd (ld N y g ws (aV x))
    rw [ht] at P
    have ev : tV N y g ws x = aV x := by simp [tV, ht]
    rw [ev] at P
    have e0 : fcC N y g ws x i = if pk (ld N y g ws (aV x)) = 5 then 2 else if i < 0 ∨ stN N y g (aV x) (pf (ld N y g ws (aV x))) ≤ i then 1 else 0 := by unfold fcC; rw [if_pos ht]
    rw [e0]
    clear e0 ht ev
    generalize aV x = v at P hpf b0 b1
    have K : Hid (∀ w1, Below w.heap.size w w1 → Calls Tryz.prog 25 #[.pointer (some ⟨p, 0, none⟩), .int .i64 v] w1 fun e w' => e = .returned (.tuple #[.int .i64 (pk (ld N y g ws v)), .int .i64 (pf (ld N y g ws v)), .int .i64 (pc (ld N y g ws v))]) ∧ Below w1.heap.size w1 w') := fun w1 hb => thing_any v w1 (HA.out.below hb (Nat.le_refl _))
    have KS : Hid (∀ w1, Below w.heap.size w w1 → Calls Tryz.prog 170 #[.pointer (some ⟨pw, 0, none⟩), .int .i64 v, .int .i64 (pf (ld N y g ws v))] w1 fun e w' => e = .returned (.int .i64 (stN N y g v (pf (ld N y g ws v)))) ∧ Below w1.heap.size w1 w') := fun w1 hb => standing_any v _ w1 ((hb.cell (p := ⟨pw, 0, none⟩) lpw).trans hc) (HA.out.below hb (Nat.le_refl _)) b0 (by omega)
    have hst : stN N y g v (pf (ld N y g ws v)) ≤ 12 := by unfold stN; exact Int.le_trans (Int.min_le_left _ _) hpf.2
    clear HA hpf
    generalize stN N y g v (pf (ld N y g ws v)) = s at KS hst ⊢
    generalize pk (ld N y g ws v) = kd at K ⊢
    generalize pf (ld N y g ws v) = f at K KS
    generalize pc (ld N y g ws v) = cc at K
    by_cases h5 : kd = 5
    · subst h5
      rw [if_pos rfl, if_neg (by decide), if_neg (by decide)]
      go_enter Tryz.func109, Tryz.ntmps109
      go_wp2_with fail
      refine P.mono ?_
      clear P
      rintro e w1 ⟨rfl, hb1⟩
      have y1 := (hb1.cell (p := ⟨pw, 0, none⟩) lpw).trans hc
      go_wp2_with fail
      refine (K.out w1 hb1).mono ?_
      rintro e w2 ⟨rfl, hb2⟩
      have hb12 := hb1.trans (hb2.mono hb1.size)
      clear y1 hb1 hb2 K KS
      go_wp2_with fail
      go_ret3
      exact ⟨rfl, hb12⟩
    · rw [if_neg h5]
      by_cases hi : i < 0
      · rw [if_pos (Or.inl hi), if_neg (by decide), if_neg (by decide)]
        go_enter Tryz.func109, Tryz.ntmps109
        go_wp2_with fail
        refine P.mono ?_
        clear P
        rintro e w1 ⟨rfl, hb1⟩
        have y1 := (hb1.cell (p := ⟨pw, 0, none⟩) lpw).trans hc
        go_wp2_with fail
        refine (K.out w1 hb1).mono ?_
        rintro e w2 ⟨rfl, hb2⟩
        have hb12 := hb1.trans (hb2.mono hb1.size)
        clear y1 hb1 hb2 K KS
        go_wp2_with fail
        go_ret3
        exact ⟨rfl, hb12⟩
      · by_cases hs : s ≤ i
        · rw [if_pos (Or.inr hs), if_neg (by decide), if_neg (by decide)]
          go_enter Tryz.func109, Tryz.ntmps109
          go_wp2_with fail
          refine P.mono ?_
          clear P
          rintro e w1 ⟨rfl, hb1⟩
          have y1 := (hb1.cell (p := ⟨pw, 0, none⟩) lpw).trans hc
          go_wp2_with fail
          refine (K.out w1 hb1).mono ?_
          rintro e w2 ⟨rfl, hb2⟩
          have hb12 := hb1.trans (hb2.mono hb1.size)
          clear y1 hb1 hb2 K
          go_wp2_with fail
          refine (KS.out w2 hb12).mono ?_
          rintro e w3 ⟨rfl, hb3⟩
          have hb13 := hb12.trans (hb3.mono hb12.size)
          clear hb12 hb3 KS
          go_wp2_with fail
          go_ret3
          exact ⟨rfl, hb13⟩
        · have hx : ¬ (i < 0 ∨ s ≤ i) := by omega
          rw [if_neg hx, if_pos rfl, if_pos rfl]
          go_enter Tryz.func109, Tryz.ntmps109
          go_wp2_with fail
          refine P.mono ?_
          clear P
          rintro e w1 ⟨rfl, hb1⟩
          have y1 := (hb1.cell (p := ⟨pw, 0, none⟩) lpw).trans hc
          go_wp2_with fail
          refine (K.out w1 hb1).mono ?_
          rintro e w2 ⟨rfl, hb2⟩
          have hb12 := hb1.trans (hb2.mono hb1.size)
          clear y1 hb1 hb2 K
          go_wp2_with fail
          refine (KS.out w2 hb12).mono ?_
          rintro e w3 ⟨rfl, hb3⟩
          have hb13 := hb12.trans (hb3.mono hb12.size)
          clear hb12 hb3 KS
          go_wp2_with fail
          go_ret3
          exact ⟨rfl, hb13⟩

set_option maxRecDepth 100000 in
set_option maxHeartbeats 1000000 in
theorem get_any (x i : Int) (w : World) (hc : w.cell? ⟨pw, 0, none⟩ = some (.pointer (some ⟨p, 0, none⟩))) (h : At w p q N O y g ws) :
    Calls Tryz.prog 54 #[.pointer (some ⟨pw, 0, none⟩), .int .i64 x, .int .i64 i] w fun e w' => e = .returned (.tuple #[.int .i64 (if fcC N y g ws x i = 0 then ld N y g ws (aV x + 1 + i) else 0), .int .i64 (fcC N y g ws x i)]) ∧ Below w.heap.size w w' := by
  have HA : Hid (At w p q N O y g ws) := h
  have lpw := World.block_lt_of_cell? w _ hc
  have P := fieldAt_any x i w hc h
  clear h
  generalize fcC N y g ws x i = cd at P ⊢
  by_cases h0 : cd = 0
  · subst h0
    rw [if_pos rfl, if_pos rfl] at P
    rw [if_pos rfl]
    generalize aV x + 1 + i = fl at P ⊢
    generalize aV x = v at P
    go_enter Tryz.func54, Tryz.ntmps54
    go_wp2_with fail
    refine P.mono ?_
    clear P
    rintro e w1 ⟨rfl, hb1⟩
    have y1 := (hb1.cell (p := ⟨pw, 0, none⟩) lpw).trans hc
    go_wp2_with fail
    refine (load_any fl w1 (HA.out.below hb1 (Nat.le_refl _))).mono ?_
    rintro e w2 ⟨rfl, hb2⟩
    have hb12 := hb1.trans (hb2.mono hb1.size)
    clear y1 hb1 hb2
    go_wp2_with fail
    go_ret2
    exact ⟨rfl, hb12⟩
  · rw [if_neg h0, if_neg h0] at P
    rw [if_neg h0]
    go_enter Tryz.func54, Tryz.ntmps54
    go_wp2_with fail
    refine P.mono ?_
    clear P
    rintro e w1 ⟨rfl, hb1⟩
    go_wp2_with fail
    go_ret2
    exact ⟨rfl, hb1⟩
end

end Go.Proofs.YtakofbkmhmcnfabGreat

/- Things one behind the other: lists alone. -/
namespace Go.Proofs.YtakofbkmhmcnfabGreat
open Go.RowKit W

/-- From a on to hi there are just these things, by what the words are. -/
def Tile (L : Int → Int) (hi : Int) : Int → List Int → Prop
  | a, [] => a = hi
  | a, x :: l => x = a ∧ pc (L a) = 0 ∧ a + (1 + pf (L a)) ≤ hi ∧ Tile L hi (a + (1 + pf (L a))) l

section
variable {L L' : Int → Int} {hi : Int}

theorem Tile.done : Tile L hi hi [] := rfl
theorem Tile.step {a : Int} {l : List Int} (h0 : pc (L a) = 0) (h1 : a + (1 + pf (L a)) ≤ hi) (ht : Tile L hi (a + (1 + pf (L a))) l) : Tile L hi a (a :: l) := ⟨rfl, h0, h1, ht⟩
theorem Tile.le {a : Int} {l : List Int} (h : Tile L hi a l) : a ≤ hi := by
  cases l with
  | nil => exact Int.le_of_eq h
  | cons x l =>
    have h1 := h.2.2.1
    have := pf_bd (L a)
    omega
theorem Tile.mem {a : Int} {l : List Int} (h : Tile L hi a l) : ∀ x ∈ l, a ≤ x ∧ x + (1 + pf (L x)) ≤ hi ∧ pc (L x) = 0 := by
  induction l generalizing a with
  | nil => intro x hx; simp at hx
  | cons z l ih =>
    obtain ⟨rfl, h0, h1, ht⟩ := h
    intro x hx
    rcases List.mem_cons.1 hx with rfl | hx
    · exact ⟨Int.le_refl _, h1, h0⟩
    · have := pf_bd (L z)
      have h2 := ih ht x hx
      exact ⟨by omega, h2.2⟩
/-- Two things are apart. -/
theorem Tile.apart {a : Int} {l : List Int} (h : Tile L hi a l) : ∀ x ∈ l, ∀ z ∈ l, x < z → x + (1 + pf (L x)) ≤ z := by
  induction l generalizing a with
  | nil => intro x hx; simp at hx
  | cons y l ih =>
    obtain ⟨rfl, h0, h1, ht⟩ := h
    intro x hx z hz hxz
    rcases List.mem_cons.1 hx with ex | hx2
    · rcases List.mem_cons.1 hz with ez | hz2
      · omega
      · rw [ex]
        exact (ht.mem z hz2).1
    · rcases List.mem_cons.1 hz with ez | hz2
      · have h2 := (ht.mem x hx2).1
        have h3 := pf_bd (L y)
        omega
      · exact ih ht x hx2 z hz2 hxz
/-- The words at which things begin alone matter. -/
theorem Tile.heads {a : Int} {l : List Int} (h : Tile L hi a l) (he : ∀ x ∈ l, L' x = L x) : Tile L' hi a l := by
  induction l generalizing a with
  | nil => exact h
  | cons z l ih =>
    obtain ⟨rfl, h0, h1, ht⟩ := h
    have e := he z (by simp)
    refine .step (by rw [e]; exact h0) (by rw [e]; exact h1) ?_
    rw [e]
    exact ih ht (fun x hx => he x (by simp [hx]))
/-- One more thing behind. -/
theorem Tile.snoc {a : Int} {l : List Int} (h : Tile L hi a l) (he : ∀ x ∈ l, L' x = L x) {hi' : Int} (h0 : pc (L' hi) = 0) (h1 : hi' = hi + (1 + pf (L' hi))) : Tile L' hi' a (l ++ [hi]) := by
  have hp := pf_bd (L' hi)
  induction l generalizing a with
  | nil =>
    have e : a = hi := h
    subst e
    refine .step h0 (by omega) ?_
    rw [← h1]
    exact .done
  | cons z l ih =>
    obtain ⟨rfl, h2, h3, ht⟩ := h
    have e := he z (by simp)
    refine .step (by rw [e]; exact h2) (by rw [e]; omega) ?_
    rw [e]
    exact ih ht (fun x hx => he x (by simp [hx]))
/-- A field's place is not where a thing begins. -/
theorem Tile.field {a : Int} {l : List Int} (h : Tile L hi a l) {v i : Int} (hv : v ∈ l) (i0 : 0 ≤ i) (i1 : i < pf (L v)) : v + 1 + i ∉ l := by
  intro hm
  have := h.apart v hv _ hm (by omega)
  omega
theorem Tile.ths {N y g : Nat} {ws : List Int} {hi a : Int} {l : List Int} (h : Tile (ld N y g ws) hi a l) : ∀ k : Nat, hi - a ≤ k → ths N y g ws hi k a = l := by
  induction l generalizing a with
  | nil =>
    have e : a = hi := h
    subst e
    intro k _
    exact ths_end k (Int.le_refl _)
  | cons z l ih =>
    obtain ⟨rfl, h0, h1, ht⟩ := h
    intro k hk
    have hp := pf_bd (ld N y g ws z)
    match k, hk with
    | 0, hk => omega
    | k + 1, hk =>
      unfold Proofs.YtakofbkmhmcnfabGreat.ths
      rw [if_pos (by omega), if_pos h0, ih ht k (by omega)]
end

/-- Both spaces are full of things. -/
structure Full2 (N y g : Nat) (ws : List Int) (Y G : List Int) : Prop where
  ty : Tile (ld N y g ws) y 0 Y
  to : Tile (ld N y g ws) ((N : Int) + g) N G
theorem Full2.lists {N O y g : Nat} {ws : List Int} {Y G : List Int} (h : Full2 N y g ws Y G) (hN : N ≤ 256) (hy : y ≤ N) (hO : O ≤ 1024) (hg : g ≤ O) : thY N y g ws = Y ∧ thO N y g ws = G :=
  ⟨h.ty.ths 2000 (by omega), h.to.ths 2000 (by omega)⟩
theorem Full2.start {N : Nat} {ws : List Int} : Full2 N 0 0 ws [] [] := ⟨.done, by simpa using Tile.done (L := ld N 0 0 ws) (hi := (N : Int))⟩
/-- All fields of a thing stand. -/
theorem Full2.stands {N y g : Nat} {ws : List Int} {Y G : List Int} (h : Full2 N y g ws Y G) (hy : y ≤ N) {v : Int} (hv : v ∈ Y ∨ v ∈ G) : stN N y g v (pf (ld N y g ws v)) = pf (ld N y g ws v) := by
  have hp := pf_bd (ld N y g ws v)
  unfold stN
  refine Int.min_eq_left ?_
  rcases hv with hv | hv
  · have h1 := h.ty.mem v hv
    have e : hB N g v = false := by
      rw [Bool.eq_false_iff]
      intro hh
      have := hB_yes hh
      omega
    rw [e, if_neg (by simp)]
    omega
  · have h1 := h.to.mem v hv
    have e : hB N g v = true := by
      unfold hB
      exact decide_eq_true ⟨h1.1, by omega⟩
    rw [e, if_pos rfl]
    omega

end Go.Proofs.YtakofbkmhmcnfabGreat
