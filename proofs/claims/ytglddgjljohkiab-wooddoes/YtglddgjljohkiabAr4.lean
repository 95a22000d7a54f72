/- What Move of package arena does: a contract, over the seat's own translation; no block but the arena's words turns. -/
import Derived.Test.YtglddgjljohkiabAr3
import Derived.Deep.RegionLaw
namespace Go.Proofs.Ytglddgjljohkiab
open Go.RowKit W

set_option maxRecDepth 100000 in
set_option maxHeartbeats 400000 in
theorem has_yes {p q N O y g : Nat} {ws : List Int} (a n : Int) (w : World) (h : At w p q N O y g ws) (h0 : 0 ≤ a) (h1 : 0 ≤ n) (h2 : a + n ≤ (N : Int) + O) :
    Calls Try.prog 94 #[.pointer (some ⟨p, 0, none⟩), .int .i64 a, .int .i64 n] w fun e w' => e = .returned (.bool true) ∧ w' = w := by
  obtain ⟨c0, c1, c2, c3, c4, c5, c6⟩ := h.cells
  have k1 := h.hN'
  have k3 := h.hO
  have b1 : n ≤ ((N + O : Nat) : Int) - a := by omega
  go_enter Try.func94, Try.ntmps94
  go_wp2_with fail
  go_ret
  exact ⟨by simp; omega, rfl⟩

/-- What a copy into a row leaves: the row with what was read put in; nothing where nothing was read. -/
def Mv (w w' : World) (g : Nat) (cur : List Value) (off : Nat) (cs : List Value) : Prop :=
  (cs = [] ∧ w' = w) ∨ w' = w.setRow g (splice cur off cs).toArray

/-- 'copy' within a region that draws its order: the world that it leaves, whole. -/
theorem step_copy_mv {P : Program} {ops : Array Oper} {o : Oper} {a : Act} {w : World} {K : Act → World → Prop} {Q : Exit → Act → World → Prop} {E : Prop} (hgd : o.guard = none) (d s : Operand) (dT sT elem : TypeId)
    (ho : o.op = .call { callee := .builtin .copy, args := #[d, s], argTypes := #[dT, sT] }) (hu : P.underlying dT = some (.slice elem)) (hsz : (P.info? elem).map (·.size) = some 1)
    (dp sp : Option Addr) (dLen dCap sLen sCap : Nat) (hd : a.eval d = .slice dp dLen dCap) (hs : a.eval s = .slice sp sLen sCap)
    (g off : Nat) (cur : List Value) (t : TypeId) (hg : w.heap[g]? = some (.cells cur.toArray t (0, 0))) (cs : List Value) (hn : cs.length = Nat.min sLen dLen)
    (hpos : 0 < cs.length → dp = some ⟨g, off, none⟩ ∧ ∃ ad, sp = some ad ∧ ∀ j v, cs[j]? = some v → w.cell? (ad.add j) = some v)
    (hfit : off + cs.length ≤ cur.length) (h1 : ∀ v ∈ cs, v.oneCell' = true)
    (h : ∀ w', Mv w w' g cur off cs → K (a.put o.dst (goInt cs.length)) w') :
    if Region.wanted o (yielded ops a.tmps) = true then Oper.wp P o a w K Q else E := by
  rw [if_pos (show Region.wanted o (yielded ops a.tmps) = true by simp [Region.wanted, hgd])]
  rcases Nat.eq_zero_or_pos cs.length with h0 | h0
  · have ec : cs = [] := List.eq_nil_of_length_eq_zero h0
    subst ec
    have hrun := run_copy_none (P := P) w dT sT o.type elem dp sp dLen dCap sLen sCap hu hsz (by simpa using hn.symm)
    unfold Oper.wp
    simp [execOp, ho, resolve, invoke, builtin, hd, hs, hrun, Result.andThen]
    exact h w (Or.inl ⟨rfl, rfl⟩)
  · obtain ⟨ed, ad, es, hsrc⟩ := hpos h0
    subst ed es
    have hrun := run_copy_row (P := P) w dT sT o.type elem g off dLen dCap ad sLen sCap cur.toArray t cs hu hsz hg hn hsrc (by simpa using hfit) h1
    unfold Oper.wp
    simp [execOp, ho, resolve, invoke, builtin, hd, hs, hrun, Result.andThen]
    exact h _ (Or.inr (by simp [splice]))

theorem size64 : (Try.prog.info? 2).map (·.size) = some 1 := by kernel_rfl

theorem ints_one (l : List Int) : ∀ v ∈ l.map (Value.int .i64), v.oneCell' = true := by
  intro v hv
  obtain ⟨x, _, rfl⟩ := List.mem_map.1 hv
  rfl

theorem splice_map (ws cs : List Int) (t : Nat) : splice (ws.map (Value.int .i64)) t (cs.map (Value.int .i64)) = (splice ws t cs).map (Value.int .i64) := by
  simp [splice, List.map_take, List.map_drop]

/-- Where words were moved within an arena it is one, with its words moved. -/
theorem At.moved {w w' : World} {p q N O y g : Nat} {ws cs : List Int} {t : Nat} (h : At w p q N O y g ws) (hm : Mv w w' q (ws.map (Value.int .i64)) t (cs.map (Value.int .i64))) (hf : t + cs.length ≤ N + O) :
    At w' p q N O y g (splice ws t cs) ∧ Sv p q w w' := by
  rcases hm with ⟨e, rfl⟩ | rfl
  · have ec : cs = [] := by simpa using e
    subst ec
    have e2 : splice ws t [] = ws := by simp [splice]
    rw [e2]
    exact ⟨h, Sv.refl _ _ _⟩
  · rw [splice_map]
    exact ⟨h.row (by rw [length_splice _ _ _ (by rw [h.hl]; exact hf)]; exact h.hl), Sv.rowq _⟩

theorem At.src {w : World} {p q N O y g : Nat} {ws : List Int} (h : At w p q N O y g ws) (f n : Nat) (hf : f + n ≤ N + O) (j : Nat) (v : Value) (hv : (((ws.drop f).take n).map (Value.int .i64))[j]? = some v) :
    w.cell? ((⟨q, f, none⟩ : Addr).add j) = some v := by
  have hl := h.hl
  rw [List.getElem?_map] at hv
  obtain ⟨x, hx, rfl⟩ := Option.map_eq_some_iff.1 hv
  have hj : j < ((ws.drop f).take n).length := (List.getElem?_eq_some_iff.1 hx).1
  have hj' : j < n := by simp at hj; omega
  have := h.word (f + j) (by omega)
  rw [show ((⟨q, f, none⟩ : Addr).add j) = ⟨q, f + j, none⟩ by simp [Addr.add], this]
  rw [List.getElem?_take_of_lt hj', List.getElem?_drop] at hx
  simp [List.getD_eq_getElem?_getD, hx]

set_option maxRecDepth 100000 in
set_option maxHeartbeats 1000000 in
theorem move_any {p q N O y g : Nat} {ws : List Int} (t f n : Nat) (w : World) (hA : At w p q N O y g ws) (h1 : t + n ≤ N + O) (h2 : f + n ≤ N + O) :
    Calls Try.prog 66 #[.pointer (some ⟨p, 0, none⟩), .int .i64 t, .int .i64 f, .int .i64 n] w fun e w' => e = .returned (.tuple #[]) ∧ At w' p q N O y g (splice ws t ((ws.drop f).take n)) ∧ Sv p q w w' := by
  obtain ⟨c0, c1, c2, c3, c4, c5, c6⟩ := hA.cells
  have k1 := hA.hN'
  have k3 := hA.hO
  have hl := hA.hl
  have b1 : IntKind.i64.wrap ((t : Int) + n) = (t : Int) + n := by rw [IntKind.wrap_i64]; omega
  have b2 : IntKind.i64.wrap ((f : Int) + n) = (f : Int) + n := by rw [IntKind.wrap_i64]; omega
  have b3 : (t : Int) + n ≤ (N : Int) + O := by omega
  have b4 : (f : Int) + n ≤ (N : Int) + O := by omega
  have b5 : ((t : Int) + n).toNat = t + n := by omega
  have b6 : ((f : Int) + n).toNat = f + n := by omega
  have b7 : (0 : Int) ≤ (t : Int) + n := by omega
  have b8 : (0 : Int) ≤ (f : Int) + n := by omega
  have hlen : ((ws.drop f).take n).length = n := by simp; omega
  have Hn : Hid ((((ws.drop f).take n).map (Value.int .i64)).length = Nat.min n n) := by show _ = _; rw [List.length_map, hlen]; simp
  have Hp : Hid (0 < (((ws.drop f).take n).map (Value.int .i64)).length → (if N + O = t then some (⟨q, 0, none⟩ : Addr) else some ⟨q, t, none⟩) = some ⟨q, t, none⟩ ∧ ∃ ad, (if N + O = f then some (⟨q, 0, none⟩ : Addr) else some ⟨q, f, none⟩) = some ad ∧ ∀ j v, (((ws.drop f).take n).map (Value.int .i64))[j]? = some v → w.drew.cell? (ad.add j) = some v) := by
    intro hpos
    rw [List.length_map, hlen] at hpos
    rw [if_neg (by omega), if_neg (by omega)]
    exact ⟨rfl, _, rfl, fun j v hv => hA.drew.src f n h2 j v hv⟩
  have Hf : Hid (t + (((ws.drop f).take n).map (Value.int .i64)).length ≤ (ws.map (Value.int .i64)).length) := by show _ ≤ _; rw [List.length_map, List.length_map, hlen]; omega
  clear hlen hl
  go_enter Try.func66, Try.ntmps66
  go_wp2_with (go_at_call 94; refine (has_yes _ _ _ hA ?_ ?_ ?_).mono ?_; omega; omega; omega; rintro e w1 ⟨rfl, hw⟩; have hw := hw.symm; subst hw)
  go_region_law (refine step_copy_mv rfl (.tmp 26) (.tmp 35) 23 23 2 rfl Try.underlying23 size64 (if N + O = t then some ⟨q, 0, none⟩ else some ⟨q, t, none⟩) (if N + O = f then some ⟨q, 0, none⟩ else some ⟨q, f, none⟩) n (N + O - t) n (N + O - f) ?_ ?_ q t (ws.map (Value.int .i64)) 2 hA.drew.hq (((ws.drop f).take n).map (Value.int .i64)) Hn.out Hp.out Hf.out (ints_one _) ?_; (first | rfl | simp [Act.eval, Act.put]); (first | rfl | simp [Act.eval, Act.put]); intro w4 hm4; obtain ⟨hx1, hx2⟩ := hA.drew.moved hm4 (by simp; omega); clear hm4)
  all_goals go_wp2_with fail
  all_goals
    go_end0
    refine ⟨rfl, ?_, (Sv.refl _ _ _).drew.trans hx2⟩
    first
      | exact hx1
      | (have e : t = f := (by omega)
         subst e
         exact hx1)

end Go.Proofs.Ytglddgjljohkiab
