/- Joined: Mn14, Mj1, Mj2, Mj3, Mj4, Mj5, Mj6, Mj7, Mj8, Mj9, Mj10, Mj11, Mn15, Mj12, Sd7, Mj13. -/
import Derived.Test.YtnalfnlmaallmaaGreatJ18
import Derived.Test.YtnalfnlmaallmaaGreatJ10
import Derived.Test.YtnalfnlmaallmaaGreatJ17
import Derived.Deep.LoopGhost
import Derived.Test.YtnalfnlmaallmaaGreatJ06
import Derived.Lib.AppendZeros
import Derived.Test.YtnalfnlmaallmaaGreatJ04
namespace Go.Proofs.YtnalfnlmaallmaaGreat
set_option maxRecDepth 100000
set_option maxHeartbeats 2000000
open Go.RowKit W Kp Stl
structure Wc where
  pw : Nat
  p : Nat
  q : Nat
  pc : Nat
  sd : Nat
  nb : Nat
  N : Nat
  O : Nat
structure Wst where
  y : Nat
  g : Nat
  ws : List Int
  M : List Int
  rs : List Int
structure Mw (a : Wc) (own : Nat -> Nat) (s : Wst) (pq : Nat) (w : World) : Prop where
  ar : At w a.p a.q a.N a.O s.y s.g s.ws
  a1 : own a.p = 1
  a2 : own a.q = 1
  cd : Cd w a.pc pq a.N (nC a.O) s.M
  c1 : own a.pc = 2
  c2 : own pq = 2
  wd : w.heap[a.pw]? = some (.cells #[.pointer (some ⟨a.p, 0, none⟩), .pointer (some ⟨a.pc, 0, none⟩), .pointer (some ⟨a.sd, 0, none⟩), .slice (some ⟨a.nb, 0, none⟩) 12 12] 44 (0, 0))
  w1 : own a.pw = 3
  rt : w.heap[a.nb]? = some (.cells (s.rs.map (Value.int .i64)).toArray 2 (0, 0))
  rl : s.rs.length = 12
  r1 : own a.nb = 4
  le : ∀ b, own b <= 4
  lt : ∀ b, own b ≠ 0 -> b < w.heap.size
theorem Mw.keep {a : Wc} {own : Nat -> Nat} {s : Wst} {pq : Nat} {w w' : World} (h : Mw a own s pq w) (hs : w.heap.size <= w'.heap.size) (hk : ∀ b, own b ≠ 0 -> w'.heap[b]? = w.heap[b]?) : Mw a own s pq w' :=
  { ar := h.ar.same (hk _ (by rw [h.a1]; decide)) (hk _ (by rw [h.a2]; decide)), a1 := h.a1, a2 := h.a2
    cd := h.cd.same (hk _ (by rw [h.c1]; decide)) (hk _ (by rw [h.c2]; decide)), c1 := h.c1, c2 := h.c2
    wd := (hk _ (by rw [h.w1]; decide)).trans h.wd, w1 := h.w1
    rt := (hk _ (by rw [h.r1]; decide)).trans h.rt, rl := h.rl, r1 := h.r1, le := h.le, lt := fun b hb => Nat.lt_of_lt_of_le (h.lt b hb) hs }
def wodO (a : Wc) : Ob Wst where
  J F s w := ∃ own pq, Mw a own s pq w /\ ∀ b, F b ↔ own b ≠ 0
  lt := by
    rintro F s w ⟨own, pq, h, hF⟩ b hb
    exact h.lt b ((hF b).1 hb)
  keep := by
    rintro F s w w' ⟨own, pq, h, hF⟩ hs hk
    exact ⟨own, pq, h.keep hs (fun b hb => hk b ((hF b).2 hb)), hF⟩
section
variable {a : Wc} {F : Nat -> Prop} {s : Wst} {w : World}
theorem wod_arena (h : (wodO a).J F s w) : At w a.p a.q a.N a.O s.y s.g s.ws /\ ∀ w' y g ws, At w' a.p a.q a.N a.O y g ws -> Sv a.p a.q w w' -> (wodO a).J F { s with y := y, g := g, ws := ws } w' /\ Tn F w F w' := by
  obtain ⟨own, pq, h, hF⟩ := h
  refine ⟨h.ar, fun w' y g ws ha sv => ⟨⟨own, pq, ?_, hF⟩, ⟨⟨sv.os, sv.tape, sv.output, sv.size, fun b hb hn => sv.block b hb (fun e => hn ((hF b).2 (by rw [e, h.a1]; decide))) (fun e => hn ((hF b).2 (by rw [e, h.a2]; decide)))⟩, fun _ h => Or.inl h⟩⟩⟩
  have hb : ∀ b, b < w.heap.size -> own b ≠ 1 -> w'.heap[b]? = w.heap[b]? := fun b hb hn => sv.block b hb (fun e => hn (by rw [e]; exact h.a1)) (fun e => hn (by rw [e]; exact h.a2))
  exact { ar := ha, a1 := h.a1, a2 := h.a2, c1 := h.c1, c2 := h.c2, w1 := h.w1, rl := h.rl, r1 := h.r1, le := h.le, lt := fun b hb => Nat.lt_of_lt_of_le (h.lt b hb) sv.size
          cd := h.cd.same (hb _ h.cd.ltp (by rw [h.c1]; decide)) (hb _ h.cd.ltq (by rw [h.c2]; decide))
          wd := (hb _ (lt_of_some h.wd) (by rw [h.w1]; decide)).trans h.wd
          rt := (hb _ (lt_of_some h.rt) (by rw [h.r1]; decide)).trans h.rt }
theorem wod_root (h : (wodO a).J F s w) (i : Nat) (x : Int) : (wodO a).J F { s with rs := s.rs.set i x } (w.setCell ⟨a.nb, i, none⟩ (.int .i64 x)) /\ Tn F w F (w.setCell ⟨a.nb, i, none⟩ (.int .i64 x)) := by
  obtain ⟨own, pq, h, hF⟩ := h
  have fr : Fr (fun b => b = a.nb) w (w.setCell ⟨a.nb, i, none⟩ (.int .i64 x)) := (Fr.refl _ w).set _ i _ rfl
  refine ⟨⟨own, pq, ?_, hF⟩, ⟨fr.mono (fun b e => (hF b).2 (by rw [e, h.r1]; decide)), fun _ h => Or.inl h⟩⟩
  have hb : ∀ b, b < w.heap.size -> own b ≠ 4 -> (w.setCell ⟨a.nb, i, none⟩ (.int .i64 x)).heap[b]? = w.heap[b]? := fun b hb hn => fr.block b hb (fun e => hn (by rw [e]; exact h.r1))
  exact { a1 := h.a1, a2 := h.a2, c1 := h.c1, c2 := h.c2, w1 := h.w1, r1 := h.r1, le := h.le, lt := fun b hb => Nat.lt_of_lt_of_le (h.lt b hb) fr.size
          rl := by rw [List.length_set]; exact h.rl
          ar := h.ar.same (hb _ h.ar.ltp (by rw [h.a1]; decide)) (hb _ h.ar.ltq (by rw [h.a2]; decide))
          cd := h.cd.same (hb _ h.cd.ltp (by rw [h.c1]; decide)) (hb _ h.cd.ltq (by rw [h.c2]; decide))
          wd := (hb _ (lt_of_some h.wd) (by rw [h.w1]; decide)).trans h.wd
          rt := by
            have hq := h.rt
            simp only [World.setCell, Array.getElem?_modify, if_true, hq, Option.map_some]
            simp [List.map_set] }
theorem wod_cards (h : (wodO a).J F s w) : ∃ pq, Cd w a.pc pq a.N (nC a.O) s.M /\ ∀ w' pq' M, Cd w' a.pc pq' a.N (nC a.O) M -> Sv a.pc pq w w' -> (pq' = pq \/ w.heap.size <= pq') -> ∃ F', (wodO a).J F' { s with M := M } w' /\ Tn F w F' w' := by
  obtain ⟨own, pq, h, hF⟩ := h
  refine ⟨pq, h.cd, fun w' pq' M hc sv hp => ⟨fun b => F b \/ b = pq', ⟨fun b => if b = pq' then 2 else own b, pq', ?_, fun b => ?_⟩, ⟨⟨sv.os, sv.tape, sv.output, sv.size, fun b hb hn => sv.block b hb (fun e => hn ((hF b).2 (by rw [e, h.c1]; decide))) (fun e => hn ((hF b).2 (by rw [e, h.c2]; decide)))⟩, fun b hb => hb.elim Or.inl (fun e => hp.imp (fun e' => (hF b).2 (by rw [e, e', h.c2]; decide)) (fun e' => by omega))⟩⟩⟩
  · have hb : ∀ b, b < w.heap.size -> own b ≠ 2 -> w'.heap[b]? = w.heap[b]? := fun b hb hn => sv.block b hb (fun e => hn (by rw [e]; exact h.c1)) (fun e => hn (by rw [e]; exact h.c2))
    have e1 : ∀ b j, own b = j -> j ≠ 0 -> j ≠ 2 -> (if b = pq' then 2 else own b) = j := fun b j e h0 h2 => by
      rw [if_neg (fun c => ?_)]
      · exact e
      · rcases hp with e' | e'
        · rw [c, e', h.c2] at e
          omega
        · have := h.lt b (by rw [e]; exact h0)
          omega
    exact { cd := hc, a1 := e1 _ _ h.a1 (by decide) (by decide), a2 := e1 _ _ h.a2 (by decide) (by decide), w1 := e1 _ _ h.w1 (by decide) (by decide), r1 := e1 _ _ h.r1 (by decide) (by decide), c2 := by rw [if_pos rfl], c1 := by
              split
              · rfl
              · exact h.c1
            rl := h.rl
            ar := h.ar.same (hb _ h.ar.ltp (by rw [h.a1]; decide)) (hb _ h.ar.ltq (by rw [h.a2]; decide))
            wd := (hb _ (lt_of_some h.wd) (by rw [h.w1]; decide)).trans h.wd
            rt := (hb _ (lt_of_some h.rt) (by rw [h.r1]; decide)).trans h.rt
            le := fun b => by
              split
              · decide
              · exact h.le b
            lt := fun b hb => by
              by_cases e : b = pq'
              · rw [e]; exact hc.ltq
              · rw [if_neg e] at hb
                exact Nat.lt_of_lt_of_le (h.lt b hb) sv.size }
  · by_cases e : b = pq'
    · simp [e]
    · simp [e, hF b]
theorem wod_cells (h : (wodO a).J F s w) : w.cell? ⟨a.pw, 0, none⟩ = some (.pointer (some ⟨a.p, 0, none⟩)) /\ w.cell? ⟨a.pw, 1, none⟩ = some (.pointer (some ⟨a.pc, 0, none⟩)) /\ w.cell? ⟨a.pw, 2, none⟩ = some (.pointer (some ⟨a.sd, 0, none⟩)) /\ w.cell? ⟨a.pw, 3, none⟩ = some (.slice (some ⟨a.nb, 0, none⟩) 12 12) /\ a.pw < w.heap.size /\ s.rs.length = 12 /\ a.nb < w.heap.size /\ ∀ i, i < 12 -> w.cell? ⟨a.nb, i, none⟩ = some (.int .i64 (s.rs.getD i 0)) /\ w.frozen? ⟨a.nb, i, none⟩ = false := by
 obtain ⟨own, pq, h, hF⟩ := h
 have h2 := h.wd
 have hl := h.rl
 refine ⟨by simp [World.cell?, h2], by simp [World.cell?, h2], by simp [World.cell?, h2], by simp [World.cell?, h2], lt_of_some h2, hl, lt_of_some h.rt, fun i hi => ⟨?_, ?_⟩⟩
 ·simp [World.cell?, h.rt, List.getElem?_map, List.getElem?_eq_getElem (show i < s.rs.length by omega), List.getD_eq_getElem?_getD]
 ·simp [World.frozen?, h.rt]
end
/-! ### a cut begins -/
abbrev woodB (a : Wc) : Obj := .cells #[.pointer (some ⟨a.p, 0, none⟩), .pointer (some ⟨a.pc, 0, none⟩), .pointer (some ⟨a.sd, 0, none⟩), .slice (some ⟨a.nb, 0, none⟩) 12 12] 44 (0, 0)
def nuO (pk mq bx : Nat) (nx : Int) (a : Wc) (y g : Nat) (ws : List Int) : Ob (List Int) where
  J F U w := (w.heap[pk]? = some (.cells #[.pointer (some ⟨a.pw, 0, none⟩), .map (some mq), .int .i64 nx, .slice none 0 0, .slice none 0 0] 111 (0, 0)) /\ Mp w mq U (fun _ => -1) /\ At w a.p a.q a.N a.O y g ws /\ w.heap[a.pw]? = some (woodB a) /\ w.heap[bx]? = some (.cells #[.pointer (some ⟨pk, 0, none⟩)] 107 (0, 0))) /\ (mq ≠ pk /\ mq ≠ a.pw /\ mq ≠ a.p /\ mq ≠ a.q /\ mq ≠ bx) /\ ∀ b, F b ↔ (b = pk \/ b = mq \/ b = a.pw \/ b = a.p \/ b = a.q \/ b = bx)
  lt := by
    rintro F U w ⟨⟨h1, h2, h3, h4, h5⟩, _, hF⟩ b hb
    rcases (hF b).1 hb with rfl | rfl | rfl | rfl | rfl | rfl
    · exact lt_of_some h1
    · exact h2.lt
    · exact lt_of_some h4
    · exact h3.ltp
    · exact h3.ltq
    · exact lt_of_some h5
  keep := by
    rintro F U w w' ⟨⟨h1, h2, h3, h4, h5⟩, hn, hF⟩ hs hk
    exact ⟨⟨(hk _ ((hF _).2 (Or.inl rfl))).trans h1, h2.same (hk _ ((hF _).2 (Or.inr (Or.inl rfl)))), h3.same (hk _ ((hF _).2 (Or.inr (Or.inr (Or.inr (Or.inl rfl)))))) (hk _ ((hF _).2 (Or.inr (Or.inr (Or.inr (Or.inr (Or.inl rfl))))))), (hk _ ((hF _).2 (Or.inr (Or.inr (Or.inl rfl))))).trans h4, (hk _ ((hF _).2 (Or.inr (Or.inr (Or.inr (Or.inr (Or.inr rfl))))))).trans h5⟩, hn, hF⟩
theorem ent_nu1 : Ent 126 := ent_of Tryz.func126 (by kernel_rfl) rfl
theorem nu1_any {pk mq bx : Nat} {nx : Int} {a : Wc} {y g : Nat} {ws : List Int} {F : Nat -> Prop} {U : List Int} {w : World} (h : (nuO pk mq bx nx a y g ws).J F U w) (v : Int) (v0 : 0 <= v) (v1 : v <= 100000) (hU : U.length <= 100000) :
  Calls Tryz.prog 126 #[.int .i64 v, .pointer (some ⟨bx, 0, none⟩)] w fun e w' => ∃ F', e = .returned (.tuple #[]) /\ (nuO pk mq bx nx a y g ws).J F' (U ++ [v]) w' /\ Tn F w F' w' := by
 obtain ⟨⟨h1, ⟨D, o1, o2, o3⟩, h3, h4, h5⟩, hn, hF⟩ := h
 have c1 : w.cell? ⟨pk, 1, none⟩ = some (.map (some mq)) := by simp [World.cell?, h1]
 have x0 : w.cell? ⟨bx, 0, none⟩ = some (.pointer (some ⟨pk, 0, none⟩)) := by simp [World.cell?, h5]
 have hky := keyI (a := v) v0 (by omega)
 have hv := elI (-1) (by decide)
 have HO : Hid (_ /\ _ /\ _ /\ _ /\ _ /\ _ /\ _ /\ _) := ⟨h1, o2, o3, h3, h4, h5, hn, hF⟩
 have H1 : Hid (w.ownsMap Tryz.prog 3 (plainElem Tryz.prog 3) mq U.length D) := o1
 clear h1 o2 o3 h3 h4 h5 hn hF
 go_enter Tryz.func126, Tryz.ntmps126
 go_wp2_with (first
  | (at_mapUpdate; refine wpList_mapUpdate_own _ rfl _ _ _ 109 rfl 3 3 lawI Tryz.underlying109 (plainElem (H := Unit) Tryz.prog 3) mq U.length D rfl o1 (by unfold maxLen; omega) _ _ _ rfl rfl hky _ [] hv ?_; intro w4 hown4 hgrow4)
  | go_in)
 go_end0
 obtain ⟨h1, o2, o3, h3, h4, h5, hn, hF⟩ := HO.out
 have hb : ∀ b, b < w.heap.size -> b ≠ mq -> w4.heap[b]? = w.heap[b]? := fun b hb hne => hgrow4.block b hb (by simpa using hne)
 refine ⟨rfl, F, ⟨⟨(hb _ (lt_of_some h1) (Ne.symm hn.1)).trans h1, Mp.add H1.out o2 o3 rfl rfl hown4, h3.same (hb _ h3.ltp (Ne.symm hn.2.2.1)) (hb _ h3.ltq (Ne.symm hn.2.2.2.1)), (hb _ (lt_of_some h4) (Ne.symm hn.2.1)).trans h4, (hb _ (lt_of_some h5) (Ne.symm hn.2.2.2.2)).trans h5⟩, hn, hF⟩, ⟨((Fr.refl _ w).grown hgrow4 (fun b e => Or.inl (by cases e; exact (hF mq).2 (Or.inr (Or.inl rfl))))), fun _ h => Or.inl h⟩⟩
def Tw (N y g : Nat) (ws : List Int) : List Int := (thY N y g ws).filter (fun a => decide (a + pf (ld N y g ws a) < y))
theorem eaL_filter (h : Int -> Int) (e : Int) : ∀ (l U : List Int), eaL (fun _ a => h a) (fun U a => U ++ [a]) e U l = U ++ l.filter (fun a => decide (a + h a < e))
 | [], U => by simp [eaL]
 | a :: l, U => by
  have ih := eaL_filter h e l
  have e0 : eaL (fun _ a => h a) (fun U a => U ++ [a]) e U (a :: l) = eaL (fun _ a => h a) (fun U a => U ++ [a]) e (eaS (fun _ a => h a) (fun U a => U ++ [a]) e U a) l := rfl
  rw [e0]
  by_cases c : a + h a < e
  ·have e1 : eaS (fun _ a => h a) (fun U a => U ++ [a]) e U a = U ++ [a] := by unfold eaS; rw [if_pos c]
   rw [e1, ih, List.filter_cons_of_pos (by simpa using c), List.append_assoc]
   rfl
  ·have e1 : eaS (fun _ a => h a) (fun U a => U ++ [a]) e U a = U := by unfold eaS; rw [if_neg c]
   rw [e1, ih, List.filter_cons_of_neg (by simpa using c)]
theorem newCut_any {a : Wc} {F : Nat -> Prop} {s : Wst} {w : World} (h : (wodO a).J F s w) :
    Calls Tryz.prog 60 #[.pointer (some ⟨a.pw, 0, none⟩)] w fun e w' => ∃ pk mq pq F', e = .returned (.pointer (some ⟨pk, 0, none⟩)) /\ (cutO ⟨pk, mq, a.pw, a.p, a.q, a.pc, pq, a.sd, a.nb, nC a.O, s.M⟩ ⟨a.N, a.O, s.y, Tw a.N s.y s.g s.ws⟩).J F' ⟨s.g, s.ws, fun _ => -1, (a.N : Int) + s.g, [], [], s.rs⟩ w' /\ Tn F w F' w' := by
  have hmm := @run_makeMap Tryz.prog
  have hmf : ∀ (fn : Fn) (first cap : Array Value) (w : World), (Instr.makeFunc fn first cap).run Tryz.prog w = .ok (.func fn first cap) w := fun _ _ _ _ => rfl
  obtain ⟨own, pq, hM, hF⟩ := h
  have HM : Hid (Mw a own s pq w /\ ∀ b, F b ↔ own b ≠ 0) := ⟨hM, hF⟩
  have c0 : w.cell? ⟨a.pw, 0, none⟩ = some (.pointer (some ⟨a.p, 0, none⟩)) := by have h2 := hM.wd; simp [World.cell?, h2]
  have lpw := lt_of_some hM.wd
  have hA := hM.ar
  have n1 := hA.hN'
  have n2 := hA.hO
  have n3 := hA.hg
  have n4 := hA.hy
  have n5 := hA.hN
  clear hM hF
  go_enter Tryz.func60, Tryz.ntmps60
  go_wp2_with fail
  refine (used_any w hA).mono ?_
  rintro e w1 ⟨rfl, hb1⟩
  have c1 := (hb1.cell (p := ⟨a.pw, 0, none⟩) lpw).trans c0
  have hA1 := hA.below hb1 (Nat.le_refl _)
  go_wp2_with fail
  refine (bounds_any w1 hA1).mono ?_
  rintro e w2 ⟨rfl, hb2⟩
  have hB2 := hb1.trans (hb2.mono hb1.size)
  have c2 := (hB2.cell (p := ⟨a.pw, 0, none⟩) lpw).trans c0
  have hA2 := hA.below hB2 (Nat.le_refl _)
  have hs2 := hB2.size
  have l2 : a.pw < w2.heap.size := by omega
  clear hb1 hb2 hA1 c1
  have hB3 : Below w2.heap.size w2 (((w2.alloc (.map #[] 0)).alloc (.cells #[.pointer (some ⟨a.pw, 0, none⟩), .map (some w2.heap.size), .int .i64 ((a.N : Int) + s.g), .slice none 0 0, .slice none 0 0] 111)).alloc (.cells #[.pointer (some ⟨w2.heap.size + 1, 0, none⟩)] 107)) := (((Below.refl _ w2).alloc (Nat.le_refl _) _).alloc (by simp) _).alloc (by simp; omega) _
  have hA3 := hA2.below hB3 (Nat.le_refl _)
  have c3 := (hB3.cell (p := ⟨a.pw, 0, none⟩) l2).trans c2
  have P := things_any _ hA3
  obtain ⟨W, hW⟩ : ∃ W, W = ((w2.alloc (.map #[] 0)).alloc (.cells #[.pointer (some ⟨a.pw, 0, none⟩), .map (some w2.heap.size), .int .i64 ((a.N : Int) + s.g), .slice none 0 0, .slice none 0 0] 111)).alloc (.cells #[.pointer (some ⟨w2.heap.size + 1, 0, none⟩)] 107) := ⟨_, rfl⟩
  have HW : Hid (W.heap.size = w2.heap.size + 3 /\ Below w2.heap.size w2 W /\ Mp W w2.heap.size [] (fun _ => -1) /\ W.heap[w2.heap.size + 1]? = some (.cells #[.pointer (some ⟨a.pw, 0, none⟩), .map (some w2.heap.size), .int .i64 ((a.N : Int) + s.g), .slice none 0 0, .slice none 0 0] 111 (0, 0)) /\ W.heap[w2.heap.size + 2]? = some (.cells #[.pointer (some ⟨w2.heap.size + 1, 0, none⟩)] 107 (0, 0)) /\ At W a.p a.q a.N a.O s.y s.g s.ws) := by
    rw [<- hW] at hB3 hA3
    refine ⟨by rw [hW]; simp only [World.size_alloc], hB3, ?_, ?_, ?_, hA3⟩
    · have hm0 := World.ownsMap_made w2 Tryz.prog 3 (plainElem (H := Unit) Tryz.prog 3)
      refine Mp.same (w := w2.alloc (.map #[] 0)) ⟨_, hm0, fun _ => rfl, fun a ha => by simp at ha⟩ ?_
      rw [hW, Below.heap_alloc _ _ _ (by simp; omega), Below.heap_alloc _ _ _ (by simp)]
    · rw [hW, Below.heap_alloc _ _ _ (by simp)]
      simpa using heap_alloc_new (w2.alloc (.map #[] 0)) (.cells #[.pointer (some ⟨a.pw, 0, none⟩), .map (some w2.heap.size), .int .i64 ((a.N : Int) + s.g), .slice none 0 0, .slice none 0 0] 111)
    · rw [hW]
      simpa using heap_alloc_new ((w2.alloc (.map #[] 0)).alloc (.cells #[.pointer (some ⟨a.pw, 0, none⟩), .map (some w2.heap.size), .int .i64 ((a.N : Int) + s.g), .slice none 0 0, .slice none 0 0] 111)) (.cells #[.pointer (some ⟨w2.heap.size + 1, 0, none⟩)] 107)
  have HW0 : Hid (W = ((w2.alloc (.map #[] 0)).alloc (.cells #[.pointer (some ⟨a.pw, 0, none⟩), .map (some w2.heap.size), .int .i64 ((a.N : Int) + s.g), .slice none 0 0, .slice none 0 0] 111)).alloc (.cells #[.pointer (some ⟨w2.heap.size + 1, 0, none⟩)] 107)) := hW
  rw [<- hW] at P
  clear hB3 hA3 hW
  go_wp2_with fail
  rw [<- HW0.out]
  refine P.mono ?_
  clear P
  rintro e w3 ⟨v1, v2, rfl, ho1, ho2, hb3⟩
  obtain ⟨d1, f1, rfl⟩ := row_slice ho1
  obtain ⟨d2, f2, rfl⟩ := row_slice ho2
  obtain ⟨W1, W2, W3, W4, W5, W6⟩ := HW.out
  have hs3 := hb3.size
  have x0 : w3.cell? ⟨w2.heap.size + 1 + 1, 0, none⟩ = some (.pointer (some ⟨w2.heap.size + 1, 0, none⟩)) := by
    have := (hb3.block (w2.heap.size + 2) (by omega)).trans W5
    simp [World.cell?, this]
  have lx : w2.heap.size + 1 + 1 < w3.heap.size := by omega
  have e0 : w3.cell? ⟨a.pw, 0, none⟩ = some (.pointer (some ⟨a.p, 0, none⟩)) := (hb3.cell (p := ⟨a.pw, 0, none⟩) (by show a.pw < _; omega)).trans ((W2.cell (p := ⟨a.pw, 0, none⟩) l2).trans c2)
  have hlY : (thY a.N s.y s.g s.ws).length <= 2000 := ths_le _ _
  have hbY : ∀ x ∈ thY a.N s.y s.g s.ws, 0 <= x /\ x <= 2000 := fun x hx => by have := thY_bd x hx; omega
  have hA0 := HM.out.1.ar
  have np := hA0.ltp
  have nq := hA0.ltq
  have hN0 : (nuO (w2.heap.size + 1) w2.heap.size (w2.heap.size + 2) ((a.N : Int) + s.g) a s.y s.g s.ws).J (fun b => b = w2.heap.size + 1 \/ b = w2.heap.size \/ b = a.pw \/ b = a.p \/ b = a.q \/ b = w2.heap.size + 2) [] w3 :=
    ⟨⟨(hb3.block _ (by omega)).trans W4, W3.same (hb3.block _ (by omega)), W6.below hb3 (Nat.le_refl _), ((hb3.block _ (by omega)).trans (W2.block _ l2)).trans ((hB2.block _ lpw).trans HM.out.1.wd), (hb3.block _ (by omega)).trans W5⟩, ⟨by omega, by omega, by omega, by omega, by omega⟩, fun b => Iff.rfl⟩
  have E := each_any (nuO (w2.heap.size + 1) w2.heap.size (w2.heap.size + 2) ((a.N : Int) + s.g) a s.y s.g s.ws) (fun _ x => pf (ld a.N s.y s.g s.ws x)) (fun U x => U ++ [x]) (fun j U => U.length <= j) (w2.heap.size + 1) a.pw a.p 126 #[.pointer (some ⟨w2.heap.size + 1 + 1, 0, none⟩)] ent_nu1 (thY a.N s.y s.g s.ws) d1 f1 s.y _ [] w3
    (by
      rintro F t w9 x ⟨⟨g1, g2, g3, g4, g5⟩, _⟩
      refine ⟨by simp [World.cell?, g1], by simp [World.cell?, g4], (thing_any x w9 g3).mono ?_⟩
      rintro r w' ⟨rfl, hb⟩
      exact ⟨_, _, rfl, hb⟩)
    (fun t x => pf_bd _) (fun x hx => by have := hbY x hx; omega) (by omega)
    (by
      rintro j F t w9 hj hG hJ _
      have hm : (thY a.N s.y s.g s.ws).getD j 0 ∈ thY a.N s.y s.g s.ws := by rw [List.getD_eq_getElem?_getD, List.getElem?_eq_getElem hj]; exact List.getElem_mem hj
      have hb := hbY _ hm
      have hG : t.length <= j := hG
      exact nu1_any hJ _ hb.1 (by omega) (by omega))
    (by
      intro j t hj hG
      have hG : t.length <= j := hG
      show (eaS _ _ _ _ _ : List Int).length <= j + 1
      unfold eaS
      split
      · simp; omega
      · omega)
    (by simp) hN0 (row_ints ho1)
    (fun hp z e => by
      obtain ⟨b, cap, e'⟩ := row_shape ho1 hp
      cases e'
      cases e
      have h2 := (row_lt ho1 b rfl).1
      show ¬ (b = w2.heap.size + 1 \/ b = w2.heap.size \/ b = a.pw \/ b = a.p \/ b = a.q \/ b = w2.heap.size + 2)
      omega)
  rw [eaL_filter (fun x => pf (ld a.N s.y s.g s.ws x)) s.y (thY a.N s.y s.g s.ws) [], List.nil_append] at E
  have HE : Hid (∀ b, b < w2.heap.size -> w3.heap[b]? = w2.heap[b]?) := fun b hb => (hb3.block b (by omega)).trans (W2.block b hb)
  have HB : Hid (Below w.heap.size w w2 /\ w3.os = w2.os /\ w3.tape = w2.tape /\ w3.output = w2.output) := ⟨hB2, hb3.os.trans W2.os, hb3.tape.trans W2.tape, hb3.output.trans W2.output⟩
  clear hN0 ho1 ho2 W1 W2 W3 W4 W5 W6 HW HW0 hb3 hbY hA0 hA hA2 hB2 c0 c2
  go_wp2_with fail
  refine E.mono ?_
  clear E
  rintro e w4 ⟨F4, rfl, ⟨⟨g1, g2, g3, g4, g5⟩, gn, gF⟩, hT, _⟩
  have y0 : w4.cell? ⟨w2.heap.size + 1 + 1, 0, none⟩ = some (.pointer (some ⟨w2.heap.size + 1, 0, none⟩)) := by simp [World.cell?, g5]
  have ly : w2.heap.size + 1 + 1 < w4.heap.size := lt_of_some g5
  have HJ : Hid (∃ F', (cutO ⟨w2.heap.size + 1, w2.heap.size, a.pw, a.p, a.q, a.pc, pq, a.sd, a.nb, nC a.O, s.M⟩ ⟨a.N, a.O, s.y, Tw a.N s.y s.g s.ws⟩).J F' ⟨s.g, s.ws, fun _ => -1, (a.N : Int) + s.g, [], [], s.rs⟩ w4 /\ Tn F w F' w4) := by
    obtain ⟨hM, hF⟩ := HM.out
    have keep : ∀ b, b < w.heap.size -> own b ≠ 1 -> own b ≠ 3 -> w4.heap[b]? = w.heap[b]? := fun b hb n1 n3 =>
      (hT.fr.block b (by omega) (fun d => by
        rcases d with d | d | d | d | d | d
        · omega
        · omega
        · exact n3 (by rw [d]; exact hM.w1)
        · exact n1 (by rw [d]; exact hM.a1)
        · exact n1 (by rw [d]; exact hM.a2)
        · omega)).trans ((HE.out b (by omega)).trans (HB.out.1.block b hb))
    have ltw := hM.lt
    have lo : ∀ b, own b ≠ 0 -> b ≠ w2.heap.size + 1 /\ b ≠ w2.heap.size := fun b hb => by have := ltw b hb; omega
    have e1 : ∀ b j, own b = j -> j ≠ 0 -> (if b = w2.heap.size + 1 then 5 else if b = w2.heap.size then 6 else own b) = j := fun b j e h0 => by
      obtain ⟨l1, l2⟩ := lo b (by rw [e]; exact h0)
      rw [if_neg l1, if_neg l2]
      exact e
    refine ⟨fun b => F b \/ b = w2.heap.size + 1 \/ b = w2.heap.size, ⟨.slice none 0 0, .slice none 0 0, fun b => if b = w2.heap.size + 1 then 5 else if b = w2.heap.size then 6 else own b, ?_, fun b => ?_⟩, ⟨?_, fun b hb => ?_⟩⟩
    · exact { ar := g3, a1 := e1 _ _ hM.a1 (by decide), a2 := e1 _ _ hM.a2 (by decide), c1 := e1 _ _ hM.c1 (by decide), c2 := e1 _ _ hM.c2 (by decide), w1 := e1 _ _ hM.w1 (by decide), r1 := e1 _ _ hM.r1 (by decide), rl := hM.rl
              cd := hM.cd.same (keep _ hM.cd.ltp (by rw [hM.c1]; decide) (by rw [hM.c1]; decide)) (keep _ hM.cd.ltq (by rw [hM.c2]; decide) (by rw [hM.c2]; decide))
              wd := g4
              rt := (keep _ (lt_of_some hM.rt) (by rw [hM.r1]; decide) (by rw [hM.r1]; decide)).trans hM.rt
              cb := g1
              k1 := by rw [if_pos rfl]
              mp := g2
              m1 := by rw [if_neg (by simp), if_pos rfl]
              wr := World.ownsRow_nil _ _ _ _
              wo := fun b e => by simp [Value.ownBlock] at e
              er := World.ownsRow_nil _ _ _ _
              eo := fun b e => by simp [Value.ownBlock] at e
              lt := fun b hb => by
                by_cases h5 : b = w2.heap.size + 1
                · omega
                · by_cases h6 : b = w2.heap.size
                  · omega
                  · rw [if_neg h5, if_neg h6] at hb
                    have := ltw b hb
                    omega }
    · by_cases h5 : b = w2.heap.size + 1
      · simp [h5]
      · by_cases h6 : b = w2.heap.size
        · simp [h6]
        · simp [h5, h6, hF b]
    · have hb03 : Below w.heap.size w w3 := ⟨HB.out.2.1.trans HB.out.1.os, HB.out.2.2.1.trans HB.out.1.tape, HB.out.2.2.2.trans HB.out.1.output, by omega, fun b hb => (HE.out b (by omega)).trans (HB.out.1.block b hb)⟩
      refine (Fr.of (X := F) hb03).trans hT.fr (fun b d => ?_)
      rcases d with d | d | d | d | d | d
      · exact Or.inr (by omega)
      · exact Or.inr (by omega)
      · exact Or.inl ((hF b).2 (by rw [d, hM.w1]; decide))
      · exact Or.inl ((hF b).2 (by rw [d, hM.a1]; decide))
      · exact Or.inl ((hF b).2 (by rw [d, hM.a2]; decide))
      · exact Or.inr (by omega)
    · rcases hb with hb | hb | hb
      · exact Or.inl hb
      · exact Or.inr (by omega)
      · exact Or.inr (by omega)
  clear g1 g2 g3 g4 g5 gn gF hT HE HB
  go_wp2_with fail
  go_ret
  obtain ⟨F', j1, j2⟩ := HJ.out
  exact ⟨_, _, _, F', rfl, j1, j2⟩
end Go.Proofs.YtnalfnlmaallmaaGreat

namespace Go.Proofs.YtnalfnlmaallmaaGreat
open Go.RowKit W Kp Stl
structure Jk where
  a : Wc
  s : Wst
  Y : List Int
  G : List Int
structure Js where
  f : Int -> Int
  td : List Int
  ep : List Int
section
variable {k : Jk} {s : Js}
end
end Go.Proofs.YtnalfnlmaallmaaGreat

namespace Go.Proofs.YtnalfnlmaallmaaGreat
open Go.RowKit W Kp Stl
structure Jc where
  pk : Nat
  mq : Nat
  bs : Nat
  yv : Value
  ov : Value
section
variable {c : Jc} {k : Jk} {FW : Nat -> Prop} {own : Nat -> Nat} {s : Js} {vt ve : Value} {w w' : World}
end
section
variable {c : Jc} {k : Jk} {F : Nat -> Prop} {s : Js} {vt ve : Value} {w : World}
end
end Go.Proofs.YtnalfnlmaallmaaGreat

namespace Go.Proofs.YtnalfnlmaallmaaGreat
open Go.RowKit W Kp Stl
section
variable {c : Jc} {k : Jk} {F : Nat -> Prop} {s : Js} {vt ve : Value} {w : World}
end
end Go.Proofs.YtnalfnlmaallmaaGreat

namespace Go.Proofs.YtnalfnlmaallmaaGreat
open Go.RowKit W Kp Stl
section
variable {c : Jc} {k : Jk} {vt ve : Value} {F : Nat -> Prop} {s : Js} {w : World}
end
end Go.Proofs.YtnalfnlmaallmaaGreat

namespace Go.Proofs.YtnalfnlmaallmaaGreat
open Go.RowKit W Kp Stl
section
variable {c : Jc} {k : Jk} {ve : Value} {F : Nat -> Prop} {s : Js} {w : World}
end
end Go.Proofs.YtnalfnlmaallmaaGreat

namespace Go.Proofs.YtnalfnlmaallmaaGreat
open Go.RowKit W Kp Stl
section
variable {c : Jc} {k : Jk} {F : Nat -> Prop} {s : Js} {w : World}
end
end Go.Proofs.YtnalfnlmaallmaaGreat

namespace Go.Proofs.YtnalfnlmaallmaaGreat
open Go.RowKit W Kp Stl
section
variable {c : Jc} {k : Jk} {F : Nat -> Prop} {s : Js} {w : World}
end
end Go.Proofs.YtnalfnlmaallmaaGreat

namespace Go.Proofs.YtnalfnlmaallmaaGreat
open Go.RowKit W Kp Stl
section
variable {c : Jc} {k : Jk} {F : Nat -> Prop} {s : Js} {w : World}
end
end Go.Proofs.YtnalfnlmaallmaaGreat

namespace Go.Proofs.YtnalfnlmaallmaaGreat
open Go.RowKit W Kp Stl
section
variable {c : Jc} {k : Jk} {F : Nat -> Prop} {s : Js} {w : World}
end
end Go.Proofs.YtnalfnlmaallmaaGreat

namespace Go.Proofs.YtnalfnlmaallmaaGreat
open Go.RowKit W Kp Stl
section
variable {k : Jk} {s t u : Js}
end
end Go.Proofs.YtnalfnlmaallmaaGreat

namespace Go.Proofs.YtnalfnlmaallmaaGreat
open Go.RowKit W Kp Stl
section
variable {c : Jc} {k : Jk} {F : Nat -> Prop} {s : Js} {w : World} {vr : Value}
end
end Go.Proofs.YtnalfnlmaallmaaGreat

namespace Go.Proofs.YtnalfnlmaallmaaGreat
open Go.RowKit W Kp Stl
section
variable {τ : Type} {o : Ob τ} {bx p : Nat} {x : Obj} {vr : Value} {F : Nat -> Prop} {w w' : World}
theorem mkSd_less {t : τ × List En} (h : (mkSd (obX o bx x) p vr).J F t w) : (mkSd o p vr).J (fun b => F b /\ b ≠ bx) t w /\ w.heap[bx]? = some x /\ F bx := by
 obtain ⟨F0, ad, cap, ⟨F1, g1, g2, g3, g4⟩, h2, h3, h4, h5, h6, h7, h8⟩ := h
 have hbx : F0 bx := (g4 bx).2 (Or.inr rfl)
 exact ⟨⟨F1, ad, cap, g1, h2, h3, fun b hb => ⟨h4 b ((g4 b).2 (Or.inl hb)), fun e => g3 (by rw [<- e]; exact hb)⟩, ⟨h5, fun e => h6 (by rw [e]; exact hbx)⟩, fun c => h6 ((g4 p).2 (Or.inl c)), fun b e => ⟨⟨(h7 b e).1, fun e' => (h7 b e).2 (by rw [e']; exact hbx)⟩, fun c => (h7 b e).2 ((g4 b).2 (Or.inl c))⟩, fun b hb => h8 b hb.1⟩, g2, h4 _ hbx⟩
theorem mkSd_to {t : τ × List En} (h : (mkSd o p vr).J F t w) : ∃ F0, o.J F0 t.1 w /\ ∀ {τ' : Type} (o' : Ob τ') F1 t1 w', o'.J F1 t1 w' -> Tn F0 w F1 w' -> ∃ F', (mkSd o' p vr).J F' (t1, t.2) w' /\ Tn F w F' w' := by
 obtain ⟨F0, ad, cap, h1, h2, h3, h4, h5, h6, h7, h8⟩ := h
 refine ⟨F0, h1, fun o' F1 t1 w' hJ hT => ?_⟩
 have lp := lt_of_some h2
 refine ⟨fun k => F k \/ F1 k, ⟨F1, ad, cap, hJ, (hT.fr.block p lp h6).trans h2, row_keep h3 (fun k e => hT.fr.block k (row_lt h3 k e).2 (h7 k e).2), fun k h => Or.inr h, Or.inl h5, fun h => (hT.sub p h).elim h6 (fun h => by omega), fun k e => ⟨Or.inl (h7 k e).1, fun h => (hT.sub k h).elim (h7 k e).2 (fun h => by have := (row_lt h3 k e).2; omega)⟩, fun k h => ?_⟩, hT.fr.mono h4, fun k h => ?_⟩
 ·rcases h with h | h
  ·exact Nat.lt_of_lt_of_le (h8 k h) hT.fr.size
  ·exact o'.lt hJ k h
 ·rcases h with h | h
  ·exact Or.inl h
  ·exact (hT.sub k h).imp (h4 k) id
end
def botO (τ : Type) : Ob τ where
  J _ _ _ := False
  lt := fun h => h.elim
  keep := fun h => h.elim
def noSd (τ : Type) : SdOb (τ × List En) := mkSd (botO τ) 0 (.slice none 0 0)
def Ck.sS (k : Ck) (t : Cs × List En) (r : List En) : Cs × List En := stS (noSd Cs) (fun s x => k.al s.1 x) k.ke t r
def Ck.sR (k : Ck) (t : Cs × List En) (r : List En) : List En := stR (noSd Cs) (fun s x => k.al s.1 x) k.ke (fun s x => k.nw s.1 x) t r
def Ck.sQ (k : Ck) (t : Cs × List En) (r : List En) : List En := stQ (noSd Cs) (fun s x => k.al s.1 x) k.ke (fun s x => k.nw s.1 x) t r
theorem wkQ_len {α : Type} (is : α -> Int -> Bool) (kp : α -> Int -> Int × α) (s : α × List En) : ∀ n, (wkQ is kp s n).1.2.length = s.2.length
 | 0 => rfl
 | n + 1 => by
  have e : wkQ is kp s (n + 1) = wkP is kp (wkQ is kp s n) n := by simp [wkQ, List.range_succ]
  rw [e]
  have ih := wkQ_len is kp s n
  generalize wkQ is kp s n = t at ih ⊢
  unfold wkP
  split
  ·exact ih
  ·simpa using ih
theorem spr_len (k : Ck) : ∀ (n : Nat) (t : Cs × List En), (k.spr n t).2.length = t.2.length
 | 0, _ => rfl
 | n + 1, t => by
  unfold Ck.spr
  split
  ·exact spr_len k n _
  ·split
   ·exact (spr_len k n _).trans (wkQ_len _ _ _ _)
   ·exact wkQ_len _ _ _ _
theorem ke_len (k : Ck) (t : Cs × List En) (x : Int) : (k.ke t x).2.2.length = t.2.length := spr_len k _ _
section
variable {c : Cc} {k : Ck} {F : Nat -> Prop} {s : Cs} {w : World} {vr : Value}
theorem keepsW_fkM (bx : Nat) {adr : Option Addr} {nr cr : Nat} (hvr : vr = .slice adr nr cr) : KeepsW (mkSd (obX (cutI c k) bx (boxC c)) c.sd vr) (fun _ => True) (fkM c).f (fkM c).b (fkM c).c k.ke := by
 intro F t w x _ hn hJ
 have hn : (k.ke t x).2.2.length <= 90000 := hn
 obtain ⟨h1, hx, hbx⟩ := mkSd_less hJ
 rw [ke_len] at hn
 refine (keepM_any hvr h1 hn x).mono ?_
 rintro r w' ⟨F', rfl, hM, hT⟩
 have lx := lt_of_some hx
 have nF : ¬ F' bx := fun d => (hT.sub bx d).elim (fun d => d.2 rfl) (fun d => by omega)
 refine ⟨fun b => F' b \/ b = bx, rfl, mkSd_add hM ((hT.fr.block bx lx (fun d => d.2 rfl)).trans hx) nF, hT.fr.mono (fun b d => d.1), fun b d => ?_⟩
 rcases d with d | d
 ·exact (hT.sub b d).imp (fun d => d.1) id
 ·exact Or.inl (by rw [d]; exact hbx)
theorem lksM (bx : Nat) {adr : Option Addr} {nr cr : Nat} (hvr : vr = .slice adr nr cr) : Lks (mkSd (obX (cutI c k) bx (boxC c)) c.sd vr) (fun _ => True) (faM bx) (fkM c) (fnM c) (fun s x => k.al s.1 x) k.ke (fun s x => k.nw s.1 x) where
  ea := ent_faM
  ek := ent_fkM
  en := ent_fnM
  ha := by
    rintro F s w x _ ⟨F0, ad, cap, h1, _⟩
    exact alives_faM bx F0 s.1 w x trivial h1
  hk := keepsW_fkM bx hvr
  ht := by
    rintro F s w x _ ⟨F0, ad, cap, h1, _⟩
    exact tells_obX tells_fnM F0 s.1 w x trivial h1
  hl := fun s x => ke_len k s x
theorem settleM_any {adr : Option Addr} {cr : Nat} {r : List En} (hvr : vr = .slice adr r.length cr) {t : Cs × List En} (h : (mkSd (cutI c k) c.sd vr).J F t w) (hr : w.ownsRow 0 106 2 vr r.length (ev r)) (hq : t.2.length + r.length <= 90000) (bx : Nat) (hx : w.heap[bx]? = some (boxC c)) (hn : ¬ F bx) :
  Calls Tryz.prog 64 #[.pointer (some ⟨c.sd, 0, none⟩), .agg #[(faM bx).v, (fkM c).v, (fnM c).v]] w fun e w' => ∃ a1 c1 F', e = .returned (.tuple #[]) /\ (mkSd (cutI c k) c.sd (.slice a1 (k.sR t r).length c1)).J F' ((k.sS t r).1, k.sQ t r) w' /\
   w'.ownsRow 0 106 2 (.slice a1 (k.sR t r).length c1) (k.sR t r).length (ev (k.sR t r)) /\ (∀ b, some b = (Value.slice a1 (k.sR t r).length c1).ownBlock -> ¬ F' b /\ w.heap.size <= b) /\ Fr (fun b => F b \/ b = bx) w w' /\ (∀ b, F' b -> F b \/ w.heap.size <= b) := by
 subst hvr
 have P := settle_more (mkSd (obX (cutI c k) bx (boxC c)) c.sd (.slice adr r.length cr)) (fun _ => True) (faM bx) (fkM c) (fnM c) _ _ _ (lksM bx rfl) r adr cr rfl (by omega) (fun _ _ => ⟨trivial, trivial⟩) _ t w (fun _ _ => ⟨trivial, trivial⟩) hq (mkSd_add h hx hn) (row_pairs hr)
 refine P.mono ?_
 clear P
 rintro e w' ⟨a1, c1, a2, c2, F1, wm, rfl, ⟨F0, ad, cap, ⟨Fc, g1, g2, g3, g4⟩, h2, h3, h4, h5, h6, h7, h8⟩, q3, q4, q5, q6, q7, q8, q9, q10, q11, q12⟩
 have q5 : w'.heap[c.sd]? = some (.cells #[.slice a1 (k.sR t r).length c1, .slice a2 (k.sQ t r).length c2] 153 (0, 0)) := q5
 have q6 : w'.ownsRow w.heap.size 106 2 (.slice a1 (k.sR t r).length c1) (k.sR t r).length (ev (k.sR t r)) := q6
 have q7 : w'.ownsRow w.heap.size 106 2 (.slice a2 (k.sQ t r).length c2) (k.sQ t r).length (ev (k.sQ t r)) := q7
 have q10 : ∀ b, some b = (Value.slice a1 (k.sR t r).length c1).ownBlock -> ¬ F1 b := q10
 have q11 : ∀ b, some b = (Value.slice a2 (k.sQ t r).length c2).ownBlock -> ¬ F1 b := q11
 have q12 : ∀ b, some b = (Value.slice a1 (k.sR t r).length c1).ownBlock -> some b ≠ (Value.slice a2 (k.sQ t r).length c2).ownBlock := q12
 have g1 : (cutI c k).J Fc (k.sS t r).1 wm := g1
 have fc1 : ∀ b, Fc b -> F1 b := fun b hb => h4 b ((g4 b).2 (Or.inl hb))
 have fcp : ∀ b, Fc b -> b ≠ c.sd := fun b hb e => h6 (by show F0 c.sd; rw [<- e]; exact (g4 b).2 (Or.inl hb))
 have g1' := (cutI c k).keep (w' := w') g1 q4 (fun b hb => q3 b (fc1 b hb) (fcp b hb))
 have hFs : F c.sd := by
  obtain ⟨_, _, _, _, _, _, _, e5, _⟩ := h
  exact e5
 refine ⟨a1, c1, fun b => Fc b \/ b = c.sd \/ some b = (Value.slice a2 (k.sQ t r).length c2).ownBlock, rfl, ⟨Fc, a2, c2, g1', q5, row_base q7 (fun _ _ => Nat.zero_le _), fun b hb => Or.inl hb, Or.inr (Or.inl rfl), fun d => fcp _ d rfl, fun b e => ⟨Or.inr (Or.inr e), fun d => q11 b e (fc1 b d)⟩, fun b hb => ?_⟩, row_base q6 (fun _ _ => Nat.zero_le _), fun b e => ⟨fun d => ?_, (row_lt q6 b e).1⟩, q8, fun b hb => ?_⟩
 ·rcases hb with hb | hb | hb
  ·exact (cutI c k).lt g1' b hb
  ·rw [hb]; exact lt_of_some q5
  ·exact (row_lt q7 b hb).2
 ·rcases d with d | d | d
  ·exact q10 b e (fc1 b d)
  ·obtain ⟨cs, hc⟩ := row_type q6 b e
   rw [d, q5] at hc
   simp at hc
  ·exact q12 b e d
 ·rcases hb with hb | hb | hb
  ·rcases q9 b (fc1 b hb) with (d | d) | d
   ·exact Or.inl d
   ·exact absurd hb (by rw [d]; exact g3)
   ·exact Or.inr d
  ·exact Or.inl (by rw [hb]; exact hFs)
  ·exact Or.inr (row_lt q7 b hb).1
end
theorem cut_wood {pk mq pq y : Nat} {a : Wc} {M T : List Int} {F : Nat -> Prop} {s : Cs} {w : World} (h : (cutO ⟨pk, mq, a.pw, a.p, a.q, a.pc, pq, a.sd, a.nb, nC a.O, M⟩ ⟨a.N, a.O, y, T⟩).J F s w) : ∃ F', (wodO a).J F' ⟨y, s.g, s.ws, M, s.rs⟩ w /\ (∀ b, F' b -> F b) /\ ¬ F' pk := by
  obtain ⟨vw, ve, own, h, hF⟩ := h
  have e1 : ∀ b j, own b = j -> j <= 4 -> (if own b <= 4 then own b else 0) = j := fun b j e hj => by rw [if_pos (by omega)]; exact e
  refine ⟨fun b => (if own b <= 4 then own b else 0) ≠ 0, ⟨fun b => if own b <= 4 then own b else 0, pq, ?_, fun b => Iff.rfl⟩, fun b hb => (hF b).2 (fun e => hb (by rw [e]; rfl)), fun hb => hb ?_⟩
  · exact { ar := h.ar, a1 := e1 _ _ h.a1 (by decide), a2 := e1 _ _ h.a2 (by decide), cd := h.cd, c1 := e1 _ _ h.c1 (by decide), c2 := e1 _ _ h.c2 (by decide), wd := h.wd, w1 := e1 _ _ h.w1 (by decide), rt := h.rt, rl := h.rl, r1 := e1 _ _ h.r1 (by decide)
            le := fun b => by
              split
              · assumption
              · decide
            lt := fun b hb => h.lt b (fun e => hb (by rw [e]; rfl)) }
  · have := h.k1
    dsimp only at this
    rw [this]
    rfl
structure Ww where
  s : Wst
  r : List En
  q : List En
def wsO (a : Wc) : Ob Ww where
  J F S w := ∃ F0 ar cr, (mkSd (wodO a) a.sd (.slice ar S.r.length cr)).J F0 (S.s, S.q) w /\ w.ownsRow 0 106 2 (.slice ar S.r.length cr) S.r.length (ev S.r) /\ (∀ b, some b = (Value.slice ar S.r.length cr).ownBlock -> ¬ F0 b) /\ ∀ b, F b ↔ (F0 b \/ some b = (Value.slice ar S.r.length cr).ownBlock)
  lt := by
    rintro F S w ⟨F0, ar, cr, h1, h2, h3, hF⟩ b hb
    rcases (hF b).1 hb with hb | hb
    · exact (mkSd (wodO a) a.sd (.slice ar S.r.length cr)).lt h1 b hb
    · exact (row_lt h2 b hb).2
  keep := by
    rintro F S w w' ⟨F0, ar, cr, h1, h2, h3, hF⟩ hs hk
    exact ⟨F0, ar, cr, (mkSd (wodO a) a.sd (.slice ar S.r.length cr)).keep h1 hs (fun b hb => hk b ((hF b).2 (Or.inl hb))), row_keep h2 (fun b e => hk b ((hF b).2 (Or.inr e))), h3, hF⟩
end Go.Proofs.YtnalfnlmaallmaaGreat

namespace Go.Proofs.YtnalfnlmaallmaaGreat
open Go.RowKit W Kp Stl
section
variable {c : Jc} {k : Jk} {F : Nat -> Prop} {s : Js} {w : World} {vr : Value}
end
end Go.Proofs.YtnalfnlmaallmaaGreat

namespace Go.Proofs.YtnalfnlmaallmaaGreat
open Go.RowKit W Kp Stl
end Go.Proofs.YtnalfnlmaallmaaGreat

namespace Go.Proofs.YtnalfnlmaallmaaGreat
open Go.RowKit W Kp Stl
theorem row_none {w : World} {base n m : Nat} {e : TypeId} {ad : Option Addr} {cap : Nat} {xs : List Value} (h : w.ownsRow base e m (.slice ad n cap) n xs) : ad = none -> n = 0 /\ cap = 0 := fun e0 => by
 subst e0
 rcases h.2 with ⟨hv, hn⟩ | ⟨g, c, cur, hv, _⟩
 ·simp at hv
  exact ⟨hn, hv.2⟩
 ·simp at hv
section
variable {c : Jc} {k : Jk} {F : Nat -> Prop} {s : Js} {w : World}
end
end Go.Proofs.YtnalfnlmaallmaaGreat
