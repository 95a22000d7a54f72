/- Joined: Mn14, Mj1, Mj2. -/
import Derived.Test.YtnalfnlmaallmaaGreatJ18
import Derived.Test.YtnalfnlmaallmaaGreatJ10
namespace Go.Proofs.YtnalfnlmaallmaaGreat
set_option maxRecDepth 100000
set_option maxHeartbeats 2000000
open Go.RowKit W Kp Stl
structure Wc where
  pw : Nat
  p : Nat
  q : Nat
  pc : Nat
  sd : Nat
  nb : Nat
  N : Nat
  O : Nat
structure Wst where
  y : Nat
  g : Nat
  ws : List Int
  M : List Int
  rs : List Int
structure Mw (a : Wc) (own : Nat -> Nat) (s : Wst) (pq : Nat) (w : World) : Prop where
  ar : At w a.p a.q a.N a.O s.y s.g s.ws
  a1 : own a.p = 1
  a2 : own a.q = 1
  cd : Cd w a.pc pq a.N (nC a.O) s.M
  c1 : own a.pc = 2
  c2 : own pq = 2
  wd : w.heap[a.pw]? = some (.cells #[.pointer (some ⟨a.p, 0, none⟩), .pointer (some ⟨a.pc, 0, none⟩), .pointer (some ⟨a.sd, 0, none⟩), .slice (some ⟨a.nb, 0, none⟩) 12 12] 44 (0, 0))
  w1 : own a.pw = 3
  rt : w.heap[a.nb]? = some (.cells (s.rs.map (Value.int .i64)).toArray 2 (0, 0))
  rl : s.rs.length = 12
  r1 : own a.nb = 4
  le : ∀ b, own b <= 4
  lt : ∀ b, own b ≠ 0 -> b < w.heap.size
theorem Mw.keep {a : Wc} {own : Nat -> Nat} {s : Wst} {pq : Nat} {w w' : World} (h : Mw a own s pq w) (hs : w.heap.size <= w'.heap.size) (hk : ∀ b, own b ≠ 0 -> w'.heap[b]? = w.heap[b]?) : Mw a own s pq w' :=
  { ar := h.ar.same (hk _ (by rw [h.a1]; decide)) (hk _ (by rw [h.a2]; decide)), a1 := h.a1, a2 := h.a2
    cd := h.cd.same (hk _ (by rw [h.c1]; decide)) (hk _ (by rw [h.c2]; decide)), c1 := h.c1, c2 := h.c2
    wd := (hk _ (by rw [h.w1]; decide)).trans h.wd, w1 := h.w1
    rt := (hk _ (by rw [h.r1]; decide)).trans h.rt, rl := h.rl, r1 := h.r1, le := h.le, lt := fun b hb => Nat.lt_of_lt_of_le (h.lt b hb) hs }
def wodO (a : Wc) : Ob Wst where
  J F s w := ∃ own pq, Mw a own s pq w /\ ∀ b, F b ↔ own b ≠ 0
  lt := by
    rintro F s w ⟨own, pq, h, hF⟩ b hb
    exact h.lt b ((hF b).1 hb)
  keep := by
    rintro F s w w' ⟨own, pq, h, hF⟩ hs hk
    exact ⟨own, pq, h.keep hs (fun b hb => hk b ((hF b).2 hb)), hF⟩
section
variable {a : Wc} {F : Nat -> Prop} {s : Wst} {w : World}
theorem wod_arena (h : (wodO a).J F s w) : At w a.p a.q a.N a.O s.y s.g s.ws /\ ∀ w' y g ws, At w' a.p a.q a.N a.O y g ws -> Sv a.p a.q w w' -> (wodO a).J F { s with y := y, g := g, ws := ws } w' /\ Tn F w F w' := by
  obtain ⟨own, pq, h, hF⟩ := h
  refine ⟨h.ar, fun w' y g ws ha sv => ⟨⟨own, pq, ?_, hF⟩, ⟨⟨sv.os, sv.tape, sv.output, sv.size, fun b hb hn => sv.block b hb (fun e => hn ((hF b).2 (by rw [e, h.a1]; decide))) (fun e => hn ((hF b).2 (by rw [e, h.a2]; decide)))⟩, fun _ h => Or.inl h⟩⟩⟩
  have hb : ∀ b, b < w.heap.size -> own b ≠ 1 -> w'.heap[b]? = w.heap[b]? := fun b hb hn => sv.block b hb (fun e => hn (by rw [e]; exact h.a1)) (fun e => hn (by rw [e]; exact h.a2))
  exact { ar := ha, a1 := h.a1, a2 := h.a2, c1 := h.c1, c2 := h.c2, w1 := h.w1, rl := h.rl, r1 := h.r1, le := h.le, lt := fun b hb => Nat.lt_of_lt_of_le (h.lt b hb) sv.size
          cd := h.cd.same (hb _ h.cd.ltp (by rw [h.c1]; decide)) (hb _ h.cd.ltq (by rw [h.c2]; decide))
          wd := (hb _ (lt_of_some h.wd) (by rw [h.w1]; decide)).trans h.wd
          rt := (hb _ (lt_of_some h.rt) (by rw [h.r1]; decide)).trans h.rt }
theorem wod_root (h : (wodO a).J F s w) (i : Nat) (x : Int) : (wodO a).J F { s with rs := s.rs.set i x } (w.setCell ⟨a.nb, i, none⟩ (.int .i64 x)) /\ Tn F w F (w.setCell ⟨a.nb, i, none⟩ (.int .i64 x)) := by
  obtain ⟨own, pq, h, hF⟩ := h
  have fr : Fr (fun b => b = a.nb) w (w.setCell ⟨a.nb, i, none⟩ (.int .i64 x)) := (Fr.refl _ w).set _ i _ rfl
  refine ⟨⟨own, pq, ?_, hF⟩, ⟨fr.mono (fun b e => (hF b).2 (by rw [e, h.r1]; decide)), fun _ h => Or.inl h⟩⟩
  have hb : ∀ b, b < w.heap.size -> own b ≠ 4 -> (w.setCell ⟨a.nb, i, none⟩ (.int .i64 x)).heap[b]? = w.heap[b]? := fun b hb hn => fr.block b hb (fun e => hn (by rw [e]; exact h.r1))
  exact { a1 := h.a1, a2 := h.a2, c1 := h.c1, c2 := h.c2, w1 := h.w1, r1 := h.r1, le := h.le, lt := fun b hb => Nat.lt_of_lt_of_le (h.lt b hb) fr.size
          rl := by rw [List.length_set]; exact h.rl
          ar := h.ar.same (hb _ h.ar.ltp (by rw [h.a1]; decide)) (hb _ h.ar.ltq (by rw [h.a2]; decide))
          cd := h.cd.same (hb _ h.cd.ltp (by rw [h.c1]; decide)) (hb _ h.cd.ltq (by rw [h.c2]; decide))
          wd := (hb _ (lt_of_some h.wd) (by rw [h.w1]; decide)).trans h.wd
          rt := by
            have hq := h.rt
            simp only [World.setCell, Array.getElem?_modify, if_true, hq, Option.map_some]
            simp [List.map_set] }
theorem wod_cards (h : (wodO a).J F s w) : ∃ pq, Cd w a.pc pq a.N (nC a.O) s.M /\ ∀ w' pq' M, Cd w' a.pc pq' a.N (nC a.O) M -> Sv a.pc pq w w' -> (pq' = pq \/ w.heap.size <= pq') -> ∃ F', (wodO a).J F' { s with M := M } w' /\ Tn F w F' w' := by
  obtain ⟨own, pq, h, hF⟩ := h
  refine ⟨pq, h.cd, fun w' pq' M hc sv hp => ⟨fun b => F b \/ b = pq', ⟨fun b => if b = pq' then 2 else own b, pq', ?_, fun b => ?_⟩, ⟨⟨sv.os, sv.tape, sv.output, sv.size, fun b hb hn => sv.block b hb (fun e => hn ((hF b).2 (by rw [e, h.c1]; decide))) (fun e => hn ((hF b).2 (by rw [e, h.c2]; decide)))⟩, fun b hb => hb.elim Or.inl (fun e => hp.imp (fun e' => (hF b).2 (by rw [e, e', h.c2]; decide)) (fun e' => by omega))⟩⟩⟩
  · have hb : ∀ b, b < w.heap.size -> own b ≠ 2 -> w'.heap[b]? = w.heap[b]? := fun b hb hn => sv.block b hb (fun e => hn (by rw [e]; exact h.c1)) (fun e => hn (by rw [e]; exact h.c2))
    have e1 : ∀ b j, own b = j -> j ≠ 0 -> j ≠ 2 -> (if b = pq' then 2 else own b) = j := fun b j e h0 h2 => by
      rw [if_neg (fun c => ?_)]
      · exact e
      · rcases hp with e' | e'
        · rw [c, e', h.c2] at e
          omega
        · have := h.lt b (by rw [e]; exact h0)
          omega
    exact { cd := hc, a1 := e1 _ _ h.a1 (by decide) (by decide), a2 := e1 _ _ h.a2 (by decide) (by decide), w1 := e1 _ _ h.w1 (by decide) (by decide), r1 := e1 _ _ h.r1 (by decide) (by decide), c2 := by rw [if_pos rfl], c1 := by
              split
              · rfl
              · exact h.c1
            rl := h.rl
            ar := h.ar.same (hb _ h.ar.ltp (by rw [h.a1]; decide)) (hb _ h.ar.ltq (by rw [h.a2]; decide))
            wd := (hb _ (lt_of_some h.wd) (by rw [h.w1]; decide)).trans h.wd
            rt := (hb _ (lt_of_some h.rt) (by rw [h.r1]; decide)).trans h.rt
            le := fun b => by
              split
              · decide
              · exact h.le b
            lt := fun b hb => by
              by_cases e : b = pq'
              · rw [e]; exact hc.ltq
              · rw [if_neg e] at hb
                exact Nat.lt_of_lt_of_le (h.lt b hb) sv.size }
  · by_cases e : b = pq'
    · simp [e]
    · simp [e, hF b]
theorem wod_cells (h : (wodO a).J F s w) : w.cell? ⟨a.pw, 0, none⟩ = some (.pointer (some ⟨a.p, 0, none⟩)) /\ w.cell? ⟨a.pw, 1, none⟩ = some (.pointer (some ⟨a.pc, 0, none⟩)) /\ w.cell? ⟨a.pw, 2, none⟩ = some (.pointer (some ⟨a.sd, 0, none⟩)) /\ w.cell? ⟨a.pw, 3, none⟩ = some (.slice (some ⟨a.nb, 0, none⟩) 12 12) /\ a.pw < w.heap.size /\ s.rs.length = 12 /\ a.nb < w.heap.size /\ ∀ i, i < 12 -> w.cell? ⟨a.nb, i, none⟩ = some (.int .i64 (s.rs.getD i 0)) /\ w.frozen? ⟨a.nb, i, none⟩ = false := by
 obtain ⟨own, pq, h, hF⟩ := h
 have h2 := h.wd
 have hl := h.rl
 refine ⟨by simp [World.cell?, h2], by simp [World.cell?, h2], by simp [World.cell?, h2], by simp [World.cell?, h2], lt_of_some h2, hl, lt_of_some h.rt, fun i hi => ⟨?_, ?_⟩⟩
 ·simp [World.cell?, h.rt, List.getElem?_map, List.getElem?_eq_getElem (show i < s.rs.length by omega), List.getD_eq_getElem?_getD]
 ·simp [World.frozen?, h.rt]
end
/-! ### a cut begins -/
abbrev woodB (a : Wc) : Obj := .cells #[.pointer (some ⟨a.p, 0, none⟩), .pointer (some ⟨a.pc, 0, none⟩), .pointer (some ⟨a.sd, 0, none⟩), .slice (some ⟨a.nb, 0, none⟩) 12 12] 44 (0, 0)
def nuO (pk mq bx : Nat) (nx : Int) (a : Wc) (y g : Nat) (ws : List Int) : Ob (List Int) where
  J F U w := (w.heap[pk]? = some (.cells #[.pointer (some ⟨a.pw, 0, none⟩), .map (some mq), .int .i64 nx, .slice none 0 0, .slice none 0 0] 111 (0, 0)) /\ Mp w mq U (fun _ => -1) /\ At w a.p a.q a.N a.O y g ws /\ w.heap[a.pw]? = some (woodB a) /\ w.heap[bx]? = some (.cells #[.pointer (some ⟨pk, 0, none⟩)] 107 (0, 0))) /\ (mq ≠ pk /\ mq ≠ a.pw /\ mq ≠ a.p /\ mq ≠ a.q /\ mq ≠ bx) /\ ∀ b, F b ↔ (b = pk \/ b = mq \/ b = a.pw \/ b = a.p \/ b = a.q \/ b = bx)
  lt := by
    rintro F U w ⟨⟨h1, h2, h3, h4, h5⟩, _, hF⟩ b hb
    rcases (hF b).1 hb with rfl | rfl | rfl | rfl | rfl | rfl
    · exact lt_of_some h1
    · exact h2.lt
    · exact lt_of_some h4
    · exact h3.ltp
    · exact h3.ltq
    · exact lt_of_some h5
  keep := by
    rintro F U w w' ⟨⟨h1, h2, h3, h4, h5⟩, hn, hF⟩ hs hk
    exact ⟨⟨(hk _ ((hF _).2 (Or.inl rfl))).trans h1, h2.same (hk _ ((hF _).2 (Or.inr (Or.inl rfl)))), h3.same (hk _ ((hF _).2 (Or.inr (Or.inr (Or.inr (Or.inl rfl)))))) (hk _ ((hF _).2 (Or.inr (Or.inr (Or.inr (Or.inr (Or.inl rfl))))))), (hk _ ((hF _).2 (Or.inr (Or.inr (Or.inl rfl))))).trans h4, (hk _ ((hF _).2 (Or.inr (Or.inr (Or.inr (Or.inr (Or.inr rfl))))))).trans h5⟩, hn, hF⟩
theorem ent_nu1 : Ent 126 := ent_of Tryz.func126 (by kernel_rfl) rfl
theorem nu1_any {pk mq bx : Nat} {nx : Int} {a : Wc} {y g : Nat} {ws : List Int} {F : Nat -> Prop} {U : List Int} {w : World} (h : (nuO pk mq bx nx a y g ws).J F U w) (v : Int) (v0 : 0 <= v) (v1 : v <= 100000) (hU : U.length <= 100000) :
  Calls Tryz.prog 126 #[.int .i64 v, .pointer (some ⟨bx, 0, none⟩)] w fun e w' => ∃ F', e = .returned (.tuple #[]) /\ (nuO pk mq bx nx a y g ws).J F' (U ++ [v]) w' /\ Tn F w F' w' := by
 obtain ⟨⟨h1, ⟨D, o1, o2, o3⟩, h3, h4, h5⟩, hn, hF⟩ := h
 have c1 : w.cell? ⟨pk, 1, none⟩ = some (.map (some mq)) := by simp [World.cell?, h1]
 have x0 : w.cell? ⟨bx, 0, none⟩ = some (.pointer (some ⟨pk, 0, none⟩)) := by simp [World.cell?, h5]
 have hky := keyI (a := v) v0 (by omega)
 have hv := elI (-1) (by decide)
 have HO : Hid (_ /\ _ /\ _ /\ _ /\ _ /\ _ /\ _ /\ _) := ⟨h1, o2, o3, h3, h4, h5, hn, hF⟩
 have H1 : Hid (w.ownsMap Tryz.prog 3 (plainElem Tryz.prog 3) mq U.length D) := o1
 clear h1 o2 o3 h3 h4 h5 hn hF
 go_enter Tryz.func126, Tryz.ntmps126
 go_wp2_with (first
  | (at_mapUpdate; refine wpList_mapUpdate_own _ rfl _ _ _ 109 rfl 3 3 lawI Tryz.underlying109 (plainElem (H := Unit) Tryz.prog 3) mq U.length D rfl o1 (by unfold maxLen; omega) _ _ _ rfl rfl hky _ [] hv ?_; intro w4 hown4 hgrow4)
  | go_in)
 go_end0
 obtain ⟨h1, o2, o3, h3, h4, h5, hn, hF⟩ := HO.out
 have hb : ∀ b, b < w.heap.size -> b ≠ mq -> w4.heap[b]? = w.heap[b]? := fun b hb hne => hgrow4.block b hb (by simpa using hne)
 refine ⟨rfl, F, ⟨⟨(hb _ (lt_of_some h1) (Ne.symm hn.1)).trans h1, Mp.add H1.out o2 o3 rfl rfl hown4, h3.same (hb _ h3.ltp (Ne.symm hn.2.2.1)) (hb _ h3.ltq (Ne.symm hn.2.2.2.1)), (hb _ (lt_of_some h4) (Ne.symm hn.2.1)).trans h4, (hb _ (lt_of_some h5) (Ne.symm hn.2.2.2.2)).trans h5⟩, hn, hF⟩, ⟨((Fr.refl _ w).grown hgrow4 (fun b e => Or.inl (by cases e; exact (hF mq).2 (Or.inr (Or.inl rfl))))), fun _ h => Or.inl h⟩⟩
def Tw (N y g : Nat) (ws : List Int) : List Int := (thY N y g ws).filter (fun a => decide (a + pf (ld N y g ws a) < y))
theorem eaL_filter (h : Int -> Int) (e : Int) : ∀ (l U : List Int), eaL (fun _ a => h a) (fun U a => U ++ [a]) e U l = U ++ l.filter (fun a => decide (a + h a < e))
 | [], U => by simp [eaL]
 | a :: l, U => by
  have ih := eaL_filter h e l
  have e0 : eaL (fun _ a => h a) (fun U a => U ++ [a]) e U (a :: l) = eaL (fun _ a => h a) (fun U a => U ++ [a]) e (eaS (fun _ a => h a) (fun U a => U ++ [a]) e U a) l := rfl
  rw [e0]
  by_cases c : a + h a < e
  ·have e1 : eaS (fun _ a => h a) (fun U a => U ++ [a]) e U a = U ++ [a] := by unfold eaS; rw [if_pos c]
   rw [e1, ih, List.filter_cons_of_pos (by simpa using c), List.append_assoc]
   rfl
  ·have e1 : eaS (fun _ a => h a) (fun U a => U ++ [a]) e U a = U := by unfold eaS; rw [if_neg c]
   rw [e1, ih, List.filter_cons_of_neg (by simpa using c)]
theorem newCut_any {a : Wc} {F : Nat -> Prop} {s : Wst} {w : World} (h : (wodO a).J F s w) :
    Calls Tryz.prog 60 #[.pointer (some ⟨a.pw, 0, none⟩)] w fun e w' => ∃ pk mq pq F', e = .returned (.pointer (some ⟨pk, 0, none⟩)) /\ (cutO ⟨pk, mq, a.pw, a.p, a.q, a.pc, pq, a.sd, a.nb, nC a.O, s.M⟩ ⟨a.N, a.O, s.y, Tw a.N s.y s.g s.ws⟩).J F' ⟨s.g, s.ws, fun _ => -1, (a.N : Int) + s.g, [], [], s.rs⟩ w' /\ Tn F w F' w' := by
  have hmm := @run_makeMap Tryz.prog
  have hmf : ∀ (fn : Fn) (first cap : Array Value) (w : World), (Instr.makeFunc fn first cap).run Tryz.prog w = .ok (.func fn first cap) w := fun _ _ _ _ => rfl
  obtain ⟨own, pq, hM, hF⟩ := h
  have HM : Hid (Mw a own s pq w /\ ∀ b, F b ↔ own b ≠ 0) := ⟨hM, hF⟩
  have c0 : w.cell? ⟨a.pw, 0, none⟩ = some (.pointer (some ⟨a.p, 0, none⟩)) := by have h2 := hM.wd; simp [World.cell?, h2]
  have lpw := lt_of_some hM.wd
  have hA := hM.ar
  have n1 := hA.hN'
  have n2 := hA.hO
  have n3 := hA.hg
  have n4 := hA.hy
  have n5 := hA.hN
  clear hM hF
  go_enter Tryz.func60, Tryz.ntmps60
  go_wp2_with fail
  refine (used_any w hA).mono ?_
  rintro e w1 ⟨rfl, hb1⟩
  have c1 := (hb1.cell (p := ⟨a.pw, 0, none⟩) lpw).trans c0
  have hA1 := hA.below hb1 (Nat.le_refl _)
  go_wp2_with fail
  refine (bounds_any w1 hA1).mono ?_
  rintro e w2 ⟨rfl, hb2⟩
  have hB2 := hb1.trans (hb2.mono hb1.size)
  have c2 := (hB2.cell (p := ⟨a.pw, 0, none⟩) lpw).trans c0
  have hA2 := hA.below hB2 (Nat.le_refl _)
  have hs2 := hB2.size
  have l2 : a.pw < w2.heap.size := by omega
  clear hb1 hb2 hA1 c1
  have hB3 : Below w2.heap.size w2 (((w2.alloc (.map #[] 0)).alloc (.cells #[.pointer (some ⟨a.pw, 0, none⟩), .map (some w2.heap.size), .int .i64 ((a.N : Int) + s.g), .slice none 0 0, .slice none 0 0] 111)).alloc (.cells #[.pointer (some ⟨w2.heap.size + 1, 0, none⟩)] 107)) := (((Below.refl _ w2).alloc (Nat.le_refl _) _).alloc (by simp) _).alloc (by simp; omega) _
  have hA3 := hA2.below hB3 (Nat.le_refl _)
  have c3 := (hB3.cell (p := ⟨a.pw, 0, none⟩) l2).trans c2
  have P := things_any _ hA3
  obtain ⟨W, hW⟩ : ∃ W, W = ((w2.alloc (.map #[] 0)).alloc (.cells #[.pointer (some ⟨a.pw, 0, none⟩), .map (some w2.heap.size), .int .i64 ((a.N : Int) + s.g), .slice none 0 0, .slice none 0 0] 111)).alloc (.cells #[.pointer (some ⟨w2.heap.size + 1, 0, none⟩)] 107) := ⟨_, rfl⟩
  have HW : Hid (W.heap.size = w2.heap.size + 3 /\ Below w2.heap.size w2 W /\ Mp W w2.heap.size [] (fun _ => -1) /\ W.heap[w2.heap.size + 1]? = some (.cells #[.pointer (some ⟨a.pw, 0, none⟩), .map (some w2.heap.size), .int .i64 ((a.N : Int) + s.g), .slice none 0 0, .slice none 0 0] 111 (0, 0)) /\ W.heap[w2.heap.size + 2]? = some (.cells #[.pointer (some ⟨w2.heap.size + 1, 0, none⟩)] 107 (0, 0)) /\ At W a.p a.q a.N a.O s.y s.g s.ws) := by
    rw [<- hW] at hB3 hA3
    refine ⟨by rw [hW]; simp only [World.size_alloc], hB3, ?_, ?_, ?_, hA3⟩
    · have hm0 := World.ownsMap_made w2 Tryz.prog 3 (plainElem (H := Unit) Tryz.prog 3)
      refine Mp.same (w := w2.alloc (.map #[] 0)) ⟨_, hm0, fun _ => rfl, fun a ha => by simp at ha⟩ ?_
      rw [hW, Below.heap_alloc _ _ _ (by simp; omega), Below.heap_alloc _ _ _ (by simp)]
    · rw [hW, Below.heap_alloc _ _ _ (by simp)]
      simpa using heap_alloc_new (w2.alloc (.map #[] 0)) (.cells #[.pointer (some ⟨a.pw, 0, none⟩), .map (some w2.heap.size), .int .i64 ((a.N : Int) + s.g), .slice none 0 0, .slice none 0 0] 111)
    · rw [hW]
      simpa using heap_alloc_new ((w2.alloc (.map #[] 0)).alloc (.cells #[.pointer (some ⟨a.pw, 0, none⟩), .map (some w2.heap.size), .int .i64 ((a.N : Int) + s.g), .slice none 0 0, .slice none 0 0] 111)) (.cells #[.pointer (some ⟨w2.heap.size + 1, 0, none⟩)] 107)
  have HW0 : Hid (W = ((w2.alloc (.map #[] 0)).alloc (.cells #[.pointer (some ⟨a.pw, 0, none⟩), .map (some w2.heap.size), .int .i64 ((a.N : Int) + s.g), .slice none 0 0, .slice none 0 0] 111)).alloc (.cells #[.pointer (some ⟨w2.heap.size + 1, 0, none⟩)] 107)) := hW
  rw [<- hW] at P
  clear hB3 hA3 hW
  go_wp2_with fail
  rw [<- HW0.out]
  refine P.mono ?_
  clear P
  rintro e w3 ⟨v1, v2, rfl, ho1, ho2, hb3⟩
  obtain ⟨d1, f1, rfl⟩ := row_slice ho1
  obtain ⟨d2, f2, rfl⟩ := row_slice ho2
  obtain ⟨W1, W2, W3, W4, W5, W6⟩ := HW.out
  have hs3 := hb3.size
  have x0 : w3.cell? ⟨w2.heap.size + 1 + 1, 0, none⟩ = some (.pointer (some ⟨w2.heap.size + 1, 0, none⟩)) := by
    have := (hb3.block (w2.heap.size + 2) (by omega)).trans W5
    simp [World.cell?, this]
  have lx : w2.heap.size + 1 + 1 < w3.heap.size := by omega
  have e0 : w3.cell? ⟨a.pw, 0, none⟩ = some (.pointer (some ⟨a.p, 0, none⟩)) := (hb3.cell (p := ⟨a.pw, 0, none⟩) (by show a.pw < _; omega)).trans ((W2.cell (p := ⟨a.pw, 0, none⟩) l2).trans c2)
  have hlY : (thY a.N s.y s.g s.ws).length <= 2000 := ths_le _ _
  have hbY : ∀ x ∈ thY a.N s.y s.g s.ws, 0 <= x /\ x <= 2000 := fun x hx => by have := thY_bd x hx; omega
  have hA0 := HM.out.1.ar
  have np := hA0.ltp
  have nq := hA0.ltq
  have hN0 : (nuO (w2.heap.size + 1) w2.heap.size (w2.heap.size + 2) ((a.N : Int) + s.g) a s.y s.g s.ws).J (fun b => b = w2.heap.size + 1 \/ b = w2.heap.size \/ b = a.pw \/ b = a.p \/ b = a.q \/ b = w2.heap.size + 2) [] w3 :=
    ⟨⟨(hb3.block _ (by omega)).trans W4, W3.same (hb3.block _ (by omega)), W6.below hb3 (Nat.le_refl _), ((hb3.block _ (by omega)).trans (W2.block _ l2)).trans ((hB2.block _ lpw).trans HM.out.1.wd), (hb3.block _ (by omega)).trans W5⟩, ⟨by omega, by omega, by omega, by omega, by omega⟩, fun b => Iff.rfl⟩
  have E := each_any (nuO (w2.heap.size + 1) w2.heap.size (w2.heap.size + 2) ((a.N : Int) + s.g) a s.y s.g s.ws) (fun _ x => pf (ld a.N s.y s.g s.ws x)) (fun U x => U ++ [x]) (fun j U => U.length <= j) (w2.heap.size + 1) a.pw a.p 126 #[.pointer (some ⟨w2.heap.size + 1 + 1, 0, none⟩)] ent_nu1 (thY a.N s.y s.g s.ws) d1 f1 s.y _ [] w3
    (by
      rintro F t w9 x ⟨⟨g1, g2, g3, g4, g5⟩, _⟩
      refine ⟨by simp [World.cell?, g1], by simp [World.cell?, g4], (thing_any x w9 g3).mono ?_⟩
      rintro r w' ⟨rfl, hb⟩
      exact ⟨_, _, rfl, hb⟩)
    (fun t x => pf_bd _) (fun x hx => by have := hbY x hx; omega) (by omega)
    (by
      rintro j F t w9 hj hG hJ _
      have hm : (thY a.N s.y s.g s.ws).getD j 0 ∈ thY a.N s.y s.g s.ws := by rw [List.getD_eq_getElem?_getD, List.getElem?_eq_getElem hj]; exact List.getElem_mem hj
      have hb := hbY _ hm
      have hG : t.length <= j := hG
      exact nu1_any hJ _ hb.1 (by omega) (by omega))
    (by
      intro j t hj hG
      have hG : t.length <= j := hG
      show (eaS _ _ _ _ _ : List Int).length <= j + 1
      unfold eaS
      split
      · simp; omega
      · omega)
    (by simp) hN0 (row_ints ho1)
    (fun hp z e => by
      obtain ⟨b, cap, e'⟩ := row_shape ho1 hp
      cases e'
      cases e
      have h2 := (row_lt ho1 b rfl).1
      show ¬ (b = w2.heap.size + 1 \/ b = w2.heap.size \/ b = a.pw \/ b = a.p \/ b = a.q \/ b = w2.heap.size + 2)
      omega)
  rw [eaL_filter (fun x => pf (ld a.N s.y s.g s.ws x)) s.y (thY a.N s.y s.g s.ws) [], List.nil_append] at E
  have HE : Hid (∀ b, b < w2.heap.size -> w3.heap[b]? = w2.heap[b]?) := fun b hb => (hb3.block b (by omega)).trans (W2.block b hb)
  have HB : Hid (Below w.heap.size w w2 /\ w3.os = w2.os /\ w3.tape = w2.tape /\ w3.output = w2.output) := ⟨hB2, hb3.os.trans W2.os, hb3.tape.trans W2.tape, hb3.output.trans W2.output⟩
  clear hN0 ho1 ho2 W1 W2 W3 W4 W5 W6 HW HW0 hb3 hbY hA0 hA hA2 hB2 c0 c2
  go_wp2_with fail
  refine E.mono ?_
  clear E
  rintro e w4 ⟨F4, rfl, ⟨⟨g1, g2, g3, g4, g5⟩, gn, gF⟩, hT, _⟩
  have y0 : w4.cell? ⟨w2.heap.size + 1 + 1, 0, none⟩ = some (.pointer (some ⟨w2.heap.size + 1, 0, none⟩)) := by simp [World.cell?, g5]
  have ly : w2.heap.size + 1 + 1 < w4.heap.size := lt_of_some g5
  have HJ : Hid (∃ F', (cutO ⟨w2.heap.size + 1, w2.heap.size, a.pw, a.p, a.q, a.pc, pq, a.sd, a.nb, nC a.O, s.M⟩ ⟨a.N, a.O, s.y, Tw a.N s.y s.g s.ws⟩).J F' ⟨s.g, s.ws, fun _ => -1, (a.N : Int) + s.g, [], [], s.rs⟩ w4 /\ Tn F w F' w4) := by
    obtain ⟨hM, hF⟩ := HM.out
    have keep : ∀ b, b < w.heap.size -> own b ≠ 1 -> own b ≠ 3 -> w4.heap[b]? = w.heap[b]? := fun b hb n1 n3 =>
      (hT.fr.block b (by omega) (fun d => by
        rcases d with d | d | d | d | d | d
        · omega
        · omega
        · exact n3 (by rw [d]; exact hM.w1)
        · exact n1 (by rw [d]; exact hM.a1)
        · exact n1 (by rw [d]; exact hM.a2)
        · omega)).trans ((HE.out b (by omega)).trans (HB.out.1.block b hb))
    have ltw := hM.lt
    have lo : ∀ b, own b ≠ 0 -> b ≠ w2.heap.size + 1 /\ b ≠ w2.heap.size := fun b hb => by have := ltw b hb; omega
    have e1 : ∀ b j, own b = j -> j ≠ 0 -> (if b = w2.heap.size + 1 then 5 else if b = w2.heap.size then 6 else own b) = j := fun b j e h0 => by
      obtain ⟨l1, l2⟩ := lo b (by rw [e]; exact h0)
      rw [if_neg l1, if_neg l2]
      exact e
    refine ⟨fun b => F b \/ b = w2.heap.size + 1 \/ b = w2.heap.size, ⟨.slice none 0 0, .slice none 0 0, fun b => if b = w2.heap.size + 1 then 5 else if b = w2.heap.size then 6 else own b, ?_, fun b => ?_⟩, ⟨?_, fun b hb => ?_⟩⟩
    · exact { ar := g3, a1 := e1 _ _ hM.a1 (by decide), a2 := e1 _ _ hM.a2 (by decide), c1 := e1 _ _ hM.c1 (by decide), c2 := e1 _ _ hM.c2 (by decide), w1 := e1 _ _ hM.w1 (by decide), r1 := e1 _ _ hM.r1 (by decide), rl := hM.rl
              cd := hM.cd.same (keep _ hM.cd.ltp (by rw [hM.c1]; decide) (by rw [hM.c1]; decide)) (keep _ hM.cd.ltq (by rw [hM.c2]; decide) (by rw [hM.c2]; decide))
              wd := g4
              rt := (keep _ (lt_of_some hM.rt) (by rw [hM.r1]; decide) (by rw [hM.r1]; decide)).trans hM.rt
              cb := g1
              k1 := by rw [if_pos rfl]
              mp := g2
              m1 := by rw [if_neg (by simp), if_pos rfl]
              wr := World.ownsRow_nil _ _ _ _
              wo := fun b e => by simp [Value.ownBlock] at e
              er := World.ownsRow_nil _ _ _ _
              eo := fun b e => by simp [Value.ownBlock] at e
              lt := fun b hb => by
                by_cases h5 : b = w2.heap.size + 1
                · omega
                · by_cases h6 : b = w2.heap.size
                  · omega
                  · rw [if_neg h5, if_neg h6] at hb
                    have := ltw b hb
                    omega }
    · by_cases h5 : b = w2.heap.size + 1
      · simp [h5]
      · by_cases h6 : b = w2.heap.size
        · simp [h6]
        · simp [h5, h6, hF b]
    · have hb03 : Below w.heap.size w w3 := ⟨HB.out.2.1.trans HB.out.1.os, HB.out.2.2.1.trans HB.out.1.tape, HB.out.2.2.2.trans HB.out.1.output, by omega, fun b hb => (HE.out b (by omega)).trans (HB.out.1.block b hb)⟩
      refine (Fr.of (X := F) hb03).trans hT.fr (fun b d => ?_)
      rcases d with d | d | d | d | d | d
      · exact Or.inr (by omega)
      · exact Or.inr (by omega)
      · exact Or.inl ((hF b).2 (by rw [d, hM.w1]; decide))
      · exact Or.inl ((hF b).2 (by rw [d, hM.a1]; decide))
      · exact Or.inl ((hF b).2 (by rw [d, hM.a2]; decide))
      · exact Or.inr (by omega)
    · rcases hb with hb | hb | hb
      · exact Or.inl hb
      · exact Or.inr (by omega)
      · exact Or.inr (by omega)
  clear g1 g2 g3 g4 g5 gn gF hT HE HB
  go_wp2_with fail
  go_ret
  obtain ⟨F', j1, j2⟩ := HJ.out
  exact ⟨_, _, _, F', rfl, j1, j2⟩
end Go.Proofs.YtnalfnlmaallmaaGreat

namespace Go.Proofs.YtnalfnlmaallmaaGreat
open Go.RowKit W Kp Stl
structure Jk where
  a : Wc
  s : Wst
  Y : List Int
  G : List Int
structure Js where
  f : Int -> Int
  td : List Int
  ep : List Int
def Jk.T (k : Jk) : List Int := k.G ++ k.Y
def Jk.ld (k : Jk) (x : Int) : Int := Proofs.YtnalfnlmaallmaaGreat.ld k.a.N k.s.y k.s.g k.s.ws x
def Jk.jt (k : Jk) (x : Int) : Bool := aB x && k.T.contains (aV x)
def Jk.jl (k : Jk) (s : Js) (x : Int) : Bool := k.jt x && (s.f (aV x) == -1)
def Jk.nw (k : Jk) (s : Js) (x : Int) : Int := if (k.jt x && !(s.f (aV x) == -1)) = true then ew 3 (s.f (aV x)) else x
def Jk.ma (k : Jk) (s : Js) (x : Int) : Js := if k.jl s x = true then { s with f := upf s.f (aV x) (aV x), td := s.td ++ [aV x] } else s
def Jk.mas (k : Jk) (s : Js) (a : Int) : Nat -> Js
 | 0 => s
 | n + 1 => k.ma (k.mas s a n) (k.ld (a + 1 + n))
def Jk.lk (k : Jk) (s : Js) (a : Int) : Js :=
 if pk (k.ld a) = 1 \/ pk (k.ld a) = 2 then k.mas s a (pf (k.ld a)).toNat
 else if pk (k.ld a) = 3 then k.ma s (k.ld (a + 2))
 else if pk (k.ld a) = 4 then { s with ep := s.ep ++ [a] } else s
def Jk.l1 (k : Jk) (s : Js) : Js := k.lk { s with td := s.td.take (s.td.length - 1) } (s.td.getD (s.td.length - 1) 0)
def Jk.lm (k : Jk) : Nat -> Js -> Js
 | 0, s => s
 | n + 1, s => if 0 < s.td.length then k.lm n (k.l1 s) else s
def Jk.kv1 (k : Jk) (t : List Int × Js) (a : Int) : List Int × Js := if k.jl t.2 (k.ld (a + 1)) = true then (t.1 ++ [a], t.2) else (t.1, k.ma t.2 (k.ld (a + 2)))
def Jk.kvf (k : Jk) (s : Js) (l : List Int) : List Int × Js := l.foldl k.kv1 ([], s)
def Jk.kv (k : Jk) (s : Js) : Bool × Js := (decide ((k.kvf s s.ep).1.length < s.ep.length), { (k.kvf s s.ep).2 with ep := (k.kvf s s.ep).1 })
def Jk.al (k : Jk) (s : Js) (x : Int) : Bool := !k.jl s x
def Jk.lost (k : Jk) (s : Js) : Nat := (k.T.filter (fun a => s.f a == -1)).length
structure JI (k : Jk) (s : Js) : Prop where
  nd : k.T.Nodup
  ps : ∀ a ∈ k.T, 0 <= a /\ a <= 2000
  td : ∀ a ∈ s.td, a ∈ k.T
  ep : ∀ a ∈ s.ep, a ∈ k.T
  tl : k.T.length <= 4000
  sum : k.lost s + s.td.length + s.ep.length <= k.T.length
section
variable {k : Jk} {s : Js}
theorem Jk.jl_yes {x : Int} (h : k.jl s x = true) : aB x = true /\ aV x ∈ k.T /\ s.f (aV x) = -1 := by
 unfold Jk.jl Jk.jt at h
 simp only [Bool.and_eq_true] at h
 exact ⟨h.1.1, List.contains_iff_mem.1 h.1.2, by simpa using h.2⟩
theorem Jk.lost_ma (hn : k.T.Nodup) {x : Int} (h : k.jl s x = true) (h0 : ∀ a ∈ k.T, 0 <= a) : k.lost (k.ma s x) + 1 = k.lost s := by
 obtain ⟨_, h2, h3⟩ := Jk.jl_yes h
 have e : (k.ma s x).f = upf s.f (aV x) (aV x) := by unfold Jk.ma; rw [if_pos h]
 have hp := h0 _ h2
 unfold Jk.lost
 rw [e, filter_upf _ _ _ _ (by omega)]
 exact len_less _ _ (hn.filter _) (List.mem_filter.2 ⟨h2, by rw [h3]; rfl⟩)
theorem JI.ma (h : JI k s) (x : Int) : JI k (k.ma s x) /\ k.lost (k.ma s x) + (k.ma s x).td.length = k.lost s + s.td.length /\ (k.ma s x).ep = s.ep := by
 by_cases c : k.jl s x = true
 ·have e1 := Jk.lost_ma h.nd c (fun a ha => (h.ps a ha).1)
  obtain ⟨_, h2, _⟩ := Jk.jl_yes c
  have e2 : (k.ma s x).td = s.td ++ [aV x] := by unfold Jk.ma; rw [if_pos c]
  have e3 : (k.ma s x).ep = s.ep := by unfold Jk.ma; rw [if_pos c]
  have hs := h.sum
  have e4 : (k.ma s x).td.length = s.td.length + 1 := by rw [e2]; simp
  refine ⟨⟨h.nd, h.ps, fun a ha => ?_, by rw [e3]; exact h.ep, h.tl, by rw [e3]; omega⟩, by omega, e3⟩
  rw [e2] at ha
  rcases List.mem_append.1 ha with d | d
  ·exact h.td a d
  ·rw [List.mem_singleton] at d
   rw [d]
   exact h2
 ·have e : k.ma s x = s := by unfold Jk.ma; rw [if_neg c]
  rw [e]
  exact ⟨h, rfl, rfl⟩
theorem JI.mas (h : JI k s) (a : Int) : ∀ n, JI k (k.mas s a n) /\ k.lost (k.mas s a n) + (k.mas s a n).td.length = k.lost s + s.td.length /\ (k.mas s a n).ep = s.ep
 | 0 => ⟨h, rfl, rfl⟩
 | n + 1 => by
  obtain ⟨h1, h2, h3⟩ := JI.mas h a n
  obtain ⟨j1, j2, j3⟩ := h1.ma (k.ld (a + 1 + n))
  exact ⟨j1, j2.trans h2, j3.trans h3⟩
theorem JI.lk (h : JI k s) {a : Int} (ha : a ∈ k.T) (hr : k.lost s + s.td.length + s.ep.length + 1 <= k.T.length) : JI k (k.lk s a) /\ k.lost (k.lk s a) + (k.lk s a).td.length = k.lost s + s.td.length /\ (k.lk s a).ep.length <= s.ep.length + 1 := by
 unfold Jk.lk
 split
 ·obtain ⟨h1, h2, h3⟩ := h.mas a (pf (k.ld a)).toNat
  exact ⟨h1, h2, by rw [h3]; omega⟩
 ·split
  ·obtain ⟨h1, h2, h3⟩ := h.ma (k.ld (a + 2))
   exact ⟨h1, h2, by rw [h3]; omega⟩
  ·split
   ·refine ⟨⟨h.nd, h.ps, h.td, fun b hb => ?_, h.tl, ?_⟩, rfl, by simp⟩
    ·rcases List.mem_append.1 hb with d | d
     ·exact h.ep b d
     ·rw [List.mem_singleton] at d
      rw [d]
      exact ha
    ·show k.lost s + s.td.length + (s.ep ++ [a]).length <= _
     rw [List.length_append]
     simp
     omega
   ·exact ⟨h, rfl, by omega⟩
theorem JI.l1 (h : JI k s) (hl : 0 < s.td.length) : JI k (k.l1 s) /\ k.lost (k.l1 s) + (k.l1 s).td.length + 1 = k.lost s + s.td.length := by
 have hm : s.td.getD (s.td.length - 1) 0 ∈ s.td := by
  rw [List.getD_eq_getElem?_getD, List.getElem?_eq_getElem (by omega)]
  exact List.getElem_mem _
 have hs := h.sum
 have e : (s.td.take (s.td.length - 1)).length = s.td.length - 1 := by rw [List.length_take]; omega
 have h0 : JI k { s with td := s.td.take (s.td.length - 1) } := ⟨h.nd, h.ps, fun a ha => h.td a (List.mem_of_mem_take ha), h.ep, h.tl, by
  show k.lost s + (s.td.take (s.td.length - 1)).length + s.ep.length <= _
  omega⟩
 have e0 : k.lost { s with td := s.td.take (s.td.length - 1) } = k.lost s := rfl
 obtain ⟨h1, h2, _⟩ := h0.lk (h.td _ hm) (by
  show k.lost s + (s.td.take (s.td.length - 1)).length + s.ep.length + 1 <= _
  omega)
 refine ⟨h1, ?_⟩
 unfold Jk.l1
 dsimp only at h2
 rw [e0] at h2
 omega
theorem JI.lm : ∀ (n : Nat) {s : Js}, JI k s -> JI k (k.lm n s) /\ (k.lost s + s.td.length < n -> (k.lm n s).td = []) /\ k.lost (k.lm n s) + (k.lm n s).td.length <= k.lost s + s.td.length
 | 0, s, h => ⟨h, fun e => absurd e (by omega), Nat.le_refl _⟩
 | n + 1, s, h => by
  unfold Jk.lm
  by_cases c : 0 < s.td.length
  ·rw [if_pos c]
   obtain ⟨h1, h2⟩ := h.l1 c
   obtain ⟨j1, j2, j3⟩ := JI.lm n h1
   exact ⟨j1, fun e => j2 (by omega), by omega⟩
  ·rw [if_neg c]
   refine ⟨h, fun _ => ?_, Nat.le_refl _⟩
   cases ht : s.td with
   | nil => rfl
   | cons x l => rw [ht] at c; simp at c
theorem JI.kv1 {t : List Int × Js} (h : JI k t.2) {a : Int} (ha : a ∈ k.T) (ht : ∀ b ∈ t.1, b ∈ k.T) : JI k (k.kv1 t a).2 /\ (k.kv1 t a).1.length <= t.1.length + 1 /\ (∀ b ∈ (k.kv1 t a).1, b ∈ k.T) /\ k.lost (k.kv1 t a).2 + (k.kv1 t a).2.td.length = k.lost t.2 + t.2.td.length /\ (k.kv1 t a).2.ep = t.2.ep := by
 unfold Jk.kv1
 split
 ·refine ⟨h, by simp, fun b hb => ?_, rfl, rfl⟩
  rcases List.mem_append.1 hb with d | d
  ·exact ht b d
  ·rw [List.mem_singleton] at d
   rw [d]
   exact ha
 ·obtain ⟨h1, h2, h3⟩ := h.ma (k.ld (a + 2))
  exact ⟨h1, by simp, ht, h2, h3⟩
theorem JI.kvl : ∀ (l : List Int) {t : List Int × Js}, JI k t.2 -> (∀ a ∈ l, a ∈ k.T) -> (∀ b ∈ t.1, b ∈ k.T) -> JI k (l.foldl k.kv1 t).2 /\ (l.foldl k.kv1 t).1.length <= t.1.length + l.length /\ (∀ b ∈ (l.foldl k.kv1 t).1, b ∈ k.T) /\ k.lost (l.foldl k.kv1 t).2 + (l.foldl k.kv1 t).2.td.length = k.lost t.2 + t.2.td.length /\ (l.foldl k.kv1 t).2.ep = t.2.ep
 | [], t, h, _, ht => ⟨h, by simp, ht, rfl, rfl⟩
 | a :: l, t, h, hl, ht => by
  obtain ⟨h1, h2, h3, h4, h5⟩ := h.kv1 (hl a (by simp)) ht
  obtain ⟨j1, j2, j3, j4, j5⟩ := JI.kvl l h1 (fun b hb => hl b (List.mem_cons_of_mem _ hb)) h3
  rw [List.foldl_cons]
  exact ⟨j1, by simp only [List.length_cons]; omega, j3, j4.trans h4, j5.trans h5⟩
theorem JI.kv (h : JI k s) : JI k (k.kv s).2 /\ k.lost (k.kv s).2 + (k.kv s).2.td.length = k.lost s + s.td.length /\ (k.kv s).2.ep.length <= s.ep.length /\ ((k.kv s).1 = true -> (k.kv s).2.ep.length < s.ep.length) := by
 obtain ⟨h1, h2, h3, h4, h5⟩ := JI.kvl s.ep (t := ([], s)) h h.ep (fun b hb => by cases hb)
 have e0 : k.lost (k.kv s).2 = k.lost (k.kvf s s.ep).2 := rfl
 have e1 : (k.kv s).2.td = (k.kvf s s.ep).2.td := rfl
 have e2 : (k.kv s).2.ep = (k.kvf s s.ep).1 := rfl
 have h2 : (k.kvf s s.ep).1.length <= 0 + s.ep.length := h2
 have h4 : k.lost (k.kvf s s.ep).2 + (k.kvf s s.ep).2.td.length = k.lost s + s.td.length := h4
 have hs := h.sum
 refine ⟨⟨h.nd, h.ps, h1.td, h3, h.tl, ?_⟩, by rw [e0, e1]; exact h4, by rw [e2]; omega, fun e => ?_⟩
 ·rw [e0, e1, e2]
  omega
 ·rw [e2]
  exact of_decide_eq_true e
end
end Go.Proofs.YtnalfnlmaallmaaGreat

namespace Go.Proofs.YtnalfnlmaallmaaGreat
open Go.RowKit W Kp Stl
structure Jc where
  pk : Nat
  mq : Nat
  bs : Nat
  yv : Value
  ov : Value
structure Mj (c : Jc) (k : Jk) (FW : Nat -> Prop) (own : Nat -> Nat) (s : Js) (vt ve : Value) (w : World) : Prop where
  wd : (wodO k.a).J FW k.s w
  w1 : ∀ b, FW b ↔ own b = 1
  cb : w.heap[c.pk]? = some (.cells #[.pointer (some ⟨k.a.pw, 0, none⟩), c.yv, c.ov, .map (some c.mq), .pointer (some ⟨c.bs, 0, none⟩), vt, ve] 198 (0, 0))
  k1 : own c.pk = 5
  mp : Mp w c.mq k.T s.f
  m1 : own c.mq = 6
  tr : w.ownsRow 0 3 1 vt s.td.length (s.td.map (Value.int .i64))
  to_ : ∀ b, some b = vt.ownBlock -> own b = 7
  er : w.ownsRow 0 3 1 ve s.ep.length (s.ep.map (Value.int .i64))
  eo : ∀ b, some b = ve.ownBlock -> own b = 8
  yr : w.ownsRow 0 3 1 c.yv k.Y.length (k.Y.map (Value.int .i64))
  yo : ∀ b, some b = c.yv.ownBlock -> own b = 9
  gr : w.ownsRow 0 3 1 c.ov k.G.length (k.G.map (Value.int .i64))
  go : ∀ b, some b = c.ov.ownBlock -> own b = 10
  lt : ∀ b, own b ≠ 0 -> b < w.heap.size
section
variable {c : Jc} {k : Jk} {FW : Nat -> Prop} {own : Nat -> Nat} {s : Js} {vt ve : Value} {w w' : World}
theorem Mj.but (h : Mj c k FW own s vt ve w) (L : Nat -> Prop) (hs : w.heap.size <= w'.heap.size) (hk : ∀ b, b < w.heap.size -> own b ≠ 0 -> ¬ L (own b) -> w'.heap[b]? = w.heap[b]?)
    (hK : L 5 -> w'.heap[c.pk]? = some (.cells #[.pointer (some ⟨k.a.pw, 0, none⟩), c.yv, c.ov, .map (some c.mq), .pointer (some ⟨c.bs, 0, none⟩), vt, ve] 198 (0, 0)))
    (hM : L 6 -> Mp w' c.mq k.T s.f) (hW : L 7 -> w'.ownsRow 0 3 1 vt s.td.length (s.td.map (Value.int .i64))) (hE : L 8 -> w'.ownsRow 0 3 1 ve s.ep.length (s.ep.map (Value.int .i64))) (h1 : ¬ L 1) (h9 : ¬ L 9) (h10 : ¬ L 10) : Mj c k FW own s vt ve w' where
  wd := (wodO k.a).keep h.wd hs (fun b d => hk b ((wodO k.a).lt h.wd b d) (by rw [(h.w1 b).1 d]; decide) (by rw [(h.w1 b).1 d]; exact h1))
  w1 := h.w1
  cb := by
    by_cases l : L 5
    · exact hK l
    · exact (hk _ (lt_of_some h.cb) (by rw [h.k1]; decide) (by rw [h.k1]; exact l)).trans h.cb
  k1 := h.k1
  mp := by
    by_cases l : L 6
    · exact hM l
    · exact h.mp.same (hk _ h.mp.lt (by rw [h.m1]; decide) (by rw [h.m1]; exact l))
  m1 := h.m1
  tr := by
    by_cases l : L 7
    · exact hW l
    · exact row_keep h.tr (fun b e => hk b (row_lt h.tr b e).2 (by rw [h.to_ b e]; decide) (by rw [h.to_ b e]; exact l))
  to_ := h.to_
  er := by
    by_cases l : L 8
    · exact hE l
    · exact row_keep h.er (fun b e => hk b (row_lt h.er b e).2 (by rw [h.eo b e]; decide) (by rw [h.eo b e]; exact l))
  eo := h.eo
  yr := row_keep h.yr (fun b e => hk b (row_lt h.yr b e).2 (by rw [h.yo b e]; decide) (by rw [h.yo b e]; exact h9))
  yo := h.yo
  gr := row_keep h.gr (fun b e => hk b (row_lt h.gr b e).2 (by rw [h.go b e]; decide) (by rw [h.go b e]; exact h10))
  go := h.go
  lt := fun b hb => Nat.lt_of_lt_of_le (h.lt b hb) hs
end
def mjV (c : Jc) (k : Jk) (vt ve : Value) : Ob Js where
  J F s w := ∃ FW own, Mj c k FW own s vt ve w /\ ∀ b, F b ↔ own b ≠ 0
  lt := by
    rintro F s w ⟨FW, own, h, hF⟩ b hb
    exact h.lt b ((hF b).1 hb)
  keep := by
    rintro F s w w' ⟨FW, own, h, hF⟩ hs hk
    exact ⟨FW, own, h.but (fun _ => False) hs (fun b _ h0 _ => hk b ((hF b).2 h0)) False.elim False.elim False.elim False.elim id id id, hF⟩
def mjO (c : Jc) (k : Jk) : Ob Js where
  J F s w := ∃ vt ve, (mjV c k vt ve).J F s w
  lt := by
    rintro F s w ⟨vt, ve, h⟩
    exact (mjV c k vt ve).lt h
  keep := by
    rintro F s w w' ⟨vt, ve, h⟩ hs hk
    exact ⟨vt, ve, (mjV c k vt ve).keep h hs hk⟩
section
variable {c : Jc} {k : Jk} {F : Nat -> Prop} {s : Js} {vt ve : Value} {w : World}
theorem mj_cells (h : (mjV c k vt ve).J F s w) : w.cell? ⟨c.pk, 0, none⟩ = some (.pointer (some ⟨k.a.pw, 0, none⟩)) /\ w.cell? ⟨c.pk, 1, none⟩ = some c.yv /\ w.cell? ⟨c.pk, 2, none⟩ = some c.ov /\ w.cell? ⟨c.pk, 3, none⟩ = some (.map (some c.mq)) /\ w.cell? ⟨c.pk, 4, none⟩ = some (.pointer (some ⟨c.bs, 0, none⟩)) /\ w.cell? ⟨c.pk, 5, none⟩ = some vt /\ w.cell? ⟨c.pk, 6, none⟩ = some ve /\ (∀ i, w.frozen? ⟨c.pk, i, none⟩ = false) /\ c.pk < w.heap.size := by
 obtain ⟨FW, own, h, _⟩ := h
 have h2 := h.cb
 refine ⟨?_, ?_, ?_, ?_, ?_, ?_, ?_, fun i => ?_, lt_of_some h2⟩
 all_goals first | simp [World.cell?, h2] | simp [World.frozen?, h2]
theorem mj_wood (h : (mjV c k vt ve).J F s w) : At w k.a.p k.a.q k.a.N k.a.O k.s.y k.s.g k.s.ws /\ w.cell? ⟨k.a.pw, 0, none⟩ = some (.pointer (some ⟨k.a.p, 0, none⟩)) /\ w.cell? ⟨k.a.pw, 3, none⟩ = some (.slice (some ⟨k.a.nb, 0, none⟩) 12 12) /\ ∀ i, i < 12 -> w.cell? ⟨k.a.nb, i, none⟩ = some (.int .i64 (k.s.rs.getD i 0)) := by
 obtain ⟨FW, own, h, _⟩ := h
 obtain ⟨c0, _, _, c3, _, _, _, rt⟩ := wod_cells h.wd
 exact ⟨(wod_arena h.wd).1, c0, c3, fun i hi => (rt i hi).1⟩
theorem mj_map (h : (mjV c k vt ve).J F s w) : Mp w c.mq k.T s.f /\ ∀ w' f, Mp w' c.mq k.T f -> Fr (fun b => b = c.mq) w w' -> (mjV c k vt ve).J F { s with f := f } w' /\ Tn F w F w' := by
  obtain ⟨FW, own, h, hF⟩ := h
  refine ⟨h.mp, fun w' f hm fr => ⟨⟨FW, own, ?_, hF⟩, ⟨fr.mono (fun b e => (hF b).2 (by rw [e, h.m1]; decide)), fun _ d => Or.inl d⟩⟩⟩
  have g : Mj c k FW own { s with f := f } vt ve w' := by
    have hk : ∀ b, b < w.heap.size -> own b ≠ 6 -> w'.heap[b]? = w.heap[b]? := fun b hb hn => fr.block b hb (fun e => hn (by rw [e]; exact h.m1))
    exact { wd := (wodO k.a).keep h.wd fr.size (fun b d => hk b ((wodO k.a).lt h.wd b d) (by rw [(h.w1 b).1 d]; decide)), w1 := h.w1
            cb := (hk _ (lt_of_some h.cb) (by rw [h.k1]; decide)).trans h.cb, k1 := h.k1, mp := hm, m1 := h.m1
            tr := row_keep h.tr (fun b e => hk b (row_lt h.tr b e).2 (by rw [h.to_ b e]; decide)), to_ := h.to_
            er := row_keep h.er (fun b e => hk b (row_lt h.er b e).2 (by rw [h.eo b e]; decide)), eo := h.eo
            yr := row_keep h.yr (fun b e => hk b (row_lt h.yr b e).2 (by rw [h.yo b e]; decide)), yo := h.yo
            gr := row_keep h.gr (fun b e => hk b (row_lt h.gr b e).2 (by rw [h.go b e]; decide)), go := h.go
            lt := fun b hb => Nat.lt_of_lt_of_le (h.lt b hb) fr.size }
  exact g
end
end Go.Proofs.YtnalfnlmaallmaaGreat
