/- Joined: Wv1, Wv2, Ws10, Ws11, Ws12, Ws13, Ws14, Ws18, Mj29, Mn19, Mn20, Mn21, Mn22. -/
import Derived.Test.YtnalfnlmaallmaaGreatJ20
import Derived.Test.YtnalfnlmaallmaaGreatJ31
import Derived.Test.YtnalfnlmaallmaaGreatJ06
import Derived.Test.YtnalfnlmaallmaaGreatJ29
import Derived.Test.YtnalfnlmaallmaaGreatJ15
import Derived.Test.YtnalfnlmaallmaaGreatJ30
import Derived.Test.YtnalfnlmaallmaaGreatJ27
import Derived.Test.YtnalfnlmaallmaaGreatJ05
import Derived.Test.YtnalfnlmaallmaaGreatJ26
import Derived.Test.YtnalfnlmaallmaaGreatJ28
namespace Go.Proofs.YtnalfnlmaallmaaGreat
open Go.RowKit W Kp Stl
structure Wf (w : World) (pw p q pc pq sd nb N O y g : Nat) (ws : List Int) (c : Int) (M rs : List Int) : Prop where
  wod : Wod w pw p q pc pq N O y g ws c M (.pointer (some ⟨sd, 0, none⟩)) (.slice (some ⟨nb, 0, none⟩) 12 12)
  sid : w.heap[sd]? = some (.cells #[.slice none 0 0, .slice none 0 0] 153 (0, 0))
  rts : w.heap[nb]? = some (.cells (rs.map (Value.int .i64)).toArray 2 (0, 0))
  rl : rs.length = 12
  nq : nb ≠ q
section
variable {w w' : World} {pw p q pc pq sd nb N O y g : Nat} {ws : List Int} {c : Int} {M rs : List Int}
theorem Wf.apart (h : Wf w pw p q pc pq sd nb N O y g ws c M rs) : (sd ≠ p /\ sd ≠ q /\ sd ≠ pc /\ sd ≠ pq) /\ (nb ≠ p /\ nb ≠ q /\ nb ≠ pc /\ nb ≠ pq) /\ nb ≠ pw /\ nb ≠ sd := by
 obtain ⟨D, ⟨es, clock, hb, _⟩, _⟩ := h.wod.cd.hq
 have h1 := h.wod.blk
 have h2 := h.wod.ar.hp
 have h3 := h.wod.ar.hq
 have h4 := h.wod.cd.hp
 have h5 := h.sid
 have h6 := h.rts
 refine ⟨⟨fun e => ?_, fun e => ?_, fun e => ?_, fun e => ?_⟩, ⟨fun e => ?_, h.nq, fun e => ?_, fun e => ?_⟩, fun e => ?_, fun e => ?_⟩
 ·rw [e, h2] at h5; simp at h5
 ·rw [e, h3] at h5; simp at h5
 ·rw [e, h4] at h5; simp at h5
 ·rw [e, hb] at h5; simp at h5
 ·rw [e, h2] at h6; simp at h6
 ·rw [e, h4] at h6; simp at h6
 ·rw [e, hb] at h6; simp at h6
 ·rw [e, h1] at h6; simp at h6
 ·rw [e, h5] at h6; simp at h6
end
def W0b : List Int := fil (List.replicate 24 0) 0 (hw 1 2) 2
def W1b : List Int := stW 16 3 0 W0b (ew 3 0) 1 20
def R0b : List Int := (tw 2 12).set 0 (ew 3 0)
theorem b1 : fcC 16 3 0 W0b (ew 3 0) 1 = 0 := by decide +kernel
theorem b2 : stM 16 3 0 W0b (ew 3 0) 1 20 (nC 8) [] = [] := by decide +kernel
theorem b3 : fcC 16 3 0 W1b (ew 3 0) 1 = 0 := by decide +kernel
theorem b4 : ld 16 3 0 W1b (aV (ew 3 0) + 1 + 1) = 20 := by decide +kernel
theorem b5 : (vwL 16 3 0 W1b [] R0b).1 = [(3, 0), (0, 0), (0, 0), (0, 0), (0, 0), (0, 0), (0, 0), (0, 0), (0, 0), (0, 0), (0, 0), (0, 0)] := by decide +kernel
theorem b6 : (vwL 16 3 0 W1b [] R0b).2.2 = [(1, [(0, 0), (1, 5)])] := by decide +kernel
end Go.Proofs.YtnalfnlmaallmaaGreat

namespace Go.Proofs.YtnalfnlmaallmaaGreat
open Go.RowKit W Kp Stl
theorem wf_new {w w' : World} {pw p q pc pq s nb n o : Nat} (hW : Wod w' pw p q pc pq n o 0 0 (List.replicate (n + o) 0) (nC o) [] (.pointer (some ⟨s, 0, none⟩)) (.slice (some ⟨nb, 0, none⟩) 12 12)) (hs : w'.heap[s]? = some (.cells #[.slice none 0 0, .slice none 0 0] 153 (0, 0))) (hr : w'.heap[nb]? = some (.cells ((tw 2 12).map (Value.int .i64)).toArray 2 (0, 0))) (_ : Below w.heap.size w w') (h0 : 16 <= n) :
  Wf w' pw p q pc pq s nb n o 0 0 (List.replicate (n + o) 0) (nC o) [] (tw 2 12) := by
 refine ⟨hW, hs, hr, by decide, fun e => ?_⟩
 have := hW.ar.hq
 rw [<- e, hr] at this
 simp only [Option.some.injEq, Obj.cells.injEq, and_true] at this
 have h2 := congrArg (fun a : Array Value => a[0]?) this
 rw [show n + o = (n + o - 1) + 1 by omega] at h2
 simp [tw, List.replicate_succ] at h2
end Go.Proofs.YtnalfnlmaallmaaGreat

namespace Go.Proofs.YtnalfnlmaallmaaGreat
set_option maxRecDepth 100000
set_option maxHeartbeats 2000000
open Go.RowKit W Kp Stl
theorem wf_ws {w : World} {pw p q pc pq sd nb N O y g : Nat} {ws M rs : List Int} (h : Wf w pw p q pc pq sd nb N O y g ws (nC O) M rs) (hr : rs.length = 12) (hrt : w.heap[nb]? = some (.cells (rs.map (Value.int .i64)).toArray 2 (0, 0))) (hs : w.heap[sd]? = some (.cells #[.slice none 0 0, .slice none 0 0] 153 (0, 0))) :
    ∃ F, (wsO ⟨pw, p, q, pc, sd, nb, N, O⟩).J F ⟨⟨y, g, ws, M, rs⟩, [], []⟩ w /\ ∀ b, F b -> b = pw \/ b = p \/ b = q \/ b = pc \/ b = pq \/ b = sd \/ b = nb := by
  obtain ⟨a1, a2, a3, a4, a5, a6, a7, a8⟩ := h.wod.apart
  obtain ⟨⟨s1, s2, s3, s4⟩, ⟨n1, n2, n3, n4⟩, n5, n6⟩ := h.apart
  have s5 : sd ≠ pw := fun e => by
    have h1 := h.wod.blk
    rw [<- e, hs] at h1
    simp at h1
  have lq : pq < w.heap.size := h.wod.cd.ltq
  refine ⟨fun b => b = pw \/ b = p \/ b = q \/ b = pc \/ b = pq \/ b = sd \/ b = nb, ⟨fun b => b = pw \/ b = p \/ b = q \/ b = pc \/ b = pq \/ b = sd \/ b = nb, none, 0, ⟨fun b => b = pw \/ b = p \/ b = q \/ b = pc \/ b = pq \/ b = nb, none, 0, ⟨fun b => if b = p \/ b = q then 1 else if b = pc \/ b = pq then 2 else if b = pw then 3 else if b = nb then 4 else 0, pq, ?_, fun b => ?_⟩, hs, World.ownsRow_nil _ _ _ _, fun b d => ?_, Or.inr (Or.inr (Or.inr (Or.inr (Or.inr (Or.inl rfl))))), fun d => ?_, fun b e => by simp [Value.ownBlock] at e, fun b d => ?_⟩, World.ownsRow_nil _ _ _ _, fun b e => by simp [Value.ownBlock] at e, fun b => ?_⟩, fun b d => d⟩
  · exact { ar := h.wod.ar, cd := h.wod.cd, wd := h.wod.blk, rt := hrt, rl := hr
            a1 := by simp
            a2 := by simp
            c1 := by simp [Ne.symm a5, Ne.symm a7]
            c2 := by simp [Ne.symm a6, Ne.symm a8]
            w1 := by simp [a1, a2, a3, a4]
            r1 := by simp [n1, n2, n3, n4, n5]
            le := fun b => by
              split
              · decide
              · split
                · decide
                · split
                  · decide
                  · split <;> decide
            lt := fun b d => by
              have k1 := h.wod.ar.ltp
              have k2 := h.wod.ar.ltq
              have k3 := h.wod.cd.ltp
              have k4 := lt_of_some h.wod.blk
              have k5 := lt_of_some hrt
              by_cases e1 : b = p \/ b = q
              · rcases e1 with e | e <;> (rw [e]; assumption)
              · rw [if_neg e1] at d
                by_cases e2 : b = pc \/ b = pq
                · rcases e2 with e | e <;> (rw [e]; assumption)
                · rw [if_neg e2] at d
                  by_cases e3 : b = pw
                  · rw [e3]; assumption
                  · rw [if_neg e3] at d
                    by_cases e4 : b = nb
                    · rw [e4]; assumption
                    · rw [if_neg e4] at d
                      exact absurd rfl d }
  · dsimp only
    by_cases e1 : b = p \/ b = q
    · rw [if_pos e1]
      rcases e1 with e | e <;> simp [e]
    · rw [if_neg e1]
      by_cases e2 : b = pc \/ b = pq
      · rw [if_pos e2]
        rcases e2 with e | e <;> simp [e]
      · rw [if_neg e2]
        by_cases e3 : b = pw
        · rw [if_pos e3]
          simp [e3]
        · rw [if_neg e3]
          by_cases e4 : b = nb
          · rw [if_pos e4]
            simp [e4]
          · rw [if_neg e4]
            simp only [not_or] at e1 e2
            simp [e1, e2, e3, e4]
  · rcases d with d | d | d | d | d | d
    · exact Or.inl d
    · exact Or.inr (Or.inl d)
    · exact Or.inr (Or.inr (Or.inl d))
    · exact Or.inr (Or.inr (Or.inr (Or.inl d)))
    · exact Or.inr (Or.inr (Or.inr (Or.inr (Or.inl d))))
    · exact Or.inr (Or.inr (Or.inr (Or.inr (Or.inr (Or.inr d)))))
  · rcases d with d | d | d | d | d | d
    · exact s5 d
    · exact s1 d
    · exact s2 d
    · exact s3 d
    · exact s4 d
    · exact n6 d.symm
  · rcases d with d | d | d | d | d | d | d
    · rw [d]; exact lt_of_some h.wod.blk
    · rw [d]; exact h.wod.ar.ltp
    · rw [d]; exact h.wod.ar.ltq
    · rw [d]; exact h.wod.cd.ltp
    · rw [d]; exact lq
    · rw [d]; exact lt_of_some hs
    · rw [d]; exact lt_of_some hrt
  · exact ⟨Or.inl, fun d => d.elim id (fun e => by simp [Value.ownBlock] at e)⟩
def bo0 (n o : Nat) : Ww × Wrs := (⟨⟨0, 0, List.replicate (n + o) 0, [], tw 2 12⟩, [], []⟩, ⟨[], List.replicate 12 (0, 0), [], []⟩)
theorem start_yes (n o : Nat) (w : World) (h0 : 16 <= n) (h1 : n <= 256) (h3 : o <= 1024) :
  Calls Tryz.prog 13 #[.int .i64 n, .int .i64 o] w fun e w' => ∃ c F, e = .returned (.tuple #[.pointer (some ⟨c.pb, 0, none⟩), .bool true]) /\ (boO c).J F (bo0 n o) w' /\ (c.a.N = n /\ c.a.O = o /\ c.most = n /\ c.grow = o) /\ (∀ b, F b -> w.heap.size <= b) /\ Below w.heap.size w w' := by
 have P := newW_yes n o w h0 h1 h3
 go_enter Tryz.func13, Tryz.ntmps13
 go_wp2_with fail
 refine P.mono ?_
 clear P
 rintro e w1 ⟨pw, p, q, pc, pq, s, nb, rfl, hW, hs, hr, hg, hb1⟩
 obtain ⟨F1, j1, g1⟩ := wf_ws (wf_new hW hs hr hb1 (by omega)) (by decide) hr hs
 have hba := (Below.refl w1.heap.size w1).alloc (Nat.le_refl _) (.cells #[.int .i64 0, .int .i64 0] 28)
 have j2 := (wsO ⟨pw, p, q, pc, s, nb, n, o⟩).below j1 hba
 have c3 : (w1.alloc (.cells #[.int .i64 0, .int .i64 0] 28)).cell? ⟨pw, 3, none⟩ = some (.slice (some ⟨nb, 0, none⟩) 12 12) := (hba.cell (p := ⟨pw, 3, none⟩) (lt_of_some hW.blk)).trans hW.cells.2.2.2.1
 have HJ : Hid ((wsO ⟨pw, p, q, pc, s, nb, n, o⟩).J F1 (bo0 n o).1 (w1.alloc (.cells #[.int .i64 0, .int .i64 0] 28)) /\ (∀ b, F1 b -> w.heap.size <= b) /\ Below w.heap.size w (w1.alloc (.cells #[.int .i64 0, .int .i64 0] 28))) := ⟨j2, fun b d => by
  obtain ⟨g1', g2, g3, g4, g5, g6, g7⟩ := hg
  rcases g1 b d with e | e | e | e | e | e | e <;> (rw [e]; assumption), hb1.trans (hba.mono hb1.size)⟩
 clear hW hs hr hg hb1 j1 g1 hba j2
 go_wp2_with fail
 generalize w1.alloc (.cells #[.int .i64 0, .int .i64 0] 28) = w2 at *
 refine (newWorld_any n o _).mono ?_
 rintro e w3 ⟨rp, rb, F3, rfl, j3, g3, b3⟩
 have hba := (Below.refl w3.heap.size w3).alloc (Nat.le_refl _) (.cells #[.pointer (some ⟨pw, 0, none⟩), .pointer (some ⟨rp, 0, none⟩)] 37)
 have HF : Hid ((boO ⟨⟨pw, p, q, pc, s, nb, n, o⟩, rp, rb, n, o, w3.heap.size⟩).J (fun b => F1 b \/ F3 b \/ b = w3.heap.size) (bo0 n o) (w3.alloc (.cells #[.pointer (some ⟨pw, 0, none⟩), .pointer (some ⟨rp, 0, none⟩)] 37)) /\ (∀ b, (F1 b \/ F3 b \/ b = w3.heap.size) -> w.heap.size <= b) /\ Below w.heap.size w (w3.alloc (.cells #[.pointer (some ⟨pw, 0, none⟩), .pointer (some ⟨rp, 0, none⟩)] 37))) := by
  have hs2 := HJ.out.2.2.size
  have hs3 := b3.size
  have k1 := (wsO ⟨pw, p, q, pc, s, nb, n, o⟩).lt HJ.out.1
  have k3 := (wrO rp rb n o).lt j3
  refine ⟨⟨F1, F3, (wsO ⟨pw, p, q, pc, s, nb, n, o⟩).below ((wsO ⟨pw, p, q, pc, s, nb, n, o⟩).below HJ.out.1 b3) hba, (wrO rp rb n o).below j3 hba, heap_alloc_new _ _, fun b d e => ?_, fun d => ?_, fun d => ?_, fun b => Iff.rfl⟩, fun b d => ?_, (HJ.out.2.2.trans (b3.mono hs2)).trans (hba.mono (by omega))⟩
  ·have h4 := k1 b d
   have h5 := g3 b e
   omega
  ·have h4 : w3.heap.size < w2.heap.size := k1 _ d
   omega
  ·have h4 : w3.heap.size < w3.heap.size := k3 _ d
   omega
  ·rcases d with d | d | d
   ·exact HJ.out.2.1 b d
   ·have := g3 b d
    omega
   ·omega
 clear j3 g3 b3 hba HJ
 go_wp2_with fail
 exact bodyPost_ret (v := .tuple #[.pointer (some ⟨w3.heap.size, 0, none⟩), .bool true]) (by simp [results, Tryz.results13, go_sem]) rfl ⟨⟨⟨pw, p, q, pc, s, nb, n, o⟩, rp, rb, n, o, w3.heap.size⟩, _, rfl, HF.out.1, ⟨rfl, rfl, rfl, rfl⟩, HF.out.2.1, HF.out.2.2⟩
theorem start_no (n o : Int) (w : World) (h : n < 16 \/ 256 < n \/ o < 0 \/ 1024 < o) :
  Calls Tryz.prog 13 #[.int .i64 n, .int .i64 o] w fun e w' => e = .returned (.tuple #[.pointer none, .bool false]) /\ Below w.heap.size w w' := by
 have P := newW_no n o w h
 clear h
 go_enter Tryz.func13, Tryz.ntmps13
 go_wp2_with fail
 refine P.mono ?_
 clear P
 rintro e w1 ⟨rfl, hb1⟩
 have HB : Hid (Below w.heap.size w (w1.alloc (.cells #[.int .i64 1, .int .i64 (-1)] 28))) := hb1.trans (((Below.refl w1.heap.size w1).alloc (Nat.le_refl _) _).mono hb1.size)
 clear hb1
 go_wp2_with fail
 exact bodyPost_ret (v := .tuple #[.pointer none, .bool false]) (by simp [results, Tryz.results13, go_sem]) rfl ⟨rfl, HB.out⟩
end Go.Proofs.YtnalfnlmaallmaaGreat

namespace Go.Proofs.YtnalfnlmaallmaaGreat
open Go.RowKit W Kp Stl
def doS (c : Bc) (S : Ww × Wrs) (d A B C : Int) : Ww × Wrs :=
 if d = 0 then boM c S A B C else if d = 1 then boS c S A B C else if d = 2 then boG c S A B C else if d = 3 then boI S A C
 else if d = 4 then (⟨{ S.1.s with rs := S.1.s.rs.set (rtN C) 2 }, S.1.r, S.1.q⟩, { S.2 with rs := S.2.rs.set (rtN C) (0, 0) }) else if d = 5 then boR c S A C else S
def doB (c : Bc) (S : Ww × Wrs) (d A B C : Int) : Bool :=
 if d = 0 then S.2.fB c.most A B == decide (0 <= mkR c.a.N S.1.s.y A B) else if d = 1 \/ d = 2 then fcC c.a.N S.1.s.y S.1.s.g S.1.s.ws (S.1.s.rs.getD (rtN A) 0) B == S.2.gc (rtN A) B
 else if d = 3 then vc 1 A == rc A (-1152921504606846976) else if d = 5 then (S.1.rK c.a (rtN A) (rtN C) && !fulB (S.1.r.length + S.1.q.length)) == (S.2.rc (rtN A) (rtN C) == 0) else true
section
variable {c : Bc} {F : Nat -> Prop} {S : Ww × Wrs} {w : World}
theorem do_any (h : (boO c).J F S w) (hB : RB S.2) (m0 : 0 <= c.most) (m1 : c.most <= 100000) (hM : S.1.s.M.length <= 100000) (hr : S.1.r.length <= 90000) (hq : S.1.q.length <= 90000) (d A B C : Int) :
  Calls Tryz.prog 15 #[.pointer (some ⟨c.pb, 0, none⟩), csV d A B C] w fun e w' => ∃ F', e = .returned (.bool (doB c S d A B C)) /\ (boO c).J F' (doS c S d A B C) w' /\ Tn F w F' w' := by
 unfold doB doS
 by_cases e0 : d = 0
 ·subst e0
  exact do0_any h hB m0 m1 A B C
 by_cases e1 : d = 1
 ·subst e1
  exact do1_any h hB hM A B C
 by_cases e2 : d = 2
 ·subst e2
  exact do2_any h hB A B C
 by_cases e3 : d = 3
 ·subst e3
  exact do3_any h A B C
 by_cases e4 : d = 4
 ·subst e4
  exact do4_any h A B C
 by_cases e5 : d = 5
 ·subst e5
  exact do5_any h hB hr hq A B C
 rw [if_neg e0, if_neg e0, if_neg e1, if_neg (fun e => e.elim e1 e2), if_neg e2, if_neg e3, if_neg e3, if_neg e4, if_neg e5, if_neg e5]
 exact do9_any h d A B C (by omega)
end
/-! ### the world alone -/
structure Wok (s : Wrs) : Prop where
  rl : s.rs.length = 12
  rv : ∀ v ∈ s.rs, v.1 = 3 -> 0 <= v.2 /\ v.2 < s.T.length
  tv : ∀ t ∈ s.T, ∀ v ∈ t.2.1, v.1 = 3 -> 0 <= v.2 /\ v.2 < s.T.length
  tl : ∀ t ∈ s.T, t.2.1.length <= 12
theorem mem_set_or {α : Type} {l : List α} {i : Nat} {x y : α} (h : y ∈ l.set i x) : y ∈ l \/ y = x := List.mem_or_eq_of_mem_set h
theorem getD_mem_or {α : Type} (l : List α) (i : Nat) (x : α) : l.getD i x ∈ l \/ l.getD i x = x := by
 by_cases h : i < l.length
 ·left
  rw [List.getD_eq_getElem?_getD, List.getElem?_eq_getElem h]
  exact List.getElem_mem h
 ·right
  rw [List.getD_eq_getElem?_getD, List.getElem?_eq_none (by omega)]
  rfl
theorem Wok.start (n o : Nat) : Wok (bo0 n o).2 := ⟨by simp [bo0], fun v hv e => by
 have h1 := List.eq_of_mem_replicate hv
 subst h1
 exact absurd e (by decide), fun t ht => (by cases ht), fun t ht => (by cases ht)⟩
theorem Wok.th {s : Wrs} (h : Wok s) (i : Nat) (hi : 0 <= s.th i) : s.th i < s.T.length := by
 unfold Wrs.th at hi ⊢
 split at hi
 ·rename_i e
  rw [if_pos e]
  rcases getD_mem_or s.rs i (0, 0) with d | d
  ·exact (h.rv _ d e).2
  ·rw [d] at e
   exact absurd e (by decide)
 ·omega
end Go.Proofs.YtnalfnlmaallmaaGreat

namespace Go.Proofs.YtnalfnlmaallmaaGreat
open Go.RowKit W Kp Stl
theorem Wok.rb {s : Wrs} (h : Wok s) (h1 : s.T.length <= 10000) (h2 : s.rg.length <= 10000) (h3 : s.wt.length <= 10000) : RB s :=
 ⟨fun i _ hi => h.th i hi, h.tl, h1, h2, h3⟩
end Go.Proofs.YtnalfnlmaallmaaGreat

namespace Go.Proofs.YtnalfnlmaallmaaGreat
open Go.RowKit W Kp Stl
def CdI (N O y g : Nat) (ws M Y G : List Int) : Prop :=
 ∀ v ∈ G, ∀ i, 0 <= i -> i < pf (ld N y g ws v) -> aB (ld N y g ws (v + 1 + i)) = true -> aV (ld N y g ws (v + 1 + i)) ∈ Y -> (cB N (nC O) v && M.contains (cN N v)) = true
section
variable {N O y g : Nat} {ws M Y G rs : List Int}
theorem CdI.make (h : WInv N y g ws Y G rs) (hc : CdI N O y g ws M Y G) (hl : ws.length = N + O) {k f : Int} (hm : mkB N y k f = true) : CdI N O (mkY N y k f) g (mkW N y k f ws) M (Y ++ [(y : Int)]) G := by
 obtain ⟨h1, h2⟩ := mkB_yes hm
 have hf := hc_bd k f h1
 have eY : mkY N y k f = y + 1 + f.toNat := by unfold mkY; rw [if_pos hm]
 have eW : mkW N y k f ws = fil ws y (hw k f) f.toNat := by unfold mkW; rw [if_pos hm]
 have hlt : y + f.toNat < ws.length := by omega
 rw [eY, eW]
 intro v hv i i0 i1 ha hy
 have hi := h.full.io v hv
 have e0 : ld N (y + 1 + f.toNat) g (fil ws y (hw k f) f.toNat) v = ld N y g ws v := by
  rw [ld_in (iB_o hi.1 hi.2), ld_in (iB_o hi.1 hi.2), fil_get _ _ _ _ _ hlt, if_neg (by omega), if_neg (by omega)]
 rw [e0] at i1
 have hb := field_o h.full hv i0 i1
 have e1 : ld N (y + 1 + f.toNat) g (fil ws y (hw k f) f.toNat) (v + 1 + i) = ld N y g ws (v + 1 + i) := by
  rw [ld_in (iB_o hb.1 hb.2), ld_in (iB_o hb.1 hb.2), fil_get _ _ _ _ _ hlt, if_neg (by omega), if_neg (by omega)]
 rw [e1] at ha hy
 rcases List.mem_append.1 hy with d | d
 ·exact hc v hv i i0 i1 ha d
 ·simp at d
  rcases h.fd v (Or.inr hv) i i0 i1 ha with e | e
  ·have := (h.full.iy _ e).2
   omega
  ·have := (h.full.io _ e).1
   omega
theorem cB_old {v : Int} (h0 : (N : Int) <= v) (h1 : v < (N : Int) + g) (hg : g <= O) : cB N (nC O) v = true := by
 unfold cB nC
 rw [if_neg (by omega)]
 simp only [Bool.and_eq_true, decide_eq_true_eq]
 omega
theorem fc_no2 {x i z c : Int} (h : fcC N y g ws x i ≠ 0) : stW N y g ws x i z = ws /\ stM N y g ws x i z c M = M := by
 refine ⟨by unfold stW; rw [if_neg h], ?_⟩
 have e : stB N y g ws x i z = false := by
  unfold stB
  rw [decide_eq_false h]
  rfl
 unfold stM
 rw [e]
 rfl
theorem same_thing (h : Full2 N y g ws Y G) {u v i j : Int} (hu : u ∈ G) (hv : v ∈ G) (i0 : 0 <= i) (i1 : i < pf (ld N y g ws u)) (j0 : 0 <= j) (j1 : j < pf (ld N y g ws v)) (e : u + 1 + i = v + 1 + j) : u = v := by
 rcases Int.lt_trichotomy u v with d | d | d
 ·have := h.to.apart u hu v hv d
  omega
 ·exact d
 ·have := h.to.apart v hv u hu d
  omega
theorem CdI.set (h : WInv N y g ws Y G rs) (hc : CdI N O y g ws M Y G) (hl : ws.length = N + O) (hN : N <= 256) (hy : y <= N) (hO : O <= 1024) (hg : g <= O) (x i z : Int) : CdI N O y g (stW N y g ws x i z) (stM N y g ws x i z (nC O) M) Y G := by
 by_cases hfc : fcC N y g ws x i = 0
 ·obtain ⟨t1, t2, t3, t4⟩ := fcC_zero hfc
  obtain ⟨l1, l2⟩ := h.full.lists (O := O) hN hy hO hg
  have hv : aV x ∈ Y \/ aV x ∈ G := by
   unfold tB at t1
   rw [l1, l2] at t1
   have t5 := (Bool.and_eq_true _ _ ▸ t1 : aB x = true /\ (Y.contains (aV x) || G.contains (aV x)) = true).2
   simpa using t5
  have hst := h.full.stands hy hv
  rw [hst] at t4
  have hi0 := field_i h.full hv t3 t4
  have hbd := iB_bd (O := O) hi0 hy hg
  have eW : stW N y g ws x i z = ws.set (aV x + 1 + i).toNat z := by
   unfold stW
   rw [if_pos hfc, if_pos hi0]
  obtain ⟨hF, hk⟩ := h.full.set (z := z) hl hy hg hv t3 t4
  rw [eW]
  have hsub : ∀ k, M.contains k = true -> (stM N y g ws x i z (nC O) M).contains k = true := fun k hk => by
   unfold stM
   split
   ·unfold mkM
    split
    ·rw [has_addM, hk]
     rfl
    ·exact hk
   ·exact hk
  intro v hv' j j0 j1 ha hyo
  rw [hk v (Or.inr hv')] at j1
  have hi := field_i h.full (Or.inr hv') j0 j1
  have hbi := iB_bd (O := O) hi hy hg
  have e1 : ld N y g (ws.set (aV x + 1 + i).toNat z) (v + 1 + j) = if (aV x + 1 + i).toNat = (v + 1 + j).toNat then z else ld N y g ws (v + 1 + j) := by
   rw [ld_in hi, ld_in hi, getD_set _ _ _ _ (by omega)]
  rw [e1] at ha hyo
  have hvo := h.full.io v hv'
  by_cases e : (aV x + 1 + i).toNat = (v + 1 + j).toNat
  ·rw [if_pos e] at ha hyo
   have e2 : aV x + 1 + i = v + 1 + j := by omega
   have hz := h.full.iy _ hyo
   have hav : hB N g (aV x) = true := by
    unfold hB
    rw [decide_eq_true_eq]
    rcases hv with d | d
    ·have h1 := field_y h.full d t3 t4
     have h2 := field_o h.full hv' j0 j1
     omega
    ·have := h.full.io _ d
     omega
   have eo := hB_yes hav
   have hsb : stB N y g ws x i z = true := by
    unfold stB
    rw [ha, hav, decide_eq_true hfc]
    simp only [Bool.true_and, Bool.and_true]
    unfold hB
    rw [decide_eq_true_eq]
    omega
   have hxG : aV x ∈ G := by
    rcases hv with d | d
    ·have := h.full.iy _ d
     omega
    ·exact d
   have evx : aV x = v := same_thing h.full hxG hv' t3 t4 j0 j1 e2
   rw [Bool.and_eq_true]
   refine ⟨cB_old hvo.1 hvo.2 hg, ?_⟩
   unfold stM
   rw [if_pos hsb, evx, mkM_yes (cB_old hvo.1 hvo.2 hg), has_addM]
   simp
  ·rw [if_neg e] at ha hyo
   have h1 := hc v hv' j j0 j1 ha hyo
   rw [Bool.and_eq_true] at h1 ⊢
   exact ⟨h1.1, hsub _ h1.2⟩
 ·obtain ⟨e1, e2⟩ := fc_no2 (z := z) (c := nC O) (M := M) hfc
  rw [e1, e2]
  exact hc
end
end Go.Proofs.YtnalfnlmaallmaaGreat

namespace Go.Proofs.YtnalfnlmaallmaaGreat
open Go.RowKit W Kp Stl
structure Wbd (a : Wc) (s : Wst) : Prop where
  n0 : 16 <= a.N
  n1 : a.N <= 256
  o1 : a.O <= 1024
  y1 : s.y <= a.N
  g1 : s.g <= a.O
  l1 : s.ws.length = a.N + a.O
  r1 : s.rs.length = 12
structure KInv (a : Wc) (s : Wst) (Y G : List Int) : Prop where
  inv : WInv a.N s.y s.g s.ws Y G s.rs
  cd : CdI a.N a.O s.y s.g s.ws s.M Y G
section
variable {a : Wc} {s : Wst} {Y G : List Int}
theorem KInv.root (h : KInv a s Y G) (k : Nat) (x : Int) (hx : aB x = true -> aV x ∈ Y \/ aV x ∈ G) : KInv a { s with rs := s.rs.set k x } Y G := ⟨h.inv.root k x hx, h.cd⟩
theorem KInv.set (h : KInv a s Y G) (hb : Wbd a s) (k m : Nat) (hk : k < 12) (i : Int) (hm : m < 12) :
  KInv a { s with ws := stW a.N s.y s.g s.ws (s.rs.getD k 0) i (s.rs.getD m 0), M := stM a.N s.y s.g s.ws (s.rs.getD k 0) i (s.rs.getD m 0) (nC a.O) s.M } Y G := by
 refine ⟨?_, CdI.set h.inv h.cd hb.l1 hb.n1 hb.y1 hb.o1 hb.g1 _ _ _⟩
 dsimp only
 by_cases hfc : fcC a.N s.y s.g s.ws (s.rs.getD k 0) i = 0
 ·obtain ⟨t1, t2, t3, t4⟩ := fcC_zero hfc
  have hax : aB (s.rs.getD k 0) = true := by
   rw [<- h.inv.tb (O := a.O) hb.n1 hb.y1 hb.o1 hb.g1 k (by rw [hb.r1]; exact hk)]
   exact t1
  have hv := h.inv.at k (by rw [hb.r1]; exact hk) hax
  rw [h.inv.full.stands hb.y1 hv] at t4
  have hi := field_i h.inv.full hv t3 t4
  unfold stW
  rw [if_pos hfc, if_pos hi]
  exact h.inv.set hb.l1 hb.y1 hb.g1 hv t3 t4 (fun d => h.inv.at m (by rw [hb.r1]; exact hm) d)
 ·rw [(fc_no2 (M := s.M) (c := nC a.O) hfc).1]
  exact h.inv
end
end Go.Proofs.YtnalfnlmaallmaaGreat

namespace Go.Proofs.YtnalfnlmaallmaaGreat
open Go.RowKit W Kp Stl
theorem trn_wait {σ : Type} (o : SdOb σ) (is : σ -> Int -> Bool) (kp : σ -> Int -> Int × σ) (hl : ∀ s x, (o.wt (kp s x).2).length = (o.wt s).length) : ∀ (n : Nat) (s : σ) (d : List En), (o.wt (trn (cm o is kp) n s d).1).length + (trn (cm o is kp) n s d).2.length = (o.wt s).length + d.length
 | 0, s, d => rfl
 | n + 1, s, d => by
  have h1 := pts_wait o is kp hl s d
  have h2 := pts_len (cm o is kp) s d
  by_cases h : (pts (cm o is kp) s d).1.length = 0
  ·rw [trn_stop _ _ _ _ h]
   dsimp only
   omega
  ·rw [trn_go _ _ _ _ h, trn_wait o is kp hl n]
   omega
theorem st_len {σ : Type} (o : SdOb σ) (is : σ -> Int -> Bool) (kp : σ -> Int -> Int × σ) (nw : σ -> Int -> Int) (hl : ∀ s x, (o.wt (kp s x).2).length = (o.wt s).length) (s : σ) (r : List En) : (stR o is kp nw s r).length + (stQ o is kp nw s r).length <= r.length + (o.wt s).length := by
 have h1 := trn_wait o is kp hl ((r.filter (fun e => !is s e.2)).length + 1) s (r.filter (fun e => !is s e.2))
 have h2 : (stQ o is kp nw s r).length <= (o.wt (stS o is kp s r)).length := by
  unfold stQ
  rw [List.length_map]
  exact List.length_filter_le _ _
 have h3 : (stR o is kp nw s r).length <= (r.filter (fun e => is s e.2)).length := by
  unfold stR
  rw [List.length_map]
  exact List.length_filter_le _ _
 have h4 : (r.filter (fun e => is s e.2)).length + (r.filter (fun e => !is s e.2)).length = r.length := by
  clear h1 h2 h3
  induction r with
  | nil => rfl
  | cons e r ih =>
   simp only [List.filter_cons]
   cases is s e.2 <;> simp <;> omega
 have h5 : (o.wt (stS o is kp s r)).length <= (o.wt s).length + (r.filter (fun e => !is s e.2)).length := by
  unfold stS
  omega
 omega
theorem cut_len (a : Wc) (S : Ww) : (S.cut a).r.length + (S.cut a).q.length <= S.r.length + S.q.length := by
 unfold Ww.cut
 split
 ·exact Nat.le_refl _
 ·have h1 := st_len (noSd Cs) (fun s x => (S.s.k0 a).al s.1 x) (S.s.k0 a).ke (fun s x => (S.s.k0 a).nw s.1 x) (fun s x => ke_len (S.s.k0 a) s x) (S.t3 a) S.r
  have h2 : (S.t3 a).2.length = S.q.length := by
   unfold Ww.t3 Ck.sp
   rw [spr_len]
  dsimp only
  generalize S.t3 a = t at *
  have h3 : (noSd Cs).wt t = t.2 := rfl
  rw [h3] at h1
  unfold Ck.sR Ck.sQ
  omega
theorem doS_len (c : Bc) (S : Ww × Wrs) (d A B C : Int) : (doS c S d A B C).1.s.M.length <= S.1.s.M.length + 1 /\ (doS c S d A B C).1.r.length + (doS c S d A B C).1.q.length <= S.1.r.length + S.1.q.length + 1 := by
 unfold doS
 split
 ·exact ⟨Nat.le_succ _, Nat.le_succ _⟩
 split
 ·exact ⟨stM_len .., Nat.le_succ _⟩
 split
 ·exact ⟨Nat.le_succ _, Nat.le_succ _⟩
 split
 ·exact ⟨Nat.le_succ _, Nat.le_succ _⟩
 split
 ·exact ⟨Nat.le_succ _, Nat.le_succ _⟩
 split
 ·unfold boR Ww.rW
  dsimp only
  split
  ·split
   ·exact ⟨Nat.le_succ _, Nat.le_succ _⟩
   ·refine ⟨Nat.le_succ _, ?_⟩
    simp only [List.length_append, List.length_cons, List.length_nil]
    omega
  ·exact ⟨Nat.le_succ _, Nat.le_succ _⟩
 ·exact ⟨Nat.le_succ _, Nat.le_succ _⟩
end Go.Proofs.YtnalfnlmaallmaaGreat

namespace Go.Proofs.YtnalfnlmaallmaaGreat
open Go.RowKit W Kp Stl
section
variable {a : Wc} {F : Nat -> Prop} {S : Ww} {w : World}
end
end Go.Proofs.YtnalfnlmaallmaaGreat

namespace Go.Proofs.YtnalfnlmaallmaaGreat
open Go.RowKit W Kp Stl
theorem Tile.next {L : Int -> Int} {hi : Int} : ∀ {l : List Int} {a : Int}, Tile L hi a l -> ∀ x ∈ l, x + (1 + pf (L x)) ∈ l \/ x + (1 + pf (L x)) = hi
 | [], _, _, x, hx => by cases hx
 | y :: l, a, h, x, hx => by
  obtain ⟨e, _, _, ht⟩ := h
  rcases List.mem_cons.1 hx with d | d
  ·subst d
   subst e
   match l, ht with
   | [], ht => exact Or.inr ht
   | y' :: l', ht =>
    obtain ⟨e', _⟩ := ht
    exact Or.inl (by rw [<- e']; simp)
  ·exact (Tile.next ht x d).imp (List.mem_cons_of_mem _) id
theorem tile_behind {L : Int -> Int} {hi : Int} : ∀ {l m : List Int} {a x y : Int}, Tile L hi a (l ++ m) -> x ∈ l -> y ∈ m -> x < y
 | [], _, _, _, _, _, hx, _ => by cases hx
 | u :: l, m, a, x, y, h, hx, hy => by
  obtain ⟨e, _, _, ht⟩ := h
  have hp := pf_bd (L a)
  rcases List.mem_cons.1 hx with d | d
  ·have := (ht.mem y (List.mem_append_right l hy)).1
   omega
  ·exact tile_behind ht d hy
structure LI (k : Ck) (z : C0) (s : Cs) (H D : List Int) : Prop where
  mi : MI k z s H
  bo : s.nx ∈ H \/ s.nx = (k.N : Int) + s.g
  lo : ∀ b ∈ H, b < s.nx -> Lo k s b
  ld : ∀ b ∈ D, Lo k s b
  dg : ∀ b ∈ D, b ∈ z.G
section
variable {k : Ck} {z : C0} {s t : Cs} {H D : List Int}
theorem LI.lb1 (h : LI k z s H D) (hn : hB k.N s.g s.nx = true) : ∃ H', LI k z { k.lk s s.nx with nx := s.nx + (1 + pf (k.ld s s.nx)) } H' D /\ Pg k s { k.lk s s.nx with nx := s.nx + (1 + pf (k.ld s s.nx)) } /\ ∃ H2, H' = H ++ H2 := by
 have hb := hB_yes hn
 have hnx : s.nx ∈ H := h.bo.resolve_right (by omega)
 obtain ⟨a, ho⟩ := h.mi.from (List.mem_append_right z.G hnx)
 have hbd := h.mi.bd (List.mem_append_right z.G hnx)
 have hpf := pf_bd (k.ld s s.nx)
 have hg := h.mi.ci.hg
 obtain ⟨H', m1, m2, ⟨H2, m3⟩, m4, m5, m6⟩ := h.mi.lk ho
 obtain ⟨x1, x2⟩ := lk_nx k s s.nx
 have e0 := h.mi.hd a _ ho
 have e1 := m1.hd a _ (m2.or ho)
 have mt := m1.turn (k.lk s s.nx).wk (k.lk s s.nx).ep (k.lk s s.nx).rs (s.nx + (1 + pf (k.ld s s.nx))) m1.ci.wk0 m1.ci.ep0 (by omega) (by omega)
 have hlo := h.mi.hlo _ hnx
 have m7 : ∀ b ∈ H2, s.nx < b := fun b d => tile_behind (by have := m1.full.to; rw [m3, <- List.append_assoc] at this; exact this) (List.mem_append_right z.G hnx) d
 have hsub : ∀ b, b ∈ H -> b ∈ H' := fun b d => by rw [m3]; exact List.mem_append_left _ d
 have keep : ∀ b, (∃ a, k.or z s a b) -> Lo k s b -> Lo k { k.lk s s.nx with nx := s.nx + (1 + pf (k.ld s s.nx)) } b := fun b ⟨a, o⟩ l => by
  have l2 : Lo k (k.lk s s.nx) b := Lo.go l h.mi m1 m2 o (m5 b) (m6 b)
  exact l2
 refine ⟨H', ⟨mt, ?_, fun b d lt => ?_, fun b d => keep b ⟨b, Or.inl ⟨rfl, h.dg b d⟩⟩ (h.ld b d), h.dg⟩, ⟨m2.f, m2.g, m2.cl⟩, H2, m3⟩
 ·have nn := Tile.next m1.full.to s.nx (List.mem_append_right z.G (hsub _ hnx))
  have e2 : Proofs.YtnalfnlmaallmaaGreat.ld k.N k.y (k.lk s s.nx).g (k.lk s s.nx).ws s.nx = k.ld s s.nx := e1.trans e0.symm
  rw [e2] at nn
  rcases nn with d | d
  ·rcases List.mem_append.1 d with d | d
   ·have := h.mi.zh _ d
    omega
   ·exact Or.inl d
  ·exact Or.inr d
 ·dsimp only at lt
  by_cases eb : b = s.nx
  ·subst eb
   exact m4
  ·by_cases lb : b < s.nx
   ·have hbH : b ∈ H := by
     rw [m3] at d
     rcases List.mem_append.1 d with d | d
     ·exact d
     ·exact absurd (m7 b d) (by omega)
    exact keep b (h.mi.from (List.mem_append_right z.G hbH)) (h.lo b hbH lb)
   ·have ap := m1.full.to.apart s.nx (List.mem_append_right z.G (hsub _ hnx)) b (List.mem_append_right z.G d) (by omega)
    have e2 : Proofs.YtnalfnlmaallmaaGreat.ld k.N k.y (k.lk s s.nx).g (k.lk s s.nx).ws s.nx = k.ld s s.nx := e1.trans e0.symm
    rw [e2] at ap
    omega
end
end Go.Proofs.YtnalfnlmaallmaaGreat

namespace Go.Proofs.YtnalfnlmaallmaaGreat
open Go.RowKit W Kp Stl
section
variable {k : Ck} {z : C0} {s t : Cs} {H D : List Int}
theorem LI.lift (h : LI k z s H D) {K : List Int} (ht : MI k z t K) (p : Pg k s t) (hw : t.wk = s.wk) (he : t.ep = s.ep) (hn : t.nx = s.nx) (hb : t.nx ∈ K \/ t.nx = (k.N : Int) + t.g) (hK : ∀ b ∈ K, b < t.nx -> b ∈ H) : LI k z t K D :=
 ⟨ht, hb, fun b d lt => by
  have hbH := hK b d lt
  obtain ⟨a, o⟩ := h.mi.from (List.mem_append_right z.G hbH)
  exact Lo.go (h.lo b hbH (by rw [<- hn]; exact lt)) h.mi ht p o (fun c => by rw [hw]; exact c) (fun c => by rw [he]; exact c), fun b d => Lo.go (h.ld b d) h.mi ht p (Or.inl ⟨rfl, h.dg b d⟩) (fun c => by rw [hw]; exact c) (fun c => by rw [he]; exact c), h.dg⟩
theorem LI.nxle (h : LI k z s H D) : s.nx <= (k.N : Int) + s.g := by
 rcases h.bo with d | d
 ·have := (h.mi.bdH d).2
  omega
 ·omega
theorem LI.cp (h : LI k z s H D) {a : Int} (ha : a ∈ k.T) (hf : s.f a = -1) : LI k z (k.cp s a) (H ++ [((k.N + s.g : Nat) : Int)]) D /\ Pg k s (k.cp s a) := by
 obtain ⟨m1, m2, _⟩ := h.mi.cp ha hf
 have hle := h.nxle
 refine ⟨h.lift m1 m2 rfl rfl rfl ?_ (fun b d lt => ?_), m2⟩
 ·show s.nx ∈ _ \/ _
  rcases h.bo with d | d
  ·exact Or.inl (List.mem_append_left _ d)
  ·exact Or.inl (List.mem_append_right _ (by rw [d]; simp))
 ·have lt2 : b < s.nx := lt
  rcases List.mem_append.1 d with d | d
  ·exact d
  ·rw [List.mem_singleton] at d
   omega
theorem LI.br (h : LI k z s H D) (x : Int) : ∃ H', LI k z (k.br s x).2 H' D /\ Pg k s (k.br s x).2 /\ (∃ H2, H' = H ++ H2) /\ k.yg (k.br s x).1 = false /\ (∀ x0, k.ml s x0 x -> k.ml (k.br s x).2 x0 (k.br s x).1) := by
 obtain ⟨_, _, _, m3, _, m5, _⟩ := h.mi.br x
 cases hls : k.ls s x
 ·have e : (k.br s x).2 = s := by
   unfold Ck.br
   rw [hls]
   rfl
  rw [e] at m5 ⊢
  exact ⟨H, h, Pg.refl _ _, ⟨[], by simp⟩, m3, m5⟩
 ·have e : (k.br s x).2 = k.cp s (aV x) := by
   unfold Ck.br
   rw [if_pos hls]
  have hl2 := hls
  unfold Ck.ls at hl2
  rw [Bool.and_eq_true] at hl2
  have h1 := hl2.1
  unfold Ck.yg at h1
  rw [Bool.and_eq_true] at h1
  obtain ⟨j1, j2⟩ := h.cp (a := aV x) (by simpa using h1.2) (by simpa using hl2.2)
  rw [e] at m5 ⊢
  exact ⟨_, j1, j2, ⟨_, rfl⟩, m3, m5⟩
theorem LI.kf (h : LI k z s H D) {a b i : Int} (ho : k.or z s a b) (i0 : 0 <= i) (i1 : i < pf (k.l0 z a)) : ∃ H', LI k z (k.kf s (b + 1 + i)) H' D /\ Pg k s (k.kf s (b + 1 + i)) /\ k.yg (k.ld (k.kf s (b + 1 + i)) (b + 1 + i)) = false /\ ∃ H2, H' = H ++ H2 := by
 obtain ⟨H', m1, m2, m4, m3, m5⟩ := h.br (k.ld s (b + 1 + i))
 obtain ⟨s1, s2, s3⟩ := m1.mi.st (m2.or ho) i0 i1 (m5 _ (h.mi.fd a b ho i i0 i1))
 have p := Pg.st (a := b + 1 + i) m1.mi.ci m3
 refine ⟨H', m1.lift s1 p rfl rfl rfl m1.bo (fun b d _ => d), m2.trans p, ?_, m4⟩
 unfold Ck.kf
 rw [s2]
 exact m3
end
end Go.Proofs.YtnalfnlmaallmaaGreat

namespace Go.Proofs.YtnalfnlmaallmaaGreat
open Go.RowKit W Kp Stl
section
variable {k : Ck} {z : C0} {s t : Cs} {H D : List Int}
theorem br_rs (k : Ck) (s : Cs) (x : Int) : (k.br s x).2.rs = s.rs /\ (k.br s x).2.wk = s.wk /\ (k.br s x).2.ep = s.ep /\ (k.br s x).2.nx = s.nx := by
 unfold Ck.br
 split <;> exact ⟨rfl, rfl, rfl, rfl⟩
theorem LI.roots (h : LI k z s H D) (rs : List Int) : LI k z { s with rs := rs } H D :=
 h.lift (h.mi.turn s.wk s.ep rs s.nx h.mi.ci.wk0 h.mi.ci.ep0 h.mi.ci.nx0 h.mi.ci.nx1) (Pg.turn k s s.wk s.ep rs s.nx) rfl rfl rfl h.bo (fun _ d _ => d)
theorem LI.kr (h : LI k z s H D) : ∀ n : Nat, n <= s.rs.length -> ∃ H', LI k z (k.kr s n) H' D /\ Pg k s (k.kr s n) /\ (∃ H2, H' = H ++ H2) /\ (k.kr s n).rs.length = s.rs.length /\ (∀ i, i < n -> k.yg ((k.kr s n).rs.getD i 0) = false) /\ (∀ i, n <= i -> (k.kr s n).rs.getD i 0 = s.rs.getD i 0) /\ ∀ i, i < n -> k.ml (k.kr s n) (s.rs.getD i 0) ((k.kr s n).rs.getD i 0)
 | 0, _ => ⟨H, h, Pg.refl _ _, ⟨[], by simp⟩, rfl, fun i hi => by omega, fun _ _ => rfl, fun i hi => by omega⟩
 | n + 1, hn => by
  obtain ⟨H1, m1, m2, ⟨H2, m3⟩, m4, m5, m6, m7⟩ := LI.kr h n (by omega)
  obtain ⟨H3, j1, j2, ⟨H4, j3⟩, j4, j5⟩ := m1.br ((k.kr s n).rs.getD n 0)
  obtain ⟨r1, _⟩ := br_rs k (k.kr s n) ((k.kr s n).rs.getD n 0)
  have hl : n < (k.br (k.kr s n) ((k.kr s n).rs.getD n 0)).2.rs.length := by rw [r1, m4]; omega
  have eg : ∀ i, ((k.br (k.kr s n) ((k.kr s n).rs.getD n 0)).2.rs.set n (k.br (k.kr s n) ((k.kr s n).rs.getD n 0)).1).getD i 0 = if n = i then (k.br (k.kr s n) ((k.kr s n).rs.getD n 0)).1 else (k.kr s n).rs.getD i 0 := fun i => by
   rw [getD_set _ _ _ _ hl, r1]
  have pt := Pg.turn k (k.br (k.kr s n) ((k.kr s n).rs.getD n 0)).2 (k.br (k.kr s n) ((k.kr s n).rs.getD n 0)).2.wk (k.br (k.kr s n) ((k.kr s n).rs.getD n 0)).2.ep ((k.br (k.kr s n) ((k.kr s n).rs.getD n 0)).2.rs.set n (k.br (k.kr s n) ((k.kr s n).rs.getD n 0)).1) (k.br (k.kr s n) ((k.kr s n).rs.getD n 0)).2.nx
  refine ⟨H3, j1.roots _, m2.trans (j2.trans pt), ⟨H2 ++ H4, by rw [j3, m3, List.append_assoc]⟩, ?_, fun i hi => ?_, fun i hi => ?_, fun i hi => ?_⟩
  ·show (List.set _ _ _).length = _
   rw [List.length_set, r1, m4]
  ·show k.yg ((List.set _ _ _).getD i 0) = false
   rw [eg]
   split
   ·exact j4
   ·exact m5 i (by omega)
  ·show (List.set _ _ _).getD i 0 = _
   rw [eg, if_neg (by omega)]
   exact m6 i (by omega)
  ·show k.ml _ _ ((List.set _ _ _).getD i 0)
   rw [eg]
   by_cases e : n = i
   ·rw [if_pos e]
    subst e
    have h1 := j5 (s.rs.getD n 0) (Or.inl (m6 n (Nat.le_refl _)))
    exact h1
   ·rw [if_neg e]
    exact (j2.trans pt).ml (m7 i (by omega))
end
end Go.Proofs.YtnalfnlmaallmaaGreat

namespace Go.Proofs.YtnalfnlmaallmaaGreat
open Go.RowKit W Kp Stl
theorem tile_more {L L' : Int -> Int} {hi hi' : Int} : ∀ {l m : List Int} {a : Int}, Tile L hi a l -> Tile L' hi' a (l ++ m) -> (∀ x ∈ l, L' x = L x) -> (hi ∈ m \/ hi = hi') /\ ∀ y ∈ m, hi <= y
 | [], m, a, h, h', _ => by
  have e : a = hi := h
  subst e
  refine ⟨?_, fun y hy => (h'.mem y hy).1⟩
  match m, h' with
  | [], h' => exact Or.inr h'
  | y :: m', h' =>
   obtain ⟨e', _⟩ := h'
   exact Or.inl (by rw [<- e']; simp)
 | u :: l, m, a, h, h', he => by
  obtain ⟨e, _, _, ht⟩ := h
  obtain ⟨_, _, _, ht'⟩ := h'
  have e2 := he u (by simp)
  rw [e] at e2
  rw [e2] at ht'
  exact tile_more ht ht' (fun x hx => he x (List.mem_cons_of_mem _ hx))
section
variable {k : Ck} {z : C0} {s t : Cs} {H D : List Int}
theorem LI.lk (h : LI k z s H D) {b : Int} (hb : b ∈ z.G) : ∃ H', LI k z (k.lk s b) H' (b :: D) /\ Pg k s (k.lk s b) /\ ∃ H2, H' = H ++ H2 := by
 have ho : k.or z s b b := Or.inl ⟨rfl, hb⟩
 obtain ⟨H', m1, m2, ⟨H2, m3⟩, m4, m5, m6⟩ := h.mi.lk ho
 obtain ⟨x1, x2⟩ := lk_nx k s b
 have tm := tile_more (l := z.G ++ H) (m := H2) h.mi.full.to (by have := m1.full.to; rw [m3, <- List.append_assoc] at this; exact this) (fun x hx => by
  obtain ⟨a, o⟩ := h.mi.from hx
  exact (m1.hd a x (m2.or o)).trans (h.mi.hd a x o).symm)
 have hle := h.nxle
 refine ⟨H', ⟨m1, ?_, fun c d lt => ?_, fun c d => ?_, fun c d => ?_⟩, m2, H2, m3⟩
 ·rw [x1]
  rcases h.bo with d | d
  ·exact Or.inl (by rw [m3]; exact List.mem_append_left _ d)
  ·rw [d]
   exact tm.1.imp (fun e => by rw [m3]; exact List.mem_append_right _ e) id
 ·rw [x1] at lt
  have hcH : c ∈ H := by
   rw [m3] at d
   rcases List.mem_append.1 d with d | d
   ·exact d
   ·have := tm.2 c d
    omega
  obtain ⟨a, o⟩ := h.mi.from (List.mem_append_right z.G hcH)
  exact Lo.go (h.lo c hcH lt) h.mi m1 m2 o (m5 c) (m6 c)
 ·rcases List.mem_cons.1 d with d | d
  ·rw [d]; exact m4
  ·exact Lo.go (h.ld c d) h.mi m1 m2 (Or.inl ⟨rfl, h.dg c d⟩) (m5 c) (m6 c)
 ·rcases List.mem_cons.1 d with d | d
  ·rw [d]; exact hb
  ·exact h.dg c d
end
end Go.Proofs.YtnalfnlmaallmaaGreat
