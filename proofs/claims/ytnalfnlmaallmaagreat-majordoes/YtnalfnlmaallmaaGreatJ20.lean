/- Joined: Mj3, Mj4, Mj5, Mj6, Mj7. -/
import Derived.Test.YtnalfnlmaallmaaGreatJ19
import Derived.Test.YtnalfnlmaallmaaGreatJ17
import Derived.Deep.LoopGhost
namespace Go.Proofs.YtnalfnlmaallmaaGreat
open Go.RowKit W Kp Stl
section
variable {c : Jc} {k : Jk} {F : Nat -> Prop} {s : Js} {vt ve : Value} {w : World}
theorem mj_todo0 {v0 : Value} (h : (mjV c k v0 ve).J F s w) {v1 : Value} {l : List Int} {w1 : World} (f1 : Fr (fun b => some b = v0.ownBlock) w w1) (ho : w1.ownsRow 0 3 1 v1 l.length (l.map (Value.int .i64))) (hn : ∀ b, some b = v1.ownBlock -> some b = v0.ownBlock \/ ¬ F b) :
    (mjV c k v1 ve).J (fun b => F b \/ some b = v1.ownBlock) { s with td := l } (w1.setCell ⟨c.pk, 5, none⟩ v1) /\ Fr F w (w1.setCell ⟨c.pk, 5, none⟩ v1) := by
  obtain ⟨FW, own, h, hF⟩ := h
  have sz : (w1.setCell ⟨c.pk, 5, none⟩ v1).heap.size = w1.heap.size := by simp [World.setCell]
  have hb1 : ∀ b, b < w.heap.size -> own b ≠ 7 -> w1.heap[b]? = w.heap[b]? := fun b hb hn => f1.block b hb (fun e => hn (h.to_ b e))
  have hb : ∀ b, b < w.heap.size -> own b ≠ 7 -> own b ≠ 5 -> (w1.setCell ⟨c.pk, 5, none⟩ v1).heap[b]? = w.heap[b]? := fun b hb h7 h5 => (Below.heap_setCell _ _ _ _ (fun e => h5 (by have e : b = c.pk := e; rw [e]; exact h.k1))).trans (hb1 b hb h7)
  have hnw : ∀ b, some b = v1.ownBlock -> own b = 7 \/ own b = 0 := fun b e => (hn b e).elim (fun e => Or.inl (h.to_ b e)) (fun hl => Or.inr (Classical.byContradiction (fun c => hl ((hF b).2 c))))
  have e1 : ∀ b j, own b = j -> j ≠ 7 -> j ≠ 0 -> (if some b = v1.ownBlock then 7 else own b) = j := fun b j e h7 h0 => by
    rw [if_neg (fun c => by rcases hnw b c with c | c <;> omega)]
    exact e
  have lt1 := fun b e => (row_lt ho b e).2
  refine ⟨⟨FW, fun b => if some b = v1.ownBlock then 7 else own b, ?_, fun b => ?_⟩, ?_⟩
  · exact { wd := (wodO k.a).keep h.wd (by rw [sz]; exact f1.size) (fun b d => hb b ((wodO k.a).lt h.wd b d) (by rw [(h.w1 b).1 d]; decide) (by rw [(h.w1 b).1 d]; decide))
            w1 := fun b => ⟨fun d => e1 _ _ ((h.w1 b).1 d) (by decide) (by decide), fun d => by
              by_cases e : some b = v1.ownBlock
              · rw [if_pos e] at d; omega
              · rw [if_neg e] at d; exact (h.w1 b).2 d⟩
            k1 := e1 _ _ h.k1 (by decide) (by decide), m1 := e1 _ _ h.m1 (by decide) (by decide)
            cb := by
              have hq := (hb1 _ (lt_of_some h.cb) (by rw [h.k1]; decide)).trans h.cb
              simp only [World.setCell, Array.getElem?_modify, if_true, hq, Option.map_some]
              simp
            mp := h.mp.same (hb _ h.mp.lt (by rw [h.m1]; decide) (by rw [h.m1]; decide))
            tr := row_keep ho (fun b e => Below.heap_setCell _ _ _ _ (fun e' => by
              have e' : b = c.pk := e'
              have := hnw b e
              rw [e', h.k1] at this
              omega))
            to_ := fun b e => by rw [if_pos e]
            er := row_keep h.er (fun b e => hb b (row_lt h.er b e).2 (by rw [h.eo b e]; decide) (by rw [h.eo b e]; decide))
            eo := fun b e => e1 _ _ (h.eo b e) (by decide) (by decide)
            yr := row_keep h.yr (fun b e => hb b (row_lt h.yr b e).2 (by rw [h.yo b e]; decide) (by rw [h.yo b e]; decide))
            yo := fun b e => e1 _ _ (h.yo b e) (by decide) (by decide)
            gr := row_keep h.gr (fun b e => hb b (row_lt h.gr b e).2 (by rw [h.go b e]; decide) (by rw [h.go b e]; decide))
            go := fun b e => e1 _ _ (h.go b e) (by decide) (by decide)
            lt := fun b hb => by
              rw [sz]
              by_cases e : some b = v1.ownBlock
              · exact lt1 b e
              · rw [if_neg e] at hb
                exact Nat.lt_of_lt_of_le (h.lt b hb) f1.size }
  · by_cases e : some b = v1.ownBlock
    · simp [e]
    · simp [e, hF b]
  · refine (f1.mono (fun b e => (hF b).2 (by rw [h.to_ b e]; decide))).trans ((Fr.refl (fun b => b = c.pk) w1).set _ 5 _ rfl) (fun b e => Or.inl ((hF b).2 (by rw [e, h.k1]; decide)))
theorem mj_todo {v0 : Value} (h : (mjV c k v0 ve).J F s w) {v1 : Value} {l : List Int} {w1 : World} (f1 : Fr (fun b => some b = v0.ownBlock) w w1) (ho : w1.ownsRow 0 3 1 v1 l.length (l.map (Value.int .i64))) (hn : ∀ b, some b = v1.ownBlock -> some b = v0.ownBlock \/ w.heap.size <= b) :
  ∃ F', (mjV c k v1 ve).J F' { s with td := l } (w1.setCell ⟨c.pk, 5, none⟩ v1) /\ Tn F w F' (w1.setCell ⟨c.pk, 5, none⟩ v1) := by
 obtain ⟨h1, h2⟩ := mj_todo0 h f1 ho (fun b e => (hn b e).imp id (fun d hb => by have := (mjV c k v0 ve).lt h b hb; omega))
 obtain ⟨FW, own, hm, hF⟩ := h
 exact ⟨_, h1, h2, fun b hb => hb.elim Or.inl (fun e => (hn b e).imp (fun e => (hF b).2 (by rw [hm.to_ b e]; decide)) id)⟩
theorem mj_ephems0 {v0 : Value} (h : (mjV c k vt v0).J F s w) {v1 : Value} {l : List Int} {w1 : World} (f1 : Fr (fun b => some b = v0.ownBlock) w w1) (ho : w1.ownsRow 0 3 1 v1 l.length (l.map (Value.int .i64))) (hn : ∀ b, some b = v1.ownBlock -> some b = v0.ownBlock \/ ¬ F b) :
    (mjV c k vt v1).J (fun b => F b \/ some b = v1.ownBlock) { s with ep := l } (w1.setCell ⟨c.pk, 6, none⟩ v1) /\ Fr F w (w1.setCell ⟨c.pk, 6, none⟩ v1) := by
  obtain ⟨FW, own, h, hF⟩ := h
  have sz : (w1.setCell ⟨c.pk, 6, none⟩ v1).heap.size = w1.heap.size := by simp [World.setCell]
  have hb1 : ∀ b, b < w.heap.size -> own b ≠ 8 -> w1.heap[b]? = w.heap[b]? := fun b hb hn => f1.block b hb (fun e => hn (h.eo b e))
  have hb : ∀ b, b < w.heap.size -> own b ≠ 8 -> own b ≠ 5 -> (w1.setCell ⟨c.pk, 6, none⟩ v1).heap[b]? = w.heap[b]? := fun b hb h7 h5 => (Below.heap_setCell _ _ _ _ (fun e => h5 (by have e : b = c.pk := e; rw [e]; exact h.k1))).trans (hb1 b hb h7)
  have hnw : ∀ b, some b = v1.ownBlock -> own b = 8 \/ own b = 0 := fun b e => (hn b e).elim (fun e => Or.inl (h.eo b e)) (fun hl => Or.inr (Classical.byContradiction (fun c => hl ((hF b).2 c))))
  have e1 : ∀ b j, own b = j -> j ≠ 8 -> j ≠ 0 -> (if some b = v1.ownBlock then 8 else own b) = j := fun b j e h7 h0 => by
    rw [if_neg (fun c => by rcases hnw b c with c | c <;> omega)]
    exact e
  have lt1 := fun b e => (row_lt ho b e).2
  refine ⟨⟨FW, fun b => if some b = v1.ownBlock then 8 else own b, ?_, fun b => ?_⟩, ?_⟩
  · exact { wd := (wodO k.a).keep h.wd (by rw [sz]; exact f1.size) (fun b d => hb b ((wodO k.a).lt h.wd b d) (by rw [(h.w1 b).1 d]; decide) (by rw [(h.w1 b).1 d]; decide))
            w1 := fun b => ⟨fun d => e1 _ _ ((h.w1 b).1 d) (by decide) (by decide), fun d => by
              by_cases e : some b = v1.ownBlock
              · rw [if_pos e] at d; omega
              · rw [if_neg e] at d; exact (h.w1 b).2 d⟩
            k1 := e1 _ _ h.k1 (by decide) (by decide), m1 := e1 _ _ h.m1 (by decide) (by decide)
            cb := by
              have hq := (hb1 _ (lt_of_some h.cb) (by rw [h.k1]; decide)).trans h.cb
              simp only [World.setCell, Array.getElem?_modify, if_true, hq, Option.map_some]
              simp
            mp := h.mp.same (hb _ h.mp.lt (by rw [h.m1]; decide) (by rw [h.m1]; decide))
            er := row_keep ho (fun b e => Below.heap_setCell _ _ _ _ (fun e' => by
              have e' : b = c.pk := e'
              have := hnw b e
              rw [e', h.k1] at this
              omega))
            eo := fun b e => by rw [if_pos e]
            tr := row_keep h.tr (fun b e => hb b (row_lt h.tr b e).2 (by rw [h.to_ b e]; decide) (by rw [h.to_ b e]; decide))
            to_ := fun b e => e1 _ _ (h.to_ b e) (by decide) (by decide)
            yr := row_keep h.yr (fun b e => hb b (row_lt h.yr b e).2 (by rw [h.yo b e]; decide) (by rw [h.yo b e]; decide))
            yo := fun b e => e1 _ _ (h.yo b e) (by decide) (by decide)
            gr := row_keep h.gr (fun b e => hb b (row_lt h.gr b e).2 (by rw [h.go b e]; decide) (by rw [h.go b e]; decide))
            go := fun b e => e1 _ _ (h.go b e) (by decide) (by decide)
            lt := fun b hb => by
              rw [sz]
              by_cases e : some b = v1.ownBlock
              · exact lt1 b e
              · rw [if_neg e] at hb
                exact Nat.lt_of_lt_of_le (h.lt b hb) f1.size }
  · by_cases e : some b = v1.ownBlock
    · simp [e]
    · simp [e, hF b]
  · refine (f1.mono (fun b e => (hF b).2 (by rw [h.eo b e]; decide))).trans ((Fr.refl (fun b => b = c.pk) w1).set _ 6 _ rfl) (fun b e => Or.inl ((hF b).2 (by rw [e, h.k1]; decide)))
theorem mj_ephems {v0 : Value} (h : (mjV c k vt v0).J F s w) {v1 : Value} {l : List Int} {w1 : World} (f1 : Fr (fun b => some b = v0.ownBlock) w w1) (ho : w1.ownsRow 0 3 1 v1 l.length (l.map (Value.int .i64))) (hn : ∀ b, some b = v1.ownBlock -> some b = v0.ownBlock \/ w.heap.size <= b) :
  ∃ F', (mjV c k vt v1).J F' { s with ep := l } (w1.setCell ⟨c.pk, 6, none⟩ v1) /\ Tn F w F' (w1.setCell ⟨c.pk, 6, none⟩ v1) := by
 obtain ⟨h1, h2⟩ := mj_ephems0 h f1 ho (fun b e => (hn b e).imp id (fun d hb => by have := (mjV c k vt v0).lt h b hb; omega))
 obtain ⟨FW, own, hm, hF⟩ := h
 exact ⟨_, h1, h2, fun b hb => hb.elim Or.inl (fun e => (hn b e).imp (fun e => (hF b).2 (by rw [hm.eo b e]; decide)) id)⟩
theorem mj_rows (h : (mjV c k vt ve).J F s w) : w.ownsRow 0 3 1 vt s.td.length (s.td.map (Value.int .i64)) /\ w.ownsRow 0 3 1 ve s.ep.length (s.ep.map (Value.int .i64)) /\ some c.pk ≠ vt.ownBlock /\ some c.pk ≠ ve.ownBlock /\ c.pk ≠ c.mq := by
 obtain ⟨FW, own, h, _⟩ := h
 refine ⟨h.tr, h.er, fun e => ?_, fun e => ?_, fun e => ?_⟩
 ·have h1 := h.to_ _ e
  rw [h.k1] at h1
  omega
 ·have h1 := h.eo _ e
  rw [h.k1] at h1
  omega
 ·have h1 := h.k1
  rw [e, h.m1] at h1
  omega
end
end Go.Proofs.YtnalfnlmaallmaaGreat

namespace Go.Proofs.YtnalfnlmaallmaaGreat
set_option maxRecDepth 100000
set_option maxHeartbeats 1000000
open Go.RowKit W Kp Stl
section
variable {c : Jc} {k : Jk} {vt ve : Value} {F : Nat -> Prop} {s : Js} {w : World}
theorem standsJ_any (h : (mjV c k vt ve).J F s w) (x : Int) :
  Calls Tryz.prog 238 #[.pointer (some ⟨c.pk, 0, none⟩), .int .i64 x] w fun e w' => ∃ v, e = .returned (.tuple #[.int .i64 v, .bool (k.jt x)]) /\ (k.jt x = true -> v = s.f (aV x)) /\ Below w.heap.size w w' := by
 have HJ : Hid ((mjV c k vt ve).J F s w) := h
 have P := at_any x w
 clear h
 cases ha : aB x
 ·rw [ha] at P
  have e1 : k.jt x = false := by unfold Jk.jt; rw [ha]; rfl
  rw [e1]
  go_enter Tryz.func238, Tryz.ntmps238
  go_wp2_with fail
  refine P.mono ?_
  clear P
  rintro e w1 ⟨rfl, hb1⟩
  go_wp2_with fail
  go_ret2
  exact ⟨0, rfl, fun h => by simp at h, hb1⟩
 ·have e1 : k.jt x = k.T.contains (aV x) := by unfold Jk.jt; rw [ha]; rfl
  have hbd := aV_bd ha
  rw [e1]
  rw [ha] at P
  clear ha e1
  generalize aV x = a at P hbd ⊢
  have hky := keyI hbd.1 hbd.2
  obtain ⟨bt, hbt⟩ : ∃ bt, bt = k.T.contains a := ⟨_, rfl⟩
  rw [<- hbt]
  go_enter Tryz.func238, Tryz.ntmps238
  go_wp2_with fail
  refine P.mono ?_
  clear P
  rintro e w1 ⟨rfl, hb1⟩
  have hJ1 := (mjV c k vt ve).below HJ.out hb1
  obtain ⟨_, _, _, c1, _⟩ := mj_cells hJ1
  obtain ⟨⟨D, o1, o2, o3⟩, _⟩ := mj_map hJ1
  have E2 : Hid (Maps.has D (.int .i64 a) = bt) := (o2 a).trans hbt.symm
  have E3 : Hid (bt = true -> D.atKey (.int .i64 a) (.lit (.int .i64 0)) = .lit (.int .i64 (s.f a))) := fun e => o3 a (by rw [hbt] at e; simpa using e)
  clear o2 o3 hbt hJ1 HJ
  go_wp2_with (at_lookup; refine wpList_lookup_own_ok_int _ rfl _ _ 109 rfl 3 3 .i64 lawI Tryz.underlying109 Tryz.underlying3 (zeroI _) c.mq k.T.length D rfl o1 _ _ rfl hky ?_; intro z hat hwc; rw [E2.out]; have E4 : Hid (bt = true -> z = s.f a) := (fun e => by have := hat.symm.trans (E3.out e); simpa using this); clear hat hwc)
  go_ret2
  exact ⟨z, rfl, E4.out, hb1⟩
theorem isLostJ_any (h : (mjV c k vt ve).J F s w) (x : Int) :
  Calls Tryz.prog 206 #[.pointer (some ⟨c.pk, 0, none⟩), .int .i64 x] w fun e w' => e = .returned (.bool (k.jl s x)) /\ Below w.heap.size w w' := by
 have P := standsJ_any h x
 clear h
 cases hy : k.jt x
 ·have e1 : k.jl s x = false := by unfold Jk.jl; rw [hy]; rfl
  rw [e1]
  rw [hy] at P
  go_enter Tryz.func206, Tryz.ntmps206
  go_wp2_with fail
  refine P.mono ?_
  clear P
  rintro e w1 ⟨v, rfl, _, hb1⟩
  go_wp2_with fail
  go_ret
  exact ⟨rfl, hb1⟩
 ·have e1 : k.jl s x = (s.f (aV x) == -1) := by unfold Jk.jl; rw [hy]; rfl
  rw [e1]
  rw [hy] at P
  generalize s.f (aV x) = a at P ⊢
  go_enter Tryz.func206, Tryz.ntmps206
  go_wp2_with fail
  refine P.mono ?_
  clear P
  rintro e w1 ⟨v, rfl, hv, hb1⟩
  have hv := hv trivial
  subst hv
  go_wp2_with fail
  go_ret
  exact ⟨rfl, hb1⟩
theorem nowJ_any (h : (mjV c k vt ve).J F s w) (x : Int) :
  Calls Tryz.prog 208 #[.pointer (some ⟨c.pk, 0, none⟩), .int .i64 x] w fun e w' => e = .returned (.int .i64 (k.nw s x)) /\ Below w.heap.size w w' := by
 have P := standsJ_any h x
 clear h
 cases hy : k.jt x
 ·have e1 : k.nw s x = x := by unfold Jk.nw; rw [hy]; simp
  rw [e1]
  rw [hy] at P
  go_enter Tryz.func208, Tryz.ntmps208
  go_wp2_with fail
  refine P.mono ?_
  clear P
  rintro e w1 ⟨v, rfl, _, hb1⟩
  go_wp2_with fail
  go_ret
  exact ⟨rfl, hb1⟩
 ·rw [hy] at P
  by_cases hf : s.f (aV x) = -1
  ·have e1 : k.nw s x = x := by unfold Jk.nw; rw [hy, hf]; simp
   rw [e1]
   rw [hf] at P
   go_enter Tryz.func208, Tryz.ntmps208
   go_wp2_with fail
   refine P.mono ?_
   clear P
   rintro e w1 ⟨v, rfl, hv, hb1⟩
   have hv := hv trivial
   subst hv
   go_wp2_with fail
   go_ret
   exact ⟨rfl, hb1⟩
  ·have e1 : k.nw s x = ew 3 (s.f (aV x)) := by unfold Jk.nw; rw [hy, if_pos (by simp [hf])]
   rw [e1]
   generalize s.f (aV x) = a at P hf ⊢
   have hf2 : ¬ (-1 = a) := fun e => hf e.symm
   go_enter Tryz.func208, Tryz.ntmps208
   go_wp2_with fail
   refine P.mono ?_
   clear P
   rintro e w1 ⟨v, rfl, hv, hb1⟩
   have hv := hv trivial
   subst hv
   go_wp2_with fail
   refine (ref_any v w1).mono ?_
   rintro e w2 ⟨rfl, hb2⟩
   go_wp2_with fail
   go_ret
   exact ⟨rfl, hb1.trans (hb2.mono hb1.size)⟩
end
end Go.Proofs.YtnalfnlmaallmaaGreat

namespace Go.Proofs.YtnalfnlmaallmaaGreat
set_option maxRecDepth 100000
set_option maxHeartbeats 2000000
open Go.RowKit W Kp Stl
def mjE (c : Jc) (k : Jk) (ve : Value) : Ob Js where
  J F s w := ∃ vt, (mjV c k vt ve).J F s w
  lt := by
    rintro F s w ⟨vt, h⟩
    exact (mjV c k vt ve).lt h
  keep := by
    rintro F s w w' ⟨vt, h⟩ hs hk
    exact ⟨vt, (mjV c k vt ve).keep h hs hk⟩
section
variable {c : Jc} {k : Jk} {ve : Value} {F : Nat -> Prop} {s : Js} {w : World}
theorem markE_any (h : (mjE c k ve).J F s w) (hI : JI k s) (x : Int) :
  Calls Tryz.prog 202 #[.pointer (some ⟨c.pk, 0, none⟩), .int .i64 x] w fun e w' => ∃ F', e = .returned (.tuple #[]) /\ (mjE c k ve).J F' (k.ma s x) w' /\ Tn F w F' w' := by
 obtain ⟨vt, h⟩ := h
 have P := isLostJ_any h x
 have HJ : Hid ((mjV c k vt ve).J F s w) := h
 clear h
 cases hl : k.jl s x
 ·have e1 : k.ma s x = s := by unfold Jk.ma; rw [hl]; rfl
  rw [e1]
  rw [hl] at P
  go_enter Tryz.func202, Tryz.ntmps202
  go_wp2_with fail
  refine P.mono ?_
  clear P
  rintro e w1 ⟨rfl, hb1⟩
  have HF : Hid ((mjE c k ve).J F s w1 /\ Tn F w F w1) := ⟨⟨vt, (mjV c k vt ve).below HJ.out hb1⟩, Tn.of hb1⟩
  clear hb1 HJ
  go_wp2_with fail
  go_end0
  exact ⟨F, rfl, HF.out.1, HF.out.2⟩
 ·obtain ⟨i0, hi, hz0, hz1, hz2⟩ := info_parts infoInt
  obtain ⟨l1, l2, l3⟩ := Jk.jl_yes hl
  have E : Hid (k.ma s x = { s with f := upf s.f (aV x) (aV x), td := s.td ++ [aV x] }) := by
   show _ = _
   unfold Jk.ma
   rw [if_pos hl]
  have PA := at_any x
  rw [l1] at PA
  have hps := hI.ps _ l2
  have htl := hI.tl
  have hsm := hI.sum
  rw [hl] at P
  generalize k.ma s x = s2 at E ⊢
  generalize aV x = a at E PA l2 l3 hps ⊢
  have hky := keyI hps.1 (by omega)
  have hvl := elI a (WalkArith.wf_i64 ⟨by omega, by omega⟩)
  clear hl l1 l3
  go_enter Tryz.func202, Tryz.ntmps202
  go_wp2_with fail
  refine P.mono ?_
  clear P
  rintro e w1 ⟨rfl, hb1⟩
  go_wp2_with fail
  refine (PA w1).mono ?_
  clear PA
  rintro e w2 ⟨rfl, hb2⟩
  have hb := hb1.trans (hb2.mono hb1.size)
  have J2 := (mjV c k vt ve).below HJ.out hb
  obtain ⟨_, _, _, c3, _, c5, _, cz, lk⟩ := mj_cells J2
  obtain ⟨⟨D, o1, o2, o3⟩, hM⟩ := mj_map J2
  obtain ⟨w3, hrun, hown3, hgrow3⟩ := o1.update (t := 109) (e := 3) lawI Tryz.underlying109 (by unfold maxLen; omega) hky hvl
  obtain ⟨J3, T3⟩ := hM w3 _ (Mp.put o1 o2 o3 l2 hown3) ((Fr.refl _ w2).grown hgrow3 (fun b e => Or.inl (by cases e; rfl)))
  obtain ⟨_, _, _, _, _, d5, _, dz, lk3⟩ := mj_cells J3
  obtain ⟨tr3, _, rne, _⟩ := mj_rows J3
  dsimp only at tr3
  obtain ⟨ad, cap, evt⟩ := row_slice tr3
  subst evt
  have z5 := dz 5
  have HJ3 : Hid ((mjV c k (.slice ad s.td.length cap) ve).J F { s with f := upf s.f a a } w3 /\ Tn F w F w3) := ⟨J3, (Tn.of hb).trans T3⟩
  have tl2 : s.td.length <= 4000 := by omega
  clear hb1 hb2 hb J2 hM o1 o2 o3 hown3 hgrow3 J3 T3 HJ cz dz hsm
  go_wp2_with (at_builtin; refine wpList_append_own_at _ rfl _ _ 81 rfl 0 3 i0 (.int .i64 0) 1 8 Tryz.underlying81 hi hz0 hz1 hz2 rfl (by decide) (.slice ad s.td.length cap) s.td.length (s.td.map (Value.int .i64)) rfl (row_alloc tr3 _) ⟨w3.heap.size, 0, none⟩ 1 1 [.int .i64 a] rfl rfl ?_ ?_ ?_ ?_ ?_ ?_; (intro j u hj; match j, hj with | 0, hj => (simp at hj; subst hj; simp [Addr.add])); (intro u hu; simp at hu; subst hu; rfl); (unfold maxLen; omega); (first | omega | simp); (first | omega | (simp; done) | (simp; omega)); intro v' w4 hown4 hgrow4 _ hloc4; obtain ⟨b4, cap4, ev4⟩ := row_shape hown4 (Nat.succ_pos _); subst ev4; have kb := (hgrow4.block c.pk (by simp; omega) rne).trans (Below.heap_alloc _ _ _ lk3); have g4 := (World.cell?_of_block (a := ⟨c.pk, 5, none⟩) kb).trans d5; have f4 := (World.frozen?_of_block (a := ⟨c.pk, 5, none⟩) kb).trans z5)
  go_end0
  obtain ⟨F', hJ', hT'⟩ := mj_todo HJ3.out.1 (((Fr.refl _ w3).alloc _).grown hgrow4 (fun b e => Or.inl e.symm)) (v1 := .slice (some ⟨b4, 0, none⟩) (s.td.length + 1) cap4) (l := s.td ++ [a]) (by simpa using hown4) (fun b e => by
   have hbl : some b4 = (Value.slice ad s.td.length cap).ownBlock \/ b4 = w3.heap.size + 1 := hloc4.imp id (fun e => by simpa [Value.ownBlock] using e)
   simp [Value.ownBlock] at e
   subst e
   exact hbl.imp id (fun e => by omega))
  exact ⟨F', rfl, ⟨_, by rw [E.out]; exact hJ'⟩, HJ3.out.2.trans hT'⟩
theorem markJ_any (h : (mjO c k).J F s w) (hI : JI k s) (x : Int) :
  Calls Tryz.prog 202 #[.pointer (some ⟨c.pk, 0, none⟩), .int .i64 x] w fun e w' => ∃ F', e = .returned (.tuple #[]) /\ (mjO c k).J F' (k.ma s x) w' /\ Tn F w F' w' := by
 obtain ⟨vt, ve, h⟩ := h
 refine (markE_any (ve := ve) ⟨vt, h⟩ hI x).mono ?_
 rintro e w' ⟨F', rfl, ⟨vt', j⟩, t⟩
 exact ⟨F', rfl, ⟨vt', ve, j⟩, t⟩
end
end Go.Proofs.YtnalfnlmaallmaaGreat

namespace Go.Proofs.YtnalfnlmaallmaaGreat
set_option maxRecDepth 100000
set_option maxHeartbeats 2000000
open Go.RowKit W Kp Stl
section
variable {c : Jc} {k : Jk} {F : Nat -> Prop} {s : Js} {w : World}
theorem lookJ_12 (h : (mjO c k).J F s w) (hI : JI k s) (a : Int) (a0 : 0 <= a) (a1 : a <= 2000) (hk : pk (k.ld a) = 1 \/ pk (k.ld a) = 2) :
  Calls Tryz.prog 237 #[.pointer (some ⟨c.pk, 0, none⟩), .int .i64 a] w fun e w' => ∃ F', e = .returned (.tuple #[]) /\ (mjO c k).J F' (k.lk s a) w' /\ Tn F w F' w' := by
 have e0 : k.lk s a = k.mas s a (pf (k.ld a)).toNat := by unfold Jk.lk; rw [if_pos hk]
 rw [e0]
 have HJ : Hid ((mjO c k).J F s w) := h
 obtain ⟨vt, ve, h⟩ := h
 obtain ⟨hA, c0, _⟩ := mj_wood h
 obtain ⟨d0, _⟩ := mj_cells h
 have L := thing_any a w hA
 have el : ld k.a.N k.s.y k.s.g k.s.ws a = k.ld a := rfl
 rw [el] at L
 have hp := pf_bd (k.ld a)
 obtain ⟨n, hn⟩ : ∃ n : Nat, pf (k.ld a) = n := ⟨(pf (k.ld a)).toNat, by omega⟩
 rw [hn] at L hp ⊢
 have en : (n : Int).toNat = n := Int.toNat_natCast n
 rw [en]
 have HI : Hid (JI k s) := hI
 clear h hA hI el hn e0 en
 generalize pc (k.ld a) = q at L
 have key : ∀ kd : Int, (kd = 1 \/ kd = 2) -> pk (k.ld a) = kd -> Calls Tryz.prog 237 #[.pointer (some ⟨c.pk, 0, none⟩), .int .i64 a] w fun e w' => ∃ F', e = .returned (.tuple #[]) /\ (mjO c k).J F' (k.mas s a n) w' /\ Tn F w F' w' := by
  intro kd hkd ekd
  rw [ekd] at L
  clear ekd hk
  rcases hkd with rfl | rfl
  all_goals
   go_enter Tryz.func237, Tryz.ntmps237
   go_wp2_with fail
   refine L.mono ?_
   clear L
   rintro e w1 ⟨rfl, hb1⟩
   have HJ1 : Hid ((mjO c k).J F (k.mas s a 0) w1 /\ Tn F w F w1) := ⟨(mjO c k).below HJ.out hb1, Tn.of hb1⟩
   clear hb1 c0 d0
   go_wp2_with fail
   go_loopw [26] (fun iv wr => ∃ (i : Nat) (F' : Nat -> Prop), i <= n /\ iv = .int .i64 i /\ Hid ((mjO c k).J F' (k.mas s a i) wr /\ Tn F w F' wr)) (fun iv _ => n - (intOf iv).toNat)
   case atStart => exact ⟨0, F, Nat.zero_le _, rfl, HJ1⟩
   case round =>
    clear HJ1
    obtain ⟨i, F', hi, rfl, HJ2⟩ := hrel
    by_cases hlt : i < n
    ·have i0 : (0 : Int) <= (i : Int) := by omega
     have i1 : (i : Int) < (n : Int) := by omega
     obtain ⟨vt, ve, h2⟩ := HJ2.out.1
     obtain ⟨hA, c0, _⟩ := mj_wood h2
     obtain ⟨d0, _⟩ := mj_cells h2
     have P := load_any (a + 1 + i) wr hA
     have ex : ld k.a.N k.s.y k.s.g k.s.ws (a + 1 + i) = k.ld (a + 1 + i) := rfl
     rw [ex] at P
     have HS : Hid (k.mas s a (i + 1) = k.ma (k.mas s a i) (k.ld (a + 1 + i))) := rfl
     have hI2 := (HI.out.mas a i).1
     generalize k.ld (a + 1 + i) = x at P HS
     clear hA h2 ex
     go_wp2_with fail
     refine P.mono ?_
     clear P
     rintro e w3 ⟨rfl, hb3⟩
     have PM := markJ_any ((mjO c k).below HJ2.out.1 hb3) hI2 x
     rw [<- HS.out] at PM
     have HT : Hid (Tn F w F' w3) := HJ2.out.2.below hb3
     clear hb3 HJ2 HS hI2 c0 d0
     go_wp2_with fail
     refine PM.mono ?_
     clear PM
     rintro e w4 ⟨F4, rfl, j4, t4⟩
     have HJ4 : Hid ((mjO c k).J F4 (k.mas s a (i + 1)) w4 /\ Tn F w F4 w4) := ⟨j4, HT.out.trans t4⟩
     clear j4 t4 HT
     go_wp2_with fail
     go_roundw
     case rel => exact ⟨i + 1, F4, by omega, by go_num, HJ4⟩
     case measure => simp [intOf]; omega
    ·obtain rfl : i = n := by omega
     go_wp2_with fail
     go_end0
     exact ⟨F', rfl, HJ2.out.1, HJ2.out.2⟩
 exact key _ hk rfl
theorem lookJ_3 (h : (mjO c k).J F s w) (hI : JI k s) (a : Int) (a0 : 0 <= a) (a1 : a <= 2000) (hk : pk (k.ld a) = 3) :
  Calls Tryz.prog 237 #[.pointer (some ⟨c.pk, 0, none⟩), .int .i64 a] w fun e w' => ∃ F', e = .returned (.tuple #[]) /\ (mjO c k).J F' (k.lk s a) w' /\ Tn F w F' w' := by
 have e0 : k.lk s a = k.ma s (k.ld (a + 2)) := by unfold Jk.lk; rw [if_neg (by omega), if_pos hk]
 rw [e0]
 obtain ⟨x, hx⟩ : ∃ x, k.ld (a + 2) = x := ⟨_, rfl⟩
 rw [hx]
 have HX : Hid (k.ld (a + 2) = x) := hx
 clear hx
 have HJ : Hid ((mjO c k).J F s w) := h
 obtain ⟨vt, ve, h⟩ := h
 obtain ⟨hA, c0, _⟩ := mj_wood h
 obtain ⟨d0, _⟩ := mj_cells h
 have L := thing_any a w hA
 have el : ld k.a.N k.s.y k.s.g k.s.ws a = k.ld a := rfl
 rw [el, hk] at L
 generalize pf (k.ld a) = n at L
 generalize pc (k.ld a) = q at L
 clear h hA el hk e0
 go_enter Tryz.func237, Tryz.ntmps237
 go_wp2_with fail
 refine L.mono ?_
 clear L
 rintro e w1 ⟨rfl, hb1⟩
 have J1 := (mjO c k).below HJ.out hb1
 have HJ1 : Hid ((mjO c k).J F s w1 /\ Tn F w F w1) := ⟨J1, Tn.of hb1⟩
 obtain ⟨vt, ve, h2⟩ := J1
 obtain ⟨hA, c0, _⟩ := mj_wood h2
 obtain ⟨d0, _⟩ := mj_cells h2
 have P := load_any (a + 2) w1 hA
 have ex : ld k.a.N k.s.y k.s.g k.s.ws (a + 2) = k.ld (a + 2) := rfl
 rw [ex, HX.out] at P
 clear hb1 h2 hA ex
 go_wp2_with fail
 refine P.mono ?_
 clear P
 rintro e w3 ⟨rfl, hb3⟩
 have PM := markJ_any ((mjO c k).below HJ1.out.1 hb3) hI x
 have HT : Hid (Tn F w F w3) := HJ1.out.2.below hb3
 clear hb3 HJ1 c0 d0 HJ
 go_wp2_with fail
 refine PM.mono ?_
 clear PM
 rintro e w4 ⟨F4, rfl, j4, t4⟩
 have HJ4 : Hid ((mjO c k).J F4 (k.ma s x) w4 /\ Tn F w F4 w4) := ⟨j4, HT.out.trans t4⟩
 clear j4 t4 HT
 go_wp2_with fail
 go_end0
 exact ⟨F4, rfl, HJ4.out.1, HJ4.out.2⟩
theorem lookJ_4 (h : (mjO c k).J F s w) (a : Int) (hel : s.ep.length <= 10000) (hk : pk (k.ld a) = 4) :
  Calls Tryz.prog 237 #[.pointer (some ⟨c.pk, 0, none⟩), .int .i64 a] w fun e w' => ∃ F', e = .returned (.tuple #[]) /\ (mjO c k).J F' (k.lk s a) w' /\ Tn F w F' w' := by
 have e0 : k.lk s a = { s with ep := s.ep ++ [a] } := by unfold Jk.lk; rw [if_neg (by omega), if_neg (by omega), if_pos hk]
 rw [e0]
 obtain ⟨i0, hi, hz0, hz1, hz2⟩ := info_parts infoInt
 have HJ : Hid ((mjO c k).J F s w) := h
 obtain ⟨vt, ve, h⟩ := h
 obtain ⟨hA, c0, _⟩ := mj_wood h
 obtain ⟨d0, _⟩ := mj_cells h
 have L := thing_any a w hA
 have el : ld k.a.N k.s.y k.s.g k.s.ws a = k.ld a := rfl
 rw [el, hk] at L
 generalize pf (k.ld a) = n at L
 generalize pc (k.ld a) = q at L
 clear h hA el hk e0
 go_enter Tryz.func237, Tryz.ntmps237
 go_wp2_with fail
 refine L.mono ?_
 clear L
 rintro e w1 ⟨rfl, hb1⟩
 obtain ⟨vt, ve, J1⟩ := (mjO c k).below HJ.out hb1
 obtain ⟨_, _, _, _, _, _, d6, dz, lk⟩ := mj_cells J1
 obtain ⟨_, er, _, rne, _⟩ := mj_rows J1
 obtain ⟨ad, cap, evt⟩ := row_slice er
 subst evt
 have z6 := dz 6
 have HJ1 : Hid ((mjV c k vt (.slice ad s.ep.length cap)).J F s w1 /\ Tn F w F w1) := ⟨J1, Tn.of hb1⟩
 clear J1 hb1 c0 d0 HJ dz
 go_wp2_with (at_builtin; refine wpList_append_own_at _ rfl _ _ 81 rfl 0 3 i0 (.int .i64 0) 1 8 Tryz.underlying81 hi hz0 hz1 hz2 rfl (by decide) (.slice ad s.ep.length cap) s.ep.length (s.ep.map (Value.int .i64)) rfl (row_alloc er _) ⟨w1.heap.size, 0, none⟩ 1 1 [.int .i64 a] rfl rfl ?_ ?_ ?_ ?_ ?_ ?_; (intro j u hj; match j, hj with | 0, hj => (simp at hj; subst hj; simp [Addr.add])); (intro u hu; simp at hu; subst hu; rfl); (unfold maxLen; omega); (first | omega | simp); (first | omega | (simp; done) | (simp; omega)); intro v' w4 hown4 hgrow4 _ hloc4; obtain ⟨b4, cap4, ev4⟩ := row_shape hown4 (Nat.succ_pos _); subst ev4; have kb := (hgrow4.block c.pk (by simp; omega) rne).trans (Below.heap_alloc _ _ _ lk); have g4 := (World.cell?_of_block (a := ⟨c.pk, 6, none⟩) kb).trans d6; have f4 := (World.frozen?_of_block (a := ⟨c.pk, 6, none⟩) kb).trans z6)
 go_end0
 obtain ⟨F', hJ', hT'⟩ := mj_ephems HJ1.out.1 (((Fr.refl _ w1).alloc _).grown hgrow4 (fun b e => Or.inl e.symm)) (v1 := .slice (some ⟨b4, 0, none⟩) (s.ep.length + 1) cap4) (l := s.ep ++ [a]) (by simpa using hown4) (fun b e => by
  have hbl : some b4 = (Value.slice ad s.ep.length cap).ownBlock \/ b4 = w1.heap.size + 1 := hloc4.imp id (fun e => by simpa [Value.ownBlock] using e)
  simp [Value.ownBlock] at e
  subst e
  exact hbl.imp id (fun e => by omega))
 exact ⟨F', rfl, ⟨_, _, hJ'⟩, HJ1.out.2.trans hT'⟩
theorem lookJ_no (h : (mjO c k).J F s w) (a : Int) (k1 : pk (k.ld a) ≠ 1) (k2 : pk (k.ld a) ≠ 2) (k3 : pk (k.ld a) ≠ 3) (k4 : pk (k.ld a) ≠ 4) :
  Calls Tryz.prog 237 #[.pointer (some ⟨c.pk, 0, none⟩), .int .i64 a] w fun e w' => ∃ F', e = .returned (.tuple #[]) /\ (mjO c k).J F' (k.lk s a) w' /\ Tn F w F' w' := by
 have e0 : k.lk s a = s := by unfold Jk.lk; rw [if_neg (by omega), if_neg k3, if_neg k4]
 rw [e0]
 have HJ : Hid ((mjO c k).J F s w) := h
 obtain ⟨vt, ve, h⟩ := h
 obtain ⟨hA, c0, _⟩ := mj_wood h
 obtain ⟨d0, _⟩ := mj_cells h
 have L := thing_any a w hA
 have el : ld k.a.N k.s.y k.s.g k.s.ws a = k.ld a := rfl
 rw [el] at L
 generalize pk (k.ld a) = kd at *
 generalize pf (k.ld a) = n at L
 generalize pc (k.ld a) = q at L
 have b1 : (kd == 1) = false := by simpa using k1
 have b2 : (kd == 2) = false := by simpa using k2
 have b3 : (kd == 3) = false := by simpa using k3
 have b4 : (kd == 4) = false := by simpa using k4
 clear h hA el e0
 go_enter Tryz.func237, Tryz.ntmps237
 go_wp2_with fail
 refine L.mono ?_
 clear L
 rintro e w1 ⟨rfl, hb1⟩
 have HJ1 : Hid ((mjO c k).J F s w1 /\ Tn F w F w1) := ⟨(mjO c k).below HJ.out hb1, Tn.of hb1⟩
 clear hb1 HJ
 go_wp2_with fail
 go_end0
 exact ⟨F, rfl, HJ1.out.1, HJ1.out.2⟩
theorem lookJ_any (h : (mjO c k).J F s w) (hI : JI k s) (a : Int) (a0 : 0 <= a) (a1 : a <= 2000) (hel : s.ep.length <= 10000) :
  Calls Tryz.prog 237 #[.pointer (some ⟨c.pk, 0, none⟩), .int .i64 a] w fun e w' => ∃ F', e = .returned (.tuple #[]) /\ (mjO c k).J F' (k.lk s a) w' /\ Tn F w F' w' := by
 by_cases k1 : pk (k.ld a) = 1 \/ pk (k.ld a) = 2
 ·exact lookJ_12 h hI a a0 a1 k1
 by_cases k3 : pk (k.ld a) = 3
 ·exact lookJ_3 h hI a a0 a1 k3
 by_cases k4 : pk (k.ld a) = 4
 ·exact lookJ_4 h a hel k4
 exact lookJ_no h a (fun e => k1 (Or.inl e)) (fun e => k1 (Or.inr e)) k3 k4
end
end Go.Proofs.YtnalfnlmaallmaaGreat

namespace Go.Proofs.YtnalfnlmaallmaaGreat
set_option maxRecDepth 100000
set_option maxHeartbeats 4000000
open Go.RowKit W Kp Stl
theorem row_front {w : World} {base g n cap : Nat} {e : TypeId} {xs : List Value} (h : w.ownsRow base e 1 (.slice (some ⟨g, 0, none⟩) n cap) n xs) (m : Nat) (hm : m <= n) : w.ownsRow base e 1 (.slice (some ⟨g, 0, none⟩) m cap) m (xs.take m) := by
 obtain ⟨h1, h2⟩ := h
 rcases h2 with ⟨hv, _⟩ | ⟨g', cap', cur, hv, hb, hh, h3, h4, h5, h6⟩
 ·simp at hv
 ·simp at hv
  obtain ⟨rfl, rfl⟩ := hv
  refine ⟨by rw [List.length_take]; omega, Or.inr ⟨g, cap, cur, rfl, hb, hh, by omega, h4, h5, ?_⟩⟩
  rw [<- h6, List.take_take]
  congr 1
  omega
theorem row_caps {w : World} {base g n cap : Nat} {e : TypeId} {xs : List Value} (h : w.ownsRow base e 1 (.slice (some ⟨g, 0, none⟩) n cap) n xs) : n <= cap /\ cap <= maxLen := by
 rcases h.2 with ⟨hv, _⟩ | ⟨g', cap', cur, hv, hb, hh, h3, h4, h5, h6⟩
 ·simp at hv
 ·simp at hv
  obtain ⟨rfl, rfl⟩ := hv
  exact ⟨h3, h4⟩
section
variable {c : Jc} {k : Jk} {F : Nat -> Prop} {s : Js} {w : World}
theorem lamJ_any (h : (mjO c k).J F s w) (hI : JI k s) :
  Calls Tryz.prog 203 #[.pointer (some ⟨c.pk, 0, none⟩)] w fun e w' => ∃ F', e = .returned (.tuple #[]) /\ (mjO c k).J F' (k.lm (k.lost s + s.td.length + 1) s) w' /\ Tn F w F' w' := by
 have HJ : Hid ((mjO c k).J F s w /\ JI k s) := ⟨h, hI⟩
 obtain ⟨s9, E9⟩ : ∃ s9, k.lm (k.lost s + s.td.length + 1) s = s9 := ⟨_, rfl⟩
 rw [E9]
 have H9 : Hid (k.lm (k.lost s + s.td.length + 1) s = s9) := E9
 obtain ⟨vt, ve, h⟩ := h
 obtain ⟨_, _, _, _, _, d5, _⟩ := mj_cells h
 obtain ⟨tr, _⟩ := mj_rows h
 obtain ⟨ad, cap, evt⟩ := row_slice tr
 subst evt
 clear h hI E9 tr
 go_enter Tryz.func203, Tryz.ntmps203
 go_wp2_with fail
 go_loopg [2] (k.lost s + s.td.length) (fun m nv wr => ∃ (s1 : Js) (F1 : Nat -> Prop), nv = .int .i64 s1.td.length /\ Hid ((mjO c k).J F1 s1 wr /\ JI k s1 /\ Tn F w F1 wr) /\ Hid (k.lost s1 + s1.td.length <= m /\ k.lm (m + 1) s1 = s9))
 case atStart => exact ⟨s, F, rfl, ⟨HJ.out.1, HJ.out.2, Tn.refl _ _⟩, ⟨Nat.le_refl _, H9.out⟩⟩
 case round =>
  clear HJ d5
  obtain ⟨s1, F1, rfl, HJ1, HM⟩ := hrel
  by_cases hlt : 0 < s1.td.length
  ·obtain ⟨vt, ve, h1⟩ := HJ1.out.1
   obtain ⟨_, _, _, _, _, d5, _, dz, lk⟩ := mj_cells h1
   obtain ⟨tr, _, rne, _⟩ := mj_rows h1
   obtain ⟨b, cap, evt⟩ := row_shape tr hlt
   subst evt
   have hcp := row_caps tr
   have hmx : maxLen <= 9223372036854775807 := by unfold maxLen; omega
   have tc : wr.cell? ⟨b, s1.td.length - 1, none⟩ = some (.int .i64 (s1.td.getD (s1.td.length - 1) 0)) := by
    obtain ⟨b', o', e, _, hc⟩ := row_ints tr hlt
    cases e
    have := hc (s1.td.length - 1) (by omega)
    rwa [Nat.zero_add] at this
   have z5 := dz 5
   have hm : s1.td.getD (s1.td.length - 1) 0 ∈ s1.td := by
    rw [List.getD_eq_getElem?_getD, List.getElem?_eq_getElem (by omega)]
    exact List.getElem_mem _
   have hps := HJ1.out.2.1.ps _ (HJ1.out.2.1.td _ hm)
   have hsm := HJ1.out.2.1.sum
   have htl := HJ1.out.2.1.tl
   obtain ⟨F2, J2, T2⟩ := mj_todo h1 (Fr.refl _ wr) (v1 := .slice (some ⟨b, 0, none⟩) (s1.td.length - 1) cap) (l := s1.td.take (s1.td.length - 1)) (by
    have := row_front tr (s1.td.length - 1) (by omega)
    rw [List.map_take, show (s1.td.take (s1.td.length - 1)).length = s1.td.length - 1 by rw [List.length_take]; omega]
    exact this) (fun b e => Or.inl e)
   have hI2 : JI k { s1 with td := s1.td.take (s1.td.length - 1) } := ⟨HJ1.out.2.1.nd, HJ1.out.2.1.ps, fun x hx => HJ1.out.2.1.td x (List.mem_of_mem_take hx), HJ1.out.2.1.ep, HJ1.out.2.1.tl, by
    show k.lost s1 + (s1.td.take (s1.td.length - 1)).length + s1.ep.length <= _
    rw [List.length_take]
    omega⟩
   have PL := lookJ_any ⟨_, _, J2⟩ hI2 (s1.td.getD (s1.td.length - 1) 0) hps.1 hps.2 (by show s1.ep.length <= 10000; omega)
   have HL1 : Hid (k.lk { s1 with td := s1.td.take (s1.td.length - 1) } (s1.td.getD (s1.td.length - 1) 0) = k.l1 s1) := rfl
   rw [HL1.out] at PL
   have HI3 : Hid (JI k (k.l1 s1) /\ k.lost (k.l1 s1) + (k.l1 s1).td.length + 1 = k.lost s1 + s1.td.length) := HJ1.out.2.1.l1 hlt
   have HL : Hid (k.lm (gk + 1) s1 = k.lm gk (k.l1 s1)) := by
    show _ = _
    rw [Jk.lm, if_pos hlt]
   have HT1 : Hid (Tn F w F2 (wr.setCell ⟨c.pk, 5, none⟩ (.slice (some ⟨b, 0, none⟩) (s1.td.length - 1) cap))) := HJ1.out.2.2.trans T2
   obtain ⟨n, hn⟩ : ∃ n, s1.td.length = n + 1 := ⟨s1.td.length - 1, by omega⟩
   rw [hn] at d5 hcp ⊢
   rw [hn, Nat.add_sub_cancel] at tc PL HT1
   generalize s1.td.getD n 0 = x at *
   generalize k.l1 s1 = s3 at *
   have hnb : n <= 4000 := by omega
   have w1 : IntKind.i64.wrap (((n + 1 : Nat) : Int) - 1) = (n : Int) := by rw [IntKind.wrap_i64]; omega
   clear h1 J2 T2 hI2 tr hm hsm dz HJ1
   go_wp2_with fail
   refine PL.mono ?_
   clear PL
   rintro e w4 ⟨F4, rfl, j4, t4⟩
   have HJ4 : Hid ((mjO c k).J F4 s3 w4 /\ JI k s3 /\ Tn F w F4 w4) := ⟨j4, HI3.out.1, HT1.out.trans t4⟩
   obtain ⟨vt4, ve4, h4⟩ := j4
   obtain ⟨_, _, _, _, _, e5, _⟩ := mj_cells h4
   obtain ⟨tr4, _⟩ := mj_rows h4
   obtain ⟨ad4, cap4, ev4⟩ := row_slice tr4
   subst ev4
   have hg : 1 <= gk := by have := HM.out.1; omega
   have HR : Hid (k.lost s3 + s3.td.length <= gk - 1 /\ k.lm (gk - 1 + 1) s3 = s9) := ⟨by have := HM.out.1; have := HI3.out.2; omega, by rw [Nat.sub_add_cancel hg, <- HL.out]; exact HM.out.2⟩
   clear h4 tr4 t4 HT1 d5 tc z5 HM HL HI3
   go_wp2_with fail
   go_roundg (gk - 1)
   case measure => omega
   case rel => exact ⟨s3, F4, rfl, HJ4, HR⟩
  ·have e0 : s1.td = [] := by
    cases ht : s1.td with
    | nil => rfl
    | cons x l => rw [ht] at hlt; simp at hlt
   have e9 : s9 = s1 := by
    rw [<- HM.out.2]
    unfold Jk.lm
    rw [if_neg hlt]
   subst e9
   rw [e0]
   go_wp2_with fail
   go_end0
   exact ⟨F1, rfl, HJ1.out.1, HJ1.out.2.2⟩
end
end Go.Proofs.YtnalfnlmaallmaaGreat
