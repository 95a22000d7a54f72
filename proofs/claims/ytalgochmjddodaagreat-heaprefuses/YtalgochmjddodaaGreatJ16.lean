/- Joined: Sd9, Ws1, Ws2, Ws3, Vw6, Vw7. -/
import Derived.Test.YtalgochmjddodaaGreatJ06
import Derived.Test.YtalgochmjddodaaGreatJ15
import Derived.Test.YtalgochmjddodaaGreatJ11
namespace Go.Proofs.YtalgochmjddodaaGreat
set_option maxRecDepth 100000
set_option maxHeartbeats 1000000
open Go.RowKit W Kp Stl
structure Sds (w : World) (p : Nat) (a0 : Option Addr) (k0 : Nat) (a1 : Option Addr) (k1 : Nat) (r q : List En) : Prop where
  blk : w.heap[p]? = some (.cells #[.slice a0 r.length k0, .slice a1 q.length k1] 72 (0, 0))
  r0 : w.ownsRow 0 101 2 (.slice a0 r.length k0) r.length (ev r)
  q0 : w.ownsRow 0 101 2 (.slice a1 q.length k1) q.length (ev q)
theorem row_li {w : World} {base : Nat} {e : TypeId} {ad : Option Addr} {cap : Nat} {l : List En} (h : w.ownsRow base e 2 (.slice ad l.length cap) l.length (ev l)) : Li w ad l cap := by
 refine ⟨row_pairs h, ?_, ?_⟩
 ·rcases h.2 with ⟨hv, h0⟩ | ⟨g, cap', cur, hv, _, _, hc, _⟩
  ·omega
  ·simp at hv; omega
 ·intro e0
  rcases h.2 with ⟨hv, h0⟩ | ⟨g, cap', cur, hv, _⟩
  ·simp at hv; exact ⟨h0, hv.2.2⟩
  ·rw [e0] at hv; simp at hv
theorem Sds.keep {w w' : World} {p : Nat} {a0 a1 : Option Addr} {k0 k1 : Nat} {r q : List En} (h : Sds w p a0 k0 a1 k1 r q) (h1 : w'.heap[p]? = w.heap[p]?) (h2 : ∀ k, some k = (Value.slice a0 r.length k0).ownBlock -> w'.heap[k]? = w.heap[k]?) (h3 : ∀ k, some k = (Value.slice a1 q.length k1).ownBlock -> w'.heap[k]? = w.heap[k]?) : Sds w' p a0 k0 a1 k1 r q :=
 ⟨h1.trans h.blk, row_keep h.r0 h2, row_keep h.q0 h3⟩
theorem Sds.below {w w' : World} {p : Nat} {a0 a1 : Option Addr} {k0 k1 : Nat} {r q : List En} (h : Sds w p a0 k0 a1 k1 r q) (hb : Below w.heap.size w w') : Sds w' p a0 k0 a1 k1 r q :=
 h.keep (hb.block p (lt_of_some h.blk)) (fun k e => hb.block k (row_lt h.r0 k e).2) (fun k e => hb.block k (row_lt h.q0 k e).2)
theorem Sds.np {w : World} {p : Nat} {a0 a1 : Option Addr} {k0 k1 : Nat} {r q : List En} (h : Sds w p a0 k0 a1 k1 r q) {b n : Nat} {v : Value} {l : List Value} (hr : w.ownsRow b 101 2 v n l) : ∀ k, some k = v.ownBlock -> k ≠ p := by
 intro k e e'
 obtain ⟨cur, hc⟩ := row_type hr k e
 rw [e', h.blk] at hc
 simp at hc
def fulB (n : Nat) : Bool := decide (24 <= n)
theorem fulB_yes {n : Nat} (h : 24 <= n) : fulB n = true := by simp [fulB, h]
theorem fulB_no {n : Nat} (h : ¬ 24 <= n) : fulB n = false := by simp [fulB, h]
theorem ful_eq {n0 n1 : Nat} (h0 : n0 <= 100000) (h1 : n1 <= 100000) : Hid (decide ((24 : Int) <= IntKind.i64.wrap ((n0 : Int) + (n1 : Int))) = fulB (n0 + n1)) := by
 show _ = _
 rw [show IntKind.i64.wrap ((n0 : Int) + (n1 : Int)) = (n0 : Int) + n1 by rw [IntKind.wrap_i64]; omega]
 unfold fulB
 by_cases h : 24 <= n0 + n1
 ·rw [decide_eq_true h, decide_eq_true (by omega)]
 ·rw [decide_eq_false h, decide_eq_false (by omega)]
theorem full_any' (w : World) (p : Nat) (a0 a1 : Option Addr) (n0 k0 n1 k1 : Nat) (h : w.heap[p]? = some (.cells #[.slice a0 n0 k0, .slice a1 n1 k1] 72 (0, 0))) (h0 : n0 <= 100000) (h1 : n1 <= 100000) :
  Calls Tryz.prog 124 #[.pointer (some ⟨p, 0, none⟩)] w fun e w' => e = .returned (.bool (fulB (n0 + n1))) /\ Below w.heap.size w w' := by
 have c0 : w.cell? ⟨p, 0, none⟩ = some (.slice a0 n0 k0) := by simp [World.cell?, h]
 have c1 : w.cell? ⟨p, 1, none⟩ = some (.slice a1 n1 k1) := by simp [World.cell?, h]
 clear h
 have HE := ful_eq h0 h1
 go_enter Tryz.func124, Tryz.ntmps124
 go_wp2_with fail
 go_region_held3 (fun w' => w'.cell? ⟨p, 0, none⟩ = some (.slice a0 n0 k0) /\ w'.cell? ⟨p, 1, none⟩ = some (.slice a1 n1 k1)) (go_keep) (fail)
 go_wp2_with fail
 go_ret
 exact ⟨by rw [<- HE.out]; rfl, (Below.refl _ _).drew⟩
theorem Sds.cells {w : World} {p : Nat} {a0 a1 : Option Addr} {k0 k1 : Nat} {r q : List En} (h : Sds w p a0 k0 a1 k1 r q) : w.cell? ⟨p, 0, none⟩ = some (.slice a0 r.length k0) /\ w.cell? ⟨p, 1, none⟩ = some (.slice a1 q.length k1) /\ w.frozen? ⟨p, 0, none⟩ = false /\ w.frozen? ⟨p, 1, none⟩ = false /\ p < w.heap.size :=
 ⟨by simp [World.cell?, h.blk], by simp [World.cell?, h.blk], by simp [World.frozen?, h.blk], by simp [World.frozen?, h.blk], lt_of_some h.blk⟩
theorem set_fst {w : World} {p : Nat} {x y v : Value} {T : TypeId} (h : w.heap[p]? = some (.cells #[x, y] T (0, 0))) : (w.setCell ⟨p, 0, none⟩ v).heap[p]? = some (.cells #[v, y] T (0, 0)) := by
 simp only [World.setCell, Array.getElem?_modify, if_true, h, Option.map_some]
 simp
theorem set_snd {w : World} {p : Nat} {x y v : Value} {T : TypeId} (h : w.heap[p]? = some (.cells #[x, y] T (0, 0))) : (w.setCell ⟨p, 1, none⟩ v).heap[p]? = some (.cells #[x, v] T (0, 0)) := by
 simp only [World.setCell, Array.getElem?_modify, if_true, h, Option.map_some]
 simp
theorem reg_any (w : World) (p : Nat) (a0 a1 : Option Addr) (k0 k1 : Nat) (r q : List En) (g z : Int) (h : Sds w p a0 k0 a1 k1 r q) (h0 : r.length <= 90000) (h1 : q.length <= 90000) :
  Calls Tryz.prog 56 #[.pointer (some ⟨p, 0, none⟩), .agg #[.int .i64 g, .int .i64 z]] w fun e w' => e = .returned (.bool (!fulB (r.length + q.length))) /\
   ((24 <= r.length + q.length /\ Below w.heap.size w w') \/ (¬ 24 <= r.length + q.length /\ ∃ b1 c1, Sds w' p (some ⟨b1, 0, none⟩) c1 a1 k1 (r ++ [(g, z)]) q /\ w.heap.size <= b1 /\ Fr (fun k => k = p) w w')) := by
 obtain ⟨c0, c1, f0, f1, lp⟩ := h.cells
 have H : Hid (Sds w p a0 k0 a1 k1 r q) := h
 have hb1 := (Below.refl w.heap.size w).alloc (Nat.le_refl _) (.cells #[.int .i64 g, .int .i64 z] 101)
 have HLi : Hid (Li w a0 r k0) := row_li h.r0
 by_cases hf : 24 <= r.length + q.length
 ·rw [fulB_yes hf]
  clear h
  go_enter Tryz.func56, Tryz.ntmps56
  go_wp2_with fail
  refine (full_any' _ p a0 a1 r.length k0 q.length k1 ((hb1.block p lp).trans H.out.blk) (by omega) (by omega)).mono ?_
  rintro e w1 ⟨rfl, hb⟩
  rw [fulB_yes hf]
  have hb2 := hb1.trans (hb.mono (by simp))
  go_wp2_with fail
  go_ret
  exact ⟨rfl, Or.inl ⟨hf, hb2⟩⟩
 ·rw [fulB_no hf]
  clear h
  go_enter Tryz.func56, Tryz.ntmps56
  go_wp2_with fail
  refine (full_any' _ p a0 a1 r.length k0 q.length k1 ((hb1.block p lp).trans H.out.blk) (by omega) (by omega)).mono ?_
  rintro e w1 ⟨rfl, hb⟩
  rw [fulB_no hf]
  have hb2 := hb1.trans (hb.mono (by simp))
  have hl0 : w.heap.size < w1.heap.size := by have := hb.size; simp at this; omega
  have y0 : w1.cell? ⟨w.heap.size, 0, none⟩ = some (.int .i64 g) := (hb.cell (by simp)).trans (by simp)
  have y1 : w1.cell? ⟨w.heap.size, 1, none⟩ = some (.int .i64 z) := (hb.cell (by simp)).trans (by simp)
  have y2 := (hb2.cell (p := ⟨p, 0, none⟩) lp).trans c0
  have y3 := (hb2.frozen (p := ⟨p, 0, none⟩) lp).trans f0
  have lp1 : p < w1.heap.size := by omega
  have hLi1 := HLi.out.below hb2
  clear hb hb1
  go_wp2_with fail
  go_region_with (go_at_call 125; refine (with_any _ a0 r k0 g z (hLi1.below ((Below.refl _ _).drew)) (by omega)).mono ?_; rintro e w5 ⟨b1, cap1, rfl, hown, hb5⟩; have e4 := (hb5.cell (p := ⟨p, 0, none⟩) lp1).trans y2; have e5 := (hb5.frozen (p := ⟨p, 0, none⟩) lp1).trans y3)
  all_goals
   go_wp2_with fail
   go_ret
   refine ⟨rfl, Or.inr ⟨hf, b1, cap1, ?_⟩⟩
   have hbw : Below w.heap.size w w5 := hb2.drew.trans (hb5.mono (by simp; omega))
   have lb : w1.heap.size <= b1 := (row_lt hown b1 rfl).1
   have hS := H.out.below hbw
   have hfr : Fr (fun k => k = p) w (w5.setCell ⟨p, 0, none⟩ (.slice (some ⟨b1, 0, none⟩) (r.length + 1) cap1)) := (Fr.of hbw).set p 0 _ rfl
   have kk : ∀ k, k ≠ p -> (w5.setCell ⟨p, 0, none⟩ (.slice (some ⟨b1, 0, none⟩) (r.length + 1) cap1)).heap[k]? = w5.heap[k]? := fun k hk => Below.heap_setCell _ _ _ _ hk
   refine ⟨⟨by simpa using set_fst hS.blk, ?_, row_keep hS.q0 (fun k e => kk k (hS.np hS.q0 k e))⟩, by omega, hfr⟩
   have := row_base (base' := 0) (row_keep (w' := w5.setCell ⟨p, 0, none⟩ (.slice (some ⟨b1, 0, none⟩) (r.length + 1) cap1)) hown (fun k e => kk k (hS.np hown k e))) (fun _ _ => Nat.zero_le _)
   simpa using this
end Go.Proofs.YtalgochmjddodaaGreat

namespace Go.Proofs.YtalgochmjddodaaGreat
open Go.RowKit W Kp Stl
section
variable {a : Wc} {F : Nat -> Prop} {S : Ww} {w : World}
theorem ws_wod (h : (wsO a).J F S w) : ∃ F0, (wodO a).J F0 S.s w /\ ∀ F1 s1 w', (wodO a).J F1 s1 w' -> Tn F0 w F1 w' -> ∃ F', (wsO a).J F' ⟨s1, S.r, S.q⟩ w' /\ Tn F w F' w' := by
 obtain ⟨F0, ar, cr, h1, h2, h3, hF⟩ := h
 obtain ⟨F00, g1, g2⟩ := mkSd_to h1
 refine ⟨F00, g1, fun F1 s1 w' hJ hT => ?_⟩
 obtain ⟨F', k1, k2⟩ := g2 (wodO a) F1 s1 w' hJ hT
 refine ⟨fun b => F' b \/ some b = (Value.slice ar S.r.length cr).ownBlock, ⟨F', ar, cr, k1, row_keep h2 (fun b e => k2.fr.block b (row_lt h2 b e).2 (h3 b e)), fun b e d => ?_, fun b => Iff.rfl⟩, ⟨k2.fr.mono (fun b d => (hF b).2 (Or.inl d)), fun b d => ?_⟩⟩
 ·rcases k2.sub b d with d | d
  ·exact h3 b e d
  ·have := (row_lt h2 b e).2
   omega
 ·rcases d with d | d
  ·exact (k2.sub b d).imp (fun d => (hF b).2 (Or.inl d)) id
  ·exact Or.inl ((hF b).2 (Or.inr d))
theorem setW_any {s : Wst} (h : (wodO a).J F s w) (x i z : Int) (hM : s.M.length <= 100000) :
    Calls Tryz.prog 51 #[.pointer (some ⟨a.pw, 0, none⟩), .int .i64 x, .int .i64 i, .int .i64 z] w fun e w' => e = .returned (.int .i64 (fcC a.N s.y s.g s.ws x i)) /\ (wodO a).J F { s with ws := stW a.N s.y s.g s.ws x i z, M := stM a.N s.y s.g s.ws x i z (nC a.O) s.M } w' /\ Tn F w F w' := by
  obtain ⟨own, pq, h, hF⟩ := h
  refine (set_any x i z ⟨h.wd, h.ar, h.cd⟩ hM).mono ?_
  rintro e w' ⟨rfl, hW, fr⟩
  refine ⟨rfl, ⟨own, pq, ?_, hF⟩, ⟨fr.mono (fun b d => ?_), fun _ d => Or.inl d⟩⟩
  · have hb : ∀ b, b < w.heap.size -> own b ≠ 1 -> own b ≠ 2 -> w'.heap[b]? = w.heap[b]? := fun b hb h1 h2 => fr.block b hb (fun d => by
      rcases d with d | d | d | d
      · exact h1 (by rw [d]; exact h.a1)
      · exact h1 (by rw [d]; exact h.a2)
      · exact h2 (by rw [d]; exact h.c1)
      · exact h2 (by rw [d]; exact h.c2))
    exact { ar := hW.ar, cd := hW.cd, wd := hW.blk, a1 := h.a1, a2 := h.a2, c1 := h.c1, c2 := h.c2, w1 := h.w1, rl := h.rl, r1 := h.r1, le := h.le, lt := fun b hb => Nat.lt_of_lt_of_le (h.lt b hb) fr.size
            rt := (hb _ (lt_of_some h.rt) (by rw [h.r1]; decide) (by rw [h.r1]; decide)).trans h.rt }
  · refine (hF b).2 ?_
    rcases d with d | d | d | d
    · rw [d, h.a1]; decide
    · rw [d, h.a2]; decide
    · rw [d, h.c1]; decide
    · rw [d, h.c2]; decide
theorem regS_any (h : (wsO a).J F S w) (g z : Int) (hr : S.r.length <= 90000) (hq : S.q.length <= 90000) :
  Calls Tryz.prog 56 #[.pointer (some ⟨a.sd, 0, none⟩), .agg #[.int .i64 g, .int .i64 z]] w fun e w' => ∃ F', e = .returned (.bool (!fulB (S.r.length + S.q.length))) /\ (wsO a).J F' (if 24 <= S.r.length + S.q.length then S else ⟨S.s, S.r ++ [(g, z)], S.q⟩) w' /\ Tn F w F' w' := by
 have hJ := h
 obtain ⟨F0, ar, cr, ⟨F00, ad, cap, h1, h2, h3, h4, h5, h6, h7, h8⟩, r0, r1, hF⟩ := h
 refine (reg_any w a.sd ar ad cr cap S.r S.q g z ⟨h2, r0, h3⟩ hr hq).mono ?_
 rintro e w' ⟨rfl, ⟨hf, hb⟩ | ⟨hf, b1, c1, hs, hb1, fr⟩⟩
 ·exact ⟨F, rfl, by rw [if_pos hf]; exact (wsO a).below hJ hb, Tn.of hb⟩
 ·have lp := lt_of_some h2
  refine ⟨fun b => F0 b \/ some b = (Value.slice (some ⟨b1, 0, none⟩) (S.r ++ [(g, z)]).length c1).ownBlock, rfl, ?_, ⟨fr.mono (fun b d => (hF b).2 (Or.inl (by rw [d]; exact h5))), fun b d => ?_⟩⟩
  ·rw [if_neg hf]
   refine ⟨F0, some ⟨b1, 0, none⟩, c1, ⟨F00, ad, cap, (wodO a).keep h1 fr.size (fun b d => fr.block b ((wodO a).lt h1 b d) (fun e => h6 (by rw [<- e]; exact d))), hs.blk, hs.q0, h4, h5, h6, h7, fun b d => Nat.lt_of_lt_of_le (h8 b d) fr.size⟩, hs.r0, fun b e d => ?_, fun b => Iff.rfl⟩
   simp [Value.ownBlock] at e
   subst e
   have := h8 b d
   omega
  ·rcases d with d | d
   ·exact Or.inl ((hF b).2 (Or.inl d))
   ·simp [Value.ownBlock] at d
    subst d
    exact Or.inr hb1
end
structure Bc where
  a : Wc
  rp : Nat
  rb : Nat
  most : Int
  grow : Int
  pb : Nat
section
variable {c : Bc} {F : Nat -> Prop} {S : Ww × Wrs} {w : World}
end
end Go.Proofs.YtalgochmjddodaaGreat

namespace Go.Proofs.YtalgochmjddodaaGreat
open Go.RowKit W Kp Stl
end Go.Proofs.YtalgochmjddodaaGreat

namespace Go.Proofs.YtalgochmjddodaaGreat
open Go.RowKit W Kp Stl
section
variable {c : Bc} {F : Nat -> Prop} {S : Ww × Wrs} {w : World}
end
end Go.Proofs.YtalgochmjddodaaGreat

namespace Go.Proofs.YtalgochmjddodaaGreat
set_option maxRecDepth 100000
set_option maxHeartbeats 1000000
open Go.RowKit W Kp Stl
def Lq (w : World) (ad : Option Addr) (l : List Int) : Prop := Ls w ad l /\ (0 < l.length -> ∃ b o cs, ad = some ⟨b, o, none⟩ /\ w.heap[b]? = some (.cells cs 2 (0, 0)))
theorem Lq.kf {B : Nat} {w w' : World} {ad : Option Addr} {l : List Int} (h : Lq w ad l) (k : Kf B w w') : Lq w' ad l := by
 have hk : 0 < l.length -> ∀ b, ad = some b -> w'.heap[b.block]? = w.heap[b.block]? := fun hp b e => by
  obtain ⟨b0, o0, cs, e0, hb⟩ := h.2 hp
  rw [e0] at e
  cases e
  exact k.oth _ _ _ _ hb (by decide) (by decide)
 refine ⟨h.1.keep k.size hk, fun hp => ?_⟩
 obtain ⟨b0, o0, cs, e0, hb⟩ := h.2 hp
 exact ⟨b0, o0, cs, e0, (hk hp _ e0).trans hb⟩
theorem Lq.of {w : World} {base cap : Nat} {ad : Option Addr} {l : List Int} (h : w.ownsRow base 2 1 (.slice ad l.length cap) l.length (l.map (Value.int .i64))) : Lq w ad l := by
 refine ⟨row_ints h, fun hp => ?_⟩
 obtain ⟨b0, c0, e0⟩ := row_shape h hp
 obtain ⟨cs, hc⟩ := row_type h b0 (by rw [e0]; rfl)
 cases e0
 exact ⟨b0, 0, cs, rfl, hc⟩
section
variable {w0 w : World} {kb mq pw n : Nat} {T : List Int} {kd : Int -> Int} {sh : Int -> List Int} {M : Vst -> Int -> Vst} {s : Vst} {vn : Value} {m : List Vnd}
theorem values_any (hM : Meets w0 kb mq pw T M n) (hV : Vmet T kd sh n M) (h : Wk w0 w kb mq pw T s vn m) (ho : VOk T s) (hn : T.length <= s.1.length + n) (l : List Int) (ad : Option Addr) (cap : Nat) (hl : Lq w ad l) (hm : l.length <= 100000) :
  Calls Tryz.prog 82 #[.pointer (some ⟨kb, 0, none⟩), .slice ad l.length cap] w fun e w' => ∃ vn' m' a2 c2, e = .returned (.slice a2 l.length c2) /\ w'.ownsRow w.heap.size 95 2 (.slice a2 l.length c2) l.length (ev (vls M T s l).1) /\ Wk w0 w' kb mq pw T (vls M T s l).2 vn' m' /\ Kv w0 w m w' m' /\ (∀ k, Fb m' k -> some k ≠ (Value.slice a2 l.length c2).ownBlock) := by
 obtain ⟨i0, hi, hz0, hz1, hz2⟩ := info_parts infoVal
 have HM : Hid (Meets w0 kb mq pw T M n) := hM
 have HV : Hid (Vmet T kd sh n M) := hV
 have HL : Hid (Lq w ad l) := hl
 have HW : Hid (Wk w0 w kb mq pw T s vn m) := h
 have HO : Hid (VOk T s) := ho
 clear hM hV hl h ho
 go_enter Tryz.func82, Tryz.ntmps82
 go_wp2_with (at_make; refine wpList_make_own _ rfl _ _ 49 rfl w.heap.size 95 i0 (.agg #[.int .i64 0, .int .i64 0]) 2 Tryz.underlying49 hi hz0 hz1 .i64 .i64 _ l.length rfl rfl rfl (by rw [hz2]; omega) (by unfold maxLen; omega) (Nat.le_refl _) ?_; intro w1 hown1 hgrow1)
 have hb1 : Below w.heap.size w w1 := (Below.refl w.heap.size w).grown hgrow1 (Nat.le_refl _) (fun k e => by cases e)
 go_loopw [5, 13] (fun tv iv wr => ∃ (j : Nat) (V : List (Int × Int)) (s1 : Vst) (vn1 : Value) (m1 : List Vnd) (a2 : Option Addr) (c2 : Nat), j <= l.length /\ iv = .int .i64 j /\ Hid (vls M T s (l.take j) = (V, s1)) /\ tv = .slice a2 j c2 /\ wr.ownsRow w.heap.size 95 2 (.slice a2 j c2) j (ev V) /\ Hid (Wk w0 wr kb mq pw T s1 vn1 m1) /\ Hid (Kv w0 w m wr m1) /\ Hid (∀ k, Fb m1 k -> some k ≠ (Value.slice a2 j c2).ownBlock) /\ Hid (VOk T s1 /\ T.length <= s1.1.length + n)) (fun _ iv _ => l.length - (intOf iv).toNat)
 case atStart => exact ⟨0, [], s, vn, m, _, _, Nat.zero_le _, rfl, rfl, rfl, hown1, HW.out.below hb1, Kv.of hb1, fun k hk e => by
  have := HW.out.fb k hk
  simp [Value.ownBlock] at e
  omega, ⟨HO.out, hn⟩⟩
 case round =>
  obtain ⟨j, V, s1, vn1, m1, a2, c2, hj, rfl, HE, rfl, hT, HW1, HK1, HF1, HO1⟩ := hrel
  clear hown1 hgrow1 hb1
  by_cases hlt : j < l.length
  ·obtain ⟨b0, o0, e0, hb0, hc⟩ := (HL.out.kf HK1.out.1).1 (by omega)
   have x1 := hc j hlt
   subst e0
   clear hc
   have HS := vls_snoc M T s (l.take j) (l.getD j 0)
   rw [<- take_snoc l j hlt 0, HE.out] at HS
   have HS : Hid (vls M T s (l.take (j + 1)) = (V ++ [(vst M T s1 (l.getD j 0)).1], (vst M T s1 (l.getD j 0)).2)) := HS
   generalize l.getD j 0 = x at x1 HS
   have P := value_any HM.out HW1.out HO1.out.1 HO1.out.2 x
   have G := vst_go HV.out HO1.out.1 HO1.out.2 x
   have HO2 : Hid (VOk T (vst M T s1 x).2 /\ T.length <= (vst M T s1 x).2.1.length + n) := ⟨G.ok, by have := G.le; have := HO1.out.2; omega⟩
   clear G
   generalize (vst M T s1 x).2 = s2 at P HS HO2
   obtain ⟨u, v, huv⟩ : ∃ u v, (vst M T s1 x).1 = (u, v) := ⟨_, _, rfl⟩
   rw [huv] at P HS
   clear huv
   go_wp2_with fail
   refine P.mono ?_
   clear P
   rintro e w2 ⟨vn2, m2, rfl, hW2, hK2⟩
   have hT2 := row_keep hT (fun k hk => by
    obtain ⟨cs, hcs⟩ := row_type hT k hk
    exact hK2.1.oth k _ _ _ hcs (by decide) (by decide))
   have HF2 : Hid (∀ k, Fb m2 k -> some k ≠ (Value.slice a2 j c2).ownBlock) := fun k hk e => (hK2.2 k hk).elim (fun c => HF1.out k c e) (fun c => by have := (row_lt hT k e).2; omega)
   have HK2 : Hid (Kv w0 w m w2 m2) := HK1.out.trans hK2
   have hs2 := HK2.out.1.size
   have HW2 : Hid (Wk w0 w2 kb mq pw T s2 vn2 m2) := hW2
   clear hT hK2 HK1 HF1 HW1 HO1 x1 hW2
   have HT2 : Hid (w2.ownsRow w.heap.size 95 2 (.slice a2 j c2) j (ev V)) := hT2
   go_wp2_with (at_builtin; refine wpList_append_own_at _ rfl _ _ 49 rfl w.heap.size 95 i0 (.agg #[.int .i64 0, .int .i64 0]) 2 16 Tryz.underlying49 hi hz0 hz1 hz2 rfl (by decide) (.slice a2 j c2) j (ev V) rfl (row_alloc hT2 _) ⟨w2.heap.size, 0, none⟩ 1 1 [.int .i64 u, .int .i64 v] rfl rfl ?_ ?_ ?_ ?_ ?_ ?_; (intro j u hj; match j, hj with | 0, hj => (simp at hj; subst hj; simp [Addr.add]) | 1, hj => (simp at hj; subst hj; simp [Addr.add])); (intro u hu; simp at hu; rcases hu with hu | hu <;> (subst hu; rfl)); (unfold maxLen; omega); omega; (simp; omega); intro v' w4 hown4 hgrow4 _ hloc4; obtain ⟨b4, cap4, ev4⟩ := row_shape hown4 (Nat.succ_pos _); subst ev4)
   have hT4 : w4.ownsRow w.heap.size 95 2 (.slice (some ⟨b4, 0, none⟩) (j + 1) cap4) (j + 1) (ev (V ++ [(u, v)])) := by
    rw [ev_append]
    simpa [ev] using hown4
   have hba := (Below.refl w2.heap.size w2).alloc (Nat.le_refl _) (.cells #[.int .i64 u, .int .i64 v] 95)
   have hfr : Fr (fun k => some k = (Value.slice a2 j c2).ownBlock) (w2.alloc (.cells #[.int .i64 u, .int .i64 v] 95)) w4 := (Fr.refl _ _).grown hgrow4 (fun k e => Or.inl e.symm)
   have HW4 : Hid (Wk w0 w4 kb mq pw T s2 vn2 m2) := (HW2.out.below hba).but hfr (fun k _ e => by
    obtain ⟨cs, hcs⟩ := row_type HT2.out k e
    exact ⟨⟨cs, (hba.block k (row_lt HT2.out k e).2).trans hcs⟩, fun c => HF2.out k c e, Nat.le_trans HW.out.bel.size (row_lt HT2.out k e).1⟩)
   have HK4 : Hid (Kv w0 w m w4 m2) := (HK2.out.trans (Kv.of hba)).new hfr (fun k e => (row_lt HT2.out k e).1)
   have hbl4 : some b4 = (Value.slice a2 j c2).ownBlock \/ b4 = w2.heap.size + 1 := hloc4.imp id (fun e => by simpa [Value.ownBlock] using e)
   have HF4 : Hid (∀ k, Fb m2 k -> some k ≠ some b4) := fun k hk e => hbl4.elim (fun c => HF2.out k hk (e.trans c)) (fun c => by have := HW2.out.fb k hk; simp at e; omega)
   clear hown4 hgrow4 hloc4 hbl4 hba hfr HT2 hT2 HF2 HK2 HW2
   go_wp2_with fail
   go_roundw
   case rel => exact ⟨j + 1, V ++ [(u, v)], s2, vn2, m2, some ⟨b4, 0, none⟩, cap4, by omega, by go_num, HS, rfl, hT4, HW4, HK4, HF4, HO2⟩
   case measure => simp [intOf]; omega
  ·obtain rfl : j = l.length := by omega
   rw [List.take_length] at HE
   go_wp2_with fail
   go_ret
   rw [HE.out]
   exact ⟨vn1, m1, a2, c2, rfl, hT, HW1.out, HK1.out, HF1.out⟩
end
end Go.Proofs.YtalgochmjddodaaGreat

namespace Go.Proofs.YtalgochmjddodaaGreat
set_option maxRecDepth 100000
set_option maxHeartbeats 2000000
open Go.RowKit W Kp Stl
theorem infoNode : (Tryz.prog.info? 147).map (fun i => (i.zero, i.size, i.bytes)) = some (some (.agg #[.int .i64 0, .slice none 0 0]), 2, 32) := by kernel_rfl
section
variable {w0 w w' w'' : World} {kb mq pw n : Nat} {T : List Int} {s : Vst} {vn : Value} {m : List Vnd}
theorem Wk.turned (h : Wk w0 w kb mq pw T s vn m) (f : Fr (fun k => k = mq) w w') : Kf w0.heap.size w w' /\ w'.heap[kb]? = some (.cells #[.pointer (some ⟨pw, 0, none⟩), .map (some mq), vn] 140 (0, 0)) /\ w'.ownsRow w0.heap.size 147 2 vn m.length (nv m) /\ (∀ x ∈ m, Lv w' x.2.1 x.2.2.2) /\ Below w0.heap.size w0 w' := by
 obtain ⟨D, o1, _⟩ := h.mp
 obtain ⟨es, clock, hb, _⟩ := o1
 have hk : Kf w0.heap.size w w' := ⟨f.os, f.tape, f.output, f.size, fun k hk hl => f.block k hk (fun e => by have e : k = mq := e; have := h.lo.2; omega), fun k cs e mm hk _ _ => f.block k (lt_of_some hk) (fun c => by
  have c : k = mq := c
  rw [c, hb] at hk
  simp at hk)⟩
 refine ⟨hk, (f.block kb (lt_of_some h.blk) (fun c => ?_)).trans h.blk, row_keep h.row (fun k e => f.block k (row_lt h.row k e).2 (fun c => ?_)), fun x hx => (h.fl x hx).kf hk, h.bel.trans (hk.below h.bel.size)⟩
 ·have c : kb = mq := c
  have := h.blk
  rw [c, hb] at this
  simp at this
 ·have c : k = mq := c
  obtain ⟨cur, hcur⟩ := row_type h.row k e
  rw [c, hb] at hcur
  simp at hcur
end
theorem Wk.grown {w0 w w3 w4 : World} {kb mq pw : Nat} {T : List Int} {ms : List Int} {ns : List (Int × List (Int × Int))} {vn v4 : Value} {m : List Vnd} {kd : Int}
  (hk : w.heap[kb]? = some (.cells #[.pointer (some ⟨pw, 0, none⟩), .map (some mq), vn] 140 (0, 0))) (lo : w0.heap.size <= kb /\ w0.heap.size <= mq) (hm : Nm w mq T ms) (hr : w.ownsRow w0.heap.size 147 2 vn m.length (nv m)) (hnd : nds m = ns) (hf : ∀ x ∈ m, Lv w x.2.1 x.2.2.2) (hb : Below w0.heap.size w0 w)
  (h3 : Below w.heap.size w w3) (h4 : w4.ownsRow w0.heap.size 147 2 v4 (m.length + 1) (nv m ++ [.int .i64 kd, .slice none 0 0])) (g4 : w3.grownBy w4 vn.ownBlock) :
  Wk w0 (w4.setCell ⟨kb, 2, none⟩ v4) kb mq pw T (ms, ns ++ [(kd, [])]) v4 (m ++ [(kd, none, 0, [])]) /\ Kv w0 w m (w4.setCell ⟨kb, 2, none⟩ v4) (m ++ [(kd, none, 0, [])]) /\ w4.heap[kb]? = some (.cells #[.pointer (some ⟨pw, 0, none⟩), .map (some mq), vn] 140 (0, 0)) := by
 have hmN := hm
 obtain ⟨D, o1, _⟩ := hm
 obtain ⟨es, clock, hmb, _⟩ := o1
 have kf4 : Kf w0.heap.size w w4 := (Kf.of h3).trans (Kf.grown g4 (fun k e => ⟨(row_lt hr k e.symm).1, fun cs ty mm hc => by
  obtain ⟨cur, hcur⟩ := row_type hr k e.symm
  have := (h3.block k (lt_of_some hcur)).trans hcur
  rw [this] at hc
  simp at hc
  exact Or.inr hc.2.1.symm⟩))
 have hk4 : w4.heap[kb]? = some (.cells #[.pointer (some ⟨pw, 0, none⟩), .map (some mq), vn] 140 (0, 0)) := (g4.block kb (Nat.lt_of_lt_of_le (lt_of_some hk) h3.size) (fun e => by
  obtain ⟨cur, hcur⟩ := row_type hr kb e
  rw [hk] at hcur
  simp at hcur)).trans ((h3.block kb (lt_of_some hk)).trans hk)
 have kf5 : Kf w0.heap.size w (w4.setCell ⟨kb, 2, none⟩ v4) := kf4.trans (Kf.set hk4 (Or.inl rfl) lo.1)
 have nmk : mq ≠ kb := fun e => by rw [e, hk] at hmb; simp at hmb
 have e5 : (nv (m ++ [(kd, none, 0, [])] : List Vnd)) = nv m ++ [.int .i64 kd, .slice none 0 0] := by rw [nv_append]; rfl
 refine ⟨⟨?_, lo, ?_, ?_, ?_, fun x hx => ?_, hb.trans (kf5.below hb.size)⟩, ⟨kf5, fun k hk => ?_⟩, hk4⟩
 ·simp only [World.setCell, Array.getElem?_modify, if_true, hk4, Option.map_some]
  rfl
 ·refine hmN.same ((Below.heap_setCell _ _ _ _ nmk).trans ((g4.block mq (Nat.lt_of_lt_of_le (lt_of_some hmb) h3.size) (fun e => ?_)).trans (h3.block mq (lt_of_some hmb))))
  obtain ⟨cur, hcur⟩ := row_type hr mq e
  rw [hmb] at hcur
  simp at hcur
 ·rw [e5, List.length_append]
  refine row_keep h4 (fun k e => Below.heap_setCell _ _ _ _ (fun c => ?_))
  have c : k = kb := c
  obtain ⟨cur, hcur⟩ := row_type h4 k e
  rw [c, hk4] at hcur
  simp at hcur
 ·simp [nds] at hnd ⊢
  exact hnd
 ·rcases List.mem_append.1 hx with hx | hx
  ·exact (hf x hx).kf kf5
  ·simp at hx
   subst hx
   exact Lv.nil
 ·obtain ⟨x, hx, hl, o, e⟩ := hk
  rcases List.mem_append.1 hx with hx | hx
  ·exact Or.inl ⟨x, hx, hl, o, e⟩
  ·simp at hx
   subst hx
   simp at hl
theorem row_cell {w : World} {base size n g cap : Nat} {e : TypeId} {xs : List Value} (h : w.ownsRow base e size (.slice (some ⟨g, 0, none⟩) n cap) n xs) {i : Nat} {u : Value} (hi : xs[i]? = some u) : w.cell? ⟨g, i, none⟩ = some u /\ w.frozen? ⟨g, i, none⟩ = false := by
 rcases h.2 with ⟨hv, _⟩ | ⟨g', cap', cur, hv, hb, hg, h1, h2, h3, h4⟩
 ·simp at hv
 ·simp at hv
  obtain ⟨rfl, rfl⟩ := hv
  rw [<- h4] at hi
  have hlt : i < n * size := by
   rcases Nat.lt_or_ge i (n * size) with c | c
   ·exact c
   ·rw [List.getElem?_take, if_neg (by omega)] at hi
    simp at hi
  rw [List.getElem?_take_of_lt hlt] at hi
  constructor
  ·simp [World.cell?, hg]
   simpa using hi
  ·simp [World.frozen?, hg]
theorem Wk.filled {w0 w : World} {kb mq pw g cap len : Nat} {T : List Int} {s : Vst} {m : List Vnd} (h : Wk w0 w kb mq pw T s (.slice (some ⟨g, 0, none⟩) len cap) m) {i : Nat} {k0 : Int} {v0 : List (Int × Int)} (hi : s.2[i]? = some (k0, v0)) {base c2 : Nat} {a2 : Option Addr} {vs : List (Int × Int)}
  (hr : w.ownsRow base 95 2 (.slice a2 vs.length c2) vs.length (ev vs)) :
  Wk w0 (w.setCell ⟨g, i * 2 + 1, none⟩ (.slice a2 vs.length c2)) kb mq pw T (s.1, s.2.set i (k0, vs)) (.slice (some ⟨g, 0, none⟩) len cap) (m.set i (k0, a2, c2, vs)) /\ Kf w0.heap.size w (w.setCell ⟨g, i * 2 + 1, none⟩ (.slice a2 vs.length c2)) /\ (∀ k, Fb (m.set i (k0, a2, c2, vs)) k -> Fb m k \/ base <= k) := by
 obtain ⟨cur, hcur⟩ := row_type h.row g rfl
 have hg := (row_lt h.row g rfl).1
 have hkf : Kf w0.heap.size w (w.setCell ⟨g, i * 2 + 1, none⟩ (.slice a2 vs.length c2)) := Kf.set hcur (Or.inr rfl) hg
 obtain ⟨x, hx, hxe⟩ : ∃ x : Vnd, m[i]? = some x /\ (x.1, x.2.2.2) = (k0, v0) := by
  have := hi
  rw [<- h.nd, nds, List.getElem?_map] at this
  obtain ⟨x, hx, e⟩ := Option.map_eq_some_iff.1 this
  exact ⟨x, hx, e⟩
 have e1 : x.1 = k0 := congrArg Prod.fst hxe
 have hlen : len = m.length := by
  rcases h.row.2 with ⟨hv, _⟩ | ⟨g', cap', cur', hv, _⟩
  ·simp at hv
  ·simp at hv
   exact hv.2.1
 refine ⟨⟨(Below.heap_setCell _ _ _ _ (fun c => ?_)).trans h.blk, h.lo, h.mp.same (Below.heap_setCell _ _ _ _ (fun c => ?_)), ?_, ?_, fun y hy => ?_, h.bel.trans (hkf.below h.bel.size)⟩, hkf, fun k hk => ?_⟩
 ·have c : kb = g := c
  have := h.blk
  rw [c, hcur] at this
  simp at this
 ·have c : mq = g := c
  obtain ⟨D, ⟨es, clock, hb, _⟩, _⟩ := h.mp
  rw [c, hcur] at hb
  simp at hb
 ·rw [List.length_set, <- e1, nv_set m i x a2 c2 vs hx]
  have := h.row
  rw [<- hlen] at this ⊢
  exact row_put this _ _
 ·rw [nds, List.map_set]
  show ((nds m).set i (k0, vs)) = _
  rw [h.nd]
 ·rcases List.mem_or_eq_of_mem_set hy with hy | hy
  ·exact (h.fl y hy).kf hkf
  ·subst hy
   exact (Lv.of hr).kf hkf
 ·obtain ⟨y, hy, hl, o, e⟩ := hk
  rcases List.mem_or_eq_of_mem_set hy with hy | hy
  ·exact Or.inl ⟨y, hy, hl, o, e⟩
  ·subst hy
   have e : a2 = some ⟨k, o, none⟩ := e
   exact Or.inr (row_lt hr k (by rw [e]; rfl)).1
section
variable {w0 : World} {kb mq pw p q N O y g : Nat} {ws : List Int} {sd : Nat} {v0 : Value} {a1 : Option Addr} {k1 : Nat} {Q : List En} {T : List Int}
theorem meet_next (hq : Wq w0 pw p q N O y g ws sd v0 a1 k1 Q) (hT : ∀ a ∈ T, 0 <= a /\ a < 2000) (hTl : T.length <= 100000) (n : Nat) (M : Vst -> Int -> Vst) (hM : Meets w0 kb mq pw T M n) (hV : Vmet T (fun a => pk (ld N y g ws a)) (shL N y g ws Q) n M) :
    Meets w0 kb mq pw T (fun s a => ((vls M T (s.1 ++ [a], s.2 ++ [(pk (ld N y g ws a), [])]) (shL N y g ws Q a)).2.1, (vls M T (s.1 ++ [a], s.2 ++ [(pk (ld N y g ws a), [])]) (shL N y g ws Q a)).2.2.set s.1.length (pk (ld N y g ws a), (vls M T (s.1 ++ [a], s.2 ++ [(pk (ld N y g ws a), [])]) (shL N y g ws Q a)).1))) (n + 1) := by
  intro w s vn m a h ho ha hn hl
  obtain ⟨i0, hi, hz0, hz1, hz2⟩ := info_parts infoNode
  have hlt := ho.lt ha hn
  have hbd := hT a ha
  have hml : m.length = s.1.length := by rw [h.len, ho.len]
  have ho2 := ho.more ha hn (pk (ld N y g ws a), [])
  have hlen := vls_len M T (s.1 ++ [a], s.2 ++ [(pk (ld N y g ws a), [])]) (shL N y g ws Q a)
  have G := vls_go hV ho2 (by simp; omega) (shL N y g ws Q a)
  have hsl := shL_len N y g ws Q a
  have hQ := hq.hm
  have hGo : (vls M T (s.1 ++ [a], s.2 ++ [(pk (ld N y g ws a), [])]) (shL N y g ws Q a)).2.2[s.1.length]? = some (pk (ld N y g ws a), []) := by
    rw [G.old s.1.length (by simp), List.getElem?_append_right (by rw [ho.len]; exact Nat.le_refl _), ho.len]
    simp
  have hGl : s.1.length < (vls M T (s.1 ++ [a], s.2 ++ [(pk (ld N y g ws a), [])]) (shL N y g ws Q a)).2.1.length := by
    have := G.le
    simp at this
    omega
  have hGk : (vls M T (s.1 ++ [a], s.2 ++ [(pk (ld N y g ws a), [])]) (shL N y g ws Q a)).2.2.length = (vls M T (s.1 ++ [a], s.2 ++ [(pk (ld N y g ws a), [])]) (shL N y g ws Q a)).2.1.length := G.ok.len
  have KV : Hid (∀ (w5 : World) (vn5 : Value) (m5 : List Vnd) (ad : Option Addr) (cap : Nat), Wk w0 w5 kb mq pw T (s.1 ++ [a], s.2 ++ [(pk (ld N y g ws a), [])]) vn5 m5 -> Lq w5 ad (shL N y g ws Q a) ->
      Calls Tryz.prog 82 #[.pointer (some ⟨kb, 0, none⟩), .slice ad (shL N y g ws Q a).length cap] w5 fun e w' => ∃ vn' m' a2 c2, e = .returned (.slice a2 (shL N y g ws Q a).length c2) /\ w'.ownsRow w5.heap.size 95 2 (.slice a2 (shL N y g ws Q a).length c2) (shL N y g ws Q a).length (ev (vls M T (s.1 ++ [a], s.2 ++ [(pk (ld N y g ws a), [])]) (shL N y g ws Q a)).1) /\ Wk w0 w' kb mq pw T (vls M T (s.1 ++ [a], s.2 ++ [(pk (ld N y g ws a), [])]) (shL N y g ws Q a)).2 vn' m' /\ Kv w0 w5 m5 w' m' /\ (∀ k, Fb m' k -> some k ≠ (Value.slice a2 (shL N y g ws Q a).length c2).ownBlock)) :=
    fun w5 vn5 m5 ad cap h5 hl5 => values_any hM hV h5 ho2 (by simp; omega) _ ad cap hl5 (by omega)
  have KT : Hid (∀ w1, Below w0.heap.size w0 w1 -> Calls Tryz.prog 123 #[.pointer (some ⟨p, 0, none⟩), .int .i64 a] w1 fun e w' => e = .returned (.tuple #[.int .i64 (pk (ld N y g ws a)), .int .i64 (pf (ld N y g ws a)), .int .i64 (pc (ld N y g ws a))]) /\ Below w1.heap.size w1 w') := fun w1 hb => thing_any a w1 (hq.low hb).ar
  have KS : Hid (∀ w1, Below w0.heap.size w0 w1 -> w1.cell? ⟨kb, 0, none⟩ = some (.pointer (some ⟨pw, 0, none⟩)) -> Calls Tryz.prog 249 #[.pointer (some ⟨kb, 0, none⟩), .int .i64 a, .int .i64 (pk (ld N y g ws a)), .int .i64 (pf (ld N y g ws a))] w1 fun e w' => ∃ ad cap, e = .returned (.slice ad (shL N y g ws Q a).length cap) /\ w'.ownsRow w1.heap.size 2 1 (.slice ad (shL N y g ws Q a).length cap) (shL N y g ws Q a).length ((shL N y g ws Q a).map (Value.int .i64)) /\ Below w1.heap.size w1 w') :=
    fun w1 hb hc => shown_any (hq.low hb) kb hc a hbd.1 (by omega)
  have lpw := World.block_lt_of_cell? w0 _ hq.c0
  have cpw : Hid (∀ w1, Below w0.heap.size w0 w1 -> w1.cell? ⟨pw, 0, none⟩ = some (.pointer (some ⟨p, 0, none⟩))) := fun w1 hb => (hq.low hb).c0
  have hky := keyI (a := a) (by omega) (by omega)
  have hvl := elI (s.1.length : Int) (WalkArith.wf_i64 ⟨by omega, by omega⟩)
  clear hM hV G ho2 hsl hQ hq hT
  dsimp only
  generalize hvv : vls M T (s.1 ++ [a], s.2 ++ [(pk (ld N y g ws a), [])]) (shL N y g ws Q a) = R at *
  clear hvv
  generalize shL N y g ws Q a = SL at *
  obtain ⟨vs, s7⟩ := R
  dsimp only at *
  generalize pk (ld N y g ws a) = kd at *
  generalize pf (ld N y g ws a) = f at *
  generalize pc (ld N y g ws a) = cc at *
  have H : Hid (Wk w0 w kb mq pw T s vn m) := h
  obtain ⟨nA, nC, hvn⟩ := row_slice h.row
  subst hvn
  obtain ⟨c0, c1, c2, lk⟩ := h.cells
  obtain ⟨D, o1, o2, o3⟩ := h.mp
  have hlo := h.lo
  have HN : Hid (∀ (w1 : World) (k : Nat), w1.ownsMap Tryz.prog 3 (plainElem Tryz.prog 3) mq k (D.put (.int .i64 a) (.lit (.int .i64 (s.1.length : Int)))) -> Nm w1 mq T (s.1 ++ [a])) := fun w1 k h4 => Nm.put o1 o2 o3 ha hn h4
  have HD : Hid (nds m = s.2) := h.nd
  clear h o2 o3 ho ha hn
  generalize s.1.length = L at *
  subst hml
  go_enter Tryz.func238, Tryz.ntmps238
  go_wp2_with (at_mapUpdate; refine wpList_mapUpdate_own _ rfl _ _ _ 104 rfl 3 3 lawI Tryz.underlying104 (plainElem (H := Unit) Tryz.prog 3) mq T.length D rfl o1 (by unfold maxLen; omega) _ _ _ rfl rfl hky _ [] hvl ?_; intro w1 hown1 hgrow1; (have hfr1 : Fr (fun k => k = mq) w w1 := (Fr.refl _ _).grown hgrow1 (fun k e => Or.inl (by cases e; rfl))); (have TR : Hid (_ /\ _ /\ _ /\ _ /\ _) := H.out.turned hfr1); (have N1 : Hid (Nm w1 mq T (s.1 ++ [a])) := HN.out w1 _ hown1); (have y0 : w1.cell? ⟨kb, 0, none⟩ = some (.pointer (some ⟨pw, 0, none⟩)) := by simp [World.cell?, TR.out.2.1]); (have y1 := cpw.out w1 TR.out.2.2.2.2); clear hown1 hgrow1 hfr1 c0 c1 c2 o1 HN)
  refine (KT.out w1 TR.out.2.2.2.2).mono ?_
  clear KT
  rintro e w2 ⟨rfl, hb2⟩
  have hk2 := (hb2.block kb (lt_of_some TR.out.2.1)).trans TR.out.2.1
  have z2 : w2.cell? ⟨kb, 2, none⟩ = some (.slice nA m.length nC) := by simp [World.cell?, hk2]
  have HK2 : Hid (_ = _) := hk2
  have N2 : Hid (Nm w2 mq T (s.1 ++ [a])) := N1.out.same (by obtain ⟨D', o', _⟩ := N1.out; exact hb2.block mq o'.lt)
  have R2 := row_keep TR.out.2.2.1 (fun k hk => hb2.block k (row_lt TR.out.2.2.1 k hk).2)
  have HR2 : Hid (_) := R2
  have F2 : Hid (∀ x ∈ m, Lv w2 x.2.1 x.2.2.2) := fun x hx => (TR.out.2.2.2.1 x hx).kf (Kf.of (B := 0) hb2)
  have B2 : Hid (Below w0.heap.size w0 w2) := TR.out.2.2.2.2.trans (hb2.mono TR.out.2.2.2.2.size)
  have K2 : Hid (Kv w0 w m w2 m) := (show Kv w0 w m w1 m from ⟨TR.out.1, fun k h => Or.inl h⟩).trans (Kv.of hb2)
  have hs2 := B2.out.size
  clear TR N1 hk2 y0 y1 hb2 lk
  go_wp2_with (at_builtin; refine wpList_append_own_at _ rfl _ _ 50 rfl w0.heap.size 147 i0 (.agg #[.int .i64 0, .slice none 0 0]) 2 32 Tryz.underlying50 hi hz0 hz1 hz2 rfl (by decide) (.slice nA m.length nC) m.length (nv m) rfl (row_alloc R2 _) ⟨w2.heap.size, 0, none⟩ 1 1 [.int .i64 kd, .slice none 0 0] rfl rfl ?_ ?_ ?_ ?_ ?_ ?_; (intro j u hj; match j, hj with | 0, hj => (simp at hj; subst hj; simp [Addr.add]) | 1, hj => (simp at hj; subst hj; simp [Addr.add])); (intro u hu; simp at hu; rcases hu with hu | hu <;> (subst hu; rfl)); (unfold maxLen; omega); omega; (simp; omega); intro v' w4 hown4 hgrow4 _ hloc4; obtain ⟨b4, cap4, ev4⟩ := row_shape hown4 (Nat.succ_pos _); subst ev4; (have WG : Hid (_ /\ _ /\ _) := Wk.grown HK2.out hlo N2.out HR2.out HD.out F2.out B2.out ((Below.refl w2.heap.size w2).alloc (Nat.le_refl _) _) hown4 hgrow4); (have u0 : w4.cell? ⟨kb, 2, none⟩ = some (.slice nA m.length nC) := by simp [World.cell?, WG.out.2.2]); (have u1 : w4.frozen? ⟨kb, 2, none⟩ = false := by simp [World.frozen?, WG.out.2.2]); clear hown4 hgrow4 hloc4 z2 R2 HK2 N2 HR2 HD F2 B2)
  obtain ⟨WG1, WG2, _⟩ := WG.out
  have KK5 : Hid (Kv w0 w m (w4.setCell ⟨kb, 2, none⟩ (.slice (some ⟨b4, 0, none⟩) (m.length + 1) cap4)) (m ++ [(kd, none, 0, [])])) := K2.out.trans WG2
  have W5 : Hid (Wk w0 (w4.setCell ⟨kb, 2, none⟩ (.slice (some ⟨b4, 0, none⟩) (m.length + 1) cap4)) kb mq pw T (s.1 ++ [a], s.2 ++ [(kd, [])]) (.slice (some ⟨b4, 0, none⟩) (m.length + 1) cap4) (m ++ [(kd, none, 0, [])])) := WG1
  clear WG WG1 WG2 u0 u1 K2
  generalize w4.setCell ⟨kb, 2, none⟩ (.slice (some ⟨b4, 0, none⟩) (m.length + 1) cap4) = w5 at KK5 W5 ⊢
  refine (KS.out w5 W5.out.bel W5.out.cells.1).mono ?_
  clear KS
  rintro e w6 ⟨ad, cap, rfl, hr6, hb6⟩
  go_wp2_with fail
  refine (KV.out w6 _ _ ad cap (W5.out.below hb6) (Lq.of hr6)).mono ?_
  clear KV
  rintro e w7 ⟨vn7, m7, a2, c7, rfl, hr7, hW7, hK7, hF7⟩
  have hm7 : m7.length = s7.1.length := hW7.len.trans hGk
  obtain ⟨g7, cap7, e7⟩ := row_shape hW7.row (by omega)
  subst e7
  have z2 := hW7.cells.2.2.1
  have hlt7 : m.length < m7.length := by omega
  obtain ⟨zc, zf⟩ := row_cell hW7.row ((nv_get m7 m.length _ (List.getElem?_eq_getElem hlt7)).2)
  rw [<- hlen] at hr7
  have FI : Hid (_ /\ _ /\ _) := hW7.filled hGo hr7
  have K7 : Hid (Kv w0 w m w7 m7) := (KK5.out.trans (Kv.of hb6)).trans hK7
  have hs7 := ((KK5.out.trans (Kv.of hb6)).1).size
  generalize (m7[m.length]).2.1 = q1 at zc
  generalize (m7[m.length]).2.2.2.length = q2 at zc
  generalize (m7[m.length]).2.2.1 = q3 at zc
  rw [hlen] at FI
  clear hr6 hb6 hr7 hW7 hK7 hF7 KK5 W5 hGo hlen hvl hky
  go_wp2_with fail
  go_ret
  exact ⟨_, _, rfl, FI.out.1, K7.out.1.trans FI.out.2.1, fun k hk => (FI.out.2.2 k hk).elim (K7.out.2 k) (fun c => Or.inr (Nat.le_trans hs7 c))⟩
theorem meet_any (hq : Wq w0 pw p q N O y g ws sd v0 a1 k1 Q) (hT : ∀ a ∈ T, 0 <= a /\ a < 2000) (hTl : T.length <= 100000) : ∀ n, Meets w0 kb mq pw T (met T (fun a => pk (ld N y g ws a)) (shL N y g ws Q) n) n
 | 0 => fun w s vn m a _ ho ha hn hl => by
  have := ho.lt ha hn
  omega
 | n + 1 => meet_next hq hT hTl n _ (meet_any hq hT hTl n) (met_go n)
end
end Go.Proofs.YtalgochmjddodaaGreat
