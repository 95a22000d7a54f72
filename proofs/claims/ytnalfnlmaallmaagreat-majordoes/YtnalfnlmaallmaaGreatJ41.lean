/- Joined: Mj29, Mn19, Mn20, Mn21, Mn22, Mn23. -/
import Derived.Test.YtnalfnlmaallmaaGreatJ35
import Derived.Test.YtnalfnlmaallmaaGreatJ36
import Derived.Test.YtnalfnlmaallmaaGreatJ40
namespace Go.Proofs.YtnalfnlmaallmaaGreat
set_option maxRecDepth 100000
set_option maxHeartbeats 4000000
open Go.RowKit W Kp Stl
theorem JI.pl {k : Jk} {s : Js} (h : JI k s) (hN : (0 : Int) <= k.a.N) : JI k (k.pl s).1 := by
 obtain ⟨P, _, e1, e2⟩ := pl_pos k (fun c => !(s.f c == -1)) k.T (s, k.a.N) h.nd (fun c _ => rfl)
 have P : Pos (fun c => pf (k.ld c)) (fun c => !(s.f c == -1)) (k.pl s).1.f k.a.N k.T (k.pl s).2 := P
 have e1 : (k.pl s).1.td = s.td := e1
 have e2 : (k.pl s).1.ep = s.ep := e2
 have hlost : k.lost (k.pl s).1 <= k.lost s := by
  unfold Jk.lost
  rw [<- List.countP_eq_length_filter, <- List.countP_eq_length_filter]
  refine List.countP_mono_left (fun c hc hf => ?_)
  cases q : (s.f c == -1)
  ·have := (P.bd (fun c => (pf_bd _).1) c hc (by rw [q]; rfl)).1
   have hf : (k.pl s).1.f c = -1 := by simpa using hf
   omega
  ·rfl
 have := h.sum
 exact ⟨h.nd, h.ps, by rw [e1]; exact h.td, by rw [e2]; exact h.ep, h.tl, by rw [e1, e2]; omega⟩
theorem ejL_keep {τ β : Type} (g : τ -> β) (fm : τ -> Int -> Int) (st : τ -> Int -> τ) (h : ∀ t a, g (st t a) = g t) : ∀ (l : List Int) (t : τ), g (ejL fm st t l) = g t
 | [], _ => rfl
 | a :: l, t => by
  have e : ejL fm st t (a :: l) = ejL fm st (ejS fm st t a) l := rfl
  rw [e, ejL_keep g fm st h l]
  unfold ejS
  split
  ·rfl
  ·exact h t a
theorem tlr_a (k : Jk) (s : Js) : ∀ n, (k.tlr s n).a = k.a
 | 0 => rfl
 | n + 1 => tlr_a k s n
theorem tlf_a (k : Jk) (s : Js) (a : Int) : ∀ n, (k.tlf s a n).a = k.a
 | 0 => rfl
 | n + 1 => tlf_a k s a n
theorem tlA_a (k : Jk) (s : Js) : (k.tlA s).a = k.a := by
 unfold Jk.tlA Jk.tlL
 rw [ejL_keep (fun k : Jk => k.a) _ _ (fun t a => ?_)]
 ·exact tlr_a k s 12
 ·unfold Jk.tl1
  rw [tlf_a]
  exact (brk_same t s a).1
theorem sl_a (k : Jk) (s : Js) : (k.sl s).a = k.a := by
 have e1 : (k.slL s k.G).1.a = k.a := ejL_keep (fun t : Jk × Int => t.1.a) (fun _ a => s.f a) (Jk.slS s) (fun _ _ => rfl) k.G (k, 0)
 have e2 : (k.sl2 s).a = (k.sl1 s).a := ejL_keep (fun t : Jk => t.a) (fun (_ : Jk) a => s.f a) (fun k a => k.cop a) (fun _ _ => rfl) k.Y (k.sl1 s)
 have e3 : (k.sl s).a = (k.sl2 s).a := rfl
 have e4 : (k.sl1 s).a = (k.slL s k.G).1.a := rfl
 rw [e3, e2, e4, e1]
theorem mj_wod {c : Jc} {k : Jk} {vt ve : Value} {F : Nat -> Prop} {s : Js} {w : World} (h : (mjV c k vt ve).J F s w) : ∃ FW, (wodO k.a).J FW k.s w /\ ∀ b, FW b -> F b := by
 obtain ⟨FW, own, h, hF⟩ := h
 exact ⟨FW, h.wd, fun b d => (hF b).2 (by rw [(h.w1 b).1 d]; decide)⟩
section
variable {a : Wc} {F : Nat -> Prop} {S : Ww} {w : World}
theorem cutJ_any (h : (wsO a).J F S w) (hq : S.q.length + S.r.length <= 90000) (hsl : S.jfull a = false -> ∃ G, SlG (S.k5 a) (S.j5 a) G /\ G 0 (S.k5 a, 0)) :
  Calls Tryz.prog 74 #[.pointer (some ⟨a.pw, 0, none⟩)] w fun e w' => ∃ F', e = .returned (.int .i64 (S.gcode a)) /\ (wsO a).J F' (S.gcut a) w' /\ Tn F w F' w' := by
 have hmf : ∀ (fn : Fn) (first cap : Array Value) (w : World), (Instr.makeFunc fn first cap).run Tryz.prog w = .ok (.func fn first cap) w := fun _ _ _ _ => rfl
 obtain ⟨F0, ar, cr, h1, hR, hRn, hF⟩ := h
 obtain ⟨FW, ad, cap, g1, g2, g3, g4, g5, g6, g7, g8⟩ := h1
 have HSL : Hid (S.jfull a = false -> ∃ G, SlG (S.k5 a) (S.j5 a) G /\ G 0 (S.k5 a, 0)) := hsl
 have hAt := (wod_arena g1).1
 have hO := hAt.hO
 have hN := hAt.hN'
 have HW : Hid ((wodO a).J FW S.s w /\ w.heap[a.sd]? = some (.cells #[.slice ar S.r.length cr, .slice ad S.q.length cap] 153 (0, 0)) /\ w.ownsRow 0 106 2 (.slice ad S.q.length cap) S.q.length (ev S.q) /\ w.ownsRow 0 106 2 (.slice ar S.r.length cr) S.r.length (ev S.r) /\ (∀ b, FW b -> F0 b) /\ F0 a.sd /\ ¬ FW a.sd) := ⟨g1, g2, g3, hR, g4, g5, g6⟩
 have HW2 : Hid ((∀ b, some b = (Value.slice ad S.q.length cap).ownBlock -> F0 b /\ ¬ FW b) /\ (∀ b, F0 b -> b < w.heap.size) /\ (∀ b, some b = (Value.slice ar S.r.length cr).ownBlock -> ¬ F0 b) /\ ∀ b, F b ↔ (F0 b \/ some b = (Value.slice ar S.r.length cr).ownBlock)) := ⟨g7, g8, hRn, hF⟩
 have P1 := newJ_any (S := S) g1 ⟨g2, hR, g3⟩ (by omega) (by omega)
 clear g1 g2 g3 g4 g5 g6 g7 g8 hR hRn hF hsl hAt
 have EC : Hid (S.gcode a = if S.jfull a = true then 3 else 0) := rfl
 have EG : Hid (S.gcut a = if S.jfull a = true then S else ⟨(S.k6 a).s, (S.k5 a).tR (S.j4 a, S.q3 a) (S.r3 a), (S.k5 a).tQ (S.j4 a, S.q3 a) (S.r3 a)⟩) := rfl
 go_enter Tryz.func74, Tryz.ntmps74
 go_wp2_with fail
 refine P1.mono ?_
 clear P1
 rintro e w1 ⟨c, br, dr, F1, rfl, hM1, hR1, hn1, sub1, hb1⟩
 have HT1 : Hid (Tn FW w F1 w1) := ⟨Fr.of hb1, sub1⟩
 have HR1 : Hid (w1.ownsRow 0 106 2 (.slice br S.r.length dr) S.r.length (ev S.r) /\ ∀ b, some b = (Value.slice br S.r.length dr).ownBlock -> ¬ F1 b /\ w.heap.size <= b) := ⟨hR1, hn1⟩
 obtain ⟨Fi, ⟨hJ1, hI1⟩, U1⟩ := mkSd_to hM1
 have hI1 : JI (S.s.j0 a) js0 := hI1
 have P2 := keepRootsJ_any hJ1 hI1
 have HU1 : Hid (∀ F2 t w', (mjO c (S.s.j0 a)).J F2 t w' -> JI (S.s.j0 a) t -> Tn Fi w1 F2 w' -> ∃ F', (mkSd (mjI c (S.s.j0 a)) c.bs (.slice br S.r.length dr)).J F' (t, S.q) w' /\ Tn F1 w1 F' w') := fun F2 t w' q1 q2 q3 => U1 (mjI c (S.s.j0 a)) F2 t w' ⟨q1, q2⟩ q3
 have HI2 : Hid (JI (S.s.j0 a) ((S.s.j0 a).kr js0 12)) := (Jl.kr hI1 12).ji
 clear hM1 hR1 hn1 sub1 hb1 hJ1 hI1 U1
 go_wp2_with fail
 refine P2.mono ?_
 clear P2
 rintro e w2 ⟨F2, rfl, hJ2, hT2⟩
 obtain ⟨F3, hM3, hT3⟩ := HU1.out F2 _ w2 hJ2 HI2.out hT2
 have P3 := spreadJ_any (c := c) rfl hM3 (by show S.q.length <= 90000; omega)
 have HT3 : Hid (Tn FW w F3 w2 /\ Tn F1 w1 F3 w2) := ⟨HT1.out.trans hT3, hT3⟩
 clear hJ2 hT2 hM3 hT3 HU1 HI2
 go_wp2_with fail
 refine P3.mono ?_
 clear P3
 rintro e w3 ⟨F4, rfl, hM4, hT4⟩
 have hM4 : (mkSd (mjI c (S.s.j0 a)) c.bs (.slice br S.r.length dr)).J F4 (S.j2 a) w3 := hM4
 obtain ⟨Fk, ⟨⟨vt3, ve3, hV3⟩, hI3⟩, _⟩ := mkSd_to hM4
 obtain ⟨_, _, _, _, d4, _⟩ := mj_cells hV3
 have l4 := World.block_lt_of_cell? w3 _ d4
 have hd := (Below.refl w3.heap.size w3).drew
 have HM4 : Hid ((mkSd (mjI c (S.s.j0 a)) c.bs (.slice br S.r.length dr)).J F4 (S.j2 a) w3.drew /\ Tn FW w F4 w3.drew /\ w3.drew.ownsRow 0 106 2 (.slice br S.r.length dr) S.r.length (ev S.r) /\ (∀ b, F4 b -> b < w3.heap.size) /\ w.heap.size <= w3.heap.size) := by
  have hT14 : Tn F1 w1 F4 w3 := HT3.out.2.trans hT4
  refine ⟨(mkSd (mjI c (S.s.j0 a)) c.bs (.slice br S.r.length dr)).below hM4 hd, (HT3.out.1.trans hT4).below hd, ?_, (mkSd (mjI c (S.s.j0 a)) c.bs (.slice br S.r.length dr)).lt hM4, (HT3.out.1.trans hT4).fr.size⟩
  exact row_keep HR1.out.1 (fun b e => (hd.block b (Nat.lt_of_lt_of_le (row_lt HR1.out.1 b e).2 hT14.fr.size)).trans (hT14.fr.block b (row_lt HR1.out.1 b e).2 (HR1.out.2 b e).1))
 have hlq : (S.j2 a).2.length + S.r.length <= 90000 := by
  have : (S.j2 a).2.length = S.q.length := sprJ_len _ _ _
  omega
 have EP : Hid (∀ w5, Below w3.drew.heap.size w3.drew w5 -> w5.heap[w3.heap.size]? = some (boxJ c) -> w5.heap[w3.heap.size + 1]? = some (boxK (fkJ c)) -> Calls Tryz.prog 64 #[.pointer (some ⟨c.bs, 0, none⟩), .agg #[(faJ w3.heap.size).v, (fpJ (w3.heap.size + 1)).v, (fnJ c).v]] w5 fun e w' => ∃ a1 c1 F', e = .returned (.tuple #[]) /\ (mkSd (mjI c (S.s.j0 a)) c.bs (.slice a1 (S.r3 a).length c1)).J F' (S.j3 a, S.q3 a) w' /\ w'.ownsRow 0 106 2 (.slice a1 (S.r3 a).length c1) (S.r3 a).length (ev (S.r3 a)) /\ (∀ b, some b = (Value.slice a1 (S.r3 a).length c1).ownBlock -> ¬ F' b /\ w5.heap.size <= b) /\ Tn FW w F' w' /\ w.heap.size <= w5.heap.size) := fun w5 hb5 hx5 hy5 => by
  have hs : w3.drew.heap.size = w3.heap.size := rfl
  refine (settleJ_any (t := S.j2 a) (r := S.r) rfl ((mkSd (mjI c (S.s.j0 a)) c.bs (.slice br S.r.length dr)).below HM4.out.1 hb5) (row_keep HM4.out.2.2.1 (fun b e => hb5.block b (row_lt HM4.out.2.2.1 b e).2)) hlq w3.heap.size (w3.heap.size + 1) (by omega) hx5 hy5 (fun d => by have := HM4.out.2.2.2.1 _ d; omega) (fun d => by have := HM4.out.2.2.2.1 _ d; omega)).mono ?_
  rintro e w' ⟨a1, c1, F', rfl, q1, q2, q3, q4, q5⟩
  have T5 := HM4.out.2.1.below hb5
  have z5 := HM4.out.2.2.2.2
  have z6 := hb5.size
  refine ⟨a1, c1, F', rfl, q1, q2, q3, ⟨T5.fr.trans q4 (fun b d => ?_), fun b d => ?_⟩, by omega⟩
  ·rcases d with d | d | d
   ·exact T5.sub b d
   ·exact Or.inr (by omega)
   ·exact Or.inr (by omega)
  ·exact (q5 b d).elim (T5.sub b) (fun d => Or.inr (by omega))
 clear hM4 hT4 hV3 hI3 hd HM4 HT3 HR1 HT1 hlq
 go_wp2_with fail
 go_region_held3 (fun w' => w'.cell? ⟨c.pk, 4, none⟩ = some (.pointer (some ⟨c.bs, 0, none⟩))) (go_keep)
  (first
   | (go_at_call 149; refine (looksJ_any (fkJ c) w3.drew c.pk).mono ?_; rintro e w5 ⟨rfl, hx5, hy5, hb5⟩; have y4 := (hb5.cell (p := ⟨c.pk, 4, none⟩) l4).trans d4; have HX : Hid (w5.heap[w3.heap.size]? = some (boxJ c) /\ w5.heap[w3.heap.size + 1]? = some (boxK (fkJ c)) /\ Below w3.drew.heap.size w3.drew w5) := ⟨hx5, hy5, hb5⟩; clear hx5 hy5 hb5)
   | (go_at_call 64; refine (EP.out w5 HX.out.2.2 HX.out.1 HX.out.2.1).mono ?_; rintro e w6 ⟨a1, c1, F6, rfl, hM6, hR6, hn6, hT6, hz6⟩; obtain ⟨_, ⟨⟨vt6, ve6, hV6⟩, _⟩, _⟩ := mkSd_to hM6; obtain ⟨_, _, _, _, u4, _⟩ := mj_cells hV6; have HM6 : Hid ((mkSd (mjI c (S.s.j0 a)) c.bs (.slice a1 (S.r3 a).length c1)).J F6 (S.j3 a, S.q3 a) w6 /\ w6.ownsRow 0 106 2 (.slice a1 (S.r3 a).length c1) (S.r3 a).length (ev (S.r3 a)) /\ (∀ b, some b = (Value.slice a1 (S.r3 a).length c1).ownBlock -> ¬ F6 b /\ w.heap.size <= b) /\ Tn FW w F6 w6) := ⟨hM6, hR6, fun b e => ⟨(hn6 b e).1, Nat.le_trans hz6 (hn6 b e).2⟩, hT6⟩; clear hM6 hR6 hn6 hT6 hz6 hV6))
 all_goals
  clear d4 y4 u4 EP HX l4
  obtain ⟨Fm, ⟨⟨vt6, ve6, hV6⟩, hI6⟩, U6⟩ := mkSd_to HM6.out.1
  have hI6 : JI (S.s.j0 a) (S.j3 a) := hI6
  have hV6 : (mjV c (S.s.j0 a) vt6 ve6).J Fm (S.j3 a) w6 := hV6
  have P4 := placeJ_any hV6 hI6.tl hI6.ps
  have HI7 : Hid (JI (S.s.j0 a) (S.j4 a)) := hI6.pl (by omega)
  have EN : Hid (((S.s.j0 a).pl (S.j3 a)).2 - (S.s.j0 a).a.N = S.n4 a /\ ((S.s.j0 a).pl (S.j3 a)).1 = S.j4 a) := ⟨rfl, rfl⟩
  rw [EN.out.1, EN.out.2] at P4
  have HU6 : Hid (∀ F2 w' vt ve, (mjV c (S.s.j0 a) vt ve).J F2 (S.j4 a) w' -> Tn Fm w6 F2 w' -> ∃ F', (mkSd (mjI c (S.s.j0 a)) c.bs (.slice a1 (S.r3 a).length c1)).J F' (S.j4 a, S.q3 a) w' /\ Tn F6 w6 F' w') := fun F2 w' vt ve q1 q3 => U6 (mjI c (S.s.j0 a)) F2 (S.j4 a) w' ⟨⟨vt, ve, q1⟩, HI7.out⟩ q3
  clear hV6 hI6 U6
  go_wp2_with fail
  refine P4.mono ?_
  clear P4
  rintro e w7 ⟨F7, rfl, hV7, hT7⟩
  obtain ⟨F8, hM8, hT8⟩ := HU6.out F7 w7 vt6 ve6 hV7 hT7
  have P5 := roomJ_any hV7
  have EO : Hid ((S.s.j0 a).a.O = a.O) := rfl
  rw [EO.out] at P5
  have HM8 : Hid ((mkSd (mjI c (S.s.j0 a)) c.bs (.slice a1 (S.r3 a).length c1)).J F8 (S.j4 a, S.q3 a) w7 /\ Tn FW w F8 w7 /\ w7.ownsRow 0 106 2 (.slice a1 (S.r3 a).length c1) (S.r3 a).length (ev (S.r3 a)) /\ ∀ b, some b = (Value.slice a1 (S.r3 a).length c1).ownBlock -> ¬ F8 b) := by
   refine ⟨hM8, HM6.out.2.2.2.trans hT8, row_fr HM6.out.2.1 hT8.fr (fun b e => (HM6.out.2.2.1 b e).1), fun b e d => (hT8.sub b d).elim (HM6.out.2.2.1 b e).1 (fun d => by have := (row_lt HM6.out.2.1 b e).2; omega)⟩
  clear hV7 hT7 hM8 hT8 HU6 HM6
  go_wp2_with fail
  refine P5.mono ?_
  clear P5
  rintro e w8 ⟨rfl, hb8⟩
  have HM9 : Hid ((mkSd (mjI c (S.s.j0 a)) c.bs (.slice a1 (S.r3 a).length c1)).J F8 (S.j4 a, S.q3 a) w8 /\ Tn FW w F8 w8 /\ w8.ownsRow 0 106 2 (.slice a1 (S.r3 a).length c1) (S.r3 a).length (ev (S.r3 a)) /\ ∀ b, some b = (Value.slice a1 (S.r3 a).length c1).ownBlock -> ¬ F8 b) := ⟨(mkSd (mjI c (S.s.j0 a)) c.bs (.slice a1 (S.r3 a).length c1)).below HM8.out.1 hb8, HM8.out.2.1.below hb8, row_keep HM8.out.2.2.1 (fun b e => hb8.block b (row_lt HM8.out.2.2.1 b e).2), HM8.out.2.2.2⟩
  clear hb8 HM8
  by_cases hf : (a.O : Int) < S.n4 a
  ·have hfull : S.jfull a = true := decide_eq_true hf
   have HZ : Hid (∃ F', (wsO a).J F' (S.gcut a) w8 /\ Tn F w F' w8) := by
    have eG := EG.out
    rw [if_pos hfull] at eG
    rw [eG]
    obtain ⟨_, ⟨⟨vt, ve, hV⟩, _⟩, _⟩ := mkSd_to HM9.out.1
    obtain ⟨Fx, ax, cx, ⟨⟨vt, ve, hV⟩, _⟩, _, _, m4, _⟩ := HM9.out.1
    obtain ⟨FW', q1, q2⟩ := mj_wod hV
    have q1 : (wodO a).J FW' S.s w8 := q1
    have T : Tn FW w FW' w8 := HM9.out.2.1.less (fun b d => m4 b (q2 b d))
    obtain ⟨g1, g2, g3, hR, g4, g5, g6⟩ := HW.out
    obtain ⟨g7, g8, hRn, hF⟩ := HW2.out
    obtain ⟨FW0, _, U⟩ := mkSd_to (o := wodO a) (F := F0) (t := (S.s, S.q)) (w := w) (p := a.sd) (vr := .slice ar S.r.length cr) ⟨FW, ad, cap, g1, g2, g3, g4, g5, g6, g7, g8⟩
    have lsd := lt_of_some g2
    refine ⟨fun b => (FW' b \/ b = a.sd \/ some b = (Value.slice ad S.q.length cap).ownBlock) \/ some b = (Value.slice ar S.r.length cr).ownBlock, ⟨fun b => FW' b \/ b = a.sd \/ some b = (Value.slice ad S.q.length cap).ownBlock, ar, cr, ⟨FW', ad, cap, q1, (T.fr.block _ lsd g6).trans g2, row_fr g3 T.fr (fun b e => (g7 b e).2), fun b d => Or.inl d, Or.inr (Or.inl rfl), fun d => (T.sub _ d).elim g6 (fun d => by omega), fun b e => ⟨Or.inr (Or.inr e), fun d => (T.sub b d).elim (g7 b e).2 (fun d => by have := (row_lt g3 b e).2; omega)⟩, fun b d => ?_⟩, row_fr hR T.fr (fun b e d => hRn b e (g4 b d)), fun b e d => ?_, fun b => Iff.rfl⟩, ⟨T.fr.mono (fun b d => (hF b).2 (Or.inl (g4 b d))), fun b d => ?_⟩⟩
    ·rcases d with d | d | d
     ·exact (wodO a).lt q1 b d
     ·have := T.fr.size
      omega
     ·have := (row_lt g3 b d).2
      have := T.fr.size
      omega
    ·have hbl := (row_lt hR b e).2
     rcases d with d | d | d
     ·exact (T.sub b d).elim (fun d => hRn b e (g4 b d)) (fun d => by omega)
     ·exact hRn b e (by rw [d]; exact g5)
     ·exact hRn b e (g7 b d).1
    ·rcases d with (d | d | d) | d
     ·exact (T.sub b d).imp (fun d => (hF b).2 (Or.inl (g4 b d))) id
     ·exact Or.inl ((hF b).2 (Or.inl (by rw [d]; exact g5)))
     ·exact Or.inl ((hF b).2 (Or.inl (g7 b d).1))
     ·exact Or.inl ((hF b).2 (Or.inr d))
   have eC := EC.out
   rw [if_pos hfull] at eC
   have HC : Hid (S.gcode a = 3) := eC
   have hf2 : decide ((a.O : Int) < S.n4 a) = true := decide_eq_true hf
   clear HM9 HW HW2 HSL EG EC eC
   go_wp2_with fail
   go_ret
   obtain ⟨F', j1, j2⟩ := HZ.out
   exact ⟨F', by rw [HC.out]; rfl, j1, j2⟩
  ·have hfull : S.jfull a = false := decide_eq_false hf
   obtain ⟨GG, sg1, sg2⟩ := HSL.out hfull
   have HSG : Hid (SlG (S.k5 a) (S.j5 a) GG /\ GG 0 (S.k5 a, 0)) := ⟨sg1, sg2⟩
   have hlr : (S.q3 a).length + (S.r3 a).length <= 90000 := by
    have h1 := st_len (noSd Js) (fun s x => (S.s.j0 a).al s.1 x) (S.s.j0 a).ke (fun s x => (S.s.j0 a).nw s.1 x) (fun s x => keJ_len (S.s.j0 a) s x) (S.j2 a) S.r
    have h2 : (S.j2 a).2.length = S.q.length := sprJ_len _ _ _
    have h3 : (noSd Js).wt (S.j2 a) = (S.j2 a).2 := rfl
    have h4 : S.r3 a = stR (noSd Js) (fun s x => (S.s.j0 a).al s.1 x) (S.s.j0 a).ke (fun s x => (S.s.j0 a).nw s.1 x) (S.j2 a) S.r := rfl
    have h5 : S.q3 a = stQ (noSd Js) (fun s x => (S.s.j0 a).al s.1 x) (S.s.j0 a).ke (fun s x => (S.s.j0 a).nw s.1 x) (S.j2 a) S.r := rfl
    rw [h3, <- h4, <- h5] at h1
    omega
   have nsd : ¬ F8 a.sd := fun d => (HM9.out.2.1.sub _ d).elim HW.out.2.2.2.2.2.2 (fun d => by have := lt_of_some HW.out.2.1; omega)
   have P6 := tellJ_any (k := S.s.j0 a) (t := (S.j4 a, S.q3 a)) rfl HM9.out.1 HM9.out.2.2.1 HM9.out.2.2.2 hlr (v1 := .slice ar S.r.length cr) (v2 := .slice ad S.q.length cap) ((HM9.out.2.1.fr.block a.sd (lt_of_some HW.out.2.1) HW.out.2.2.2.2.2.2).trans HW.out.2.1) nsd
   have E5 : Hid ((S.s.j0 a).tlA (S.j4 a) = S.k5 a) := rfl
   dsimp only at P6
   rw [E5.out] at P6
   have hf2 : decide ((a.O : Int) < S.n4 a) = false := decide_eq_false hf
   clear sg1 sg2 hlr
   go_wp2_with fail
   refine P6.mono ?_
   clear P6
   rintro e w9 ⟨a2, c2, F9, rfl, hM9, hR9, hn9, hsd9, nsd9, hf9, hs9⟩
   have HTT : Hid (Fr (fun b => FW b \/ b = a.sd) w w9 /\ (∀ b, F9 b -> FW b \/ w.heap.size <= b) /\ w.heap.size <= w8.heap.size) := by
    have T := HM9.out.2.1
    have z := T.fr.size
    refine ⟨(T.fr.mono (fun b d => Or.inl d)).trans hf9 (fun b d => ?_), fun b d => (hs9 b d).elim (T.sub b) (fun d => Or.inr (by omega)), z⟩
    rcases d with d | d
    ·exact (T.sub b d).imp Or.inl id
    ·exact Or.inl (Or.inr d)
   obtain ⟨Fz, az, cz, ⟨⟨vt, ve, hVz⟩, hIz⟩, m2, m3, m4, m5, m6, m7, m8⟩ := hM9
   have hVz : (mjV c (S.k5 a) vt ve).J Fz (S.j5 a) w9 := hVz
   have hIz : JI (S.k5 a) (S.j5 a) := hIz
   have P7 := slideJ_any HSG.out.1 HSG.out.2 hVz hIz.tl hIz.ps
   have E6 : Hid ((S.k5 a).sl (S.j5 a) = S.k6 a) := rfl
   rw [E6.out] at P7
   obtain ⟨R5, hR5⟩ : ∃ R5, (S.k5 a).tR (S.j4 a, S.q3 a) (S.r3 a) = R5 := ⟨_, rfl⟩
   obtain ⟨Q5, hQ5⟩ : ∃ Q5, (S.k5 a).tQ (S.j4 a, S.q3 a) (S.r3 a) = Q5 := ⟨_, rfl⟩
   rw [hR5] at hR9 hn9 m2
   dsimp only at m2 m3 m7
   rw [hQ5] at m2 m3 m7
   have HM : Hid (w9.heap[a.sd]? = some (.cells #[.slice a2 R5.length c2, .slice az Q5.length cz] 153 (0, 0)) /\ w9.ownsRow 0 106 2 (.slice az Q5.length cz) Q5.length (ev Q5) /\ (∀ b, Fz b -> F9 b) /\ ¬ F9 a.sd /\ (∀ b, some b = (Value.slice az Q5.length cz).ownBlock -> F9 b /\ ¬ Fz b) /\ (∀ b, F9 b -> b < w9.heap.size)) := ⟨hsd9.trans m2, m3, m4, nsd9, m7, m8⟩
   have HR9 : Hid (w9.ownsRow 0 106 2 (.slice a2 R5.length c2) R5.length (ev R5) /\ ∀ b, some b = (Value.slice a2 R5.length c2).ownBlock -> ¬ F9 b /\ w8.heap.size <= b) := ⟨hR9, hn9⟩
   have HRQ : Hid ((S.k5 a).tR (S.j4 a, S.q3 a) (S.r3 a) = R5 /\ (S.k5 a).tQ (S.j4 a, S.q3 a) (S.r3 a) = Q5) := ⟨hR5, hQ5⟩
   clear hR5 hQ5 m2 m3 m4 m5 m6 m7 m8 hVz hIz hR9 hn9 hsd9 nsd9 hf9 hs9 HM9 nsd
   go_wp2_with fail
   refine P7.mono ?_
   clear P7
   rintro e w10 ⟨F10, rfl, hV10, hT10⟩
   have HZ : Hid (∃ F', (wsO a).J F' (S.gcut a) w10 /\ Tn F w F' w10) := by
    have eG := EG.out
    rw [if_neg (by rw [hfull]; simp), HRQ.out.1, HRQ.out.2] at eG
    rw [eG]
    obtain ⟨FW', q1, q2⟩ := mj_wod hV10
    have ea : (S.k6 a).a = a := by
     have e1 : S.k6 a = (S.k5 a).sl (S.j5 a) := rfl
     have e2 : S.k5 a = (S.s.j0 a).tlA (S.j4 a) := rfl
     rw [e1, sl_a, e2, tlA_a]
     rfl
    rw [ea] at q1
    obtain ⟨b1, b2, b3, b4, b5, b6⟩ := HM.out
    obtain ⟨r1, r2⟩ := HR9.out
    obtain ⟨t1, t2, t3⟩ := HTT.out
    obtain ⟨g1, g2, g3, hR, g4, g5, g6⟩ := HW.out
    obtain ⟨g7, g8, hRn, hF⟩ := HW2.out
    have lsd := lt_of_some g2
    have lz := t1.size
    have l10 := hT10.fr.size
    have s10 : ∀ b, FW' b -> Fz b \/ w9.heap.size <= b := fun b d => hT10.sub b (q2 b d)
    have nz : ¬ Fz a.sd := fun d => b4 (b3 _ d)
    have hap : ∀ b, some b = (Value.slice a2 R5.length c2).ownBlock -> ¬ (FW' b \/ b = a.sd \/ some b = (Value.slice az Q5.length cz).ownBlock) := fun b e d => by
     have q := r2 b e
     rcases d with d | d | d
     ·exact (s10 b d).elim (fun d => q.1 (b3 b d)) (fun d => by have := (row_lt r1 b e).2; omega)
     ·omega
     ·exact q.1 (b5 b d).1
    refine ⟨fun b => (FW' b \/ b = a.sd \/ some b = (Value.slice az Q5.length cz).ownBlock) \/ some b = (Value.slice a2 R5.length c2).ownBlock, ⟨fun b => FW' b \/ b = a.sd \/ some b = (Value.slice az Q5.length cz).ownBlock, a2, c2, ⟨FW', az, cz, q1, (hT10.fr.block _ (by omega) nz).trans b1, row_fr b2 hT10.fr (fun b e => (b5 b e).2), fun b d => Or.inl d, Or.inr (Or.inl rfl), fun d => (s10 _ d).elim nz (fun d => by omega), fun b e => ⟨Or.inr (Or.inr e), fun d => (s10 b d).elim (b5 b e).2 (fun d => by have := (row_lt b2 b e).2; omega)⟩, fun b d => ?_⟩, row_fr r1 hT10.fr (fun b e d => (r2 b e).1 (b3 b d)), hap, fun b => Iff.rfl⟩, ⟨(t1.trans hT10.fr (fun b d => (t2 b (b3 b d)).imp Or.inl id)).mono (fun b d => ?_), fun b d => ?_⟩⟩
    ·rcases d with d | d | d
     ·exact (wodO a).lt q1 b d
     ·omega
     ·have := (row_lt b2 b d).2
      omega
    ·rcases d with d | d
     ·exact (hF b).2 (Or.inl (g4 b d))
     ·exact (hF b).2 (Or.inl (by rw [d]; exact g5))
    ·rcases d with (d | d | d) | d
     ·rcases s10 b d with d | d
      ·exact (t2 b (b3 b d)).imp (fun d => (hF b).2 (Or.inl (g4 b d))) id
      ·exact Or.inr (by omega)
     ·exact Or.inl ((hF b).2 (Or.inl (by rw [d]; exact g5)))
     ·exact (t2 b (b5 b d).1).imp (fun d => (hF b).2 (Or.inl (g4 b d))) id
     ·have := (r2 b d).2
      exact Or.inr (by omega)
   have eC := EC.out
   rw [if_neg (by rw [hfull]; simp)] at eC
   have HC : Hid (S.gcode a = 0) := eC
   clear HM HR9 HTT HRQ HW HW2 EG EC eC hV10 hT10
   go_wp2_with fail
   go_ret
   obtain ⟨F', j1, j2⟩ := HZ.out
   exact ⟨F', by rw [HC.out]; rfl, j1, j2⟩
end
end Go.Proofs.YtnalfnlmaallmaaGreat

namespace Go.Proofs.YtnalfnlmaallmaaGreat
open Go.RowKit W Kp Stl
theorem Tile.next {L : Int -> Int} {hi : Int} : ∀ {l : List Int} {a : Int}, Tile L hi a l -> ∀ x ∈ l, x + (1 + pf (L x)) ∈ l \/ x + (1 + pf (L x)) = hi
 | [], _, _, x, hx => by cases hx
 | y :: l, a, h, x, hx => by
  obtain ⟨e, _, _, ht⟩ := h
  rcases List.mem_cons.1 hx with d | d
  ·subst d
   subst e
   match l, ht with
   | [], ht => exact Or.inr ht
   | y' :: l', ht =>
    obtain ⟨e', _⟩ := ht
    exact Or.inl (by rw [<- e']; simp)
  ·exact (Tile.next ht x d).imp (List.mem_cons_of_mem _) id
theorem tile_behind {L : Int -> Int} {hi : Int} : ∀ {l m : List Int} {a x y : Int}, Tile L hi a (l ++ m) -> x ∈ l -> y ∈ m -> x < y
 | [], _, _, _, _, _, hx, _ => by cases hx
 | u :: l, m, a, x, y, h, hx, hy => by
  obtain ⟨e, _, _, ht⟩ := h
  have hp := pf_bd (L a)
  rcases List.mem_cons.1 hx with d | d
  ·have := (ht.mem y (List.mem_append_right l hy)).1
   omega
  ·exact tile_behind ht d hy
structure LI (k : Ck) (z : C0) (s : Cs) (H D : List Int) : Prop where
  mi : MI k z s H
  bo : s.nx ∈ H \/ s.nx = (k.N : Int) + s.g
  lo : ∀ b ∈ H, b < s.nx -> Lo k s b
  ld : ∀ b ∈ D, Lo k s b
  dg : ∀ b ∈ D, b ∈ z.G
section
variable {k : Ck} {z : C0} {s t : Cs} {H D : List Int}
theorem LI.lb1 (h : LI k z s H D) (hn : hB k.N s.g s.nx = true) : ∃ H', LI k z { k.lk s s.nx with nx := s.nx + (1 + pf (k.ld s s.nx)) } H' D /\ Pg k s { k.lk s s.nx with nx := s.nx + (1 + pf (k.ld s s.nx)) } /\ ∃ H2, H' = H ++ H2 := by
 have hb := hB_yes hn
 have hnx : s.nx ∈ H := h.bo.resolve_right (by omega)
 obtain ⟨a, ho⟩ := h.mi.from (List.mem_append_right z.G hnx)
 have hbd := h.mi.bd (List.mem_append_right z.G hnx)
 have hpf := pf_bd (k.ld s s.nx)
 have hg := h.mi.ci.hg
 obtain ⟨H', m1, m2, ⟨H2, m3⟩, m4, m5, m6⟩ := h.mi.lk ho
 obtain ⟨x1, x2⟩ := lk_nx k s s.nx
 have e0 := h.mi.hd a _ ho
 have e1 := m1.hd a _ (m2.or ho)
 have mt := m1.turn (k.lk s s.nx).wk (k.lk s s.nx).ep (k.lk s s.nx).rs (s.nx + (1 + pf (k.ld s s.nx))) m1.ci.wk0 m1.ci.ep0 (by omega) (by omega)
 have hlo := h.mi.hlo _ hnx
 have m7 : ∀ b ∈ H2, s.nx < b := fun b d => tile_behind (by have := m1.full.to; rw [m3, <- List.append_assoc] at this; exact this) (List.mem_append_right z.G hnx) d
 have hsub : ∀ b, b ∈ H -> b ∈ H' := fun b d => by rw [m3]; exact List.mem_append_left _ d
 have keep : ∀ b, (∃ a, k.or z s a b) -> Lo k s b -> Lo k { k.lk s s.nx with nx := s.nx + (1 + pf (k.ld s s.nx)) } b := fun b ⟨a, o⟩ l => by
  have l2 : Lo k (k.lk s s.nx) b := Lo.go l h.mi m1 m2 o (m5 b) (m6 b)
  exact l2
 refine ⟨H', ⟨mt, ?_, fun b d lt => ?_, fun b d => keep b ⟨b, Or.inl ⟨rfl, h.dg b d⟩⟩ (h.ld b d), h.dg⟩, ⟨m2.f, m2.g, m2.cl⟩, H2, m3⟩
 ·have nn := Tile.next m1.full.to s.nx (List.mem_append_right z.G (hsub _ hnx))
  have e2 : Proofs.YtnalfnlmaallmaaGreat.ld k.N k.y (k.lk s s.nx).g (k.lk s s.nx).ws s.nx = k.ld s s.nx := e1.trans e0.symm
  rw [e2] at nn
  rcases nn with d | d
  ·rcases List.mem_append.1 d with d | d
   ·have := h.mi.zh _ d
    omega
   ·exact Or.inl d
  ·exact Or.inr d
 ·dsimp only at lt
  by_cases eb : b = s.nx
  ·subst eb
   exact m4
  ·by_cases lb : b < s.nx
   ·have hbH : b ∈ H := by
     rw [m3] at d
     rcases List.mem_append.1 d with d | d
     ·exact d
     ·exact absurd (m7 b d) (by omega)
    exact keep b (h.mi.from (List.mem_append_right z.G hbH)) (h.lo b hbH lb)
   ·have ap := m1.full.to.apart s.nx (List.mem_append_right z.G (hsub _ hnx)) b (List.mem_append_right z.G d) (by omega)
    have e2 : Proofs.YtnalfnlmaallmaaGreat.ld k.N k.y (k.lk s s.nx).g (k.lk s s.nx).ws s.nx = k.ld s s.nx := e1.trans e0.symm
    rw [e2] at ap
    omega
end
end Go.Proofs.YtnalfnlmaallmaaGreat

namespace Go.Proofs.YtnalfnlmaallmaaGreat
open Go.RowKit W Kp Stl
section
variable {k : Ck} {z : C0} {s t : Cs} {H D : List Int}
theorem LI.lift (h : LI k z s H D) {K : List Int} (ht : MI k z t K) (p : Pg k s t) (hw : t.wk = s.wk) (he : t.ep = s.ep) (hn : t.nx = s.nx) (hb : t.nx ∈ K \/ t.nx = (k.N : Int) + t.g) (hK : ∀ b ∈ K, b < t.nx -> b ∈ H) : LI k z t K D :=
 ⟨ht, hb, fun b d lt => by
  have hbH := hK b d lt
  obtain ⟨a, o⟩ := h.mi.from (List.mem_append_right z.G hbH)
  exact Lo.go (h.lo b hbH (by rw [<- hn]; exact lt)) h.mi ht p o (fun c => by rw [hw]; exact c) (fun c => by rw [he]; exact c), fun b d => Lo.go (h.ld b d) h.mi ht p (Or.inl ⟨rfl, h.dg b d⟩) (fun c => by rw [hw]; exact c) (fun c => by rw [he]; exact c), h.dg⟩
theorem LI.nxle (h : LI k z s H D) : s.nx <= (k.N : Int) + s.g := by
 rcases h.bo with d | d
 ·have := (h.mi.bdH d).2
  omega
 ·omega
theorem LI.cp (h : LI k z s H D) {a : Int} (ha : a ∈ k.T) (hf : s.f a = -1) : LI k z (k.cp s a) (H ++ [((k.N + s.g : Nat) : Int)]) D /\ Pg k s (k.cp s a) := by
 obtain ⟨m1, m2, _⟩ := h.mi.cp ha hf
 have hle := h.nxle
 refine ⟨h.lift m1 m2 rfl rfl rfl ?_ (fun b d lt => ?_), m2⟩
 ·show s.nx ∈ _ \/ _
  rcases h.bo with d | d
  ·exact Or.inl (List.mem_append_left _ d)
  ·exact Or.inl (List.mem_append_right _ (by rw [d]; simp))
 ·have lt2 : b < s.nx := lt
  rcases List.mem_append.1 d with d | d
  ·exact d
  ·rw [List.mem_singleton] at d
   omega
theorem LI.br (h : LI k z s H D) (x : Int) : ∃ H', LI k z (k.br s x).2 H' D /\ Pg k s (k.br s x).2 /\ (∃ H2, H' = H ++ H2) /\ k.yg (k.br s x).1 = false /\ (∀ x0, k.ml s x0 x -> k.ml (k.br s x).2 x0 (k.br s x).1) := by
 obtain ⟨_, _, _, m3, _, m5, _⟩ := h.mi.br x
 cases hls : k.ls s x
 ·have e : (k.br s x).2 = s := by
   unfold Ck.br
   rw [hls]
   rfl
  rw [e] at m5 ⊢
  exact ⟨H, h, Pg.refl _ _, ⟨[], by simp⟩, m3, m5⟩
 ·have e : (k.br s x).2 = k.cp s (aV x) := by
   unfold Ck.br
   rw [if_pos hls]
  have hl2 := hls
  unfold Ck.ls at hl2
  rw [Bool.and_eq_true] at hl2
  have h1 := hl2.1
  unfold Ck.yg at h1
  rw [Bool.and_eq_true] at h1
  obtain ⟨j1, j2⟩ := h.cp (a := aV x) (by simpa using h1.2) (by simpa using hl2.2)
  rw [e] at m5 ⊢
  exact ⟨_, j1, j2, ⟨_, rfl⟩, m3, m5⟩
theorem LI.kf (h : LI k z s H D) {a b i : Int} (ho : k.or z s a b) (i0 : 0 <= i) (i1 : i < pf (k.l0 z a)) : ∃ H', LI k z (k.kf s (b + 1 + i)) H' D /\ Pg k s (k.kf s (b + 1 + i)) /\ k.yg (k.ld (k.kf s (b + 1 + i)) (b + 1 + i)) = false /\ ∃ H2, H' = H ++ H2 := by
 obtain ⟨H', m1, m2, m4, m3, m5⟩ := h.br (k.ld s (b + 1 + i))
 obtain ⟨s1, s2, s3⟩ := m1.mi.st (m2.or ho) i0 i1 (m5 _ (h.mi.fd a b ho i i0 i1))
 have p := Pg.st (a := b + 1 + i) m1.mi.ci m3
 refine ⟨H', m1.lift s1 p rfl rfl rfl m1.bo (fun b d _ => d), m2.trans p, ?_, m4⟩
 unfold Ck.kf
 rw [s2]
 exact m3
end
end Go.Proofs.YtnalfnlmaallmaaGreat

namespace Go.Proofs.YtnalfnlmaallmaaGreat
open Go.RowKit W Kp Stl
section
variable {k : Ck} {z : C0} {s t : Cs} {H D : List Int}
theorem br_rs (k : Ck) (s : Cs) (x : Int) : (k.br s x).2.rs = s.rs /\ (k.br s x).2.wk = s.wk /\ (k.br s x).2.ep = s.ep /\ (k.br s x).2.nx = s.nx := by
 unfold Ck.br
 split <;> exact ⟨rfl, rfl, rfl, rfl⟩
theorem LI.roots (h : LI k z s H D) (rs : List Int) : LI k z { s with rs := rs } H D :=
 h.lift (h.mi.turn s.wk s.ep rs s.nx h.mi.ci.wk0 h.mi.ci.ep0 h.mi.ci.nx0 h.mi.ci.nx1) (Pg.turn k s s.wk s.ep rs s.nx) rfl rfl rfl h.bo (fun _ d _ => d)
theorem LI.kr (h : LI k z s H D) : ∀ n : Nat, n <= s.rs.length -> ∃ H', LI k z (k.kr s n) H' D /\ Pg k s (k.kr s n) /\ (∃ H2, H' = H ++ H2) /\ (k.kr s n).rs.length = s.rs.length /\ (∀ i, i < n -> k.yg ((k.kr s n).rs.getD i 0) = false) /\ (∀ i, n <= i -> (k.kr s n).rs.getD i 0 = s.rs.getD i 0) /\ ∀ i, i < n -> k.ml (k.kr s n) (s.rs.getD i 0) ((k.kr s n).rs.getD i 0)
 | 0, _ => ⟨H, h, Pg.refl _ _, ⟨[], by simp⟩, rfl, fun i hi => by omega, fun _ _ => rfl, fun i hi => by omega⟩
 | n + 1, hn => by
  obtain ⟨H1, m1, m2, ⟨H2, m3⟩, m4, m5, m6, m7⟩ := LI.kr h n (by omega)
  obtain ⟨H3, j1, j2, ⟨H4, j3⟩, j4, j5⟩ := m1.br ((k.kr s n).rs.getD n 0)
  obtain ⟨r1, _⟩ := br_rs k (k.kr s n) ((k.kr s n).rs.getD n 0)
  have hl : n < (k.br (k.kr s n) ((k.kr s n).rs.getD n 0)).2.rs.length := by rw [r1, m4]; omega
  have eg : ∀ i, ((k.br (k.kr s n) ((k.kr s n).rs.getD n 0)).2.rs.set n (k.br (k.kr s n) ((k.kr s n).rs.getD n 0)).1).getD i 0 = if n = i then (k.br (k.kr s n) ((k.kr s n).rs.getD n 0)).1 else (k.kr s n).rs.getD i 0 := fun i => by
   rw [getD_set _ _ _ _ hl, r1]
  have pt := Pg.turn k (k.br (k.kr s n) ((k.kr s n).rs.getD n 0)).2 (k.br (k.kr s n) ((k.kr s n).rs.getD n 0)).2.wk (k.br (k.kr s n) ((k.kr s n).rs.getD n 0)).2.ep ((k.br (k.kr s n) ((k.kr s n).rs.getD n 0)).2.rs.set n (k.br (k.kr s n) ((k.kr s n).rs.getD n 0)).1) (k.br (k.kr s n) ((k.kr s n).rs.getD n 0)).2.nx
  refine ⟨H3, j1.roots _, m2.trans (j2.trans pt), ⟨H2 ++ H4, by rw [j3, m3, List.append_assoc]⟩, ?_, fun i hi => ?_, fun i hi => ?_, fun i hi => ?_⟩
  ·show (List.set _ _ _).length = _
   rw [List.length_set, r1, m4]
  ·show k.yg ((List.set _ _ _).getD i 0) = false
   rw [eg]
   split
   ·exact j4
   ·exact m5 i (by omega)
  ·show (List.set _ _ _).getD i 0 = _
   rw [eg, if_neg (by omega)]
   exact m6 i (by omega)
  ·show k.ml _ _ ((List.set _ _ _).getD i 0)
   rw [eg]
   by_cases e : n = i
   ·rw [if_pos e]
    subst e
    have h1 := j5 (s.rs.getD n 0) (Or.inl (m6 n (Nat.le_refl _)))
    exact h1
   ·rw [if_neg e]
    exact (j2.trans pt).ml (m7 i (by omega))
end
end Go.Proofs.YtnalfnlmaallmaaGreat

namespace Go.Proofs.YtnalfnlmaallmaaGreat
open Go.RowKit W Kp Stl
theorem tile_more {L L' : Int -> Int} {hi hi' : Int} : ∀ {l m : List Int} {a : Int}, Tile L hi a l -> Tile L' hi' a (l ++ m) -> (∀ x ∈ l, L' x = L x) -> (hi ∈ m \/ hi = hi') /\ ∀ y ∈ m, hi <= y
 | [], m, a, h, h', _ => by
  have e : a = hi := h
  subst e
  refine ⟨?_, fun y hy => (h'.mem y hy).1⟩
  match m, h' with
  | [], h' => exact Or.inr h'
  | y :: m', h' =>
   obtain ⟨e', _⟩ := h'
   exact Or.inl (by rw [<- e']; simp)
 | u :: l, m, a, h, h', he => by
  obtain ⟨e, _, _, ht⟩ := h
  obtain ⟨_, _, _, ht'⟩ := h'
  have e2 := he u (by simp)
  rw [e] at e2
  rw [e2] at ht'
  exact tile_more ht ht' (fun x hx => he x (List.mem_cons_of_mem _ hx))
section
variable {k : Ck} {z : C0} {s t : Cs} {H D : List Int}
theorem LI.lk (h : LI k z s H D) {b : Int} (hb : b ∈ z.G) : ∃ H', LI k z (k.lk s b) H' (b :: D) /\ Pg k s (k.lk s b) /\ ∃ H2, H' = H ++ H2 := by
 have ho : k.or z s b b := Or.inl ⟨rfl, hb⟩
 obtain ⟨H', m1, m2, ⟨H2, m3⟩, m4, m5, m6⟩ := h.mi.lk ho
 obtain ⟨x1, x2⟩ := lk_nx k s b
 have tm := tile_more (l := z.G ++ H) (m := H2) h.mi.full.to (by have := m1.full.to; rw [m3, <- List.append_assoc] at this; exact this) (fun x hx => by
  obtain ⟨a, o⟩ := h.mi.from hx
  exact (m1.hd a x (m2.or o)).trans (h.mi.hd a x o).symm)
 have hle := h.nxle
 refine ⟨H', ⟨m1, ?_, fun c d lt => ?_, fun c d => ?_, fun c d => ?_⟩, m2, H2, m3⟩
 ·rw [x1]
  rcases h.bo with d | d
  ·exact Or.inl (by rw [m3]; exact List.mem_append_left _ d)
  ·rw [d]
   exact tm.1.imp (fun e => by rw [m3]; exact List.mem_append_right _ e) id
 ·rw [x1] at lt
  have hcH : c ∈ H := by
   rw [m3] at d
   rcases List.mem_append.1 d with d | d
   ·exact d
   ·have := tm.2 c d
    omega
  obtain ⟨a, o⟩ := h.mi.from (List.mem_append_right z.G hcH)
  exact Lo.go (h.lo c hcH lt) h.mi m1 m2 o (m5 c) (m6 c)
 ·rcases List.mem_cons.1 d with d | d
  ·rw [d]; exact m4
  ·exact Lo.go (h.ld c d) h.mi m1 m2 (Or.inl ⟨rfl, h.dg c d⟩) (m5 c) (m6 c)
 ·rcases List.mem_cons.1 d with d | d
  ·rw [d]; exact hb
  ·exact h.dg c d
end
end Go.Proofs.YtnalfnlmaallmaaGreat

namespace Go.Proofs.YtnalfnlmaallmaaGreat
open Go.RowKit W Kp Stl
structure WE (k : Ck) (z : C0) (s : Cs) (H : List Int) : Prop where
  wk : ∀ a ∈ s.wk, a ∈ z.G ++ H /\ pk (k.ld s a) = 3
  ep : ∀ a ∈ s.ep, a ∈ z.G ++ H /\ pk (k.ld s a) = 4
section
variable {k : Ck} {z : C0} {s t : Cs} {H K D : List Int}
theorem Pg.hd (p : Pg k s t) (h : MI k z s H) (ht : MI k z t K) {b : Int} (hb : b ∈ z.G ++ H) : k.ld t b = k.ld s b := by
 obtain ⟨a, o⟩ := h.from hb
 exact (ht.hd a b (p.or o)).trans (h.hd a b o).symm
theorem mem_more {G H K : List Int} {x : Int} (h : ∃ H2, K = H ++ H2) (hx : x ∈ G ++ H) : x ∈ G ++ K := by
 obtain ⟨H2, e⟩ := h
 rw [e, <- List.append_assoc]
 exact List.mem_append_left _ hx
theorem WE.go (w : WE k z s H) (h : MI k z s H) (ht : MI k z t K) (p : Pg k s t) (hK : ∃ H2, K = H ++ H2) (e1 : t.wk = s.wk) (e2 : t.ep = s.ep) : WE k z t K :=
 ⟨fun a ha => by
  rw [e1] at ha
  obtain ⟨m1, m2⟩ := w.wk a ha
  exact ⟨mem_more hK m1, by rw [p.hd h ht m1]; exact m2⟩, fun a ha => by
  rw [e2] at ha
  obtain ⟨m1, m2⟩ := w.ep a ha
  exact ⟨mem_more hK m1, by rw [p.hd h ht m1]; exact m2⟩⟩
theorem lk_we (k : Ck) (s : Cs) (b : Int) : ((k.lk s b).wk = s.wk \/ (pk (k.ld s b) = 3 /\ (k.lk s b).wk = s.wk ++ [b])) /\ ((k.lk s b).ep = s.ep \/ (pk (k.ld s b) = 4 /\ (k.lk s b).ep = s.ep ++ [b])) := by
 unfold Ck.lk
 split
 ·exact ⟨Or.inl (kfs_wk _ _ _ _).1, Or.inl (kfs_wk _ _ _ _).2.1⟩
 ·split
  ·rename_i e
   exact ⟨Or.inr ⟨e, (kf_wk _ _ _).1⟩, Or.inl (kf_wk _ _ _).2.1⟩
  ·split
   ·rename_i e
    exact ⟨Or.inl rfl, Or.inr ⟨e, rfl⟩⟩
   ·exact ⟨Or.inl rfl, Or.inl rfl⟩
theorem WE.lk (w : WE k z s H) (h : MI k z s H) {b : Int} (hb : b ∈ z.G ++ H) (ht : MI k z (k.lk s b) K) (p : Pg k s (k.lk s b)) (hK : ∃ H2, K = H ++ H2) : WE k z (k.lk s b) K := by
 obtain ⟨c1, c2⟩ := lk_we k s b
 refine ⟨fun a ha => ?_, fun a ha => ?_⟩
 ·rcases c1 with e | ⟨e3, e⟩
  ·rw [e] at ha
   obtain ⟨m1, m2⟩ := w.wk a ha
   exact ⟨mem_more hK m1, by rw [p.hd h ht m1]; exact m2⟩
  ·rw [e] at ha
   rcases List.mem_append.1 ha with d | d
   ·obtain ⟨m1, m2⟩ := w.wk a d
    exact ⟨mem_more hK m1, by rw [p.hd h ht m1]; exact m2⟩
   ·rw [List.mem_singleton] at d
    subst d
    exact ⟨mem_more hK hb, by rw [p.hd h ht hb]; exact e3⟩
 ·rcases c2 with e | ⟨e3, e⟩
  ·rw [e] at ha
   obtain ⟨m1, m2⟩ := w.ep a ha
   exact ⟨mem_more hK m1, by rw [p.hd h ht m1]; exact m2⟩
  ·rw [e] at ha
   rcases List.mem_append.1 ha with d | d
   ·obtain ⟨m1, m2⟩ := w.ep a d
    exact ⟨mem_more hK m1, by rw [p.hd h ht m1]; exact m2⟩
   ·rw [List.mem_singleton] at d
    subst d
    exact ⟨mem_more hK hb, by rw [p.hd h ht hb]; exact e3⟩
theorem LI.kf2 (h : LI k z s H D) {b : Int} (hb : b ∈ z.G ++ H) (h4 : pk (k.ld s b) = 4) : ∃ H', LI k z (k.kf (k.kf s (b + 1)) (b + 2)) H' D /\ Pg k s (k.kf (k.kf s (b + 1)) (b + 2)) /\ (∃ H2, H' = H ++ H2) /\ k.yg (k.ld (k.kf (k.kf s (b + 1)) (b + 2)) (b + 1)) = false /\ k.yg (k.ld (k.kf (k.kf s (b + 1)) (b + 2)) (b + 2)) = false := by
 obtain ⟨a, o⟩ := h.mi.from hb
 have hbd := h.mi.bd hb
 have f2 := pf_two hbd.2.2 (Or.inr (Or.inr h4))
 have e0 := h.mi.hd a b o
 obtain ⟨H1, m1, m2, m3, ⟨H2, m4⟩⟩ := h.kf (i := 0) o (by omega) (by rw [<- e0]; omega)
 obtain ⟨H3, j1, j2, j3, ⟨H4, j4⟩⟩ := m1.kf (i := 1) (m2.or o) (by omega) (by rw [<- e0]; omega)
 have x1 : b + 1 + 0 = b + 1 := by omega
 have x2 : b + 1 + 1 = b + 2 := by omega
 rw [x1] at m1 m2 m3 j1 j2 j3
 rw [x2] at j1 j2 j3
 exact ⟨H3, j1, m2.trans j2, ⟨H2 ++ H4, by rw [j4, m4, List.append_assoc]⟩, j2.cl _ (by omega) (by have := m2.g; omega) m3, j3⟩
theorem LI.kvf : ∀ (l left : List Int) {s : Cs} {H : List Int}, LI k z s H D -> (∀ a ∈ l, a ∈ z.G ++ H /\ pk (k.ld s a) = 4) -> ∃ H', LI k z (l.foldl k.kv1 (left, s)).2 H' D /\ Pg k s (l.foldl k.kv1 (left, s)).2 /\ (∃ H2, H' = H ++ H2) /\ (l.foldl k.kv1 (left, s)).2.wk = s.wk /\ (l.foldl k.kv1 (left, s)).2.ep = s.ep /\ (∀ a ∈ l, a ∈ (l.foldl k.kv1 (left, s)).1 \/ (k.yg (k.ld (l.foldl k.kv1 (left, s)).2 (a + 1)) = false /\ k.yg (k.ld (l.foldl k.kv1 (left, s)).2 (a + 2)) = false)) /\ (∀ a ∈ left, a ∈ (l.foldl k.kv1 (left, s)).1) /\ ∀ a ∈ (l.foldl k.kv1 (left, s)).1, a ∈ left \/ a ∈ l
 | [], left, s, H, h, _ => ⟨H, h, Pg.refl _ _, ⟨[], by simp⟩, rfl, rfl, fun a ha => (by cases ha), fun _ d => d, fun _ d => Or.inl d⟩
 | b :: l, left, s, H, h, hl => by
  rw [List.foldl_cons]
  cases hls : k.ls s (k.ld s (b + 1))
  ·have e1 : k.kv1 (left, s) b = (left, k.kf (k.kf s (b + 1)) (b + 2)) := by
    unfold Ck.kv1
    rw [if_neg (by rw [hls]; simp)]
   rw [e1]
   obtain ⟨hb1, hb2⟩ := hl b (by simp)
   obtain ⟨H1, m1, m2, m3, m4, m5⟩ := h.kf2 hb1 hb2
   obtain ⟨H3, j1, j2, j3, j4, j5, j6, j7, j8⟩ := LI.kvf l left m1 (fun a ha => by
    obtain ⟨n1, n2⟩ := hl a (List.mem_cons_of_mem _ ha)
    exact ⟨mem_more m3 n1, by rw [m2.hd h.mi m1.mi n1]; exact n2⟩)
   obtain ⟨w1, w2, _⟩ := kf_wk k s (b + 1)
   obtain ⟨w3, w4, _⟩ := kf_wk k (k.kf s (b + 1)) (b + 2)
   have hbd := h.mi.bd hb1
   have f2 := pf_two hbd.2.2 (Or.inr (Or.inr hb2))
   have hg := m2.g
   refine ⟨H3, j1, m2.trans j2, ?_, j4.trans (w3.trans w1), j5.trans (w4.trans w2), fun a ha => ?_, j7, fun a ha => (j8 a ha).imp id (List.mem_cons_of_mem _)⟩
   ·obtain ⟨A1, x1⟩ := m3
    obtain ⟨A2, x2⟩ := j3
    exact ⟨A1 ++ A2, by rw [x2, x1, List.append_assoc]⟩
   ·rcases List.mem_cons.1 ha with d | d
    ·subst d
     exact Or.inr ⟨j2.cl _ (by omega) (by omega) m4, j2.cl _ (by omega) (by omega) m5⟩
    ·exact j6 a d
  ·have e1 : k.kv1 (left, s) b = (left ++ [b], s) := by
    unfold Ck.kv1
    rw [if_pos hls]
   rw [e1]
   obtain ⟨H3, j1, j2, j3, j4, j5, j6, j7, j8⟩ := LI.kvf l (left ++ [b]) h (fun a ha => hl a (List.mem_cons_of_mem _ ha))
   refine ⟨H3, j1, j2, j3, j4, j5, fun a ha => ?_, fun a d => j7 a (List.mem_append_left _ d), fun a ha => ?_⟩
   ·rcases List.mem_cons.1 ha with d | d
    ·exact Or.inl (j7 a (by rw [d]; simp))
    ·exact j6 a d
   ·rcases j8 a ha with d | d
    ·rcases List.mem_append.1 d with d | d
     ·exact Or.inl d
     ·rw [List.mem_singleton] at d
      exact Or.inr (by rw [d]; simp)
    ·exact Or.inr (List.mem_cons_of_mem _ d)
end
end Go.Proofs.YtnalfnlmaallmaaGreat
