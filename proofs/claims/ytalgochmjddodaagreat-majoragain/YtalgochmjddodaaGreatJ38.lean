/- Joined: Mg9, Mg10, Wv3, Wv4, Ms4, Vw9, Ws21, OpenC, Ref, Ref2, Rm. -/
import Derived.Test.YtalgochmjddodaaGreatJ37
import Derived.Test.YtalgochmjddodaaGreatJ36
import Derived.Test.YtalgochmjddodaaGreatJ24
import Derived.Test.YtalgochmjddodaaGreatJ03
import Derived.Test.YtalgochmjddodaaGreatJ35
import Derived.Test.YtalgochmjddodaaGreatJ04
import Derived.Lib.SmallJoins
import Derived.Test.YtalgochmjddodaaGreatJ01
namespace Go.Proofs.YtalgochmjddodaaGreat
open Go.RowKit W Kp Stl
def Eo (a : Wc) (W : Ww) : Prop := ∀ e, (e ∈ W.r \/ e ∈ W.q) -> tB a.N W.s.y W.s.g W.s.ws e.1 = true /\ tB a.N W.s.y W.s.g W.s.ws e.2 = true
section
variable {a : Wc} {S : Ww} {Y G : List Int}
theorem tB_iff {N O y g : Nat} {ws Y G : List Int} (h : Full2 N y g ws Y G) (hN : N <= 256) (hy : y <= N) (hO : O <= 1024) (hg : g <= O) {x : Int} : tB N y g ws x = true ↔ aB x = true /\ (aV x ∈ Y \/ aV x ∈ G) := by
 refine ⟨tB_mem (O := O) h hN hy hO hg, fun ⟨h1, h2⟩ => ?_⟩
 obtain ⟨e1, e2⟩ := h.lists (O := O) hN hy hO hg
 unfold tB
 rw [h1, e1, e2]
 rcases h2 with q | q
 ·rw [List.contains_iff_mem.2 q]
  rfl
 ·rw [List.contains_iff_mem.2 q, Bool.or_true]
  rfl
theorem jt_tB (h : KInv a S.s Y G) (hb : Wbd a S.s) {x : Int} : (S.s.j0 a).jt x = true ↔ tB a.N S.s.y S.s.g S.s.ws x = true := by
 obtain ⟨_, _, l3⟩ := j0_lists h.inv.full hb
 rw [tB_iff (O := a.O) h.inv.full hb.n1 hb.y1 hb.o1 hb.g1]
 unfold Jk.jt
 rw [l3, Bool.and_eq_true]
 constructor
 ·rintro ⟨h1, h2⟩
  exact ⟨h1, (List.mem_append.1 (List.contains_iff_mem.1 h2)).symm⟩
 ·rintro ⟨h1, h2⟩
  exact ⟨h1, List.contains_iff_mem.2 (List.mem_append.2 h2.symm)⟩
theorem Eo.ok (h : Eo a S) (hk : KInv a S.s Y G) (hb : Wbd a S.s) : Eok (S.s.j0 a) S.r /\ Eok (S.s.j0 a) S.q :=
 ⟨fun e he => ⟨(jt_tB hk hb).2 (h e (Or.inl he)).1, (jt_tB hk hb).2 (h e (Or.inl he)).2⟩, fun e he => ⟨(jt_tB hk hb).2 (h e (Or.inr he)).1, (jt_tB hk hb).2 (h e (Or.inr he)).2⟩⟩
theorem waits_ok (hI : JI (S.s.j0 a) js0) (hr : Eok (S.s.j0 a) S.r) (hq : Eok (S.s.j0 a) S.q) : ∀ e ∈ ((S.s.j0 a).sS (S.j2 a) S.r).2, (S.s.j0 a).jt e.1 = true /\ (S.s.j0 a).jt e.2 = true := by
 obtain ⟨h1, _, _⟩ := (Mg.start (X := fun _ => False) hI).kr 12
 obtain ⟨dd1, _, dd3⟩ := Mg.sp (t := ((S.s.j0 a).kr js0 12, S.q)) h1
 have dd3 : (S.j2 a).2 = S.q := dd3
 have dd1 : Dn (S.s.j0 a) (S.j2 a).1 (S.j2 a).2 := dd1
 have key : ∀ (n : Nat) (t : Js × List En) (d : List En), Dn (S.s.j0 a) t.1 t.2 -> Eok (S.s.j0 a) t.2 -> Eok (S.s.j0 a) d -> Eok (S.s.j0 a) (trn (S.s.j0 a).cmJ n t d).1.2 := fun n => by
  have pl : ∀ (l : List En) (u : List En × List En × (Js × List En)), Dn (S.s.j0 a) u.2.2.1 u.2.2.2 -> Eok (S.s.j0 a) u.2.2.2 -> Eok (S.s.j0 a) l -> Eok (S.s.j0 a) (l.foldl (pstep (S.s.j0 a).cmJ) u).2.2.2 := fun l => by
   induction l with
   | nil => intro u _ hu _; exact hu
   | cons e l ih =>
    intro u du hu hl
    rw [List.foldl_cons]
    have kk : (pstep (S.s.j0 a).cmJ u e).2.2 = ((S.s.j0 a).cmJ u.2.2 e).2 := by
     unfold pstep
     split <;> rfl
    have dc := (du.cm e).1
    refine ih _ (by rw [kk]; exact dc) ?_ (fun b hb => hl b (List.mem_cons_of_mem _ hb))
    rw [kk]
    cases c : (S.s.j0 a).al u.2.2.1 e.1
    ·have e1 : (S.s.j0 a).cmJ u.2.2 e = (false, u.2.2) := cm_no (o := noSd Js) (is := fun s x => (S.s.j0 a).al s.1 x) (kp := (S.s.j0 a).ke) (s := u.2.2) (e := e) c
     rw [e1]
     exact hu
    ·obtain ⟨_, _, h3, _⟩ := du.mg.ke e.2
     have e1 : (S.s.j0 a).cmJ u.2.2 e = (true, (((S.s.j0 a).ke u.2.2 e.2).2.1, u.2.2.2 ++ [e])) := by
      refine (cm_yes (o := noSd Js) (is := fun s x => (S.s.j0 a).al s.1 x) (kp := (S.s.j0 a).ke) (s := u.2.2) (e := e) c).trans ?_
      show (true, (((S.s.j0 a).ke u.2.2 e.2).2.1, ((S.s.j0 a).ke u.2.2 e.2).2.2 ++ [(e.1, e.2)])) = _
      rw [h3]
     rw [e1]
     intro b hb
     rcases List.mem_append.1 hb with hb | hb
     ·exact hu b hb
     ·rw [List.mem_singleton.1 hb]
      exact hl e (by simp)
  induction n with
  | zero => intro t d _ ht _; exact ht
  | succ n ih =>
   intro t d dt ht hd
   have p1 : Eok (S.s.j0 a) (pts (S.s.j0 a).cmJ t d).2.2.2 := pl d ([], [], t) dt ht hd
   by_cases c : (pts (S.s.j0 a).cmJ t d).1.length = 0
   ·rw [trn_stop _ _ _ _ c]
    exact p1
   ·rw [trn_go _ _ _ _ c]
    exact ih _ _ (Dn.pl d ([], [], t) dt).1 p1 (fun e he => hd e (pts_mem _ t d e (Or.inr he)))
 exact key _ (S.j2 a) _ dd1 (by rw [dd3]; exact hq) (fun e he => hr e (List.mem_filter.1 he).1)
theorem Eo.gcut (h : Eo a S) (hk : KInv a S.s Y G) (hb : Wbd a S.s) : Eo a (S.gcut a) := by
 cases hf : S.jfull a
 ·have hI : JI (S.s.j0 a) js0 := JI.start hb.n1 hb.o1 hb.y1 hb.g1
  obtain ⟨hr, hq⟩ := h.ok hk hb
  obtain ⟨d1, d2, _⟩ := settled_all (S := S) hI
  obtain ⟨_, _, l3⟩ := j0_lists hk.inv.full hb
  obtain ⟨_, g, e5⟩ := great_in hk hb hf
  obtain ⟨K1, B1⟩ := g.gc.inv hk hb g.al
  have hq3 := waits_ok (S := S) hI hr hq
  have hN := hb.n1
  have hO := hb.o1
  have hgo := g.gc.g
  have bnd : ∀ c ∈ G ++ Y, (S.j4 a).f c ≠ -1 -> 0 <= (S.j4 a).f c /\ (S.j4 a).f c < 1000000 := fun c hc hfc => by
   have q1 := g.gc.bd c hc hfc
   have q2 := pf_bd (ld a.N S.s.y S.s.g S.s.ws c)
   omega
  have alf : ∀ x, (S.s.j0 a).jt x = true -> (S.s.j0 a).al (S.j3 a) x = true -> (S.j4 a).f (aV x) ≠ -1 := fun x hj ha q => by
   have hm := jt_mem hj
   rw [l3] at hm
   unfold Jk.al at ha
   have q2 : (S.s.j0 a).jl (S.j3 a) x = false := by simpa using ha
   exact (Jk.jl_no hj).1 q2 ((g.iff _ hm).1 q)
  have key : ∀ x, (S.s.j0 a).jt x = true -> (S.s.j0 a).al (S.j3 a) x = true -> tB a.N (S.gcut a).s.y (S.gcut a).s.g (S.gcut a).s.ws ((S.s.j0 a).nw (S.j4 a) x) = true := fun x hj ha => by
   have hm := jt_mem hj
   rw [l3] at hm
   have hfx := alf x hj ha
   obtain ⟨_, q2, q3⟩ := nw_to hj hfx (bnd _ hm hfx)
   refine (tB_iff (O := a.O) K1.inv.full B1.n1 B1.y1 B1.o1 B1.g1).2 ⟨q2, Or.inr ?_⟩
   rw [q3]
   exact lf_mem.2 ⟨_, hm, hfx, rfl⟩
  obtain ⟨_, t2, t3, _⟩ := tlA_ld (s := S.j4 a) (k := S.s.j0 a) ⟨hb.l1, hb.y1, hb.g1⟩ hb.r1 hI.nd (j0_whl hk.inv.full hb) (j0_ap hk.inv.full hb)
  have t2 : (S.k5 a).Y = (S.s.j0 a).Y := t2
  have t3 : (S.k5 a).G = (S.s.j0 a).G := t3
  intro e he
  rcases he with he | he
  ·have eG : (S.gcut a).r = (S.k5 a).tR (S.j4 a, S.q3 a) (S.r3 a) := by unfold Ww.gcut; rw [hf, if_neg (by simp)]
   rw [eG] at he
   have he : e ∈ (((S.r3 a).filter (fun e => (S.k5 a).al (S.j4 a) e.2)).filter (fun e => (S.k5 a).al ((S.k5 a).tS (S.j4 a, S.q3 a) (S.r3 a)).1 e.1)).map fun e => ((S.k5 a).nw ((S.k5 a).tS (S.j4 a, S.q3 a) (S.r3 a)).1 e.1, (S.k5 a).nw ((S.k5 a).tS (S.j4 a, S.q3 a) (S.r3 a)).1 e.2) := he
   have e5 : ((S.k5 a).tS (S.j4 a, S.q3 a) (S.r3 a)).1 = S.j4 a := e5
   rw [e5] at he
   obtain ⟨e0, h1, h2⟩ := List.mem_map.1 he
   have h3 := (List.mem_filter.1 (List.mem_filter.1 h1).1).1
   have h3 : e0 ∈ ((S.r.filter (fun e => (S.s.j0 a).al (S.j2 a).1 e.2)).filter (fun e => (S.s.j0 a).al (S.j3 a) e.1)).map fun e => ((S.s.j0 a).nw (S.j3 a) e.1, (S.s.j0 a).nw (S.j3 a) e.2) := h3
   obtain ⟨e1, h4, h5⟩ := List.mem_map.1 h3
   obtain ⟨h6, h7⟩ := List.mem_filter.1 h4
   obtain ⟨h8, h9⟩ := List.mem_filter.1 h6
   rw [d1.mg.nw, d1.mg.nw] at h5
   have h5 : e1 = e0 := h5
   rw [h5] at h7 h8 h9
   obtain ⟨q1, q2⟩ := hr e0 h8
   rw [<- h2, Jk.nw_of (k := S.k5 a) (k0 := S.s.j0 a) _ _ t2 t3, Jk.nw_of (k := S.k5 a) (k0 := S.s.j0 a) _ _ t2 t3]
   exact ⟨key _ q1 h7, key _ q2 (al_le d2 h9)⟩
  ·rw [q5_of hk hb hf] at he
   obtain ⟨e0, h1, h2⟩ := List.mem_map.1 he
   obtain ⟨h3, h4⟩ := List.mem_filter.1 h1
   obtain ⟨q1, q2⟩ := hq3 e0 h3
   rw [<- h2]
   refine ⟨key _ q1 h4, key _ q2 ?_⟩
   rcases d1.wq e0 h3 with q | q
   ·exact q
   ·have h4 : (S.s.j0 a).al (S.j3 a) e0.1 = true := h4
    rw [h4] at q
    cases q
 ·have eG : S.gcut a = S := by unfold Ww.gcut; rw [if_pos hf]
  rw [eG]
  exact h
theorem Eo.more {W : Ww} {s' : Wst} {Y' G' : List Int} (h : Eo a W) (hk : KInv a W.s Y G) (hb : Wbd a W.s) (hF : Full2 a.N s'.y s'.g s'.ws Y' G') (hy : s'.y <= a.N) (hg : s'.g <= a.O) (hs : ∀ v, (v ∈ Y \/ v ∈ G) -> (v ∈ Y' \/ v ∈ G')) : Eo a ⟨s', W.r, W.q⟩ := fun e he => by
 have key : ∀ x, tB a.N W.s.y W.s.g W.s.ws x = true -> tB a.N s'.y s'.g s'.ws x = true := fun x hx => by
  obtain ⟨q1, q2⟩ := (tB_iff (O := a.O) hk.inv.full hb.n1 hb.y1 hb.o1 hb.g1).1 hx
  exact (tB_iff (O := a.O) hF hb.n1 hy hb.o1 hg).2 ⟨q1, hs _ q2⟩
 obtain ⟨q1, q2⟩ := h e he
 exact ⟨key _ q1, key _ q2⟩
theorem Eo.do {c : Bc} {S : Ww × Wrs} (h : Eo c.a S.1) (hk : KInv c.a S.1.s Y G) (hb : Wbd c.a S.1.s) (d A B C : Int) : Eo c.a (doS c S d A B C).1 := by
 have same : ∀ rs M, Eo c.a ⟨{ S.1.s with rs := rs, M := M }, S.1.r, S.1.q⟩ := fun rs M e he => h e he
 unfold doS
 split
 ·unfold boM
  dsimp only
  cases hm : mkB c.a.N S.1.s.y A B
  ·have e1 : mkY c.a.N S.1.s.y A B = S.1.s.y := by unfold mkY; rw [hm]; rfl
   have e2 : mkW c.a.N S.1.s.y A B S.1.s.ws = S.1.s.ws := by unfold mkW; rw [hm]; rfl
   rw [e1, e2]
   exact fun e he => h e he
  ·have m1 := hk.inv.make (O := c.a.O) hb.l1 hm
   obtain ⟨q1, q2⟩ := mkB_yes hm
   have hf := hc_bd A B q1
   have eY : mkY c.a.N S.1.s.y A B = S.1.s.y + 1 + B.toNat := by unfold mkY; rw [if_pos hm]
   exact h.more hk hb m1.full (by dsimp only; rw [eY]; omega) hb.g1 (fun v hv => hv.imp (fun q => List.mem_append_left _ q) id)
 split
 ·unfold boS
  dsimp only
  exact h.more hk hb (hk.inv.full.stW hb.l1 hb.n1 hb.y1 hb.o1 hb.g1 _ _ _) hb.y1 hb.g1 (fun v hv => hv)
 split
 ·exact fun e he => h e he
 split
 ·exact fun e he => h e he
 split
 ·exact fun e he => h e he
 split
 ·unfold boR Ww.rW
  dsimp only
  split
  ·rename_i hr
   split
   ·exact h
   ·intro e he
    rcases he with he | he
    ·rcases List.mem_append.1 he with he | he
     ·exact h e (Or.inl he)
     ·rw [List.mem_singleton.1 he]
      have hr := of_decide_eq_true hr
      have kE : ∀ i, S.1.kE c.a i = 0 -> tB c.a.N S.1.s.y S.1.s.g S.1.s.ws (S.1.s.rs.getD i 0) = true := fun i hi => by
       unfold Ww.kE at hi
       split at hi
       ·assumption
       ·omega
      exact ⟨kE _ hr.1, kE _ hr.2.1⟩
    ·exact h e (Or.inr he)
  ·exact h
 ·exact h
end
end Go.Proofs.YtalgochmjddodaaGreat

namespace Go.Proofs.YtalgochmjddodaaGreat
open Go.RowKit W Kp Stl
structure Agn (a : Wc) (W : Ww) : Prop where
  c : W.cut a = W
  d : W.code a = 0
  sl : W.jfull a = false -> ∃ F, SlG (W.k5 a) (W.j5 a) F /\ F 0 (W.k5 a, 0)
  g : W.gcode a = 0
  u : (W.gcut a).s.g = W.s.g
  v : vwL a.N (W.gcut a).s.y (W.gcut a).s.g (W.gcut a).s.ws (W.gcut a).q (W.gcut a).s.rs = vwL a.N W.s.y W.s.g W.s.ws W.q W.s.rs
  z : szV (vwL a.N W.s.y W.s.g W.s.ws W.q W.s.rs).2.2 <= W.s.g
theorem again_pure {a : Wc} {S : Ww} {Y G : List Int} (h : KInv a S.s Y G) (hb : Wbd a S.s) (he : Eo a S) : S.gcode a = 3 \/ (S.gcode a = 0 /\ Agn a (S.gcut a)) := by
 cases hf : S.jfull a
 ·right
  obtain ⟨hr, hq⟩ := he.ok h hb
  obtain ⟨_, g, _⟩ := great_in h hb hf
  obtain ⟨K1, B1⟩ := g.gc.inv h hb g.al
  have hall := again_all h hb hf hr hq
  obtain ⟨c1, c2⟩ := cut_still (a := a) (S := S.gcut a) g.gc.y g.gc.M g.gc.g
  obtain ⟨q1, ⟨_, q2⟩, _, q4, q5⟩ := great_still K1 B1 g.gc.y hall
  have hz := view_size (O := a.O) K1.inv.full B1.n1 B1.y1 B1.o1 B1.g1 (S.gcut a).q (S.gcut a).s.rs
  exact ⟨by unfold Ww.gcode; rw [hf]; rfl, c1, c2, fun _ => q2, q1, q4, q5, by have := g.gc.y; omega⟩
 ·left
  unfold Ww.gcode
  rw [if_pos hf]
end Go.Proofs.YtalgochmjddodaaGreat

namespace Go.Proofs.YtalgochmjddodaaGreat
set_option maxRecDepth 100000
set_option maxHeartbeats 1000000
open Go.RowKit W Kp Stl
theorem sameVals_eq (a b : Option Addr) (ca cb : Nat) (l : List (Int × Int)) (w : World) (hm : l.length <= 100000) (ha : Lp w a l) (hb : Lp w b l) :
  Calls Tryz.prog 83 #[.slice a l.length ca, .slice b l.length cb] w fun e w' => e = .returned (.bool true) /\ Below w.heap.size w w' := by
 have HA : Hid (Lp w a l) := ha
 have HB : Hid (Lp w b l) := hb
 clear ha hb
 go_enter Tryz.func83, Tryz.ntmps83
 go_wp2_with fail
 go_loopw [5] (fun iv wr => ∃ j : Nat, j <= l.length /\ iv = .int .i64 j /\ Below w.heap.size w wr) (fun iv _ => l.length - (intOf iv).toNat)
 case atStart => exact ⟨0, Nat.zero_le _, rfl, Below.refl _ _⟩
 case round =>
  obtain ⟨j, hj, rfl, hb⟩ := hrel
  by_cases hlt : j < l.length
  ·obtain ⟨b0, o0, e0, hb0, hc⟩ := (HA.out.below hb) (by omega)
   obtain ⟨x1, x2⟩ := hc j hlt
   subst e0
   obtain ⟨b2, o2, e2, hb2, hc2⟩ := (HB.out.below hb) (by omega)
   obtain ⟨x3, x4⟩ := hc2 j hlt
   subst e2
   clear hc hc2
   generalize (l.getD j (0, 0)).1 = u at x1 x3
   generalize (l.getD j (0, 0)).2 = v at x2 x4
   have j0 : (0 : Int) <= (j : Int) := by omega
   have j1 : (j : Int) < (l.length : Int) := by omega
   go_wp2_with fail
   go_quiet (fail)
   go_wp2_with fail
   go_roundw
   case rel => exact ⟨j + 1, by omega, by go_num, by first | exact below_drewN hb _ | exact hb.drew | exact hb⟩
   case measure => simp [intOf]; omega
  ·obtain rfl : j = l.length := by omega
   go_wp2_with fail
   go_ret
   exact ⟨rfl, hb⟩
end Go.Proofs.YtalgochmjddodaaGreat

namespace Go.Proofs.YtalgochmjddodaaGreat
set_option maxRecDepth 100000
set_option maxHeartbeats 2000000
open Go.RowKit W Kp Stl
theorem Ln.at {w : World} {ad : Option Addr} {ns : List (Int × List (Int × Int))} (h : Ln w ad ns) {i : Nat} (hi : i < ns.length) : ∃ b o fa fc, ad = some ⟨b, o, none⟩ /\ b < w.heap.size /\ w.cell? ⟨b, o + i * 2, none⟩ = some (.int .i64 (ns.getD i (0, [])).1) /\ w.cell? ⟨b, o + i * 2 + 1, none⟩ = some (.slice fa (ns.getD i (0, [])).2.length fc) /\ Lp w fa (ns.getD i (0, [])).2 := by
 obtain ⟨m, h1, h2, h3⟩ := h
 have hl : m.length = ns.length := by rw [<- h1]; simp [nds]
 obtain ⟨b, o, e, hb, hc⟩ := h3 (by omega)
 obtain ⟨x, hx⟩ : ∃ x, m[i]? = some x := ⟨_, List.getElem?_eq_getElem (by omega)⟩
 have en : ns.getD i (0, []) = (x.1, x.2.2.2) := by
  subst h1
  rw [List.getD_eq_getElem?_getD, nds, List.getElem?_map, hx]
  rfl
 rw [en]
 exact ⟨b, o, _, _, e, hb, (hc i _ hx).1, (hc i _ hx).2, h2 _ (List.mem_of_getElem? hx)⟩
theorem sameView_eq (r1 r2 n1 n2 : Option Addr) (c1 c2 d1 d2 : Nat) (vs : List (Int × Int)) (ns : List (Int × List (Int × Int))) (w : World) (hm : vs.length <= 100000) (hl : ns.length <= 100000) (hf : ∀ nd ∈ ns, nd.2.length <= 100000) (h1 : Lp w r1 vs) (h2 : Lp w r2 vs) (h3 : Ln w n1 ns) (h4 : Ln w n2 ns) :
  Calls Tryz.prog 25 #[.agg #[.slice r1 vs.length c1, .slice n1 ns.length d1], .agg #[.slice r2 vs.length c2, .slice n2 ns.length d2]] w fun e w' => e = .returned (.bool true) /\ Below w.heap.size w w' := by
 have ba := ((Below.refl w.heap.size w).alloc (Nat.le_refl _) (.cells #[.slice r1 vs.length c1, .slice n1 ns.length d1] 52)).alloc (by simp) (.cells #[.slice r2 vs.length c2, .slice n2 ns.length d2] 52)
 have k0 : ((w.alloc (.cells #[.slice r1 vs.length c1, .slice n1 ns.length d1] 52)).alloc (.cells #[.slice r2 vs.length c2, .slice n2 ns.length d2] 52)).cell? ⟨w.heap.size, 1, none⟩ = some (.slice n1 ns.length d1) := by simp [go_sem]
 have k1 : ((w.alloc (.cells #[.slice r1 vs.length c1, .slice n1 ns.length d1] 52)).alloc (.cells #[.slice r2 vs.length c2, .slice n2 ns.length d2] 52)).cell? ⟨w.heap.size + 1, 1, none⟩ = some (.slice n2 ns.length d2) := by simp [go_sem]
 have hs0 : ((w.alloc (.cells #[.slice r1 vs.length c1, .slice n1 ns.length d1] 52)).alloc (.cells #[.slice r2 vs.length c2, .slice n2 ns.length d2] 52)).heap.size = w.heap.size + 2 := by simp
 have P := sameVals_eq r1 r2 c1 c2 vs _ hm (h1.below ba) (h2.below ba)
 have H3 : Hid (∀ w', Below w.heap.size w w' -> Ln w' n1 ns) := fun w' hb => h3.below hb
 have H4 : Hid (∀ w', Below w.heap.size w w' -> Ln w' n2 ns) := fun w' hb => h4.below hb
 have HF : Hid (∀ nd ∈ ns, nd.2.length <= 100000) := hf
 clear h1 h2 h3 h4 hf
 go_enter Tryz.func25, Tryz.ntmps25
 go_wp2_with fail
 refine P.mono ?_
 clear P
 rintro e w1 ⟨rfl, hb1⟩
 have hB1 := ba.trans (hb1.mono (by omega))
 have hs1 := hb1.size
 rw [hs0] at hs1
 have x0 := (hb1.cell (p := ⟨w.heap.size, 1, none⟩) (by show w.heap.size < _; omega)).trans k0
 have x1 := (hb1.cell (p := ⟨w.heap.size + 1, 1, none⟩) (by show w.heap.size + 1 < _; omega)).trans k1
 clear ba k0 k1 hs0 hb1
 go_wp2_with fail
 go_loopw [5] (fun iv wr => ∃ j : Nat, j <= ns.length /\ iv = .int .i64 j /\ Below w1.heap.size w1 wr) (fun iv _ => ns.length - (intOf iv).toNat)
 case atStart => exact ⟨0, Nat.zero_le _, rfl, Below.refl _ _⟩
 case round =>
  obtain ⟨j, hj, rfl, hb⟩ := hrel
  have hsr := hb.size
  have hBr := hB1.trans (hb.mono (by omega))
  have y0 := (hb.cell (p := ⟨w.heap.size, 1, none⟩) (by show w.heap.size < _; omega)).trans x0
  have y1 := (hb.cell (p := ⟨w.heap.size + 1, 1, none⟩) (by show w.heap.size + 1 < _; omega)).trans x1
  have ly0 : w.heap.size < wr.heap.size := by omega
  have ly1 : w.heap.size + 1 < wr.heap.size := by omega
  by_cases hlt : j < ns.length
  ·obtain ⟨b1, o1, fa1, fc1, e1, l1, z1, z2, z3⟩ := (H3.out wr hBr).at hlt
   obtain ⟨b2, o2, fa2, fc2, e2, l2, z4, z5, z6⟩ := (H4.out wr hBr).at hlt
   subst e1 e2
   have hfl : (ns.getD j (0, [])).2.length <= 100000 := HF.out _ (by rw [List.getD_eq_getElem?_getD, List.getElem?_eq_getElem hlt]; exact List.getElem_mem hlt)
   generalize (ns.getD j (0, [])).1 = kd at z1 z4
   generalize (ns.getD j (0, [])).2 = fs at z2 z3 z5 z6 hfl
   have j0 : (0 : Int) <= (j : Int) := by omega
   have j1 : (j : Int) < (ns.length : Int) := by omega
   have hd := (Below.refl wr.heap.size wr).drew
   have P := sameVals_eq fa1 fa2 fc1 fc2 fs wr.drew hfl (z3.below hd) (z6.below hd)
   clear z3 z6 x0 x1
   go_wp2_with fail
   go_region_held3 (fun w' => w'.cell? ⟨w.heap.size, 1, none⟩ = some (.slice (some ⟨b1, o1, none⟩) ns.length d1) /\ w'.cell? ⟨w.heap.size + 1, 1, none⟩ = some (.slice (some ⟨b2, o2, none⟩) ns.length d2) /\ w'.cell? ⟨b1, o1 + j * 2, none⟩ = some (.int .i64 kd) /\ w'.cell? ⟨b1, o1 + j * 2 + 1, none⟩ = some (.slice fa1 fs.length fc1) /\ w'.cell? ⟨b2, o2 + j * 2, none⟩ = some (.int .i64 kd) /\ w'.cell? ⟨b2, o2 + j * 2 + 1, none⟩ = some (.slice fa2 fs.length fc2)) (first | exact ⟨y0, y1, z1, z2, z4, z5⟩ | exact ⟨u0, u1, u2, u3, u4, u5⟩ | go_keep)
    (first | (go_at_call 83; refine P.mono ?_; rintro e w3 ⟨rfl, hb3'⟩; have hb3 : Below wr.heap.size wr w3 := hd.trans hb3'; have u0 := (hb3.cell (p := ⟨w.heap.size, 1, none⟩) ly0).trans y0; have u1 := (hb3.cell (p := ⟨w.heap.size + 1, 1, none⟩) ly1).trans y1; have u2 := (hb3.cell (p := ⟨b1, o1 + j * 2, none⟩) l1).trans z1; have u3 := (hb3.cell (p := ⟨b1, o1 + j * 2 + 1, none⟩) l1).trans z2; have u4 := (hb3.cell (p := ⟨b2, o2 + j * 2, none⟩) l2).trans z4; have u5 := (hb3.cell (p := ⟨b2, o2 + j * 2 + 1, none⟩) l2).trans z5))
   have hbN : Below w1.heap.size w1 w3 := hb.trans (hb3.mono hsr)
   clear P u0 u1 u2 u3 u4 u5 y0 y1 z1 z2 z4 z5 hb3 hb3' hd
   go_wp2_with fail
   go_roundw
   case rel => exact ⟨j + 1, by omega, by go_num, hbN⟩
   case measure => simp [intOf]; omega
  ·obtain rfl : j = ns.length := by omega
   go_wp2_with fail
   go_ret
   exact ⟨rfl, hBr⟩
end Go.Proofs.YtalgochmjddodaaGreat

namespace Go.Proofs.YtalgochmjddodaaGreat
set_option maxRecDepth 100000
set_option maxHeartbeats 1000000
open Go.RowKit W Kp Stl
theorem szV_snoc (ns : List (Int × List (Int × Int))) (i : Nat) (h : i < ns.length) : szV (ns.take (i + 1)) = szV (ns.take i) + (1 + if (ns.getD i (0, [])).1 = 5 then 0 else (ns.getD i (0, [])).2.length) := by
 have e : ns.getD i (0, []) = ns[i] := by rw [List.getD_eq_getElem?_getD, List.getElem?_eq_getElem h]; rfl
 rw [List.take_succ_eq_append_getElem h, e]
 unfold szV
 rw [List.map_append, List.sum_append]
 simp only [List.map_cons, List.map_nil, List.sum_cons, List.sum_nil, Nat.add_zero]
theorem szV_le : ∀ ns : List (Int × List (Int × Int)), (∀ nd ∈ ns, nd.2.length <= 1000) -> szV ns <= ns.length * 1001
 | [], _ => Nat.le_refl _
 | nd :: ns, h => by
  have h1 := szV_le ns (fun x hx => h x (List.mem_cons_of_mem _ hx))
  have h2 := h nd (by simp)
  have e : szV (nd :: ns) = (1 + if nd.1 = 5 then 0 else nd.2.length) + szV ns := by simp [szV]
  rw [e, List.length_cons]
  split <;> omega
theorem size_any {ns : List (Int × List (Int × Int))} (r na : Option Addr) (rl rc nc : Nat) (w : World) (hl : ns.length <= 100000) (hf : ∀ nd ∈ ns, nd.2.length <= 1000) (h : Ln w na ns) :
  Calls Tryz.prog 26 #[.agg #[.slice r rl rc, .slice na ns.length nc]] w fun e w' => e = .returned (.int .i64 (szV ns)) /\ Below w.heap.size w w' := by
 have hb0 := (Below.refl w.heap.size w).alloc (Nat.le_refl _) (.cells #[.slice r rl rc, .slice na ns.length nc] 52)
 have hx0 := heap_alloc_new w (.cells #[.slice r rl rc, .slice na ns.length nc] 52)
 have HL : Hid (Ln (w.alloc (.cells #[.slice r rl rc, .slice na ns.length nc] 52)) na ns) := h.below hb0
 have HF : Hid (∀ nd ∈ ns, nd.2.length <= 1000) := hf
 clear h hf
 go_enter Tryz.func26, Tryz.ntmps26
 go_wp2_with fail
 have HB0 : Hid (Below w.heap.size w (w.alloc (.cells #[.slice r rl rc, .slice na ns.length nc] 52))) := hb0
 clear hb0
 generalize w.alloc (.cells #[.slice r rl rc, .slice na ns.length nc] 52) = w1 at *
 obtain ⟨B, hB⟩ : ∃ B, w.heap.size = B := ⟨_, rfl⟩
 rw [hB] at hx0 ⊢
 have z1 : w1.cell? ⟨B, 1, none⟩ = some (.slice na ns.length nc) := by simp [World.cell?, hx0]
 clear hx0
 go_loopw [3, 4] (fun nv iv wr => ∃ i : Nat, i <= ns.length /\ iv = .int .i64 i /\ nv = .int .i64 (szV (ns.take i)) /\ wr = w1) (fun _ iv _ => ns.length - (intOf iv).toNat)
 case atStart => exact ⟨0, Nat.zero_le _, rfl, rfl, rfl⟩
 case round =>
  obtain ⟨i, hi, rfl, rfl, rfl⟩ := hrel
  by_cases hlt : i < ns.length
  ·obtain ⟨b, oo, fa, fc, e, lb, x1, x2, _⟩ := HL.out.at hlt
   subst e
   have hs := szV_snoc ns i hlt
   have hle := szV_le (ns.take i) (fun nd hnd => HF.out nd (List.mem_of_mem_take hnd))
   rw [List.length_take] at hle
   have hfl : (ns.getD i (0, [])).2.length <= 1000 := HF.out _ (by rw [List.getD_eq_getElem?_getD, List.getElem?_eq_getElem hlt]; exact List.getElem_mem hlt)
   have hle2 : szV (ns.take i) <= 200000000 := by omega
   have i0 : (0 : Int) <= (i : Int) := by omega
   have i1 : (i : Int) < (ns.length : Int) := by omega
   generalize szV (ns.take i) = z at *
   generalize (ns.getD i (0, [])).1 = kk at *
   generalize (ns.getD i (0, [])).2.length = ff at *
   clear hle
   by_cases h5 : kk = 5
   ·subst h5
    rw [if_pos rfl] at hs
    have HZ : Hid (szV (ns.take (i + 1)) = z + (1 + 0)) := hs
    clear hs
    go_wp2_with fail
    go_roundw
    case rel => exact ⟨i + 1, by omega, by go_num, by rw [HZ.out]; go_num, trivial⟩
    case measure => simp [intOf]; omega
   ·rw [if_neg h5] at hs
    have HZ : Hid (szV (ns.take (i + 1)) = z + (1 + ff)) := hs
    clear hs
    go_wp2_with fail
    go_roundw
    case rel => exact ⟨i + 1, by omega, by go_num, by rw [HZ.out]; go_num, trivial⟩
    case measure => simp [intOf]; omega
  ·obtain rfl : i = ns.length := by omega
   rw [List.take_length]
   go_wp2_with fail
   go_ret
   exact ⟨rfl, HB0.out⟩
end Go.Proofs.YtalgochmjddodaaGreat

namespace Go.Proofs.YtalgochmjddodaaGreat
set_option maxRecDepth 100000
set_option maxHeartbeats 1000000
open Go.RowKit W Kp Stl
def LpN (w : World) (base : Nat) (ad : Option Addr) (l : List (Int × Int)) : Prop := Lp w ad l /\ (0 < l.length -> ∃ b o, ad = some ⟨b, o, none⟩ /\ base <= b)
def LnN (w : World) (base : Nat) (ad : Option Addr) (ns : List (Int × List (Int × Int))) : Prop :=
 ∃ m : List Vnd, nds m = ns /\ (∀ x ∈ m, Lp w x.2.1 x.2.2.2) /\ (∀ k, Fb m k -> base <= k) /\ (0 < m.length -> ∃ b o, ad = some ⟨b, o, none⟩ /\ base <= b /\ b < w.heap.size /\ ∀ i x, m[i]? = some x -> w.cell? ⟨b, o + i * 2, none⟩ = some (.int .i64 x.1) /\ w.cell? ⟨b, o + i * 2 + 1, none⟩ = some (.slice x.2.1 x.2.2.2.length x.2.2.1))
theorem LnN.ln {w : World} {base : Nat} {ad : Option Addr} {ns : List (Int × List (Int × Int))} (h : LnN w base ad ns) : Ln w ad ns := by
 obtain ⟨m, h1, h2, _, h4⟩ := h
 exact ⟨m, h1, h2, fun hp => by
  obtain ⟨b, o, e, _, l, c⟩ := h4 hp
  exact ⟨b, o, e, l, c⟩⟩
theorem LpN.fr {F : Nat -> Prop} {w w' : World} {base : Nat} {ad : Option Addr} {l : List (Int × Int)} (h : LpN w base ad l) (f : Fr F w w') (hF : ∀ b, F b -> b < base) : LpN w' base ad l :=
 ⟨h.1.keep f.size (fun hp b e => by
  obtain ⟨b0, o0, e0, hb⟩ := h.2 hp
  obtain ⟨b1, o1, e1, l1, _⟩ := h.1 hp
  rw [e0] at e e1
  cases e
  cases e1
  exact f.block b0 l1 (fun d => by have h9 : b0 < base := hF b0 d; omega)), h.2⟩
theorem LnN.fr {F : Nat -> Prop} {w w' : World} {base : Nat} {ad : Option Addr} {ns : List (Int × List (Int × Int))} (h : LnN w base ad ns) (f : Fr F w w') (hF : ∀ b, F b -> b < base) : LnN w' base ad ns := by
 obtain ⟨m, h1, h2, h3, h4⟩ := h
 refine ⟨m, h1, fun x hx => (h2 x hx).keep f.size (fun hp b e => ?_), h3, fun hp => ?_⟩
 ·obtain ⟨b1, o1, e1, l1, _⟩ := h2 x hx hp
  rw [e1] at e
  cases e
  have h8 := h3 b1 ⟨x, hx, hp, o1, e1⟩
  exact f.block b1 l1 (fun d => by have h9 : b1 < base := hF b1 d; omega)
 ·obtain ⟨b, o, e, g1, g2, c⟩ := h4 hp
  have hb : w'.heap[b]? = w.heap[b]? := f.block b g2 (fun d => by have := hF _ d; omega)
  exact ⟨b, o, e, g1, Nat.lt_of_lt_of_le g2 f.size, fun i x hx => ⟨(World.cell?_of_block (a := ⟨b, o + i * 2, none⟩) hb).trans (c i x hx).1, (World.cell?_of_block (a := ⟨b, o + i * 2 + 1, none⟩) hb).trans (c i x hx).2⟩⟩
theorem LpN.below {w w' : World} {base : Nat} {ad : Option Addr} {l : List (Int × Int)} (h : LpN w base ad l) (hb : Below w.heap.size w w') : LpN w' base ad l := h.fr (F := fun _ => False) (Fr.of hb) (fun _ d => d.elim)
theorem LnN.below {w w' : World} {base : Nat} {ad : Option Addr} {ns : List (Int × List (Int × Int))} (h : LnN w base ad ns) (hb : Below w.heap.size w w') : LnN w' base ad ns := h.fr (F := fun _ => False) (Fr.of hb) (fun _ d => d.elim)
section
variable {w : World} {pw p q N O y g : Nat} {ws : List Int} {sd : Nat} {v0 : Value} {a1 : Option Addr} {k1 : Nat} {Q : List En} {l : List Int} {ra : Option Addr} {rc : Nat}
theorem view_new (hq : Wq w pw p q N O y g ws sd v0 a1 k1 Q) (c3 : w.cell? ⟨pw, 3, none⟩ = some (.slice ra l.length rc)) (hl : Lq w ra l) (hm : l.length <= 100000) :
  Calls Tryz.prog 23 #[.pointer (some ⟨pw, 0, none⟩)] w fun e w' => ∃ r2 d2 na nn nc, e = .returned (.agg #[.slice r2 l.length d2, .slice na nn nc]) /\ LpN w' w.heap.size r2 (vwL N y g ws Q l).1 /\ LnN w' w.heap.size na (vwL N y g ws Q l).2.2 /\ nn = (vwL N y g ws Q l).2.2.length /\ Below w.heap.size w w' := by
 have ba := (Below.refl w.heap.size w).alloc (Nat.le_refl _) (.cells #[.slice none 0 0, .slice none 0 0] 52)
 have hr0 := heap_alloc_new w (.cells #[.slice none 0 0, .slice none 0 0] 52)
 have hq0 := hq.low ba
 have hl0 := hl.kf (Kf.of (B := 0) ba)
 have lpw := World.block_lt_of_cell? w _ c3
 have c30 := (ba.cell (p := ⟨pw, 3, none⟩) lpw).trans c3
 have lpw0 : pw < (w.alloc (.cells #[.slice none 0 0, .slice none 0 0] 52)).heap.size := Nat.lt_of_lt_of_le lpw ba.size
 have lr0 : w.heap.size < (w.alloc (.cells #[.slice none 0 0, .slice none 0 0] 52)).heap.size := by simp
 have P := newWalk_any hq0.c0 hq0.ar
 have k1' := hq.ar.hN'
 have k2' := hq.ar.hy
 have k3' := hq.ar.hO
 have k4' := hq.ar.hg
 have hTb : ∀ a ∈ thY N y g ws ++ thO N y g ws, 0 <= a /\ a < 2000 := fun a ha => by
  rcases List.mem_append.1 ha with ha | ha
  ·have := thY_bd a ha; omega
  ·have := thO_bd a ha; omega
 have hTl : (thY N y g ws ++ thO N y g ws).length <= 100000 := by
  have h1 : (thY N y g ws).length <= 2000 := ths_le _ _
  have h2 : (thO N y g ws).length <= 2000 := ths_le _ _
  simp
  omega
 have KV : Hid (∀ (kb mq : Nat) (w1 : World), Wk (w.alloc (.cells #[.slice none 0 0, .slice none 0 0] 52)) w1 kb mq pw (thY N y g ws ++ thO N y g ws) ([], []) (.slice none 0 0) [] -> Calls Tryz.prog 82 #[.pointer (some ⟨kb, 0, none⟩), .slice ra l.length rc] w1 fun e w' => ∃ vn' m' a2 c2, e = .returned (.slice a2 l.length c2) /\ w'.ownsRow w1.heap.size 95 2 (.slice a2 l.length c2) l.length (ev (vwL N y g ws Q l).1) /\ Wk (w.alloc (.cells #[.slice none 0 0, .slice none 0 0] 52)) w' kb mq pw (thY N y g ws ++ thO N y g ws) (vwL N y g ws Q l).2 vn' m' /\ Kv (w.alloc (.cells #[.slice none 0 0, .slice none 0 0] 52)) w1 [] w' m' /\ (∀ k, Fb m' k -> some k ≠ (Value.slice a2 l.length c2).ownBlock)) :=
  fun kb mq w1 h1 => values_any (meet_any hq0 hTb hTl _) (met_go _) h1 (VOk.start _) (by simp) l ra rc (hl0.kf (Kf.of (B := 0) h1.bel)) hm
 have hvl : Hid ((vwL N y g ws Q l).1.length = l.length) := vls_len _ _ _ _
 clear hq hq0 hl hl0 k1' k2' k3' k4' hTb hTl c3
 generalize vwL N y g ws Q l = R at *
 obtain ⟨V, s⟩ := R
 generalize thY N y g ws ++ thO N y g ws = T at *
 dsimp only at *
 go_enter Tryz.func23, Tryz.ntmps23
 go_wp2_with fail
 refine P.mono ?_
 clear P
 rintro e w1 ⟨kb, mq, rfl, h1⟩
 have x3 := (h1.bel.cell (p := ⟨pw, 3, none⟩) lpw0).trans c30
 have H1 : Hid (_) := h1
 clear h1
 go_wp2_with fail
 refine (KV.out kb mq w1 H1.out).mono ?_
 clear KV
 rintro e w2 ⟨vn, m, a2, c2, rfl, hr2, hW2, hK2, _⟩
 obtain ⟨na, nc, e2⟩ := row_slice hW2.row
 subst e2
 have z2 := hW2.cells.2.2.1
 have hb2 := ba.trans (hW2.bel.mono ba.size)
 have hr3 := (hW2.bel.block _ lr0).trans hr0
 have y0 : w2.cell? ⟨w.heap.size, 0, none⟩ = some (.slice none 0 0) := by simp [World.cell?, hr3]
 have y1 : w2.cell? ⟨w.heap.size, 1, none⟩ = some (.slice none 0 0) := by simp [World.cell?, hr3]
 have f0 : w2.frozen? ⟨w.heap.size, 0, none⟩ = false := by simp [World.frozen?, hr3]
 have f1 : w2.frozen? ⟨w.heap.size, 1, none⟩ = false := by simp [World.frozen?, hr3]
 have l2 : w.heap.size < w2.heap.size := lt_of_some hr3
 have HW2 : Hid (_ /\ _) := ⟨hW2, hr2⟩
 have hml : Hid (m.length = s.2.length) := hW2.len
 have HB2 : Hid (_) := hb2
 have HR3 : Hid (_ = _) := hr3
 have hs1 : w.heap.size <= w1.heap.size := by
  have := H1.out.bel.size
  simp at this
  omega
 have HFB : Hid (∀ k, Fb m k -> w.heap.size <= k) := fun k hk => (hK2.2 k hk).elim (fun ⟨x, hx, _⟩ => by cases hx) (fun d => Nat.le_trans hs1 d)
 clear hW2 hr2 hK2 hb2 hr3 ba hr0 x3 c30 H1
 go_wp2_with fail
 obtain ⟨W0, hW0⟩ : ∃ W0, W0 = (w2.setCell ⟨w.heap.size, 0, none⟩ (.slice a2 l.length c2)).setCell ⟨w.heap.size, 1, none⟩ (.slice na m.length nc) := ⟨_, rfl⟩
 rw [<- hW0]
 have g0 : W0.cell? ⟨w.heap.size, 0, none⟩ = some (.slice a2 l.length c2) := by
  rw [hW0, World.cell?_setCell_other _ _ _ _ (by simp)]
  exact World.cell?_setCell_same _ _ _ y0
 have g1 : W0.cell? ⟨w.heap.size, 1, none⟩ = some (.slice na m.length nc) := by
  rw [hW0]
  exact World.cell?_setCell_same _ _ _ ((World.cell?_setCell_other w2 ⟨w.heap.size, 0, none⟩ ⟨w.heap.size, 1, none⟩ _ (by simp)).trans y1)
 have hF : Fr (fun k => k = w.heap.size) w2 W0 := by rw [hW0]; exact ((Fr.refl (fun k => k = w.heap.size) w2).set w.heap.size 0 _ rfl).set w.heap.size 1 _ rfl
 clear hW0
 obtain ⟨hW2, hr2⟩ := HW2.out
 have eL : ∀ {ad : Option Addr} {L : List (Int × Int)}, Lv w2 ad L -> Lp W0 ad L := fun {ad L} h => h.1.keep hF.size (fun hp b e => by
  obtain ⟨b0, o0, cs, e0, hb⟩ := h.2 hp
  rw [e0] at e
  cases e
  refine hF.block _ (lt_of_some hb) (fun c => ?_)
  have c : b0 = w.heap.size := c
  rw [c, HR3.out] at hb
  simp at hb)
 refine bodyPost_ret (v := .agg #[.slice a2 l.length c2, .slice na m.length nc]) (by simp [results, Tryz.results23, go_sem, g0, g1]) rfl ⟨a2, c2, na, m.length, nc, rfl, ⟨eL (Lv.of (by rw [hvl.out]; exact hr2)), fun hp => ?_⟩, ⟨m, hW2.nd, fun x hx => eL (hW2.fl x hx), HFB.out, fun hp => ?_⟩, hml.out, HB2.out.trans (hF.below (Nat.le_of_lt l2) (fun k e => Nat.le_of_eq (Eq.symm e)))⟩
 ·obtain ⟨b, cap, e⟩ := row_shape hr2 (by rw [<- hvl.out]; exact hp)
  cases e
  exact ⟨b, 0, rfl, Nat.le_trans hs1 (row_lt hr2 b rfl).1⟩
 obtain ⟨b, cap, e⟩ := row_shape hW2.row hp
 cases e
 have hbs := (row_lt hW2.row b rfl).1
 simp at hbs
 obtain ⟨cur, hcur⟩ := row_type hW2.row b rfl
 have hne : b ≠ w.heap.size := fun c => by
  rw [c, HR3.out] at hcur
  simp at hcur
 refine ⟨b, 0, rfl, by omega, Nat.lt_of_lt_of_le (lt_of_some hcur) hF.size, fun i x hx => ?_⟩
 obtain ⟨n1, n2⟩ := nv_get m i x hx
 rw [Nat.zero_add]
 exact ⟨(World.cell?_of_block (a := ⟨b, i * 2, none⟩) (hF.block b (lt_of_some hcur) hne)).trans (row_cell hW2.row n1).1, (World.cell?_of_block (a := ⟨b, i * 2 + 1, none⟩) (hF.block b (lt_of_some hcur) hne)).trans (row_cell hW2.row n2).1⟩
end
end Go.Proofs.YtalgochmjddodaaGreat

namespace Go.Proofs.YtalgochmjddodaaGreat
open Go.RowKit W Kp Stl
section
variable {c : Bc} {F : Nat -> Prop} {S : Ww × Wrs} {w : World}
theorem viewB_new (h : (boO c).J F S w) (hq : S.1.q.length <= 90000) :
  Calls Tryz.prog 23 #[.pointer (some ⟨c.a.pw, 0, none⟩)] w fun e w' => ∃ r2 d2 na nn nc, e = .returned (.agg #[.slice r2 12 d2, .slice na nn nc]) /\ LpN w' w.heap.size r2 (vwL c.a.N S.1.s.y S.1.s.g S.1.s.ws S.1.q S.1.s.rs).1 /\ LnN w' w.heap.size na (vwL c.a.N S.1.s.y S.1.s.g S.1.s.ws S.1.q S.1.s.rs).2.2 /\ nn = (vwL c.a.N S.1.s.y S.1.s.g S.1.s.ws S.1.q S.1.s.rs).2.2.length /\ Below w.heap.size w w' := by
 obtain ⟨FW, h1, _⟩ := bo_w h
 obtain ⟨F0, g1, _⟩ := ws_wod h1
 obtain ⟨c0, _, c2, c3, _, rl, _, cr9⟩ := wod_cells g1
 have ha := (wod_arena g1).1
 obtain ⟨F0', ar, cr, ⟨F00, ad, cap, ⟨own, pq, hM, hO⟩, d2, d3, d4, _⟩, r0, r1, hFW⟩ := h1
 have hl : Lq w (some ⟨c.a.nb, 0, none⟩) S.1.s.rs := by
  have hr := hM.rt
  refine ⟨fun _ => ⟨c.a.nb, 0, rfl, lt_of_some hr, fun i hi => ?_⟩, fun _ => ⟨c.a.nb, 0, _, rfl, hr⟩⟩
  rw [Nat.zero_add]
  exact (cr9 i (by rw [<- rl]; exact hi)).1
 have P := view_new (l := S.1.s.rs) (ra := some ⟨c.a.nb, 0, none⟩) (rc := 12) ⟨c0, c2, ha, d2, row_pairs d3, hq⟩ (by rw [rl]; exact c3) hl (by rw [rl]; decide)
 rw [rl] at P
 exact P
end
end Go.Proofs.YtalgochmjddodaaGreat

namespace Go.Proofs.YtalgochmjddodaaGreat
set_option maxRecDepth 100000
open Go.ChangeShapes Go.WideShapes Go.ChangeAt Go.RowKit Go.Joins Go.Deep W Stl
theorem cellsStepC : Tryz.prog.cellsOf 31 = 4 := by kernel_rfl
theorem cellsIC : Tryz.prog.cellsOf 3 = 1 := by kernel_rfl
abbrev S4 := Int × Int × Int × Int
def J64 (a : Int) : Prop := -9223372036854775808 <= a /\ a <= 9223372036854775807
def L4 (w : World) (ad : Option Addr) (l : List S4) : Prop :=
 0 < l.length -> ∃ b o, ad = some ⟨b, o, none⟩ /\ b < w.heap.size /\ ∀ i, i < l.length -> (w.cell? ⟨b, o + i * 4, none⟩ = some (.int .i64 (l.getD i (0, 0, 0, 0)).1) /\ w.cell? ⟨b, o + i * 4 + 1, none⟩ = some (.int .i64 (l.getD i (0, 0, 0, 0)).2.1) /\ w.cell? ⟨b, o + i * 4 + 2, none⟩ = some (.int .i64 (l.getD i (0, 0, 0, 0)).2.2.1) /\ w.cell? ⟨b, o + i * 4 + 3, none⟩ = some (.int .i64 (l.getD i (0, 0, 0, 0)).2.2.2)) /\
  J64 (l.getD i (0, 0, 0, 0)).2.1 /\ J64 (l.getD i (0, 0, 0, 0)).2.2.2
theorem trod_struct4 {H : Type} {enc : TypeId × Value -> H} {P : Program} {w : World} {base : Nat} {spare : Nat -> Bool} {held : Bool} {t : TypeId} {f0 f1 f2 f3 : Field} {fuel : Nat} {cs : List Value} {x : DataW H × List MemPlace} (ht : P.underlying t = some (.struct #[f0, f1, f2, f3])) (h : DataW.trod enc P w base spare held fuel t cs = some x) :
  ∃ y0 y1 y2 y3 n, cs.length = P.cellsOf t /\ DataW.trod enc P w base spare held n f0.type ((cs.drop f0.offset).take (P.cellsOf f0.type)) = some y0 /\
   DataW.trod enc P w base spare held n f1.type ((cs.drop f1.offset).take (P.cellsOf f1.type)) = some y1 /\ DataW.trod enc P w base spare held n f2.type ((cs.drop f2.offset).take (P.cellsOf f2.type)) = some y2 /\
   DataW.trod enc P w base spare held n f3.type ((cs.drop f3.offset).take (P.cellsOf f3.type)) = some y3 := by
 obtain ⟨xs, n, _, rfl, hl, hlen, hf⟩ := DataW.trod_struct ht h
 match xs, hlen with
 | [y0, y1, y2, y3], _ => exact ⟨y0, y1, y2, y3, n, hl, by simpa using hf 0 f0 rfl, by simpa using hf 1 f1 rfl, by simpa using hf 2 f2 rfl, by simpa using hf 3 f3 rfl⟩
theorem list4 {α : Type} {cs : List α} (h : cs.length = 4) : ∃ c0 c1 c2 c3, cs = [c0, c1, c2, c3] := by
 match cs, h with
 | [c0, c1, c2, c3], _ => exact ⟨c0, c1, c2, c3, rfl⟩
theorem bnd64 {a : Int} (h : (Lit.int .i64 a).wf = true) : J64 a := by
 have : IntKind.i64.min <= a /\ a <= 9223372036854775807 := by simpa [Lit.wf] using h
 exact ⟨this.1, this.2⟩
theorem open_step4 {H : Type} {enc : TypeId × Value -> H} {W : World} {sp : Nat -> Bool} {held : Bool} {fuel : Nat} {cs : List Value} {x : DataW H × List MemPlace}
  (hf : DataW.trod enc Tryz.prog W 0 sp held fuel 31 cs = some x) : ∃ d a b c : Int, cs = [.int .i64 d, .int .i64 a, .int .i64 b, .int .i64 c] /\ J64 a /\ J64 c := by
 obtain ⟨y0, y1, y2, y3, n, hl, t0, t1, t2, t3⟩ := trod_struct4 Tryz.underlying31 hf
 rw [cellsStepC] at hl
 obtain ⟨c0, c1, c2, c3, rfl⟩ := list4 hl
 obtain ⟨d, ed, _⟩ := DataW.trod_int Tryz.underlying3 t0
 obtain ⟨a, ea, _, wa⟩ := DataW.trod_int Tryz.underlying3 t1
 obtain ⟨b, eb, _⟩ := DataW.trod_int Tryz.underlying3 t2
 obtain ⟨c, ec, _, wc⟩ := DataW.trod_int Tryz.underlying3 t3
 simp [cellsIC] at ed ea eb ec
 exact ⟨d, a, b, c, by rw [ed, ea, eb, ec], bnd64 wa, bnd64 wc⟩
theorem open_cuts {H : Type} {enc : TypeId × Value -> H} {W : World} {sp : Nat -> Bool} {held : Bool} {fuel len cap : Nat} {ad : Option Addr} {x : DataW H × List MemPlace}
  (hf : DataW.trod enc Tryz.prog W 0 sp held fuel 22 [.slice ad len cap] = some x) : ∃ l : List S4, l.length = len /\ L4 W ad l := by
 rcases open_slice Tryz.underlying22 hf with ⟨hcs, _⟩ | ⟨z, l, c, m, n, D, Pl, hcs, hb, hl, hm, hmm, _, hall⟩
 ·simp at hcs
  obtain ⟨rfl, rfl, rfl⟩ := hcs
  exact ⟨[], rfl, fun h => by simp at h⟩
 ·simp at hcs
  obtain ⟨rfl, rfl, rfl⟩ := hcs
  have hlm : len <= m := by rw [hmm]; split <;> omega
  have key : ∀ i, i < len -> ∃ s : S4, (W.cell? (z.add (i * 4)) = some (.int .i64 s.1) /\ W.cell? (z.add (i * 4 + 1)) = some (.int .i64 s.2.1) /\ W.cell? (z.add (i * 4 + 2)) = some (.int .i64 s.2.2.1) /\ W.cell? (z.add (i * 4 + 3)) = some (.int .i64 s.2.2.2)) /\ J64 s.2.1 /\ J64 s.2.2.2 := by
   intro i hi
   obtain ⟨cs', h1, h2⟩ := hall i (by omega)
   rw [cellsStepC] at h1
   obtain ⟨_, _, hcell⟩ := World.cells?_some h1
   obtain ⟨d, a, b, c, rfl, ha, hc⟩ := open_step4 h2
   refine ⟨(d, a, b, c), ⟨?_, ?_, ?_, ?_⟩, ha, hc⟩
   ·have := hcell 0 (by omega); rw [add_add] at this; simpa using this
   ·have := hcell 1 (by omega); rw [add_add] at this; simpa using this
   ·have := hcell 2 (by omega); rw [add_add] at this; simpa using this
   ·have := hcell 3 (by omega); rw [add_add] at this; simpa using this
  obtain ⟨S, hS⟩ := choose_lt key
  refine ⟨(List.range len).map S, by simp, fun hp => ?_⟩
  simp only [List.length_map, List.length_range] at hp ⊢
  obtain ⟨b, o, spot⟩ := z
  have h0 := (hS 0 hp).1.1
  have hspot : spot = none := by simpa [Addr.add] using World.cell?_spot h0
  subst hspot
  refine ⟨b, o, rfl, World.block_lt_of_cell? W (⟨b, o, none⟩ : Addr) (by simpa [Addr.add] using h0), fun i hi => ?_⟩
  obtain ⟨⟨k0, k1, k2, k3⟩, k5⟩ := hS i hi
  have ea : ∀ j, (⟨b, o, none⟩ : Addr).add j = ⟨b, o + j, none⟩ := fun j => by simp [Addr.add]
  rw [ea] at k0 k1 k2 k3
  have eg : ((List.range len).map S).getD i (0, 0, 0, 0) = S i := by simp [hi]
  rw [eg]
  exact ⟨⟨k0, by rw [Nat.add_assoc]; exact k1, by rw [Nat.add_assoc]; exact k2, by rw [Nat.add_assoc]; exact k3⟩, k5⟩
end Go.Proofs.YtalgochmjddodaaGreat

namespace Go.Proofs.YtalgochmjddodaaGreat
open Go.RowKit W
end Go.Proofs.YtalgochmjddodaaGreat

namespace Go.Proofs.YtalgochmjddodaaGreat
open Go.RowKit W
end Go.Proofs.YtalgochmjddodaaGreat

namespace Go.Proofs.YtalgochmjddodaaGreat
set_option maxRecDepth 100000
set_option maxHeartbeats 400000
open Go.RowKit W
theorem f_any (c a : Int) (w : World) :
  Calls Tryz.prog 46 #[.int .i64 c, .int .i64 a] w fun e w' => e = .returned (.agg #[.int .i64 c, .int .i64 a]) /\ Below w.heap.size w w' := by
 go_enter Tryz.func46, Tryz.ntmps46
 go_wp2_with fail
 exact bodyPost_ret (v := .agg #[.int .i64 c, .int .i64 a]) (by simp [results, Tryz.results46, go_sem]) rfl ⟨rfl, (Below.refl _ _).alloc (Nat.le_refl _) _⟩
end Go.Proofs.YtalgochmjddodaaGreat
