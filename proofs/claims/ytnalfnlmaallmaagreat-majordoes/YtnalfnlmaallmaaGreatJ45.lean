/- Joined: Ms3, Mx1, Mg3, Mg4, Mg6, Mg7, Mg8, Mg9, Mg11. -/
import Derived.Test.YtnalfnlmaallmaaGreatJ43
import Derived.Test.YtnalfnlmaallmaaGreatJ44
import Derived.Test.YtnalfnlmaallmaaGreatJ41
import Derived.Test.YtnalfnlmaallmaaGreatJ34
namespace Go.Proofs.YtnalfnlmaallmaaGreat
open Go.RowKit W Kp Stl
section
variable {a : Wc} {s : Wst} {Y G : List Int}
theorem K12.set (h : KInv a s Y G) (hk : K12 a s Y G) (hb : Wbd a s) (x i z : Int) (M rs : List Int) : K12 a { s with ws := stW a.N s.y s.g s.ws x i z, M := M, rs := rs } Y G := by
 intro v hv
 dsimp only
 by_cases h0 : fcC a.N s.y s.g s.ws x i = 0
 ·obtain ⟨ht, _, i0, i1⟩ := fcC_zero h0
  obtain ⟨_, hx⟩ := tB_mem (O := a.O) h.inv.full hb.n1 hb.y1 hb.o1 hb.g1 ht
  rw [h.inv.full.stands hb.y1 hx] at i1
  unfold stW
  rw [if_pos h0]
  split
  ·rw [(h.inv.full.set (z := z) hb.l1 hb.y1 hb.g1 hx i0 i1).2 v hv]
   exact hk v hv
  ·exact hk v hv
 ·unfold stW
  rw [if_neg h0]
  exact hk v hv
theorem K12.make (h : KInv a s Y G) (hk : K12 a s Y G) (hb : Wbd a s) {k f : Int} (hm : mkB a.N s.y k f = true) (h12 : k = 1 \/ k = 2) (M rs : List Int) : K12 a { s with y := mkY a.N s.y k f, ws := mkW a.N s.y k f s.ws, M := M, rs := rs } (Y ++ [(s.y : Int)]) G := by
 obtain ⟨h1, h2⟩ := mkB_yes hm
 have hf := hc_bd k f h1
 have eY : mkY a.N s.y k f = s.y + 1 + f.toNat := by unfold mkY; rw [if_pos hm]
 have eW : mkW a.N s.y k f s.ws = fil s.ws s.y (hw k f) f.toNat := by unfold mkW; rw [if_pos hm]
 have hlw := hb.l1
 have hlt : s.y + f.toNat < s.ws.length := by omega
 have hyN := hb.y1
 intro v hv
 dsimp only
 rw [eY, eW]
 have hv2 : v ∈ Y \/ v ∈ G \/ v = s.y := by
  rcases hv with d | d
  ·rcases List.mem_append.1 d with d | d
   ·exact Or.inl d
   ·exact Or.inr (Or.inr (by simpa using d))
  ·exact Or.inr (Or.inl d)
 rcases hv2 with d | d | d
 ·have hi := h.inv.full.iy v d
  have e1 : iB a.N (s.y + 1 + f.toNat) s.g v = true := (iB_bool _ _ _ _).2 (Or.inl (by omega))
  have e2 : iB a.N s.y s.g v = true := (iB_bool _ _ _ _).2 (Or.inl (by omega))
  rw [ld_in e1, fil_get _ _ _ _ _ hlt, if_neg (by omega), if_neg (by omega), <- ld_in e2]
  exact hk v (Or.inl d)
 ·have hi := h.inv.full.io v d
  rw [ld_in (iB_o hi.1 hi.2), fil_get _ _ _ _ _ hlt, if_neg (by omega), if_neg (by omega), <- ld_in (y := s.y) (iB_o hi.1 hi.2)]
  exact hk v (Or.inr d)
 ·have e1 : iB a.N (s.y + 1 + f.toNat) s.g v = true := (iB_bool _ _ _ _).2 (Or.inl (by omega))
  rw [ld_in e1, fil_get _ _ _ _ _ hlt, if_pos (by omega), (parts_head k f h1).1]
  exact h12
end
theorem doS_12 {c : Bc} {S : Ww × Wrs} {Y G : List Int} (h : KInv c.a S.1.s Y G) (hk : K12 c.a S.1.s Y G) (hb : Wbd c.a S.1.s) (d A B C : Int) (hd : d = 0 -> A = 1 \/ A = 2) : ∃ Y', KInv c.a (doS c S d A B C).1.s Y' G /\ K12 c.a (doS c S d A B C).1.s Y' G := by
 by_cases e0 : d = 0
 ·cases hm : mkB c.a.N S.1.s.y A B
  ·unfold doS
   rw [if_pos e0]
   have e1 : mkY c.a.N S.1.s.y A B = S.1.s.y := by unfold mkY; rw [hm]; rfl
   have e2 : mkW c.a.N S.1.s.y A B S.1.s.ws = S.1.s.ws := by unfold mkW; rw [hm]; rfl
   have e3 : ¬ 0 <= mkR c.a.N S.1.s.y A B := by unfold mkR; rw [hm, if_neg (by simp)]; omega
   refine ⟨Y, ?_⟩
   unfold boM
   dsimp only
   rw [e1, e2, if_neg e3]
   exact ⟨h, hk⟩
  ·have e3 : mkR c.a.N S.1.s.y A B = S.1.s.y := by unfold mkR; rw [hm]; rfl
   obtain ⟨z1, z2⟩ := ew_at S.1.s.y (by have := hb.y1; have := hb.n1; omega)
   have h1 := h.inv.make (O := c.a.O) hb.l1 hm
   refine ⟨Y ++ [(S.1.s.y : Int)], ?_⟩
   unfold doS
   rw [if_pos e0]
   unfold boM
   dsimp only
   rw [e3, if_pos (by omega)]
   exact ⟨⟨h1.root (rtN C) _ (fun _ => Or.inl (by rw [z2]; simp)), CdI.make h.inv h.cd hb.l1 hm⟩, K12.make h hk hb hm (hd e0) _ _⟩
 ·have key : ∃ Y', KInv c.a (doS c S d A B C).1.s Y' G /\ Y' = Y := by
   unfold doS
   rw [if_neg e0]
   by_cases e1 : d = 1
   ·rw [if_pos e1]
    exact ⟨Y, h.set hb _ _ (rtN_lt A) B (rtN_lt C), rfl⟩
   rw [if_neg e1]
   by_cases e2 : d = 2
   ·rw [if_pos e2]
    refine ⟨Y, ?_, rfl⟩
    unfold boG
    dsimp only
    split
    ·rename_i hfc
     exact h.root _ _ (fun ha => h.get hb _ (rtN_lt A) B hfc ha)
    ·exact h
   rw [if_neg e2]
   by_cases e3 : d = 3
   ·rw [if_pos e3]
    refine ⟨Y, ?_, rfl⟩
    unfold boI
    dsimp only
    split
    ·rename_i hv
     refine h.root _ _ (fun ha => ?_)
     have h1 := (at_enc 1 A hv).1
     rw [h1] at ha
     exact absurd ha (by decide)
    ·exact h
   rw [if_neg e3]
   by_cases e4 : d = 4
   ·rw [if_pos e4]
    exact ⟨Y, h.root _ _ (fun ha => absurd ha (by decide)), rfl⟩
   rw [if_neg e4]
   by_cases e5 : d = 5
   ·rw [if_pos e5]
    refine ⟨Y, ?_, rfl⟩
    unfold boR Ww.rW
    dsimp only
    split
    ·split
     ·exact h
     ·exact h
    ·exact h
   rw [if_neg e5]
   exact ⟨Y, h, rfl⟩
  obtain ⟨Y', k1, k2⟩ := key
  subst k2
  refine ⟨Y', k1, ?_⟩
  unfold doS
  rw [if_neg e0]
  by_cases e1 : d = 1
  ·rw [if_pos e1]
   exact K12.set h hk hb _ _ _ _ _
  rw [if_neg e1]
  by_cases e2 : d = 2
  ·rw [if_pos e2]
   exact hk
  rw [if_neg e2]
  by_cases e3 : d = 3
  ·rw [if_pos e3]
   exact hk
  rw [if_neg e3]
  by_cases e4 : d = 4
  ·rw [if_pos e4]
   exact hk
  rw [if_neg e4]
  by_cases e5 : d = 5
  ·rw [if_pos e5]
   unfold boR Ww.rW
   dsimp only
   split
   ·split
    ·exact hk
    ·exact hk
   ·exact hk
  rw [if_neg e5]
  exact hk
def Sok (a : Wc) (s : Wst) : Prop := ∃ Y G, KInv a s Y G /\ K12 a s Y G
theorem Sok.start (a : Wc) (n o : Nat) : Sok a (bo0 n o).1.s := by
 refine ⟨[], [], ⟨⟨Full2.start, fun x hx ha => ?_, fun v hv => ?_⟩, fun v hv => (by cases hv)⟩, fun v hv => ?_⟩
 ·have hx : x ∈ tw 2 12 := hx
  have e : x = 2 := by simpa [tw] using hx
  rw [e, aB_two] at ha
  cases ha
 ·rcases hv with d | d <;> cases d
 ·rcases hv with d | d <;> cases d
theorem Sok.do {c : Bc} {S : Ww × Wrs} (h : Sok c.a S.1.s) (hb : Wbd c.a S.1.s) (d A B C : Int) (hd : d = 0 -> A = 1 \/ A = 2) : Sok c.a (doS c S d A B C).1.s := by
 obtain ⟨Y, G, h1, h2⟩ := h
 obtain ⟨Y', h3, h4⟩ := doS_12 h1 h2 hb d A B C hd
 exact ⟨Y', G, h3, h4⟩
end Go.Proofs.YtnalfnlmaallmaaGreat

namespace Go.Proofs.YtnalfnlmaallmaaGreat
open Go.RowKit W Kp Stl
theorem cutGB_any {c : Bc} {F : Nat -> Prop} {S : Ww × Wrs} {w : World} (h : (boO c).J F S w) (hq : S.1.q.length + S.1.r.length <= 90000) (hsl : S.1.jfull c.a = false -> ∃ G, SlG (S.1.k5 c.a) (S.1.j5 c.a) G /\ G 0 (S.1.k5 c.a, 0)) :
  Calls Tryz.prog 74 #[.pointer (some ⟨c.a.pw, 0, none⟩)] w fun e w' => ∃ F', e = .returned (.int .i64 (S.1.gcode c.a)) /\ (boO c).J F' (S.1.gcut c.a, S.2) w' /\ Tn F w F' w' := by
 obtain ⟨FW, h1, _, h2⟩ := bo_w h
 refine (cutJ_any h1 hq hsl).mono ?_
 rintro e w' ⟨F1, rfl, j1, t1⟩
 obtain ⟨F2, m1, m2⟩ := h2 _ _ _ j1 t1
 exact ⟨F2, rfl, m1, m2⟩
structure So0 (a : Wc) (W : Ww) : Prop where
  k : Sok a W.s
  r : W.r = []
  q : W.q = []
theorem So0.start (a : Wc) (n o : Nat) : So0 a (bo0 n o).1 := ⟨Sok.start a n o, rfl, rfl⟩
theorem rK_12 {a : Wc} {W : Ww} {Y G : List Int} (h : KInv a W.s Y G) (hk : K12 a W.s Y G) (hb : Wbd a W.s) (i k : Nat) : W.rK a i k = false := by
 unfold Ww.rK
 refine decide_eq_false (fun ⟨h1, _, h3⟩ => ?_)
 unfold Ww.kK at h3
 by_cases ht : tB a.N W.s.y W.s.g W.s.ws (W.s.rs.getD k 0) = true
 ·rw [if_pos ht] at h3
  have := hk _ (tB_mem (O := a.O) h.inv.full hb.n1 hb.y1 hb.o1 hb.g1 ht).2
  omega
 ·rw [if_neg ht] at h3
  omega
theorem So0.do {c : Bc} {S : Ww × Wrs} (h : So0 c.a S.1) (hb : Wbd c.a S.1.s) (d A B C : Int) (hd : d = 0 -> A = 1 \/ A = 2) : So0 c.a (doS c S d A B C).1 := by
 have key : (doS c S d A B C).1.r = S.1.r /\ (doS c S d A B C).1.q = S.1.q := by
  obtain ⟨Y, G, h1, h2⟩ := h.k
  have e := rK_12 (W := S.1) h1 h2 hb (rtN A) (rtN C)
  unfold doS
  split
  ·exact ⟨rfl, rfl⟩
  split
  ·exact ⟨rfl, rfl⟩
  split
  ·exact ⟨rfl, rfl⟩
  split
  ·exact ⟨rfl, rfl⟩
  split
  ·exact ⟨rfl, rfl⟩
  split
  ·unfold boR Ww.rW
   rw [e]
   exact ⟨rfl, rfl⟩
  ·exact ⟨rfl, rfl⟩
 exact ⟨h.k.do hb d A B C hd, key.1.trans h.r, key.2.trans h.q⟩
theorem great_strong {a : Wc} {W : Ww} (h : So0 a W) (hb : Wbd a W.s) : (W.jfull a = false -> ∃ G, SlG (W.k5 a) (W.j5 a) G /\ G 0 (W.k5 a, 0)) /\ So0 a (W.gcut a) /\ (W.gcut a).s.M.length <= W.s.M.length /\
  (vwL a.N (W.gcut a).s.y (W.gcut a).s.g (W.gcut a).s.ws (W.gcut a).q (W.gcut a).s.rs).1 = (vwL a.N W.s.y W.s.g W.s.ws W.q W.s.rs).1 /\ (vwL a.N (W.gcut a).s.y (W.gcut a).s.g (W.gcut a).s.ws (W.gcut a).q (W.gcut a).s.rs).2.2 = (vwL a.N W.s.y W.s.g W.s.ws W.q W.s.rs).2.2 /\
  ((W.gcode a = 0 /\ (W.gcut a).s.y = 0 /\ (W.gcut a).s.g = szV (vwL a.N W.s.y W.s.g W.s.ws W.q W.s.rs).2.2 /\ szV (vwL a.N W.s.y W.s.g W.s.ws W.q W.s.rs).2.2 <= a.O) \/ (W.gcode a = 3 /\ (W.gcut a).s.y = W.s.y /\ (W.gcut a).s.g = W.s.g /\ a.O < szV (vwL a.N W.s.y W.s.g W.s.ws W.q W.s.rs).2.2)) := by
 obtain ⟨Y, G, h1, h2⟩ := h.k
 obtain ⟨n1, n2⟩ := great_12 h1 h2 hb h.r h.q
 refine ⟨fun hf => (n2 hf).1, ?_⟩
 cases hf : W.jfull a
 ·obtain ⟨_, g1, g2, g3, j, gc, gal, _⟩ := n2 hf
  obtain ⟨d1, d2, d3, d4⟩ := gc.done h1 h2 hb gal
  obtain ⟨e1, e2⟩ := d4 W.q (W.gcut a).q
  have hn : W.n4 a <= a.O := by
   unfold Ww.jfull at hf
   have := of_decide_eq_false hf
   omega
  refine ⟨⟨⟨[], _, d1, d2⟩, g1, g2⟩, by rw [gc.M]; exact Nat.zero_le _, e1, e2, Or.inl ⟨by unfold Ww.gcode; rw [hf]; rfl, gc.y, by omega, by omega⟩⟩
 ·have hn : (a.O : Int) < W.n4 a := by
   unfold Ww.jfull at hf
   exact of_decide_eq_true hf
  have eG : W.gcut a = W := by unfold Ww.gcut; rw [if_pos hf]
  rw [eG]
  exact ⟨h, Nat.le_refl _, rfl, rfl, Or.inr ⟨by unfold Ww.gcode; rw [if_pos hf], rfl, rfl, by omega⟩⟩
def gbS : Ww := ⟨⟨6, 0, mkW 16 3 1 2 (mkW 16 0 1 2 (List.replicate 24 0)), [], ((tw 2 12).set 0 (ew 3 0)).set 0 (ew 3 3)⟩, [], []⟩
theorem gb_z : szV (vwL 16 gbS.s.y gbS.s.g gbS.s.ws gbS.q gbS.s.rs).2.2 = 3 := by decide +kernel
theorem gb_v : (vwL 16 gbS.s.y gbS.s.g gbS.s.ws gbS.q gbS.s.rs).2.2.length = 1 := by decide +kernel
theorem gb_s : mkY 16 3 1 2 = 6 /\ mkR 16 3 1 2 = 3 := by decide +kernel
end Go.Proofs.YtnalfnlmaallmaaGreat

namespace Go.Proofs.YtnalfnlmaallmaaGreat
open Go.RowKit W Kp Stl
section
variable {k : Jk} {s : Js}
theorem Mg.nw {X : Int -> Prop} (h : Mg k X s) (x : Int) : k.nw s x = x := by
 unfold Jk.nw
 split
 ·rename_i c
  rw [Bool.and_eq_true] at c
  have ht := jt_mem c.1
  have hf : s.f (aV x) ≠ -1 := by simpa using c.2
  have ha : aB x = true := by
   have q := c.1
   unfold Jk.jt at q
   rw [Bool.and_eq_true] at q
   exact q.1
  have h0 : dc x = 0 := by
   have q := ha
   unfold aB at q
   rw [Bool.and_eq_true] at q
   simpa using q.1
  rw [h.self _ ht hf, aV_yes x ha]
  have q := (enc_dec x h0).2
  rw [aB_dk ha] at q
  exact q
 ·rfl
theorem tS_same {t : Js × List En} {r : List En} (h : ∀ e ∈ r, k.al t.1 e.2 = true) : k.tS t r = t := by
 have e : r.filter (fun e => !k.al t.1 e.2) = [] := by
  rw [List.filter_eq_nil_iff]
  intro e he
  rw [h e he]
  simp
 show stS (noSd Js) (fun s x => k.al s.1 x) k.mq t r = t
 unfold stS
 rw [e]
 rfl
end
section
variable {a : Wc} {S : Ww} {Y G : List Int}
theorem r3_alive (hI : JI (S.s.j0 a) js0) : ∀ e ∈ S.r3 a, (S.s.j0 a).al (S.j3 a) e.2 = true := by
 obtain ⟨d1, d2, _⟩ := settled_all (S := S) hI
 intro e he
 have he : e ∈ ((S.r.filter (fun e => (S.s.j0 a).al (S.j2 a).1 e.2)).filter (fun e => (S.s.j0 a).al ((S.s.j0 a).sS (S.j2 a) S.r).1 e.1)).map fun e => ((S.s.j0 a).nw ((S.s.j0 a).sS (S.j2 a) S.r).1 e.1, (S.s.j0 a).nw ((S.s.j0 a).sS (S.j2 a) S.r).1 e.2) := he
 obtain ⟨e0, h1, h2⟩ := List.mem_map.1 he
 have h3 := (List.mem_filter.1 (List.mem_filter.1 h1).1).2
 rw [<- h2]
 have q : (S.s.j0 a).nw (S.j3 a) e0.2 = e0.2 := d1.mg.nw e0.2
 show (S.s.j0 a).al (S.j3 a) ((S.s.j0 a).nw (S.j3 a) e0.2) = true
 rw [q]
 exact al_le d2 h3
structure Gal2 (a : Wc) (s : Wst) (T : List Int) (j : Js) : Prop where
  rt : ∀ i, i < 12 -> aB (s.rs.getD i 0) = true -> aV (s.rs.getD i 0) ∈ T /\ j.f (aV (s.rs.getD i 0)) ≠ -1
  fd : ∀ c ∈ T, j.f c ≠ -1 -> ∀ i, 0 <= i -> i < pf (ld a.N s.y s.g s.ws c) -> aB ((s.j0 a).bkf j c i) = true -> aV ((s.j0 a).bkf j c i) ∈ T /\ j.f (aV ((s.j0 a).bkf j c i)) ≠ -1
theorem Gc.inv {s s' : Wst} {j : Js} (g : Gc a s (G ++ Y) j s') (h : KInv a s Y G) (hb : Wbd a s) (al : Gal2 a s (G ++ Y) j) : KInv a s' [] (j.lf (G ++ Y)) /\ Wbd a s' := by
 obtain ⟨_, _, e3⟩ := j0_lists h.inv.full hb
 have hF := g.full h.inv.full
 have hbd := g.bd
 have hN := hb.n1
 have hO := hb.o1
 have hgo := g.g
 have hsm : ∀ c ∈ (s.j0 a).T, j.f c ≠ -1 -> 0 <= j.f c /\ j.f c < 1000000 := fun c hc hf => by
  rw [e3] at hc
  have := hbd c hc hf
  have := pf_bd (ld a.N s.y s.g s.ws c)
  omega
 have key : ∀ x, (aB x = true -> aV x ∈ G ++ Y /\ j.f (aV x) ≠ -1) -> aB ((s.j0 a).nw j x) = true -> aV ((s.j0 a).nw j x) ∈ j.lf (G ++ Y) := fun x hx ha => by
  obtain ⟨_, q2⟩ := nw_moved (k := s.j0 a) (j := j) (x := x) (fun ha => by rw [e3]; exact hx ha) hsm
  obtain ⟨c, c1, c2, c3⟩ := q2 ha
  rw [e3] at c1
  exact lf_mem.2 ⟨c, c1, c2, c3.symm⟩
 refine ⟨⟨?_, fun v _ i _ _ _ hy => by cases hy⟩, ⟨hb.n0, hb.n1, hb.o1, by rw [g.y]; exact Nat.zero_le _, g.g, g.l, g.rl⟩⟩
 rw [g.y]
 refine ⟨hF, fun x hx ha => ?_, fun v hv i i0 i1 ha => ?_⟩
 ·obtain ⟨i, hi, e⟩ := List.mem_iff_getElem.1 hx
  have e2 : s'.rs.getD i 0 = x := by
   rw [List.getD_eq_getElem?_getD, List.getElem?_eq_getElem hi, e]
   rfl
  have hi12 : i < 12 := by rw [<- g.rl]; exact hi
  rw [<- e2, g.rs i hi12] at ha ⊢
  exact Or.inr (key _ (al.rt i hi12) ha)
 ·obtain ⟨c, c1, c2, c3⟩ := lf_mem.1 (hv.resolve_left (by simp))
  rw [<- c3] at i1 ha ⊢
  rw [g.hd c c1 c2] at i1
  rw [g.fd c c1 c2 i i0 i1] at ha ⊢
  exact Or.inr (key _ (al.fd c c1 c2 i i0 i1) ha)
structure Gin (a : Wc) (S : Ww) (Y G : List Int) (j : Js) : Prop where
  gc : Gc a S.s (G ++ Y) j (S.gcut a).s
  al : Gal2 a S.s (G ++ Y) j
  g : ((S.gcut a).s.g : Int) = S.n4 a
  iff : ∀ c ∈ G ++ Y, j.f c = -1 ↔ (S.j3 a).f c = -1
  j : S.j4 a = j
theorem great_in (h : KInv a S.s Y G) (hb : Wbd a S.s) (hf : S.jfull a = false) : (∃ F, SlG (S.k5 a) (S.j5 a) F /\ F 0 (S.k5 a, 0)) /\ Gin a S Y G (S.j4 a) /\ S.j5 a = S.j4 a := by
 have hI : JI (S.s.j0 a) js0 := JI.start hb.n1 hb.o1 hb.y1 hb.g1
 obtain ⟨d1, d2, d3⟩ := settled_all (S := S) hI
 obtain ⟨l1, l2, l3⟩ := j0_lists h.inv.full hb
 have hm : ((S.s.j0 a).pl (S.j3 a)).2 <= a.N + a.O := by
  unfold Ww.jfull at hf
  have := of_decide_eq_false hf
  unfold Ww.n4 at this
  omega
 obtain ⟨g1, g2, g3, g4⟩ := gc_done h.inv.full hb (S.j3 a) hm
 have e4 : ((S.s.j0 a).pl (S.j3 a)).1 = S.j4 a := rfl
 rw [e4] at g1 g2 g3 g4
 have e6 : (S.s.j0 a).tlA (S.j4 a) = S.k5 a := rfl
 rw [e6] at g1 g2 g4
 have hT5 : (S.k5 a).T = (S.s.j0 a).T := by
  obtain ⟨_, t2, t3, _⟩ := tlA_ld (s := S.j4 a) (k := S.s.j0 a) ⟨hb.l1, hb.y1, hb.g1⟩ hb.r1 hI.nd (j0_whl h.inv.full hb) (j0_ap h.inv.full hb)
  rw [e6] at t2 t3
  unfold Jk.T
  rw [t2, t3]
 have hjl : ∀ x, (S.s.j0 a).jl (S.j4 a) x = (S.s.j0 a).jl (S.j3 a) x := fun x => by
  cases hj : (S.s.j0 a).jt x
  ·unfold Jk.jl
   rw [hj]
   rfl
  ·have hmem := jt_mem hj
   rw [l3] at hmem
   have q := g3 _ hmem
   unfold Jk.jl
   rw [hj, Bool.true_and, Bool.true_and]
   by_cases c : (S.j3 a).f (aV x) = -1
   ·rw [c, q.2 c]
   ·rw [beq_false_of_ne c, beq_false_of_ne (fun d => c (q.1 d))]
 have e5 : S.j5 a = S.j4 a := by
  have q : (S.k5 a).tS (S.j4 a, S.q3 a) (S.r3 a) = (S.j4 a, S.q3 a) := tS_same (fun e he => by
   have q1 := r3_alive (S := S) hI e he
   unfold Jk.al at q1 ⊢
   have q2 : (S.k5 a).jl (S.j4 a) e.2 = (S.s.j0 a).jl (S.j4 a) e.2 := by
    unfold Jk.jl Jk.jt
    rw [hT5]
   dsimp only
   rw [q2, hjl]
   exact q1)
  unfold Ww.j5
  rw [q]
 have e7 : (S.k5 a).sl (S.j4 a) = S.k6 a := by unfold Ww.k6; rw [e5]
 rw [e7] at g1 g2
 have eS : (S.gcut a).s = (S.k6 a).s := by unfold Ww.gcut; rw [hf, if_neg (by simp)]
 have notlost : ∀ x, aB x = true -> aV x ∈ G ++ Y -> (S.s.j0 a).jl (S.j3 a) x = false -> (S.j4 a).f (aV x) ≠ -1 := fun x ha hm hj => by
  have hjt : (S.s.j0 a).jt x = true := by
   unfold Jk.jt
   rw [ha, l3, List.contains_iff_mem.2 hm]
   rfl
  rw [Jk.jl_no hjt] at hj
  exact fun e => hj ((g3 _ hm).1 e)
 rw [e5]
 refine ⟨g4, ⟨by rw [eS]; exact g1, ⟨fun i hi ha => ?_, fun c hc hfc i i0 i1 ha => ?_⟩, by rw [eS]; exact g2, g3, rfl⟩, rfl⟩
 ·have hgd : S.s.rs.getD i 0 ∈ S.s.rs := by
   rw [List.getD_eq_getElem?_getD, List.getElem?_eq_getElem (by rw [hb.r1]; exact hi)]
   exact List.getElem_mem _
  have hm1 : aV (S.s.rs.getD i 0) ∈ G ++ Y := List.mem_append.2 (h.inv.rt _ hgd ha).symm
  exact ⟨hm1, notlost _ ha hm1 (d3 i hi)⟩
 ·have hw := j0_whl h.inv.full hb c (by rw [l3]; exact hc)
  have hp0 : pc (ld a.N S.s.y S.s.g S.s.ws c) = 0 := hw.c
  have hcT : c ∈ (S.s.j0 a).T := by rw [l3]; exact hc
  have hf3 : (S.j3 a).f c ≠ -1 := fun e => hfc ((g3 c hc).2 e)
  have hM : Mgk (S.s.j0 a) (S.j3 a) c := by
   rcases d1.mg.cmp c hcT hf3 with q | q | q
   ·rw [d1.td] at q
    cases q
   ·exact absurd q id
   ·exact q
  have mem : ∀ i, 0 <= i -> i < pf (ld a.N S.s.y S.s.g S.s.ws c) -> aB (ld a.N S.s.y S.s.g S.s.ws (c + 1 + i)) = true -> aV (ld a.N S.s.y S.s.g S.s.ws (c + 1 + i)) ∈ G ++ Y := fun i i0 i1 ha => List.mem_append.2 (h.inv.fd c (List.mem_append.1 hc).symm i i0 i1 ha).symm
  unfold Jk.bkf at ha ⊢
  rw [hjl] at ha ⊢
  by_cases cb : ((pk ((S.s.j0 a).ld c) = 3 \/ pk ((S.s.j0 a).ld c) = 4) /\ (S.s.j0 a).jl (S.j3 a) ((S.s.j0 a).ld (c + 1)) = true) /\ (i = 0 \/ (pk ((S.s.j0 a).ld c) = 4 /\ i = 1))
  ·rw [if_pos cb] at ha
   exact absurd ha (by decide)
  ·rw [if_neg cb] at ha ⊢
   have ha : aB (ld a.N S.s.y S.s.g S.s.ws (c + 1 + i)) = true := ha
   have hm1 := mem i i0 i1 ha
   refine ⟨hm1, notlost _ ha hm1 ?_⟩
   show (S.s.j0 a).jl (S.j3 a) ((S.s.j0 a).ld (c + 1 + i)) = false
   by_cases k12 : pk ((S.s.j0 a).ld c) = 1 \/ pk ((S.s.j0 a).ld c) = 2
   ·have q := hM.p k12 i.toNat (by show (i.toNat : Int) < pf (ld a.N S.s.y S.s.g S.s.ws c); omega)
    rwa [show ((i.toNat : Nat) : Int) = i from by omega] at q
   ·by_cases k3 : pk ((S.s.j0 a).ld c) = 3
    ·have f2 := pf_two hp0 (Or.inr (Or.inl k3))
     by_cases z : i = 0
     ·cases hl : (S.s.j0 a).jl (S.j3 a) ((S.s.j0 a).ld (c + 1))
      ·rw [z, Int.add_zero]
       exact hl
      ·exact absurd ⟨⟨Or.inl k3, hl⟩, Or.inl z⟩ cb
     ·have o : i = 1 := by omega
      rw [o, show c + 1 + 1 = c + 2 from by omega]
      exact hM.w k3
    ·by_cases k4 : pk ((S.s.j0 a).ld c) = 4
     ·have f2 := pf_two hp0 (Or.inr (Or.inr k4))
      have hkey : (S.s.j0 a).jl (S.j3 a) ((S.s.j0 a).ld (c + 1)) = false := by
       cases hl : (S.s.j0 a).jl (S.j3 a) ((S.s.j0 a).ld (c + 1))
       ·rfl
       ·exact absurd ⟨⟨Or.inr k4, hl⟩, by omega⟩ cb
      by_cases z : i = 0
      ·rw [z, Int.add_zero]
       exact hkey
      ·have o : i = 1 := by omega
       rw [o, show c + 1 + 1 = c + 2 from by omega]
       rcases hM.e k4 with q | q
       ·rw [d1.ep c q] at hkey
        cases hkey
       ·exact q
     ·exfalso
      have q1 := pk_all hp0
      have q2 : pf (ld a.N S.s.y S.s.g S.s.ws c) = 0 := by
       have q3 : pk (ld a.N S.s.y S.s.g S.s.ws c) ≠ 1 /\ pk (ld a.N S.s.y S.s.g S.s.ws c) ≠ 2 /\ pk (ld a.N S.s.y S.s.g S.s.ws c) ≠ 3 /\ pk (ld a.N S.s.y S.s.g S.s.ws c) ≠ 4 := ⟨fun e => k12 (Or.inl e), fun e => k12 (Or.inr e), k3, k4⟩
       omega
      omega
theorem gcut_len (a : Wc) (S : Ww) : (S.gcut a).r.length + (S.gcut a).q.length <= S.r.length + S.q.length := by
 unfold Ww.gcut
 split
 ·exact Nat.le_refl _
 ·have h1 := st_len (noSd Js) (fun s x => (S.s.j0 a).al s.1 x) (S.s.j0 a).ke (fun s x => (S.s.j0 a).nw s.1 x) (fun s x => keJ_len (S.s.j0 a) s x) (S.j2 a) S.r
  have h2 : (S.j2 a).2.length = S.q.length := sprJ_len _ _ _
  have h3 : (noSd Js).wt (S.j2 a) = (S.j2 a).2 := rfl
  have h4 : (S.r3 a).length + (S.q3 a).length <= S.r.length + (S.j2 a).2.length := h1
  have h5 := st_len (noSd Js) (fun s x => (S.k5 a).al s.1 x) (S.k5 a).mq (fun s x => (S.k5 a).nw s.1 x) (fun _ _ => rfl) (S.j4 a, S.q3 a) (S.r3 a)
  have h6 : ((S.k5 a).tR (S.j4 a, S.q3 a) (S.r3 a)).length + ((S.k5 a).tQ (S.j4 a, S.q3 a) (S.r3 a)).length <= (S.r3 a).length + (S.q3 a).length := h5
  dsimp only
  omega
theorem KInv.gcut (h : KInv a S.s Y G) (hb : Wbd a S.s) : (S.jfull a = false -> ∃ F, SlG (S.k5 a) (S.j5 a) F /\ F 0 (S.k5 a, 0)) /\ (∃ Y' G', KInv a (S.gcut a).s Y' G') /\ (S.gcut a).s.M.length <= S.s.M.length := by
 refine ⟨fun hf => (great_in h hb hf).1, ?_⟩
 cases hf : S.jfull a
 ·obtain ⟨_, g, _⟩ := great_in h hb hf
  obtain ⟨i1, _⟩ := g.gc.inv h hb g.al
  exact ⟨⟨[], _, i1⟩, by rw [g.gc.M]; exact Nat.zero_le _⟩
 ·have eG : S.gcut a = S := by unfold Ww.gcut; rw [if_pos hf]
  rw [eG]
  exact ⟨⟨Y, G, h⟩, Nat.le_refl _⟩
end
end Go.Proofs.YtnalfnlmaallmaaGreat

namespace Go.Proofs.YtnalfnlmaallmaaGreat
open Go.RowKit W Kp Stl
structure Clg (k : Jk) (C : Int -> Prop) : Prop where
  rt : ∀ i, i < 12 -> k.jt (k.s.rs.getD i 0) = true -> C (aV (k.s.rs.getD i 0))
  p : ∀ a ∈ k.T, C a -> pk (k.ld a) = 1 \/ pk (k.ld a) = 2 -> ∀ i : Nat, (i : Int) < pf (k.ld a) -> k.jt (k.ld (a + 1 + i)) = true -> C (aV (k.ld (a + 1 + i)))
  w : ∀ a ∈ k.T, C a -> pk (k.ld a) = 3 -> k.jt (k.ld (a + 2)) = true -> C (aV (k.ld (a + 2)))
  e : ∀ a ∈ k.T, C a -> pk (k.ld a) = 4 -> (k.jt (k.ld (a + 1)) = true -> C (aV (k.ld (a + 1)))) -> k.jt (k.ld (a + 2)) = true -> C (aV (k.ld (a + 2)))
def Cqg (k : Jk) (C : Int -> Prop) (q : List En) : Prop := ∀ e ∈ q, (k.jt e.1 = true -> C (aV e.1)) -> k.jt e.2 = true -> C (aV e.2)
structure Sn (k : Jk) (C : Int -> Prop) (s : Js) : Prop where
  snd : ∀ a ∈ k.T, s.f a ≠ -1 -> C a
  ea : ∀ a ∈ s.ep, a ∈ k.T /\ s.f a ≠ -1 /\ pk (k.ld a) = 4
section
variable {k : Jk} {C : Int -> Prop} {s : Js}
theorem Sn.jl (h : Sn k C s) {x : Int} (hj : k.jl s x = false) : k.jt x = true -> C (aV x) := fun ht => h.snd _ (jt_mem ht) ((Jk.jl_no ht).1 hj)
theorem Sn.al (h : Sn k C s) {x : Int} (hj : k.al s x = true) : k.jt x = true -> C (aV x) := h.jl (by unfold Jk.al at hj; simpa using hj)
theorem Sn.ma (h : Sn k C s) (x : Int) (hx : k.jt x = true -> C (aV x)) (le : Mle k s (k.ma s x)) : Sn k C (k.ma s x) := by
 refine ⟨fun b hb hf => ?_, fun b hb => ?_⟩
 ·by_cases c : k.jl s x = true
  ·have e : (k.ma s x).f b = if b = aV x then aV x else s.f b := by unfold Jk.ma; rw [if_pos c]; rfl
   rw [e] at hf
   by_cases d : b = aV x
   ·rw [d]
    refine hx ?_
    unfold Jk.jl at c
    rw [Bool.and_eq_true] at c
    exact c.1
   ·rw [if_neg d] at hf
    exact h.snd b hb hf
  ·have e : k.ma s x = s := by unfold Jk.ma; rw [if_neg c]
   rw [e] at hf
   exact h.snd b hb hf
 ·rw [ma_ep] at hb
  obtain ⟨q1, q2, q3⟩ := h.ea b hb
  exact ⟨q1, by rw [le.f b q2]; exact q2, q3⟩
theorem Sn.mas {X : Int -> Prop} (h : Sn k C s) (m : Mg k X s) (a : Int) : ∀ n : Nat, (∀ i : Nat, i < n -> k.jt (k.ld (a + 1 + i)) = true -> C (aV (k.ld (a + 1 + i)))) -> Sn k C (k.mas s a n)
 | 0, _ => h
 | n + 1, hC => by
  have h1 := Sn.mas h m a n (fun i hi => hC i (by omega))
  obtain ⟨m1, _⟩ := m.mas a n
  exact h1.ma _ (hC n (by omega)) (m1.ma _).2.1
theorem Sn.l1 (h : Sn k C s) (m : Mg k (fun _ => False) s) (hC : Clg k C) (hl : 0 < s.td.length) : Sn k C (k.l1 s) := by
 obtain ⟨x, hx⟩ : ∃ x, s.td.getD (s.td.length - 1) 0 = x := ⟨_, rfl⟩
 have hm : x ∈ s.td := by
  rw [<- hx, List.getD_eq_getElem?_getD, List.getElem?_eq_getElem (by omega)]
  exact List.getElem_mem _
 have hT := m.ji.td x hm
 have hf := m.td x hm
 have hc := h.snd x hT hf
 have e1 : k.l1 s = k.lk { s with td := s.td.take (s.td.length - 1) } x := by unfold Jk.l1; rw [hx]
 have hs := m.ji.sum
 have el : (s.td.take (s.td.length - 1)).length = s.td.length - 1 := by rw [List.length_take]; omega
 have m0 : Mg k (fun b => b ∈ s.td) { s with td := s.td.take (s.td.length - 1) } := ⟨⟨m.ji.nd, m.ji.ps, fun a ha => m.ji.td a (List.mem_of_mem_take ha), m.ji.ep, m.ji.tl, by
  show k.lost s + (s.td.take (s.td.length - 1)).length + s.ep.length <= _
  omega⟩, m.self, fun a ha => m.td a (List.mem_of_mem_take ha), fun a ha hfa => by
  rcases m.cmp a ha hfa with q | q | q
  ·exact Or.inr (Or.inl q)
  ·exact absurd q id
  ·exact Or.inr (Or.inr ⟨q.p, q.w, q.e⟩)⟩
 have h0 : Sn k C { s with td := s.td.take (s.td.length - 1) } := ⟨h.snd, h.ea⟩
 rw [e1]
 unfold Jk.lk
 by_cases c1 : pk (k.ld x) = 1 \/ pk (k.ld x) = 2
 ·rw [if_pos c1]
  exact h0.mas m0 x _ (fun i hi => hC.p x hT hc c1 i (by omega))
 ·rw [if_neg c1]
  by_cases c3 : pk (k.ld x) = 3
  ·rw [if_pos c3]
   exact h0.ma _ (hC.w x hT hc c3) (m0.ma _).2.1
  ·rw [if_neg c3]
   by_cases c4 : pk (k.ld x) = 4
   ·rw [if_pos c4]
    refine ⟨h.snd, fun b hb => ?_⟩
    rcases List.mem_append.1 hb with hb | hb
    ·exact h.ea b hb
    ·rw [List.mem_singleton.1 hb]
     exact ⟨hT, hf, c4⟩
   ·rw [if_neg c4]
    exact h0
theorem Sn.lm (hC : Clg k C) : ∀ (n : Nat) {s : Js}, Sn k C s -> Mg k (fun _ => False) s -> Sn k C (k.lm n s)
 | 0, s, h, _ => h
 | n + 1, s, h, m => by
  unfold Jk.lm
  by_cases c : 0 < s.td.length
  ·rw [if_pos c]
   exact Sn.lm hC n (h.l1 m hC c) (m.l1 c).1
  ·rw [if_neg c]
   exact h
theorem Sn.kvl (hC : Clg k C) : ∀ (l : List Int) {t : List Int × Js}, Sn k C t.2 -> Mg k (fun _ => False) t.2 -> (∀ a ∈ l, a ∈ k.T /\ t.2.f a ≠ -1 /\ pk (k.ld a) = 4) -> Sn k C (l.foldl k.kv1 t).2 /\ ∀ a ∈ (l.foldl k.kv1 t).1, a ∈ t.1 \/ a ∈ l
 | [], t, h, _, _ => ⟨h, fun _ ha => Or.inl ha⟩
 | a :: l, t, h, m, hl => by
  rw [List.foldl_cons]
  obtain ⟨a1, a2, a3⟩ := hl a (by simp)
  by_cases c : k.jl t.2 (k.ld (a + 1)) = true
  ·have e : k.kv1 t a = (t.1 ++ [a], t.2) := by unfold Jk.kv1; rw [if_pos c]
   rw [e]
   obtain ⟨i1, i2⟩ := Sn.kvl hC l (t := (t.1 ++ [a], t.2)) h m (fun b hb => hl b (List.mem_cons_of_mem _ hb))
   refine ⟨i1, fun b hb => ?_⟩
   rcases i2 b hb with q | q
   ·rcases List.mem_append.1 q with q | q
    ·exact Or.inl q
    ·exact Or.inr (by rw [List.mem_singleton.1 q]; simp)
   ·exact Or.inr (List.mem_cons_of_mem _ q)
  ·have e : k.kv1 t a = (t.1, k.ma t.2 (k.ld (a + 2))) := by unfold Jk.kv1; rw [if_neg c]
   rw [e]
   obtain ⟨m1, m2, _⟩ := m.ma (k.ld (a + 2))
   have h1 := h.ma (k.ld (a + 2)) (hC.e a a1 (h.snd a a1 a2) a3 (h.jl (by simpa using c))) m2
   obtain ⟨i1, i2⟩ := Sn.kvl hC l (t := (t.1, k.ma t.2 (k.ld (a + 2)))) h1 m1 (fun b hb => by
    obtain ⟨b1, b2, b3⟩ := hl b (List.mem_cons_of_mem _ hb)
    exact ⟨b1, by rw [m2.f b b2]; exact b2, b3⟩)
   exact ⟨i1, fun b hb => (i2 b hb).imp id (fun q => List.mem_cons_of_mem _ q)⟩
theorem Sn.kv (hC : Clg k C) (h : Sn k C s) (m : Mg k (fun _ => False) s) : Sn k C (k.kv s).2 := by
 obtain ⟨h1, h2⟩ := Sn.kvl hC s.ep (t := ([], s)) h m h.ea
 obtain ⟨_, le, _⟩ := Mg.kvl s.ep (t := ([], s)) m
 refine ⟨h1.snd, fun b hb => ?_⟩
 have hb : b ∈ (s.ep.foldl k.kv1 ([], s)).1 := hb
 rcases h2 b hb with q | q
 ·cases q
 ·obtain ⟨q1, q2, q3⟩ := h.ea b q
  exact ⟨q1, by show (s.ep.foldl k.kv1 ([], s)).2.f b ≠ -1; rw [le.f b q2]; exact q2, q3⟩
theorem Sn.wal (q : List En) (hQ : Cqg k C q) : ∀ (l : List Nat) (t : (Js × List En) × Bool), t.1.2 = q -> (∀ i ∈ l, i < q.length) -> Sn k C t.1.1 -> Mg k (fun _ => False) t.1.1 -> Sn k C (l.foldl (wkP k.al k.mp) t).1.1
 | [], t, _, _, h, _ => h
 | i :: l, t, e, hl, h, m => by
  rw [List.foldl_cons]
  have hi := hl i (by simp)
  by_cases c : (k.al t.1.1 (t.1.2.getD i (0, 0)).2 || !k.al t.1.1 (t.1.2.getD i (0, 0)).1) = true
  ·have e1 : wkP k.al k.mp t i = t := by unfold wkP; rw [if_pos c]
   rw [e1]
   exact Sn.wal q hQ l t e (fun j hj => hl j (List.mem_cons_of_mem _ hj)) h m
  ·have e1 : wkP k.al k.mp t i = ((k.ma t.1.1 (t.1.2.getD i (0, 0)).2, t.1.2), true) := by
    unfold wkP
    rw [if_neg c]
    show ((k.ma t.1.1 (t.1.2.getD i (0, 0)).2, t.1.2.set i ((t.1.2.getD i (0, 0)).1, (t.1.2.getD i (0, 0)).2)), true) = _
    have e2 : t.1.2.set i ((t.1.2.getD i (0, 0)).1, (t.1.2.getD i (0, 0)).2) = t.1.2 := set_getD _ _ _
    rw [e2]
   rw [e1]
   have hm : t.1.2.getD i (0, 0) ∈ q := by
    rw [e, List.getD_eq_getElem?_getD, List.getElem?_eq_getElem hi]
    exact List.getElem_mem hi
   have hg : k.al t.1.1 (t.1.2.getD i (0, 0)).1 = true := by
    cases hh : k.al t.1.1 (t.1.2.getD i (0, 0)).1
    ·exact absurd (by rw [hh]; simp) c
    ·rfl
   obtain ⟨m1, m2, _⟩ := m.ma (t.1.2.getD i (0, 0)).2
   exact Sn.wal q hQ l _ e (fun j hj => hl j (List.mem_cons_of_mem _ hj)) (h.ma _ (hQ _ hm (h.al hg)) m2) m1
theorem Sn.spr (hC : Clg k C) : ∀ (n : Nat) (t : Js × List En), Cqg k C t.2 -> Sn k C t.1 -> Mg k (fun _ => False) t.1 -> Sn k C (k.spr n t).1
 | 0, t, _, h, _ => h
 | n + 1, t, hQ, h, m => by
  obtain ⟨l1, _⟩ := m.LM
  have h1 : Sn k C (k.LM t.1) := Sn.lm hC _ h m
  have h2 := Sn.kv hC h1 l1
  obtain ⟨v1, _⟩ := l1.kv
  have h3 : Sn k C (k.wa ((k.kv (k.LM t.1)).2, t.2)).1.1 := Sn.wal t.2 hQ _ (((k.kv (k.LM t.1)).2, t.2), false) rfl (fun i hi => by simpa using hi) h2 v1
  obtain ⟨w1, _, w3, _⟩ := Mg.wa (t := ((k.kv (k.LM t.1)).2, t.2)) v1
  unfold Jk.spr
  split
  ·exact Sn.spr hC n _ hQ h2 v1
  ·split
   ·exact Sn.spr hC n _ (by rw [w3]; exact hQ) h3 w1
   ·exact h3
theorem Sn.ke (hC : Clg k C) {t : Js × List En} (hQ : Cqg k C t.2) (h : Sn k C t.1) (m : Mg k (fun _ => False) t.1) (x : Int) (hx : k.jt x = true -> C (aV x)) : Sn k C (k.ke t x).2.1 := by
 obtain ⟨m1, m2, _⟩ := m.ma x
 exact Sn.spr hC _ (k.ma t.1 x, t.2) hQ (h.ma x hx m2) m1
end
end Go.Proofs.YtnalfnlmaallmaaGreat

namespace Go.Proofs.YtnalfnlmaallmaaGreat
open Go.RowKit W Kp Stl
section
variable {k : Jk}
end
section
variable {a : Wc} {S : Ww} {Y G : List Int}
theorem q5_of (h : KInv a S.s Y G) (hb : Wbd a S.s) (hf : S.jfull a = false) : (S.gcut a).q = (((S.s.j0 a).sS (S.j2 a) S.r).2.filter (fun e => (S.s.j0 a).al (S.j3 a) e.1)).map (fun e => ((S.s.j0 a).nw (S.j4 a) e.1, (S.s.j0 a).nw (S.j4 a) e.2)) := by
 have hI : JI (S.s.j0 a) js0 := JI.start hb.n1 hb.o1 hb.y1 hb.g1
 obtain ⟨d1, d2, d3⟩ := settled_all (S := S) hI
 obtain ⟨_, l2, l3⟩ := j0_lists h.inv.full hb
 obtain ⟨_, g, e5⟩ := great_in h hb hf
 obtain ⟨_, t2, t3, _⟩ := tlA_ld (s := S.j4 a) (k := S.s.j0 a) ⟨hb.l1, hb.y1, hb.g1⟩ hb.r1 hI.nd (j0_whl h.inv.full hb) (j0_ap h.inv.full hb)
 have t2 : (S.k5 a).Y = (S.s.j0 a).Y := t2
 have t3 : (S.k5 a).G = (S.s.j0 a).G := t3
 have hT5 : (S.k5 a).T = (S.s.j0 a).T := by unfold Jk.T; rw [t2, t3]
 have hjl : ∀ x, (S.k5 a).al (S.j4 a) x = (S.s.j0 a).al (S.j3 a) x := fun x => by
  have q0 : (S.k5 a).jl (S.j4 a) x = (S.s.j0 a).jl (S.j4 a) x := by
   unfold Jk.jl Jk.jt
   rw [hT5]
  unfold Jk.al
  rw [q0]
  cases hj : (S.s.j0 a).jt x
  ·unfold Jk.jl
   rw [hj]
   rfl
  ·have hmem := jt_mem hj
   rw [l3] at hmem
   have q := g.iff _ hmem
   unfold Jk.jl
   rw [hj, Bool.true_and, Bool.true_and]
   by_cases c : (S.j3 a).f (aV x) = -1
   ·rw [c, q.2 c]
   ·rw [beq_false_of_ne c, beq_false_of_ne (fun d => c (q.1 d))]
 have q3 : S.q3 a = ((S.s.j0 a).sS (S.j2 a) S.r).2.filter (fun e => (S.s.j0 a).al (S.j3 a) e.1) := by
  show ((((S.s.j0 a).sS (S.j2 a) S.r).2.filter (fun e => (S.s.j0 a).al (S.j3 a) e.1)).map fun e => ((S.s.j0 a).nw (S.j3 a) e.1, (S.s.j0 a).nw (S.j3 a) e.2)) = _
  have : (fun e : En => ((S.s.j0 a).nw (S.j3 a) e.1, (S.s.j0 a).nw (S.j3 a) e.2)) = id := by
   funext e
   rw [d1.mg.nw, d1.mg.nw]
   rfl
  rw [this, List.map_id]
 have eS : (S.k5 a).tS (S.j4 a, S.q3 a) (S.r3 a) = (S.j4 a, S.q3 a) := tS_same (fun e he => by
  show (S.k5 a).al (S.j4 a) e.2 = true
  rw [hjl]
  exact r3_alive (S := S) hI e he)
 unfold Ww.gcut
 rw [hf, if_neg (by simp)]
 show stQ (noSd Js) (fun s x => (S.k5 a).al s.1 x) (S.k5 a).mq (fun s x => (S.k5 a).nw s.1 x) (S.j4 a, S.q3 a) (S.r3 a) = _
 unfold stQ
 have e : stS (noSd Js) (fun s x => (S.k5 a).al s.1 x) (S.k5 a).mq (S.j4 a, S.q3 a) (S.r3 a) = (S.j4 a, S.q3 a) := eS
 rw [e]
 show ((S.q3 a).filter (fun e => (S.k5 a).al (S.j4 a) e.1)).map (fun e => ((S.k5 a).nw (S.j4 a) e.1, (S.k5 a).nw (S.j4 a) e.2)) = _
 have e1 : (S.q3 a).filter (fun e => (S.k5 a).al (S.j4 a) e.1) = S.q3 a := List.filter_eq_self.2 (fun e he => by
  rw [hjl]
  rw [q3] at he
  exact (List.mem_filter.1 he).2)
 rw [e1, q3]
 refine List.map_congr_left (fun e _ => ?_)
 rw [Jk.nw_of (k := S.k5 a) (k0 := S.s.j0 a) _ _ t2 t3, Jk.nw_of (k := S.k5 a) (k0 := S.s.j0 a) _ _ t2 t3]
end
end Go.Proofs.YtnalfnlmaallmaaGreat

namespace Go.Proofs.YtnalfnlmaallmaaGreat
open Go.RowKit W Kp Stl
section
variable {a : Wc} {S : Ww} {Y G : List Int}
end
end Go.Proofs.YtnalfnlmaallmaaGreat

namespace Go.Proofs.YtnalfnlmaallmaaGreat
open Go.RowKit W Kp Stl
section
variable {a : Wc} {S : Ww} {G : List Int}
end
end Go.Proofs.YtnalfnlmaallmaaGreat

namespace Go.Proofs.YtnalfnlmaallmaaGreat
open Go.RowKit W Kp Stl
section
variable {a : Wc} {S : Ww} {Y G : List Int}
theorem tB_iff {N O y g : Nat} {ws Y G : List Int} (h : Full2 N y g ws Y G) (hN : N <= 256) (hy : y <= N) (hO : O <= 1024) (hg : g <= O) {x : Int} : tB N y g ws x = true ↔ aB x = true /\ (aV x ∈ Y \/ aV x ∈ G) := by
 refine ⟨tB_mem (O := O) h hN hy hO hg, fun ⟨h1, h2⟩ => ?_⟩
 obtain ⟨e1, e2⟩ := h.lists (O := O) hN hy hO hg
 unfold tB
 rw [h1, e1, e2]
 rcases h2 with q | q
 ·rw [List.contains_iff_mem.2 q]
  rfl
 ·rw [List.contains_iff_mem.2 q, Bool.or_true]
  rfl
end
end Go.Proofs.YtnalfnlmaallmaaGreat

namespace Go.Proofs.YtnalfnlmaallmaaGreat
open Go.RowKit W Kp Stl
def Wqa (k : Ck) (s : Cs) (q : List En) : Prop := ∀ e ∈ q, k.al s e.2 = true \/ k.al s e.1 = false
section
variable {k : Ck} {z : C0} {s t u : Cs} {D H : List Int} {q : List En}
theorem al_pg (p : Pg k s t) {x : Int} (h : k.al s x = true) : k.al t x = true := by
 unfold Ck.al Ck.ls at h ⊢
 cases c : k.yg x
 ·rfl
 ·rw [c] at h
  have h1 : s.f (aV x) ≠ -1 := by
   intro e
   rw [e] at h
   simp at h
  rw [p.f _ h1]
  simpa using h1
theorem al_old {x : Int} (h : k.yg x = false) : k.al s x = true := by
 unfold Ck.al Ck.ls
 rw [h]
 rfl
theorem wkl_ok (k : Ck) : ∀ (l : List Nat) (t : (Cs × List En) × Bool), (l.foldl (wkP k.al k.br) t).2 = false -> ∀ i ∈ l, k.al t.1.1 (t.1.2.getD i (0, 0)).2 = true \/ k.al t.1.1 (t.1.2.getD i (0, 0)).1 = false
 | [], _, _, _, hi => by cases hi
 | j :: l, t, h, i, hi => by
  rw [List.foldl_cons] at h
  obtain ⟨_, h2⟩ := wkl_idle k l _ h
  by_cases c : (k.al t.1.1 (t.1.2.getD j (0, 0)).2 || !k.al t.1.1 (t.1.2.getD j (0, 0)).1) = true
  ·have e1 : wkP k.al k.br t j = t := by unfold wkP; rw [if_pos c]
   rw [e1] at h
   rcases List.mem_cons.1 hi with rfl | hi
   ·simpa using c
   ·exact wkl_ok k l t h i hi
  ·unfold wkP at h2
   rw [if_neg c] at h2
   cases h2
theorem spr_wq : ∀ (n : Nat) (t : Cs × List En) (H : List Int), LI k z t.1 H D -> WE k z t.1 H -> CB k t.1 -> k.mu t.1 < n -> Wqa k (k.spr n t).1 (k.spr n t).2
 | 0, t, H, _, _, _, e => absurd e (by omega)
 | n + 1, t, H, h, w, hb, e => by
  obtain ⟨H1, l1, w1, _, _, _⟩ := LI.lbw (k.O + 1) h w
  obtain ⟨c1, c2, c3⟩ := CI.lb h.mi.ci hb (k.O + 1)
  obtain ⟨d1, d2, d3, d4⟩ := CI.kv c1 c2
  obtain ⟨H2, l2, w2, _, _⟩ := l1.kv w1
  unfold Ck.spr
  cases hk : (k.kv (k.lb (k.O + 1) t.1)).1
  ·rw [if_neg (by simp)]
   obtain ⟨f1, f2, f3, f4, f5⟩ := CI.wa (s := ((k.kv (k.lb (k.O + 1) t.1)).2, t.2)) d1 d2
   cases hw : (k.wa ((k.kv (k.lb (k.O + 1) t.1)).2, t.2)).2
   ·rw [if_neg (by simp), wa_idle k _ hw]
    intro d hd
    obtain ⟨i, hi, ei⟩ := List.mem_iff_getElem.1 hd
    have q := wkl_ok k (List.range t.2.length) (((k.kv (k.lb (k.O + 1) t.1)).2, t.2), false) hw i (List.mem_range.2 hi)
    have e2 : t.2.getD i (0, 0) = d := by
     rw [List.getD_eq_getElem?_getD, List.getElem?_eq_getElem hi, ei]
     rfl
    dsimp only at q
    rw [e2] at q
    exact q
   ·rw [if_pos rfl]
    obtain ⟨H3, l3, w3, _, _⟩ := Ru.wa (k := k) (z := z) (D := D) ((k.kv (k.lb (k.O + 1) t.1)).2, t.2) H2 l2 w2
    have h5 := f5 hw
    dsimp only at h5
    exact spr_wq n _ H3 l3 w3 f2 (by omega)
  ·rw [if_pos rfl]
   have h5 := d4 hk
   exact spr_wq n ((k.kv (k.lb (k.O + 1) t.1)).2, t.2) H2 l2 w2 d2 (by dsimp only; omega)
end
section
variable {a : Wc} {S : Ww} {Y G : List Int}
end
end Go.Proofs.YtnalfnlmaallmaaGreat
