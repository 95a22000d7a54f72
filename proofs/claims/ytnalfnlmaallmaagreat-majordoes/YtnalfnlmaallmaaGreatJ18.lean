/- Joined: Mn8, Mn9, Mn12, Mn13. -/
import Derived.Test.YtnalfnlmaallmaaGreatJ17
import Derived.Test.YtnalfnlmaallmaaGreatJ16
namespace Go.Proofs.YtnalfnlmaallmaaGreat
set_option maxRecDepth 100000
set_option maxHeartbeats 1000000
open Go.RowKit W Kp Stl
def obI {τ : Type} (o : Ob τ) (I : τ -> Prop) : Ob τ where
  J F t w := o.J F t w /\ I t
  lt := fun h => o.lt h.1
  keep := fun h hs hk => ⟨o.keep h.1 hs hk, h.2⟩
def obX {τ : Type} (o : Ob τ) (bx : Nat) (x : Obj) : Ob τ where
  J F t w := ∃ F0, o.J F0 t w /\ w.heap[bx]? = some x /\ ¬ F0 bx /\ ∀ b, F b ↔ (F0 b \/ b = bx)
  lt := by
    rintro F t w ⟨F0, h, hx, _, hF⟩ b hb
    rcases (hF b).1 hb with hb | hb
    · exact o.lt h b hb
    · rw [hb]; exact lt_of_some hx
  keep := by
    rintro F t w w' ⟨F0, h, hx, hn, hF⟩ hs hk
    exact ⟨F0, o.keep h hs (fun b hb => hk b ((hF b).2 (Or.inl hb))), (hk bx ((hF bx).2 (Or.inr rfl))).trans hx, hn, hF⟩
section
variable {τ : Type} {o : Ob τ} {bx p : Nat} {x : Obj} {vr : Value} {F : Nat -> Prop} {w w' : World}
theorem mkSd_in {t : τ × List En} (h : (mkSd o p vr).J F t w) : ∃ F0, o.J F0 t.1 w /\ ∀ F1 t1 w', o.J F1 t1 w' -> Tn F0 w F1 w' -> ∃ F', (mkSd o p vr).J F' (t1, t.2) w' /\ Tn F w F' w' := by
 obtain ⟨F0, ad, cap, h1, h2, h3, h4, h5, h6, h7, h8⟩ := h
 refine ⟨F0, h1, fun F1 t1 w' hJ hT => ?_⟩
 have lp := lt_of_some h2
 refine ⟨fun k => F k \/ F1 k, ⟨F1, ad, cap, hJ, (hT.fr.block p lp h6).trans h2, row_keep h3 (fun k e => hT.fr.block k (row_lt h3 k e).2 (h7 k e).2), fun k h => Or.inr h, Or.inl h5, fun h => (hT.sub p h).elim h6 (fun h => by omega), fun k e => ⟨Or.inl (h7 k e).1, fun h => (hT.sub k h).elim (h7 k e).2 (fun h => by have := (row_lt h3 k e).2; omega)⟩, fun k h => ?_⟩, hT.fr.mono h4, fun k h => ?_⟩
 ·rcases h with h | h
  ·exact Nat.lt_of_lt_of_le (h8 k h) hT.fr.size
  ·exact o.lt hJ k h
 ·rcases h with h | h
  ·exact Or.inl h
  ·exact (hT.sub k h).imp (h4 k) id
theorem mkSd_add {t : τ × List En} (h : (mkSd o p vr).J F t w) (hx : w.heap[bx]? = some x) (hn : ¬ F bx) : (mkSd (obX o bx x) p vr).J (fun b => F b \/ b = bx) t w := by
 obtain ⟨F0, ad, cap, h1, h2, h3, h4, h5, h6, h7, h8⟩ := h
 refine ⟨fun b => F0 b \/ b = bx, ad, cap, ⟨F0, h1, hx, fun c => hn (h4 _ c), fun b => Iff.rfl⟩, h2, h3, fun b hb => hb.imp (h4 b) id, Or.inl h5, fun c => c.elim h6 (fun e => hn (by rw [<- e]; exact h5)), fun b e => ⟨Or.inl (h7 b e).1, fun c => c.elim (h7 b e).2 (fun e' => hn (by rw [<- e']; exact (h7 b e).1))⟩, fun b hb => hb.elim (h8 b) (fun e => by rw [e]; exact lt_of_some hx)⟩
theorem mkSd_drop {t : τ × List En} (h : (mkSd (obX o bx x) p vr).J F t w) : (mkSd o p vr).J F t w := by
 obtain ⟨F0, ad, cap, ⟨F1, g1, g2, g3, g4⟩, h2, h3, h4, h5, h6, h7, h8⟩ := h
 exact ⟨F1, ad, cap, g1, h2, h3, fun b hb => h4 b ((g4 b).2 (Or.inl hb)), h5, fun c => h6 ((g4 p).2 (Or.inl c)), fun b e => ⟨(h7 b e).1, fun c => (h7 b e).2 ((g4 b).2 (Or.inl c))⟩, h8⟩
theorem keeps_obX {D : Int -> Prop} {f : Nat} {b c : Array Value} {kp : τ -> Int -> Int × τ} (hk : Keeps o D f b c kp) : Keeps (obX o bx x) D f b c kp := by
 rintro F t w y hD ⟨F0, h, hx, hn, hF⟩
 refine (hk F0 t w y hD h).mono ?_
 rintro r w' ⟨F1, rfl, hJ, hf, hF1⟩
 refine ⟨fun b => F1 b \/ b = bx, rfl, ⟨F1, hJ, (hf.block bx (lt_of_some hx) hn).trans hx, fun c => (hF1 bx c).elim hn (fun c => by have := lt_of_some hx; omega), fun b => Iff.rfl⟩, hf.mono (fun b hb => (hF b).2 (Or.inl hb)), fun b hb => ?_⟩
 rcases hb with hb | hb
 ·exact (hF1 b hb).imp (fun c => (hF b).2 (Or.inl c)) id
 ·exact Or.inl ((hF b).2 (Or.inr hb))
theorem tells_obX {D : Int -> Prop} {f : Nat} {b c : Array Value} {nw : τ -> Int -> Int} (ht : Tells o D f b c nw) : Tells (obX o bx x) D f b c nw := by
 rintro F t w y hD ⟨F0, h, _⟩
 exact ht F0 t w y hD h
end
def cutI (c : Cc) (k : Ck) : Ob Cs := obI (cutO c k) (fun s => CI k s /\ CB k s)
abbrev boxC (c : Cc) : Obj := .cells #[.pointer (some ⟨c.pk, 0, none⟩)] 107 (0, 0)
abbrev faM (bx : Nat) : Fv := ⟨141, #[], #[.pointer (some ⟨bx, 0, none⟩)]⟩
abbrev fnM (c : Cc) : Fv := ⟨143, #[.pointer (some ⟨c.pk, 0, none⟩)], #[]⟩
abbrev fbM (c : Cc) : Fv := ⟨127, #[.pointer (some ⟨c.pk, 0, none⟩)], #[]⟩
abbrev fkM (c : Cc) : Fv := ⟨66, #[.pointer (some ⟨c.pk, 0, none⟩)], #[]⟩
theorem ent_faM : Ent 141 := ent_of Tryz.func141 (by kernel_rfl) rfl
theorem ent_fnM : Ent 143 := ent_of Tryz.func143 (by kernel_rfl) rfl
theorem ent_fbM : Ent 127 := ent_of Tryz.func127 (by kernel_rfl) rfl
theorem ent_fkM : Ent 66 := ent_of Tryz.func66 (by kernel_rfl) rfl
section
variable {c : Cc} {k : Ck} {F : Nat -> Prop} {s : Cs} {w : World}
theorem looksM_any (fv : Fv) (w : World) (p : Nat) :
  Calls Tryz.prog 65 #[.pointer (some ⟨p, 0, none⟩), fv.v] w fun e w' => e = .returned (.agg #[(faM w.heap.size).v, fv.v, .func (.func 143) #[.pointer (some ⟨p, 0, none⟩)] #[]]) /\ w'.heap[w.heap.size]? = some (.cells #[.pointer (some ⟨p, 0, none⟩)] 107 (0, 0)) /\ Below w.heap.size w w' := by
 obtain ⟨f, b, c⟩ := fv
 have hmf : ∀ (fn : Fn) (first cap : Array Value) (w : World), (Instr.makeFunc fn first cap).run Tryz.prog w = .ok (.func fn first cap) w := fun _ _ _ _ => rfl
 go_enter Tryz.func65, Tryz.ntmps65
 go_wp2_with fail
 refine bodyPost_ret (v := .agg #[(faM w.heap.size).v, .func (.func f) b c, .func (.func 143) #[.pointer (some ⟨p, 0, none⟩)] #[]]) (by simp [results, Tryz.results65, go_sem]) rfl ⟨rfl, ?_, ((Below.refl _ w).alloc (Nat.le_refl _) _).alloc (by simp) _⟩
 rw [Below.heap_alloc _ _ _ (by simp)]
 exact heap_alloc_new _ _
theorem alives_faM (bx : Nat) : Alives (obX (cutI c k) bx (boxC c)) (fun _ => True) (faM bx).f (faM bx).b (faM bx).c k.al := by
 rintro F s w x _ ⟨F0, ⟨⟨vw, ve, h⟩, _⟩, hx, _⟩
 have P := lost_any h x
 have c0 : w.cell? ⟨bx, 0, none⟩ = some (.pointer (some ⟨c.pk, 0, none⟩)) := by simp [World.cell?, hx]
 have E : k.al s x = !k.ls s x := rfl
 rw [E]
 clear h hx E
 generalize k.ls s x = b at P ⊢
 show Calls Tryz.prog 141 #[.int .i64 x, .pointer (some ⟨bx, 0, none⟩)] w _
 go_enter Tryz.func141, Tryz.ntmps141
 go_wp2_with fail
 refine P.mono ?_
 rintro e w1 ⟨rfl, hb1⟩
 go_wp2_with fail
 go_ret
 exact ⟨rfl, hb1⟩
theorem tells_fnM : Tells (cutI c k) (fun _ => True) (fnM c).f (fnM c).b (fnM c).c k.nw := by
 rintro F s w x _ ⟨⟨vw, ve, h⟩, _⟩
 exact nowM_any h x
theorem keeps_fbM : Keeps (cutI c k) (fun _ => True) (fbM c).f (fbM c).b (fbM c).c k.br := by
 rintro F s w x _ ⟨⟨vw, ve, h⟩, hI, hB⟩
 refine (bring_any h hI x).mono ?_
 rintro r w' ⟨rfl, hJ, hT⟩
 obtain ⟨i1, i2, _⟩ := hI.br x
 exact ⟨F, rfl, ⟨⟨vw, ve, hJ⟩, i1, i2.cb hB⟩, hT.fr, hT.sub⟩
end
end Go.Proofs.YtnalfnlmaallmaaGreat

namespace Go.Proofs.YtnalfnlmaallmaaGreat
set_option maxRecDepth 100000
set_option maxHeartbeats 2000000
open Go.RowKit W Kp Stl
def lenOf (w : World) (p : Nat) : Nat := match w.cell? ⟨p, 4, none⟩ with
 | some (.slice _ n _) => n
 | _ => 0
def usedOf (w : World) (p : Nat) : Int := match w.cell? ⟨p, 6, none⟩ with
 | some (.int _ v) => v
 | _ => 0
def muOf (c : Cc) (k : Ck) (w : World) : Nat := (k.N + k.O + 13 - nxOf w c.pk).toNat + lenOf w c.pk + (k.O - (usedOf w c.p).toNat)
def bOf : Value -> Nat
 | .bool true => 1
 | _ => 0
section
variable {c : Cc} {k : Ck} {F : Nat -> Prop} {s : Cs} {w : World} {vr : Value}
theorem muOf_eq (h : (cutO c k).J F s w) : muOf c k w = k.mu s := by
 obtain ⟨vw, ve, h⟩ := h
 obtain ⟨_, _, c2, _, c4, _, _, _, _, _, _, er, _⟩ := cut_cells h
 obtain ⟨hA, _⟩ := cut_arena h
 obtain ⟨ad, cap, e⟩ := row_slice er
 have c6 := hA.cells.2.2.2.2.2.2
 have e1 : lenOf w c.pk = s.ep.length := by unfold lenOf; rw [c4, e]
 have e2 : usedOf w c.p = s.g := by unfold usedOf; rw [c6]
 unfold muOf Ck.mu
 rw [nxOf_eq c2, e1, e2, Int.toNat_natCast]
theorem wakeM_any {adr : Option Addr} {nr cr : Nat} (hvr : vr = .slice adr nr cr) {t : Cs × List En} (h : (mkSd (cutI c k) c.sd vr).J F t w) (hq : t.2.length <= 90000) (bx : Nat) (hx : w.heap[bx]? = some (boxC c)) (hn : ¬ F bx) :
  Calls Tryz.prog 133 #[.pointer (some ⟨c.sd, 0, none⟩), .agg #[(faM bx).v, (fbM c).v, (fnM c).v]] w fun e w' => ∃ F', e = .returned (.bool (k.wa t).2) /\ (mkSd (cutI c k) c.sd vr).J F' (k.wa t).1 w' /\ Fr (fun b => F b \/ b = bx) w w' /\ (∀ b, F' b -> F b \/ b = bx \/ w.heap.size <= b) := by
 have hL := lks_mk (obX (cutI c k) bx (boxC c)) c.sd vr (fun _ => True) (faM bx) (fbM c) (fnM c) k.al k.br k.nw ent_faM ent_fbM ent_fnM (alives_faM bx) (keeps_obX keeps_fbM) (tells_obX tells_fnM)
 have P := wake_any (mkSd (obX (cutI c k) bx (boxC c)) c.sd vr) (sets_mk _ _ _) (fun _ => True) (faM bx) (fbM c) (fnM c) _ _ _ hL adr nr cr hvr _ t w hq (fun _ _ => ⟨trivial, trivial⟩) (mkSd_add h hx hn)
 refine P.mono ?_
 rintro e w' ⟨F', rfl, hJ, hf, hs⟩
 exact ⟨F', rfl, mkSd_drop hJ, hf, fun b hb => (hs b hb).elim (fun c => c.elim Or.inl (fun c => Or.inr (Or.inl c))) (fun c => Or.inr (Or.inr c))⟩
theorem spread_any {adr : Option Addr} {nr cr : Nat} (hvr : vr = .slice adr nr cr) {t : Cs × List En} (h : (mkSd (cutI c k) c.sd vr).J F t w) (hq : t.2.length <= 90000) :
  Calls Tryz.prog 63 #[.pointer (some ⟨c.pk, 0, none⟩)] w fun e w' => ∃ F', e = .returned (.tuple #[]) /\ (mkSd (cutI c k) c.sd vr).J F' (k.sp t) w' /\ Tn F w F' w' := by
 have hmf : ∀ (fn : Fn) (first cap : Array Value) (w : World), (Instr.makeFunc fn first cap).run Tryz.prog w = .ok (.func fn first cap) w := fun _ _ _ _ => rfl
 go_enter Tryz.func63, Tryz.ntmps63
 go_wp2_with fail
 go_loopw [2] (fun bv wr => ∃ (n : Nat) (F1 : Nat -> Prop) (t1 : Cs × List En) (b : Bool), bv = .bool b /\ (mkSd (cutI c k) c.sd vr).J F1 t1 wr /\ Tn F w F1 wr /\ Hid (if b = true then k.mu t1.1 < n /\ k.spr n t1 = k.sp t else t1 = k.sp t) /\ t1.2.length <= 90000) (fun bv wr => 2 * muOf c k wr + bOf bv)
 case atStart => exact ⟨k.mu t.1 + 1, F, t, true, rfl, h, Tn.refl _ _, ⟨by omega, rfl⟩, hq⟩
 case round =>
  clear h hq
  obtain ⟨n, F1, t1, b, rfl, hJ, hT, HE, hq⟩ := hrel
  cases b
  ·have HE2 : Hid (t1 = k.sp t) := HE.out
   go_wp2_with fail
   go_end0
   rw [<- HE2.out]
   exact ⟨F1, rfl, hJ, hT⟩
  ·obtain ⟨e1, e2⟩ := HE.out
   obtain ⟨m, rfl⟩ : ∃ m, n = m + 1 := ⟨n - 1, by omega⟩
   obtain ⟨F0, hI, hstep⟩ := mkSd_in hJ
   have hmu := muOf_eq hI.1
   have B := brought_any hI.1 hI.2.1 hI.2.2
   obtain ⟨i1, i2, i3⟩ := hI.2.1.lb hI.2.2 (k.O + 1)
   obtain ⟨j1, j2, j3, j4⟩ := i1.kv i2
   have HS : Hid (Tn F w F1 wr /\ (∀ F1_1 t1_1 w', (cutI c k).J F1_1 t1_1 w' -> Tn F0 wr F1_1 w' -> ∃ F', (mkSd (cutI c k) c.sd vr).J F' (t1_1, t1.2) w' /\ Tn F1 wr F' w') /\ (CI k (k.lb (k.O + 1) t1.1) /\ CB k (k.lb (k.O + 1) t1.1)) /\ (CI k (k.kv (k.lb (k.O + 1) t1.1)).2 /\ CB k (k.kv (k.lb (k.O + 1) t1.1)).2)) := ⟨hT, hstep, ⟨i1, i2⟩, ⟨j1, j2⟩⟩
   have HN : Hid (k.mu (k.lb (k.O + 1) t1.1) <= k.mu t1.1 /\ k.mu (k.kv (k.lb (k.O + 1) t1.1)).2 <= k.mu (k.lb (k.O + 1) t1.1) /\ ((k.kv (k.lb (k.O + 1) t1.1)).1 = true -> k.mu (k.kv (k.lb (k.O + 1) t1.1)).2 < k.mu (k.lb (k.O + 1) t1.1)) /\ k.mu t1.1 < m + 1) := ⟨i3, j3, j4, e1⟩
   have HE2 : Hid (k.spr (m + 1) t1 = k.sp t) := e2
   clear hI hstep i1 i2 j1 j2 hJ hT HE e1 e2 i3 j3 j4
   go_wp2_with fail
   refine B.mono ?_
   clear B
   rintro e w1 ⟨F2, rfl, hJ1, hT1⟩
   have V := keepValues_any ((cutO c k).below hJ1 (Below.refl _ w1).drew) HS.out.2.2.1.1 HS.out.2.2.1.2
   have hT1 := hT1.below (Below.refl _ w1).drew
   obtain ⟨vw1, ve1, hJ1⟩ := hJ1
   obtain ⟨d0, _, _, _, _, _, _, d7, _⟩ := cut_cells hJ1
   cases hkv : (k.kv (k.lb (k.O + 1) t1.1)).1
   ·rw [hkv] at V
    have HE3 : Hid ((if (k.wa ((k.kv (k.lb (k.O + 1) t1.1)).2, t1.2)).2 = true then k.spr m (k.wa ((k.kv (k.lb (k.O + 1) t1.1)).2, t1.2)).1 else (k.wa ((k.kv (k.lb (k.O + 1) t1.1)).2, t1.2)).1) = k.sp t) := by
     have := HE2.out
     unfold Ck.spr at this
     rw [hkv] at this
     exact this
    have HW := CI.wa (s := ((k.kv (k.lb (k.O + 1) t1.1)).2, t1.2)) HS.out.2.2.2.1 HS.out.2.2.2.2
    have HW : Hid ((k.wa ((k.kv (k.lb (k.O + 1) t1.1)).2, t1.2)).1.2.length <= 90000 /\ k.mu (k.wa ((k.kv (k.lb (k.O + 1) t1.1)).2, t1.2)).1.1 <= k.mu t1.1 /\ ((k.wa ((k.kv (k.lb (k.O + 1) t1.1)).2, t1.2)).2 = true -> k.mu (k.wa ((k.kv (k.lb (k.O + 1) t1.1)).2, t1.2)).1.1 < k.mu t1.1)) := by
     have n1 := HN.out.1
     have n2 := HN.out.2.1
     refine ⟨by rw [HW.2.2.1]; exact hq, by have := HW.2.2.2.1; dsimp only at this; omega, fun e => by have := HW.2.2.2.2 e; dsimp only at this; omega⟩
    generalize k.lb (k.O + 1) t1.1 = s1 at *
    generalize (k.kv s1).2 = s2 at *
    clear hJ1
    go_wp2_with fail
    go_region_held3 (fun w' => w'.cell? ⟨c.pk, 0, none⟩ = some (.pointer (some ⟨c.pw, 0, none⟩)) /\ w'.cell? ⟨c.pw, 2, none⟩ = some (.pointer (some ⟨c.sd, 0, none⟩))) (go_keep)
     (first
      | (go_at_call 132; refine V.mono ?_; clear V; rintro e w2 ⟨F3, rfl, hJ2, hT2⟩; obtain ⟨F4, hM, hT4⟩ := HS.out.2.1 F3 s2 w2 ⟨hJ2, HS.out.2.2.2⟩ (hT1.trans hT2); obtain ⟨vw2, ve2, hJ2⟩ := hJ2; obtain ⟨g0, _, _, _, _, _, _, g7, _⟩ := cut_cells hJ2; have l0 := World.block_lt_of_cell? w2 _ g0; have l7 := World.block_lt_of_cell? w2 _ g7; have HM : Hid ((mkSd (cutI c k) c.sd vr).J F4 (s2, t1.2) w2 /\ Tn F w F4 w2) := ⟨hM, HS.out.1.trans hT4⟩; clear hJ2 hT2 hM hT4)
      | (go_at_call 65; refine (looksM_any (fbM c) w2 c.pk).mono ?_; rintro e w3 ⟨rfl, hx3, hb3⟩; have y0 := (hb3.cell (p := ⟨c.pk, 0, none⟩) l0).trans g0; have y7 := (hb3.cell (p := ⟨c.pw, 2, none⟩) l7).trans g7; have HX : Hid (w3.heap[w2.heap.size]? = some (boxC c) /\ Below w2.heap.size w2 w3) := ⟨hx3, hb3⟩; clear hx3 hb3)
      | (go_at_call 133; refine (wakeM_any hvr (t := (s2, t1.2)) ((mkSd (cutI c k) c.sd vr).below HM.out.1 HX.out.2) hq w2.heap.size HX.out.1 (fun h => by have := (mkSd (cutI c k) c.sd vr).lt HM.out.1 _ h; omega)).mono ?_; rintro e w4 ⟨F5, rfl, hM5, hf5, hs5⟩; have HM5 : Hid ((mkSd (cutI c k) c.sd vr).J F5 (k.wa (s2, t1.2)).1 w4 /\ Tn F w F5 w4) := ⟨hM5, ⟨(HM.out.2.below HX.out.2).fr.trans hf5 (fun b hb => hb.elim (HM.out.2.sub b) (fun e => Or.inr (by have := HM.out.2.fr.size; omega))), fun b hb => (hs5 b hb).elim (HM.out.2.sub b) (fun h => Or.inr (by have h1 := HM.out.2.fr.size; have h2 := HX.out.2.size; omega))⟩⟩; obtain ⟨F6, ⟨⟨vw6, ve6, hJ6⟩, _⟩, _⟩ := mkSd_in hM5; have hmu6 := muOf_eq ⟨vw6, ve6, hJ6⟩; obtain ⟨r0, _, _, _, _, _, _, r7, _⟩ := cut_cells hJ6; clear hM5 hf5 hs5 hJ6))
    clear r0 r7 g0 g7 y0 y7 d0 d7 HS HM HX HE2 hmf hT1
    cases hbw : (k.wa (s2, t1.2)).2
    ·have HF : Hid (if false = true then k.mu (k.wa (s2, t1.2)).1.1 < m /\ k.spr m (k.wa (s2, t1.2)).1 = k.sp t else (k.wa (s2, t1.2)).1 = k.sp t) := by
      have := HE3.out
      rw [hbw] at this
      exact this
     go_wp2_with fail
     go_roundw
     case rel => exact ⟨m, F5, (k.wa (s2, t1.2)).1, false, rfl, HM5.out.1, HM5.out.2, HF, HW.out.1⟩
     case measure =>
      have := HW.out.2.1
      rw [hmu6, hmu]
      simp [bOf]
      omega
    ·have HF : Hid (if true = true then k.mu (k.wa (s2, t1.2)).1.1 < m /\ k.spr m (k.wa (s2, t1.2)).1 = k.sp t else (k.wa (s2, t1.2)).1 = k.sp t) := by
      have h1 := HE3.out
      rw [hbw] at h1
      have h2 := HW.out.2.2 hbw
      have h3 := HN.out.2.2.2
      exact ⟨by omega, h1⟩
     have h2 := HW.out.2.2 hbw
     go_wp2_with fail
     go_roundw
     case rel => exact ⟨m, F5, (k.wa (s2, t1.2)).1, true, rfl, HM5.out.1, HM5.out.2, HF, HW.out.1⟩
     case measure =>
      rw [hmu6, hmu]
      simp [bOf]
      omega
   ·rw [hkv] at V
    have h2 : k.mu (k.kv (k.lb (k.O + 1) t1.1)).2 < k.mu t1.1 := by
     have h1 := HN.out.1
     have h3 := HN.out.2.2.1 hkv
     omega
    have HF : Hid (if true = true then k.mu (k.kv (k.lb (k.O + 1) t1.1)).2 < m /\ k.spr m ((k.kv (k.lb (k.O + 1) t1.1)).2, t1.2) = k.sp t else ((k.kv (k.lb (k.O + 1) t1.1)).2, t1.2) = k.sp t) := by
     have h1 := HE2.out
     unfold Ck.spr at h1
     rw [hkv] at h1
     have h3 := HN.out.2.2.2
     exact ⟨by omega, h1⟩
    generalize k.lb (k.O + 1) t1.1 = s1 at *
    generalize (k.kv s1).2 = s2 at *
    clear hJ1
    go_wp2_with fail
    refine wp_region_noPanic ?_
    refine wp_region_any (by kernel_rfl) ?_
    refine any_of_G (T := fun _ => True) (S := fun _ => True) (St := []) _ _ _ _ ?_
    refine G_takeA (i := 0) (v := ?_) rfl (by kernel_rfl) (by kernel_rfl) (by kernel_rfl) (by kernel_rfl) (fun _ _ _ h => h) (Or.inl ⟨by rfl, ?_⟩) trivial (Or.inr trivial) ?_
    rotate_left
    ·intro w hS
     go_simp
     try rfl
    try simp only [Act.put, List.getElem_toArray, List.getElem_cons_zero, List.setIfInBounds_toArray, List.set_cons_zero, List.set_cons_succ]
    refine G_one (i := 1) (by kernel_rfl) ?_
    refine wpOp_of_wpG rfl (by rfl) ?_
    simp only [List.getElem_toArray, List.getElem_cons_succ, List.getElem_cons_zero]
    go_simp
    refine V.mono ?_
    clear V
    rintro e w2 ⟨F3, rfl, hJ2, hT2⟩
    obtain ⟨F4, hM, hT4⟩ := HS.out.2.1 F3 s2 w2 ⟨hJ2, HS.out.2.2.2⟩ (hT1.trans hT2)
    have hmu6 := muOf_eq hJ2
    have HM : Hid ((mkSd (cutI c k) c.sd vr).J F4 (s2, t1.2) w2 /\ Tn F w F4 w2) := ⟨hM, HS.out.1.trans hT4⟩
    clear hJ2 hT2 hM hT4
    refine G_takeA (i := 2) (v := ?_) rfl (by kernel_rfl) (by kernel_rfl) (by kernel_rfl) (by kernel_rfl) (fun _ _ _ h => h) (Or.inl ⟨by rfl, ?_⟩) trivial (Or.inr trivial) ?_
    rotate_left
    ·intro w hS
     go_simp
     try rfl
    try simp only [Act.put, List.getElem_toArray, List.getElem_cons_succ, List.getElem_cons_zero, List.setIfInBounds_toArray, List.set_cons_zero, List.set_cons_succ]
    refine G_takeA (i := 3) (v := undef) rfl (by kernel_rfl) (by kernel_rfl) (by kernel_rfl) (by kernel_rfl) (fun _ _ _ h => h) (Or.inr ⟨by rfl, rfl⟩) trivial (Or.inr trivial) ?_
    try simp only [Act.put, List.getElem_toArray, List.getElem_cons_succ, List.getElem_cons_zero, List.setIfInBounds_toArray, List.set_cons_zero, List.set_cons_succ]
    refine G_takeA (i := 4) (v := undef) rfl (by kernel_rfl) (by kernel_rfl) (by kernel_rfl) (by kernel_rfl) (fun _ _ _ h => h) (Or.inr ⟨by rfl, rfl⟩) trivial (Or.inr trivial) ?_
    try simp only [Act.put, List.getElem_toArray, List.getElem_cons_succ, List.getElem_cons_zero, List.setIfInBounds_toArray, List.set_cons_zero, List.set_cons_succ]
    refine G_takeA (i := 5) (v := undef) rfl (by kernel_rfl) (by kernel_rfl) (by kernel_rfl) (by kernel_rfl) (fun _ _ _ h => h) (Or.inr ⟨by rfl, rfl⟩) trivial (Or.inr trivial) ?_
    try simp only [Act.put, List.getElem_toArray, List.getElem_cons_succ, List.getElem_cons_zero, List.setIfInBounds_toArray, List.set_cons_zero, List.set_cons_succ]
    refine G_takeA (i := 6) (v := undef) rfl (by kernel_rfl) (by kernel_rfl) (by kernel_rfl) (by kernel_rfl) (fun _ _ _ h => h) (Or.inr ⟨by rfl, rfl⟩) trivial (Or.inr trivial) ?_
    try simp only [Act.put, List.getElem_toArray, List.getElem_cons_succ, List.getElem_cons_zero, List.setIfInBounds_toArray, List.set_cons_zero, List.set_cons_succ]
    refine G_takeA (i := 7) (v := undef) rfl (by kernel_rfl) (by kernel_rfl) (by kernel_rfl) (by kernel_rfl) (fun _ _ _ h => h) (Or.inr ⟨by rfl, rfl⟩) trivial (Or.inr trivial) ?_
    try simp only [Act.put, List.getElem_toArray, List.getElem_cons_succ, List.getElem_cons_zero, List.setIfInBounds_toArray, List.set_cons_zero, List.set_cons_succ]
    refine G_takeA (i := 8) (v := undef) rfl (by kernel_rfl) (by kernel_rfl) (by kernel_rfl) (by kernel_rfl) (fun _ _ _ h => h) (Or.inr ⟨by rfl, rfl⟩) trivial (Or.inr trivial) ?_
    try simp only [Act.put, List.getElem_toArray, List.getElem_cons_succ, List.getElem_cons_zero, List.setIfInBounds_toArray, List.set_cons_zero, List.set_cons_succ]
    refine G_takeA (i := 9) (v := undef) rfl (by kernel_rfl) (by kernel_rfl) (by kernel_rfl) (by kernel_rfl) (fun _ _ _ h => h) (Or.inr ⟨by rfl, rfl⟩) trivial (Or.inr trivial) ?_
    try simp only [Act.put, List.getElem_toArray, List.getElem_cons_succ, List.getElem_cons_zero, List.setIfInBounds_toArray, List.set_cons_zero, List.set_cons_succ]
    refine G_takeA (i := 10) (v := undef) rfl (by kernel_rfl) (by kernel_rfl) (by kernel_rfl) (by kernel_rfl) (fun _ _ _ h => h) (Or.inr ⟨by rfl, rfl⟩) trivial (Or.inr trivial) ?_
    try simp only [Act.put, List.getElem_toArray, List.getElem_cons_succ, List.getElem_cons_zero, List.setIfInBounds_toArray, List.set_cons_zero, List.set_cons_succ]
    refine G_takeA (i := 11) (v := undef) rfl (by kernel_rfl) (by kernel_rfl) (by kernel_rfl) (by kernel_rfl) (fun _ _ _ h => h) (Or.inr ⟨by rfl, rfl⟩) trivial (Or.inr trivial) ?_
    try simp only [Act.put, List.getElem_toArray, List.getElem_cons_succ, List.getElem_cons_zero, List.setIfInBounds_toArray, List.set_cons_zero, List.set_cons_succ]
    refine G_takeA (i := 12) (v := undef) rfl (by kernel_rfl) (by kernel_rfl) (by kernel_rfl) (by kernel_rfl) (fun _ _ _ h => h) (Or.inr ⟨by rfl, rfl⟩) trivial (Or.inr trivial) ?_
    try simp only [Act.put, List.getElem_toArray, List.getElem_cons_succ, List.getElem_cons_zero, List.setIfInBounds_toArray, List.set_cons_zero, List.set_cons_succ]
    refine G_takeA (i := 13) (v := undef) rfl (by kernel_rfl) (by kernel_rfl) (by kernel_rfl) (by kernel_rfl) (fun _ _ _ h => h) (Or.inr ⟨by rfl, rfl⟩) trivial (Or.inr trivial) ?_
    try simp only [Act.put, List.getElem_toArray, List.getElem_cons_succ, List.getElem_cons_zero, List.setIfInBounds_toArray, List.set_cons_zero, List.set_cons_succ]
    refine G_takeA (i := 14) (v := undef) rfl (by kernel_rfl) (by kernel_rfl) (by kernel_rfl) (by kernel_rfl) (fun _ _ _ h => h) (Or.inr ⟨by rfl, rfl⟩) trivial (Or.inr trivial) ?_
    try simp only [Act.put, List.getElem_toArray, List.getElem_cons_succ, List.getElem_cons_zero, List.setIfInBounds_toArray, List.set_cons_zero, List.set_cons_succ]
    refine G_takeA (i := 15) (v := ?_) rfl (by kernel_rfl) (by kernel_rfl) (by kernel_rfl) (by kernel_rfl) (fun _ _ _ h => h) (Or.inl ⟨by rfl, ?_⟩) trivial (Or.inr trivial) ?_
    rotate_left
    ·intro w hS
     go_simp
     try rfl
    try simp only [Act.put, List.getElem_toArray, List.getElem_cons_succ, List.getElem_cons_zero, List.setIfInBounds_toArray, List.set_cons_zero, List.set_cons_succ]
    refine G_takeA (i := 16) (v := ?_) rfl (by kernel_rfl) (by kernel_rfl) (by kernel_rfl) (by kernel_rfl) (fun _ _ _ h => h) (Or.inl ⟨by rfl, ?_⟩) trivial (Or.inr trivial) ?_
    rotate_left
    ·intro w hS
     go_simp
     try rfl
    try simp only [Act.put, List.getElem_toArray, List.getElem_cons_succ, List.getElem_cons_zero, List.setIfInBounds_toArray, List.set_cons_zero, List.set_cons_succ]
    refine G_done (by kernel_rfl) ?_ _
    refine NoPanic.normal ?_
    clear d0 d7 HS HE2 hmf hT1
    go_wp2_with fail
    go_roundw
    case rel => exact ⟨m, F4, (s2, t1.2), true, rfl, HM.out.1, HM.out.2, HF, hq⟩
    case measure =>
     rw [hmu6, hmu]
     simp [bOf]
     omega
theorem keepM_any {adr : Option Addr} {nr cr : Nat} (hvr : vr = .slice adr nr cr) {t : Cs × List En} (h : (mkSd (cutI c k) c.sd vr).J F t w) (hq : t.2.length <= 90000) (x : Int) :
  Calls Tryz.prog 66 #[.pointer (some ⟨c.pk, 0, none⟩), .int .i64 x] w fun e w' => ∃ F', e = .returned (.int .i64 (k.ke t x).1) /\ (mkSd (cutI c k) c.sd vr).J F' (k.ke t x).2 w' /\ Tn F w F' w' := by
 obtain ⟨F0, ⟨⟨vw, ve, hJ⟩, hI, hB⟩, hstep⟩ := mkSd_in h
 have P := bring_any hJ hI x
 obtain ⟨i1, i2, _⟩ := hI.br x
 have HS : Hid ((∀ F1 t1 w', (cutI c k).J F1 t1 w' -> Tn F0 w F1 w' -> ∃ F', (mkSd (cutI c k) c.sd vr).J F' (t1, t.2) w' /\ Tn F w F' w') /\ CI k (k.br t.1 x).2 /\ CB k (k.br t.1 x).2) := ⟨hstep, i1, i2.cb hB⟩
 have E : Hid ((k.ke t x).1 = (k.br t.1 x).1 /\ (k.ke t x).2 = k.sp ((k.br t.1 x).2, t.2)) := ⟨rfl, rfl⟩
 generalize (k.ke t x).1 = x1 at E ⊢
 generalize (k.ke t x).2 = t1 at E ⊢
 clear hJ hI hB i1 i2 hstep h
 go_enter Tryz.func66, Tryz.ntmps66
 go_wp2_with fail
 refine P.mono ?_
 clear P
 rintro e w1 ⟨rfl, hJ1, hT1⟩
 obtain ⟨F1, hM, hT⟩ := HS.out.1 F0 _ w1 ⟨⟨vw, ve, hJ1⟩, HS.out.2⟩ hT1
 have HM : Hid (_ /\ _) := ⟨hM, hT⟩
 clear hJ1 hT1 hM hT
 go_wp2_with fail
 refine (spread_any hvr HM.out.1 hq).mono ?_
 rintro e w2 ⟨F2, rfl, hM2, hT2⟩
 have HM2 : Hid (_ /\ _) := ⟨hM2, HM.out.2.trans hT2⟩
 clear hM2 hT2
 go_wp2_with fail
 go_ret
 rw [E.out.1, E.out.2]
 exact ⟨F2, rfl, HM2.out.1, HM2.out.2⟩
end
end Go.Proofs.YtnalfnlmaallmaaGreat

namespace Go.Proofs.YtnalfnlmaallmaaGreat
set_option maxRecDepth 100000
set_option maxHeartbeats 2000000
open Go.RowKit W Kp Stl
def eaS {τ : Type} (fd : τ -> Int -> Int) (st : τ -> Int -> τ) (e : Int) (t : τ) (a : Int) : τ := if a + fd t a < e then st t a else t
def eaL {τ : Type} (fd : τ -> Int -> Int) (st : τ -> Int -> τ) (e : Int) (t : τ) (l : List Int) : τ := l.foldl (eaS fd st e) t
theorem each_any {τ : Type} (o : Ob τ) (fd : τ -> Int -> Int) (st : τ -> Int -> τ) (G : Nat -> τ -> Prop) (pk pw p f : Nat) (cs : Array Value) (hf : Ent f) (l : List Int) (ad : Option Addr) (cap : Nat) (e : Int) (F : Nat -> Prop) (t : τ) (w : World)
  (hth : ∀ F t w a, o.J F t w -> w.cell? ⟨pk, 0, none⟩ = some (.pointer (some ⟨pw, 0, none⟩)) /\ w.cell? ⟨pw, 0, none⟩ = some (.pointer (some ⟨p, 0, none⟩)) /\ Calls Tryz.prog 120 #[.pointer (some ⟨p, 0, none⟩), .int .i64 a] w fun r w' => ∃ x z, r = .returned (.tuple #[.int .i64 x, .int .i64 (fd t a), .int .i64 z]) /\ Below w.heap.size w w')
  (hfd : ∀ t a, 0 <= fd t a /\ fd t a <= 12) (hlb : ∀ a ∈ l, 0 <= a /\ a <= 100000) (hll : l.length <= 100000)
  (hlk : ∀ j F t w, j < l.length -> G j t -> o.J F t w -> l.getD j 0 + fd t (l.getD j 0) < e -> Calls Tryz.prog f (#[.int .i64 (l.getD j 0)] ++ cs) w fun r w' => ∃ F', r = .returned (.tuple #[]) /\ o.J F' (st t (l.getD j 0)) w' /\ Tn F w F' w')
  (hG : ∀ j t, j < l.length -> G j t -> G (j + 1) (eaS fd st e t (l.getD j 0))) (h0 : G 0 t) (hJ : o.J F t w) (hL : Ls w ad l) (hn : 0 < l.length -> ∀ z, ad = some z -> ¬ F z.block) :
  Calls Tryz.prog 125 #[.pointer (some ⟨pk, 0, none⟩), .slice ad l.length cap, .int .i64 e, .func (.func f) #[] cs] w fun r w' => ∃ F', r = .returned (.tuple #[]) /\ o.J F' (eaL fd st e t l) w' /\ Tn F w F' w' /\ G l.length (eaL fd st e t l) := by
 have HT : Hid (∀ F t w a, o.J F t w -> w.cell? ⟨pk, 0, none⟩ = some (.pointer (some ⟨pw, 0, none⟩)) /\ w.cell? ⟨pw, 0, none⟩ = some (.pointer (some ⟨p, 0, none⟩)) /\ Calls Tryz.prog 120 #[.pointer (some ⟨p, 0, none⟩), .int .i64 a] w fun r w' => ∃ x z, r = .returned (.tuple #[.int .i64 x, .int .i64 (fd t a), .int .i64 z]) /\ Below w.heap.size w w') := hth
 have HK : Hid (∀ j F t w, j < l.length -> G j t -> o.J F t w -> l.getD j 0 + fd t (l.getD j 0) < e -> Calls Tryz.prog f (#[.int .i64 (l.getD j 0)] ++ cs) w fun r w' => ∃ F', r = .returned (.tuple #[]) /\ o.J F' (st t (l.getD j 0)) w' /\ Tn F w F' w') := hlk
 have HG : Hid (∀ j t, j < l.length -> G j t -> G (j + 1) (eaS fd st e t (l.getD j 0))) := hG
 have HL : Hid (∀ F' w', Tn F w F' w' -> Ls w' ad l) := fun F' w' hT => hL.keep hT.fr.size (fun hp z e => hT.fr.block _ (by obtain ⟨b, o', e', hb, _⟩ := hL hp; rw [e] at e'; cases e'; exact hb) (hn hp z e))
 have HLB : Hid (∀ a ∈ l, 0 <= a /\ a <= 100000) := hlb
 have HFD : Hid (∀ t a, 0 <= fd t a /\ fd t a <= 12) := hfd
 have hcf : ∀ (args : Array Value) (w : World), (callFunc f args).run Tryz.prog w = .ok (.enter f args) w := hf
 clear hth hlk hG hL hn hlb hfd hf
 go_enter Tryz.func125, Tryz.ntmps125
 go_wp2_with fail
 go_loopw [15] (fun iv wr => ∃ (j : Nat) (F1 : Nat -> Prop) (t1 : τ), j <= l.length /\ iv = .int .i64 j /\ Hid (eaL fd st e t (l.take j) = t1) /\ Hid (G j t1) /\ o.J F1 t1 wr /\ Tn F w F1 wr) (fun iv _ => l.length - (intOf iv).toNat)
 case atStart => exact ⟨0, F, t, Nat.zero_le _, rfl, rfl, h0, hJ, Tn.refl _ _⟩
 case round =>
  clear h0 hJ
  obtain ⟨j, F1, t1, hj, rfl, HE, HG1, hJ, hT⟩ := hrel
  by_cases hlt : j < l.length
  ·obtain ⟨b0, o0, e0, hb0, hc⟩ := HL.out F1 wr hT (by omega)
   have x1 := hc j hlt
   subst e0
   have hin : l.getD j 0 ∈ l := by rw [List.getD_eq_getElem?_getD, List.getElem?_eq_getElem hlt]; exact List.getElem_mem hlt
   have hbd := HLB.out _ hin
   have HS : Hid (eaL fd st e t (l.take (j + 1)) = eaS fd st e t1 (l.getD j 0)) := by
    show _ = _
    rw [take_snoc l j hlt 0]
    unfold eaL
    rw [List.foldl_append]
    have := HE.out
    unfold eaL at this
    rw [this]
    rfl
   have HG2 : Hid (G (j + 1) (eaS fd st e t1 (l.getD j 0))) := HG.out j t1 hlt HG1.out
   have HK1 := fun w h => HK.out j F1 t1 w hlt HG1.out h
   obtain ⟨d0, d5, L⟩ := HT.out F1 t1 wr (l.getD j 0) hJ
   have hf12 := HFD.out t1 (l.getD j 0)
   have HJ1 : Hid (o.J F1 t1 wr /\ Tn F w F1 wr) := ⟨hJ, hT⟩
   have HK1 : Hid (∀ w, o.J F1 t1 w -> l.getD j 0 + fd t1 (l.getD j 0) < e -> Calls Tryz.prog f (#[.int .i64 (l.getD j 0)] ++ cs) w fun r w' => ∃ F', r = .returned (.tuple #[]) /\ o.J F' (st t1 (l.getD j 0)) w' /\ Tn F1 w F' w') := HK1
   clear hc hin hJ hT
   by_cases hw : l.getD j 0 + fd t1 (l.getD j 0) < e
   ·have ES : Hid (eaS fd st e t1 (l.getD j 0) = st t1 (l.getD j 0)) := by show _ = _; unfold eaS; rw [if_pos hw]
    have HK2 : Hid (∀ w, o.J F1 t1 w -> Calls Tryz.prog f (#[.int .i64 (l.getD j 0)] ++ cs) w fun r w' => ∃ F', r = .returned (.tuple #[]) /\ o.J F' (st t1 (l.getD j 0)) w' /\ Tn F1 w F' w') := fun w h => HK1.out w h hw
    clear HK1
    generalize l.getD j 0 = a at *
    generalize fd t1 a = m at *
    generalize st t1 a = t2 at *
    go_wp2_with fail
    refine L.mono ?_
    clear L
    rintro r w1 ⟨x, z, rfl, hb1⟩
    go_wp2_with fail
    refine (HK2.out w1 (o.below HJ1.out.1 hb1)).mono ?_
    rintro r w2 ⟨F2, rfl, hJ2, hT2⟩
    have HJ2 : Hid (o.J F2 t2 w2 /\ Tn F w F2 w2) := ⟨hJ2, (HJ1.out.2.below hb1).trans hT2⟩
    clear hJ2 hT2 x1 d0 d5
    go_wp2_with fail
    go_roundw
    case rel => exact ⟨j + 1, F2, t2, by omega, by go_num, by show _ = _; rw [HS.out, ES.out], by show G _ _; rw [<- ES.out]; exact HG2.out, HJ2.out.1, HJ2.out.2⟩
    case measure => simp [intOf]; omega
   ·have ES : Hid (eaS fd st e t1 (l.getD j 0) = t1) := by show _ = _; unfold eaS; rw [if_neg hw]
    clear HK1
    generalize l.getD j 0 = a at *
    generalize fd t1 a = m at *
    go_wp2_with fail
    refine L.mono ?_
    clear L
    rintro r w1 ⟨x, z, rfl, hb1⟩
    have HJ2 : Hid (o.J F1 t1 w1 /\ Tn F w F1 w1) := ⟨o.below HJ1.out.1 hb1, HJ1.out.2.below hb1⟩
    clear x1 d0 d5
    go_wp2_with fail
    go_roundw
    case rel => exact ⟨j + 1, F1, t1, by omega, by go_num, by show _ = _; rw [HS.out, ES.out], by show G _ _; rw [<- ES.out]; exact HG2.out, HJ2.out.1, HJ2.out.2⟩
    case measure => simp [intOf]; omega
  ·obtain rfl : j = l.length := by omega
   rw [List.take_length] at HE
   go_wp2_with fail
   go_end0
   rw [HE.out]
   exact ⟨F1, rfl, hJ, hT, HG1.out⟩
end Go.Proofs.YtnalfnlmaallmaaGreat

namespace Go.Proofs.YtnalfnlmaallmaaGreat
set_option maxRecDepth 100000
set_option maxHeartbeats 2000000
open Go.RowKit W Kp Stl
section
variable {c : Cc} {k : Ck} {F : Nat -> Prop} {s : Cs} {w : World}
def Ck.md (k : Ck) (c : Cc) (s : Cs) (a : Int) : Cs := if (cB k.N c.c a && c.M.contains (cN k.N a)) = true then k.lk s a else s
theorem Ck.lm_eq (k : Ck) (c : Cc) (s : Cs) (l : List Int) : k.lm c.c c.M s l = eaL (fun s a => pf (k.ld s a)) (k.md c) s.nx s l := rfl
theorem CI.md (h : CI k s) (c : Cc) {a : Int} (ha : (k.N : Int) <= a) (ha' : a <= 2000) : CI k (k.md c s a) /\ Cl k s (k.md c s a) := by
 unfold Ck.md
 split
 ·exact h.lk ha ha'
 ·exact ⟨h, Cl.of (Cq.refl _ _)⟩
theorem ent_lam : Ent 128 := ent_of Tryz.func128 (by kernel_rfl) rfl
theorem lam1_any (bx : Nat) (h : (obX (cutO c k) bx (boxC c)).J F s w) (hI : CI k s) (a : Int) (a0 : (k.N : Int) <= a) (a1 : a <= 2000) (hwl : s.wk.length <= 10000) (hel : s.ep.length <= 10000) :
  Calls Tryz.prog 128 #[.int .i64 a, .pointer (some ⟨bx, 0, none⟩)] w fun e w' => ∃ F', e = .returned (.tuple #[]) /\ (obX (cutO c k) bx (boxC c)).J F' (k.md c s a) w' /\ Tn F w F' w' := by
 have HJ : Hid ((obX (cutO c k) bx (boxC c)).J F s w) := h
 have HI : Hid (CI k s) := hI
 have n1 := hI.hN'
 obtain ⟨F0, ⟨vw, ve, h0⟩, hx, hnx, hF⟩ := h
 have x0 : w.cell? ⟨bx, 0, none⟩ = some (.pointer (some ⟨c.pk, 0, none⟩)) := by simp [World.cell?, hx]
 have lx := lt_of_some hx
 obtain ⟨c0, _, _, _, _, _, c6, _, _, _, _, _, hCd, _, _⟩ := cut_cells h0
 have D := dirty_any a w hCd (by omega) (by omega) (by omega)
 clear h0 hx hCd hI
 cases hd : (cB k.N c.c a && c.M.contains (cN k.N a))
 ·have E : k.md c s a = s := by unfold Ck.md; rw [hd]; rfl
  rw [E]
  rw [hd] at D
  go_enter Tryz.func128, Tryz.ntmps128
  go_wp2_with fail
  refine D.mono ?_
  clear D
  rintro e w1 ⟨rfl, hb1⟩
  go_wp2_with fail
  go_end0
  exact ⟨F, rfl, (obX (cutO c k) bx (boxC c)).below HJ.out hb1, Tn.of hb1⟩
 ·have E : k.md c s a = k.lk s a := by unfold Ck.md; rw [if_pos hd]
  rw [E]
  rw [hd] at D
  go_enter Tryz.func128, Tryz.ntmps128
  go_wp2_with fail
  refine D.mono ?_
  clear D
  rintro e w1 ⟨rfl, hb1⟩
  have x1 := (hb1.cell (p := ⟨bx, 0, none⟩) lx).trans x0
  have hJ1 := (obX (cutO c k) bx (boxC c)).below HJ.out hb1
  obtain ⟨F1, g1, g2, g3, g4⟩ := hJ1
  have L := look_any g1 HI.out a a0 a1 hwl hel
  have HG : Hid (w1.heap[bx]? = some (boxC c) /\ ¬ F1 bx /\ (∀ b, F b ↔ (F1 b \/ b = bx)) /\ Below w.heap.size w w1) := ⟨g2, g3, g4, hb1⟩
  clear g1 g2 g3 g4 x0 c0 c6 hb1
  go_wp2_with fail
  refine L.mono ?_
  clear L
  rintro e w2 ⟨F2, rfl, hJ2, hT2⟩
  have HJ2 : Hid ((obX (cutO c k) bx (boxC c)).J (fun b => F2 b \/ b = bx) (k.lk s a) w2 /\ Tn F w (fun b => F2 b \/ b = bx) w2) := by
   obtain ⟨g2, g3, g4, hb1⟩ := HG.out
   refine ⟨⟨F2, hJ2, (hT2.fr.block bx (lt_of_some g2) g3).trans g2, fun d => (hT2.sub bx d).elim g3 (fun d => by have := lt_of_some g2; omega), fun b => Iff.rfl⟩, ⟨(Fr.of (X := F) hb1).trans (hT2.fr.mono (fun b hb => (g4 b).2 (Or.inl hb))) (fun _ d => Or.inl d), fun b hb => ?_⟩⟩
   rcases hb with hb | hb
   ·exact (hT2.sub b hb).elim (fun d => Or.inl ((g4 b).2 (Or.inl d))) (fun d => Or.inr (by have := hb1.size; omega))
   ·exact Or.inl ((g4 b).2 (Or.inr hb))
  clear hJ2 hT2 HG x1
  go_wp2_with fail
  go_end0
  exact ⟨_, rfl, HJ2.out.1, HJ2.out.2⟩
theorem marked_any (h : (cutO c k).J F s w) (hI : CI k s) (hw0 : s.wk = []) (he0 : s.ep = []) :
  Calls Tryz.prog 62 #[.pointer (some ⟨c.pk, 0, none⟩)] w fun e w' => ∃ F', e = .returned (.tuple #[]) /\ (cutO c k).J F' (k.lm c.c c.M s (thO k.N k.y s.g s.ws)) w' /\ Tn F w F' w' /\ CI k (k.lm c.c c.M s (thO k.N k.y s.g s.ws)) /\ CB k (k.lm c.c c.M s (thO k.N k.y s.g s.ws)) /\ (k.lm c.c c.M s (thO k.N k.y s.g s.ws)).nx = s.nx := by
 have hmf : ∀ (fn : Fn) (first cap : Array Value) (w : World), (Instr.makeFunc fn first cap).run Tryz.prog w = .ok (.func fn first cap) w := fun _ _ _ _ => rfl
 have HJ : Hid ((cutO c k).J F s w) := h
 have HI : Hid (CI k s /\ s.wk = [] /\ s.ep = []) := ⟨hI, hw0, he0⟩
 have n1 := hI.hN'
 have n2 := hI.hO
 have n3 := hI.hg
 have hb0 := (Below.refl w.heap.size w).alloc (Nat.le_refl _) (boxC c)
 have hJ0 := (cutO c k).below h hb0
 obtain ⟨vw, ve, h0⟩ := hJ0
 obtain ⟨c0, _, c2, _, _, c5, _⟩ := cut_cells h0
 obtain ⟨hA, _⟩ := cut_arena h0
 have P := things_any _ hA
 have HB : Hid (Below w.heap.size w (w.alloc (boxC c))) := hb0
 clear h hI h0 hA hb0 hw0 he0
 go_enter Tryz.func62, Tryz.ntmps62
 go_wp2_with fail
 refine P.mono ?_
 clear P
 rintro e w1 ⟨v1, v2, rfl, ho1, ho2, hb1⟩
 obtain ⟨d1, f1, rfl⟩ := row_slice ho1
 obtain ⟨d2, f2, rfl⟩ := row_slice ho2
 have hb := HB.out.trans (hb1.mono (by simp))
 have hJ1 := (cutO c k).below HJ.out hb
 have hx1 : w1.heap[w.heap.size]? = some (boxC c) := (hb1.block _ (by simp)).trans (heap_alloc_new _ _)
 have x0 : w1.cell? ⟨w.heap.size, 0, none⟩ = some (.pointer (some ⟨c.pk, 0, none⟩)) := by simp [World.cell?, hx1]
 obtain ⟨vw, ve, h1⟩ := hJ1
 obtain ⟨e0, _, e2, _, _, e5, _⟩ := cut_cells h1
 have hlO : (thO k.N k.y s.g s.ws).length <= 2000 := ths_le _ _
 have hbO : ∀ a ∈ thO k.N k.y s.g s.ws, (k.N : Int) <= a /\ a <= 2000 := fun a ha => by have := thO_bd a ha; omega
 have nF : ∀ b, F b -> b < w.heap.size := (cutO c k).lt HJ.out
 have hX : (obX (cutO c k) w.heap.size (boxC c)).J (fun b => F b \/ b = w.heap.size) s w1 := ⟨F, ⟨vw, ve, h1⟩, hx1, fun d => by have := nF _ d; omega, fun b => Iff.rfl⟩
 have hXd := (obX (cutO c k) w.heap.size (boxC c)).below hX (Below.refl _ w1).drew
 have E := each_any (obX (cutO c k) w.heap.size (boxC c)) (fun s a => pf (k.ld s a)) (k.md c) (fun j s1 => CI k s1 /\ s1.wk.length <= j /\ s1.ep.length <= j /\ s1.nx = s.nx) c.pk c.pw c.p 128 #[.pointer (some ⟨w.heap.size, 0, none⟩)] ent_lam (thO k.N k.y s.g s.ws) d2 f2 s.nx (fun b => F b \/ b = w.heap.size) s w1.drew
  (by
   rintro F t w9 a ⟨F0, ⟨vw, ve, g1⟩, _⟩
   obtain ⟨c0, _, _, _, _, c5, _⟩ := cut_cells g1
   obtain ⟨hA, _⟩ := cut_arena g1
   refine ⟨c0, c5, (thing_any a w9 hA).mono ?_⟩
   rintro r w' ⟨rfl, hb⟩
   exact ⟨_, _, rfl, hb⟩)
  (fun t a => pf_bd _) (fun a ha => by have := hbO a ha; omega) (by omega)
  (by
   rintro j F t w9 hj ⟨g1, g2, g3, g4⟩ hJ _
   have hm : (thO k.N k.y s.g s.ws).getD j 0 ∈ thO k.N k.y s.g s.ws := by rw [List.getD_eq_getElem?_getD, List.getElem?_eq_getElem hj]; exact List.getElem_mem hj
   have := hbO _ hm
   exact lam1_any w.heap.size hJ g1 _ this.1 this.2 (by omega) (by omega))
  (by
   rintro j t hj ⟨g1, g2, g3, g4⟩
   have hm : (thO k.N k.y s.g s.ws).getD j 0 ∈ thO k.N k.y s.g s.ws := by rw [List.getD_eq_getElem?_getD, List.getElem?_eq_getElem hj]; exact List.getElem_mem hj
   have hb := hbO _ hm
   unfold eaS
   split
   ·obtain ⟨i1, i2⟩ := g1.md c hb.1 hb.2
    have := i2.wk
    have := i2.ep
    exact ⟨i1, by omega, by omega, i2.nx.trans g4⟩
   ·exact ⟨g1, by omega, by omega, g4⟩)
  ⟨HI.out.1, by rw [HI.out.2.1]; simp, by rw [HI.out.2.2]; simp, rfl⟩ hXd ((row_ints ho2).below (Below.refl _ w1).drew)
  (fun hp z e => by
   obtain ⟨b, cap, e'⟩ := row_shape ho2 hp
   cases e'
   cases e
   have h2 := (row_lt ho2 b rfl).1
   simp at h2
   rintro (d | d)
   ·have d : F b := d
    have := nF b d
    omega
   ·have d : b = w.heap.size := d
    omega)
 rw [<- Ck.lm_eq] at E
 have HN : Hid ((∀ b, F b -> b < w.heap.size) /\ Below w.heap.size w w1) := ⟨nF, hb⟩
 obtain ⟨s2, hs2⟩ : ∃ s2, k.lm c.c c.M s (thO k.N k.y s.g s.ws) = s2 := ⟨_, rfl⟩
 rw [hs2] at E
 have HS2 : Hid (k.lm c.c c.M s (thO k.N k.y s.g s.ws) = s2) := hs2
 clear hs2
 clear hX hXd h1 hx1 hbO ho1 ho2 c0 c2 c5 HB hb hb1 nF HJ HI
 go_wp2_with fail
 go_region_held3 (fun w' => w'.cell? ⟨w.heap.size, 0, none⟩ = some (.pointer (some ⟨c.pk, 0, none⟩)) /\ w'.cell? ⟨c.pk, 2, none⟩ = some (.int .i64 s.nx)) (go_keep)
  (first
   | (go_at_call 125; refine E.mono ?_; clear E; rintro e w3 ⟨F3, rfl, ⟨F4, g1, g2, g3, g4⟩, hT, i1, i2, i3, i4⟩; obtain ⟨vw3, ve3, hJ3⟩ := g1; obtain ⟨_, _, y2, _⟩ := cut_cells hJ3; have g1 : (cutO c k).J F4 s2 w3 := ⟨vw3, ve3, hJ3⟩; rw [i4] at y2; have HI3 : Hid (CI k s2 /\ s2.wk.length <= (thO k.N k.y s.g s.ws).length /\ s2.ep.length <= (thO k.N k.y s.g s.ws).length /\ s2.nx = s.nx) := ⟨i1, i2, i3, i4⟩; clear hJ3 i1 i2 i3 i4; have y0 : w3.cell? ⟨w.heap.size, 0, none⟩ = some (.pointer (some ⟨c.pk, 0, none⟩)) := (by simp [World.cell?, g2]); have HJ3 : Hid ((cutO c k).J F4 s2 w3 /\ Tn F w F4 w3) := ⟨g1, ⟨((Fr.of (X := F) HN.out.2).drew).trans hT.fr (fun b d => d.imp id (fun d => by omega)), fun b d => (hT.sub b ((g4 b).2 (Or.inl d))).elim (fun d => d.imp id (fun d => by omega)) (fun d => Or.inr (by have := HN.out.2.size; simp at d; omega))⟩⟩; clear g1 g2 g3 g4 hT))
 have HF : Hid (CI k s2 /\ CB k s2 /\ s2.nx = s.nx) := by
  obtain ⟨i1, i2, i3, i4⟩ := HI3.out
  have h1 := i1.nx0
  exact ⟨i1, ⟨by omega, by omega⟩, i4⟩
 clear HI3 y0 y2 x0 e0 e2 e5
 go_wp2_with fail
 go_end0
 rw [HS2.out]
 exact ⟨F4, rfl, HJ3.out.1, HJ3.out.2, HF.out.1, HF.out.2.1, HF.out.2.2⟩
end
end Go.Proofs.YtnalfnlmaallmaaGreat
