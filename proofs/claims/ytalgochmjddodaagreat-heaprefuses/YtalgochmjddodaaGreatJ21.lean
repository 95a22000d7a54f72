/- Joined: Mj11, Mj12, Mj13. -/
import Derived.Test.YtalgochmjddodaaGreatJ20
import Derived.Test.YtalgochmjddodaaGreatJ13
import Derived.Test.YtalgochmjddodaaGreatJ14
import Derived.Test.YtalgochmjddodaaGreatJ04
import Derived.Test.YtalgochmjddodaaGreatJ15
namespace Go.Proofs.YtalgochmjddodaaGreat
set_option maxRecDepth 100000
set_option maxHeartbeats 4000000
open Go.RowKit W Kp Stl
section
variable {c : Jc} {k : Jk} {F : Nat -> Prop} {s : Js} {w : World} {vr : Value}
theorem alives_faJ2 (bx by_ : Nat) (fv : Fv) : Alives (obX (obX (mjI c k) by_ (boxK fv)) bx (boxJ c)) (fun _ => True) (faJ bx).f (faJ bx).b (faJ bx).c k.al := by
 rintro F s w x _ ⟨F0, ⟨F00, ⟨⟨vt, ve, h⟩, _⟩, _⟩, hx, _⟩
 have P := isLostJ_any h x
 have c0 : w.cell? ⟨bx, 0, none⟩ = some (.pointer (some ⟨c.pk, 0, none⟩)) := by simp [World.cell?, hx]
 have E : k.al s x = !k.jl s x := rfl
 rw [E]
 clear h hx E
 generalize k.jl s x = b at P ⊢
 show Calls Tryz.prog 155 #[.int .i64 x, .pointer (some ⟨bx, 0, none⟩)] w _
 go_enter Tryz.func155, Tryz.ntmps155
 go_wp2_with fail
 refine P.mono ?_
 rintro e w1 ⟨rfl, hb1⟩
 go_wp2_with fail
 go_ret
 exact ⟨rfl, hb1⟩
theorem wakeJ_any {adr : Option Addr} {nr cr : Nat} (hvr : vr = .slice adr nr cr) {t : Js × List En} (h : (mkSd (mjI c k) c.bs vr).J F t w) (hq : t.2.length <= 90000) (bx by_ : Nat) (hx : w.heap[bx]? = some (boxJ c)) (hy : w.heap[by_]? = some (boxK (fmJ c))) (hn : ¬ F bx) (hm : ¬ F by_) (hne : bx ≠ by_) :
  Calls Tryz.prog 136 #[.pointer (some ⟨c.bs, 0, none⟩), .agg #[(faJ bx).v, (fpJ by_).v, (fnJ c).v]] w fun e w' => ∃ F', e = .returned (.bool (k.wa t).2) /\ (mkSd (mjI c k) c.bs vr).J F' (k.wa t).1 w' /\ Fr (fun b => F b \/ b = by_ \/ b = bx) w w' /\ (∀ b, F' b -> F b \/ b = by_ \/ b = bx \/ w.heap.size <= b) := by
 have hL := lks_mk (obX (obX (mjI c k) by_ (boxK (fmJ c))) bx (boxJ c)) c.bs vr (fun _ => True) (faJ bx) (fpJ by_) (fnJ c) k.al k.mp k.nw ent_faJ ent_fpJ ent_fnJ (alives_faJ2 bx by_ (fmJ c)) (keeps_obX (keeps_fmJ by_)) (tells_obX (tells_obX tells_fnJ))
 have P := wake_any (mkSd (obX (obX (mjI c k) by_ (boxK (fmJ c))) bx (boxJ c)) c.bs vr) (sets_mk _ _ _) (fun _ => True) (faJ bx) (fpJ by_) (fnJ c) _ _ _ hL adr nr cr hvr _ t w hq (fun _ _ => ⟨trivial, trivial⟩) (mkSd_add (mkSd_add h hy hm) hx (fun d => d.elim hn hne))
 refine P.mono ?_
 rintro e w' ⟨F', rfl, hJ, hf, hs⟩
 refine ⟨F', rfl, mkSd_drop (mkSd_drop hJ), hf.mono (fun b d => ?_), fun b hb => ?_⟩
 ·rcases d with (d | d) | d
  ·exact Or.inl d
  ·exact Or.inr (Or.inl d)
  ·exact Or.inr (Or.inr d)
 ·rcases hs b hb with ((d | d) | d) | d
  ·exact Or.inl d
  ·exact Or.inr (Or.inl d)
  ·exact Or.inr (Or.inr (Or.inl d))
  ·exact Or.inr (Or.inr (Or.inr d))
theorem spreadJ_any {adr : Option Addr} {nr cr : Nat} (hvr : vr = .slice adr nr cr) {t : Js × List En} (h : (mkSd (mjI c k) c.bs vr).J F t w) (hq : t.2.length <= 90000) :
  Calls Tryz.prog 74 #[.pointer (some ⟨c.pk, 0, none⟩)] w fun e w' => ∃ F', e = .returned (.tuple #[]) /\ (mkSd (mjI c k) c.bs vr).J F' (k.sp t) w' /\ Tn F w F' w' := by
 have hmf : ∀ (fn : Fn) (first cap : Array Value) (w : World), (Instr.makeFunc fn first cap).run Tryz.prog w = .ok (.func fn first cap) w := fun _ _ _ _ => rfl
 obtain ⟨t9, E9⟩ : ∃ t9, k.sp t = t9 := ⟨_, rfl⟩
 rw [E9]
 have H9 : Hid (k.spr (k.mu t.1 + 1) t = t9) := E9
 clear E9
 go_enter Tryz.func74, Tryz.ntmps74
 go_wp2_with fail
 go_loopg [2] (k.mu t.1 + 1) (fun n bv wr => ∃ (F1 : Nat -> Prop) (t1 : Js × List En) (b : Bool), bv = .bool b /\ (mkSd (mjI c k) c.bs vr).J F1 t1 wr /\ Tn F w F1 wr /\ Hid (if b = true then k.mu t1.1 < n /\ k.spr n t1 = t9 else t1 = t9) /\ t1.2.length <= 90000)
 case atStart => exact ⟨F, t, true, rfl, h, Tn.refl _ _, ⟨by omega, H9.out⟩, hq⟩
 case round =>
  clear h hq H9
  obtain ⟨F1, t1, b, rfl, hJ, hT, HE, hq⟩ := hrel
  cases b
  ·have HE2 : Hid (t1 = t9) := HE.out
   go_wp2_with fail
   go_end0
   rw [<- HE2.out]
   exact ⟨F1, rfl, hJ, hT⟩
  ·obtain ⟨e1, e2⟩ := HE.out
   obtain ⟨m, hm⟩ : ∃ m, gk = m + 1 := ⟨gk - 1, by omega⟩
   obtain ⟨F0, hI, hstep⟩ := mkSd_in hJ
   have B := lamJ_any hI.1 hI.2
   have j0 := Jl.LM hI.2
   obtain ⟨j1, j2⟩ := Jl.kv j0.ji
   have j3 := (j0.trans j1).mu
   have j4 := j0.mu
   have EL : k.lm (k.lost t1.1 + t1.1.td.length + 1) t1.1 = k.LM t1.1 := rfl
   rw [EL] at B
   have HL : Hid (JI k (k.LM t1.1)) := j0.ji
   have HS : Hid (Tn F w F1 wr /\ (∀ F1_1 t1_1 w', (mjI c k).J F1_1 t1_1 w' -> Tn F0 wr F1_1 w' -> ∃ F', (mkSd (mjI c k) c.bs vr).J F' (t1_1, t1.2) w' /\ Tn F1 wr F' w') /\ JI k (k.kv (k.LM t1.1)).2) := ⟨hT, hstep, j1.ji⟩
   have HN : Hid (k.mu (k.kv (k.LM t1.1)).2 <= k.mu t1.1 /\ ((k.kv (k.LM t1.1)).1 = true -> k.mu (k.kv (k.LM t1.1)).2 < k.mu t1.1) /\ k.mu t1.1 < m + 1) := ⟨j3, fun e => by have := j2 e; omega, by omega⟩
   have HE2 : Hid (k.spr (m + 1) t1 = t9) := by rw [<- hm]; exact e2
   have HG : Hid (gk = m + 1) := hm
   clear hI hstep j0 j1 j2 j3 j4 hJ hT HE e1 e2 EL hm
   go_wp2_with fail
   refine B.mono ?_
   clear B
   rintro e w1 ⟨F2, rfl, hJ1, hT1⟩
   have V := keepValuesJ_any ((mjO c k).below hJ1 (Below.refl _ w1).drew) HL.out
   have hT1 := hT1.below (Below.refl _ w1).drew
   obtain ⟨vt1, ve1, hJ1⟩ := hJ1
   obtain ⟨_, _, _, _, d4, _⟩ := mj_cells hJ1
   cases hkv : (k.kv (k.LM t1.1)).1
   ·rw [hkv] at V
    have HE3 : Hid ((if (k.wa ((k.kv (k.LM t1.1)).2, t1.2)).2 = true then k.spr m (k.wa ((k.kv (k.LM t1.1)).2, t1.2)).1 else (k.wa ((k.kv (k.LM t1.1)).2, t1.2)).1) = t9) := by
     have := HE2.out
     unfold Jk.spr at this
     rw [hkv] at this
     exact this
    have HW := Jl.wa (t := ((k.kv (k.LM t1.1)).2, t1.2)) HS.out.2.2
    have HW : Hid ((k.wa ((k.kv (k.LM t1.1)).2, t1.2)).1.2.length <= 90000 /\ ((k.wa ((k.kv (k.LM t1.1)).2, t1.2)).2 = true -> k.mu (k.wa ((k.kv (k.LM t1.1)).2, t1.2)).1.1 < k.mu t1.1)) := by
     have n1 := HN.out.1
     refine ⟨by rw [HW.2.1]; exact hq, fun e => by have := HW.2.2 e; dsimp only at this; omega⟩
    generalize k.LM t1.1 = s1 at *
    generalize (k.kv s1).2 = s2 at *
    clear hJ1
    go_wp2_with fail
    go_region_held3 (fun w' => w'.cell? ⟨c.pk, 4, none⟩ = some (.pointer (some ⟨c.bs, 0, none⟩))) (go_keep)
     (first
      | (go_at_call 154; refine V.mono ?_; clear V; rintro e w2 ⟨F3, rfl, hJ2, hT2⟩; obtain ⟨F4, hM, hT4⟩ := HS.out.2.1 F3 s2 w2 ⟨hJ2, HS.out.2.2⟩ (hT1.trans hT2); obtain ⟨vt2, ve2, hJ2⟩ := hJ2; obtain ⟨_, _, _, _, g4, _⟩ := mj_cells hJ2; have l0 := World.block_lt_of_cell? w2 _ g4; have HM : Hid ((mkSd (mjI c k) c.bs vr).J F4 (s2, t1.2) w2 /\ Tn F w F4 w2) := ⟨hM, HS.out.1.trans hT4⟩; clear hJ2 hT2 hM hT4)
      | (go_at_call 75; refine (looksJ_any (fmJ c) w2 c.pk).mono ?_; rintro e w3 ⟨rfl, hx3, hy3, hb3⟩; have y4 := (hb3.cell (p := ⟨c.pk, 4, none⟩) l0).trans g4; have HX : Hid (w3.heap[w2.heap.size]? = some (boxJ c) /\ w3.heap[w2.heap.size + 1]? = some (boxK (fmJ c)) /\ Below w2.heap.size w2 w3) := ⟨hx3, hy3, hb3⟩; clear hx3 hy3 hb3)
      | (go_at_call 136; refine (wakeJ_any hvr (t := (s2, t1.2)) ((mkSd (mjI c k) c.bs vr).below HM.out.1 HX.out.2.2) hq w2.heap.size (w2.heap.size + 1) HX.out.1 HX.out.2.1 (fun h => by have := (mkSd (mjI c k) c.bs vr).lt HM.out.1 _ h; omega) (fun h => by have := (mkSd (mjI c k) c.bs vr).lt HM.out.1 _ h; omega) (by omega)).mono ?_; rintro e w4 ⟨F5, rfl, hM5, hf5, hs5⟩; have HM5 : Hid ((mkSd (mjI c k) c.bs vr).J F5 (k.wa (s2, t1.2)).1 w4 /\ Tn F w F5 w4) := ⟨hM5, ⟨(HM.out.2.below HX.out.2.2).fr.trans hf5 (fun b hb => hb.elim (HM.out.2.sub b) (fun e => Or.inr (by have := HM.out.2.fr.size; omega))), fun b hb => (hs5 b hb).elim (HM.out.2.sub b) (fun h => Or.inr (by have h1 := HM.out.2.fr.size; have h2 := HX.out.2.2.size; omega))⟩⟩; obtain ⟨F6, ⟨⟨vt6, ve6, hJ6⟩, _⟩, _⟩ := mkSd_in hM5; obtain ⟨_, _, _, _, r4, _⟩ := mj_cells hJ6; clear hM5 hf5 hs5 hJ6))
    clear r4 g4 y4 d4 HS HM HX HE2 hmf hT1
    cases hbw : (k.wa (s2, t1.2)).2
    ·have HF : Hid (if false = true then k.mu (k.wa (s2, t1.2)).1.1 < m /\ k.spr m (k.wa (s2, t1.2)).1 = t9 else (k.wa (s2, t1.2)).1 = t9) := by
      have := HE3.out
      rw [hbw] at this
      exact this
     go_wp2_with fail
     go_roundg m
     case measure => have := HG.out; omega
     case rel => exact ⟨F5, (k.wa (s2, t1.2)).1, false, rfl, HM5.out.1, HM5.out.2, HF, HW.out.1⟩
    ·have HF : Hid (if true = true then k.mu (k.wa (s2, t1.2)).1.1 < m /\ k.spr m (k.wa (s2, t1.2)).1 = t9 else (k.wa (s2, t1.2)).1 = t9) := by
      have h1 := HE3.out
      rw [hbw] at h1
      have h2 := HW.out.2 hbw
      have h3 := HN.out.2.2
      exact ⟨by omega, h1⟩
     go_wp2_with fail
     go_roundg m
     case measure => have := HG.out; omega
     case rel => exact ⟨F5, (k.wa (s2, t1.2)).1, true, rfl, HM5.out.1, HM5.out.2, HF, HW.out.1⟩
   ·rw [hkv] at V
    have HF : Hid (if true = true then k.mu (k.kv (k.LM t1.1)).2 < m /\ k.spr m ((k.kv (k.LM t1.1)).2, t1.2) = t9 else ((k.kv (k.LM t1.1)).2, t1.2) = t9) := by
     have h1 := HE2.out
     unfold Jk.spr at h1
     rw [hkv] at h1
     have h2 := HN.out.2.1 hkv
     have h3 := HN.out.2.2
     exact ⟨by omega, h1⟩
    generalize k.LM t1.1 = s1 at *
    generalize (k.kv s1).2 = s2 at *
    clear hJ1
    go_wp2_with fail
    refine wp_region_noPanic ?_
    refine wp_region_any (by kernel_rfl) ?_
    refine any_of_G (T := fun _ => True) (S := fun _ => True) (St := []) _ _ _ _ ?_
    refine G_takeA (i := 0) (v := ?_) rfl (by kernel_rfl) (by kernel_rfl) (by kernel_rfl) (by kernel_rfl) (fun _ _ _ h => h) (Or.inl ⟨by rfl, ?_⟩) trivial (Or.inr trivial) ?_
    rotate_left
    ·intro w hS
     go_simp
     try rfl
    try simp only [Act.put, List.getElem_toArray, List.getElem_cons_zero, List.setIfInBounds_toArray, List.set_cons_zero, List.set_cons_succ]
    refine G_one (i := 1) (by kernel_rfl) ?_
    refine wpOp_of_wpG rfl (by rfl) ?_
    simp only [List.getElem_toArray, List.getElem_cons_succ, List.getElem_cons_zero]
    go_simp
    refine V.mono ?_
    clear V
    rintro e w2 ⟨F3, rfl, hJ2, hT2⟩
    obtain ⟨F4, hM, hT4⟩ := HS.out.2.1 F3 s2 w2 ⟨hJ2, HS.out.2.2⟩ (hT1.trans hT2)
    have HM : Hid ((mkSd (mjI c k) c.bs vr).J F4 (s2, t1.2) w2 /\ Tn F w F4 w2) := ⟨hM, HS.out.1.trans hT4⟩
    clear hJ2 hT2 hM hT4
    refine G_takeA (i := 2) (v := ?_) rfl (by kernel_rfl) (by kernel_rfl) (by kernel_rfl) (by kernel_rfl) (fun _ _ _ h => h) (Or.inl ⟨by rfl, ?_⟩) trivial (Or.inr trivial) ?_
    rotate_left
    ·intro w hS
     go_simp
     try rfl
    try simp only [Act.put, List.getElem_toArray, List.getElem_cons_succ, List.getElem_cons_zero, List.setIfInBounds_toArray, List.set_cons_zero, List.set_cons_succ]
    refine G_takeA (i := 3) (v := undef) rfl (by kernel_rfl) (by kernel_rfl) (by kernel_rfl) (by kernel_rfl) (fun _ _ _ h => h) (Or.inr ⟨by rfl, rfl⟩) trivial (Or.inr trivial) ?_
    try simp only [Act.put, List.getElem_toArray, List.getElem_cons_succ, List.getElem_cons_zero, List.setIfInBounds_toArray, List.set_cons_zero, List.set_cons_succ]
    refine G_takeA (i := 4) (v := undef) rfl (by kernel_rfl) (by kernel_rfl) (by kernel_rfl) (by kernel_rfl) (fun _ _ _ h => h) (Or.inr ⟨by rfl, rfl⟩) trivial (Or.inr trivial) ?_
    try simp only [Act.put, List.getElem_toArray, List.getElem_cons_succ, List.getElem_cons_zero, List.setIfInBounds_toArray, List.set_cons_zero, List.set_cons_succ]
    refine G_takeA (i := 5) (v := undef) rfl (by kernel_rfl) (by kernel_rfl) (by kernel_rfl) (by kernel_rfl) (fun _ _ _ h => h) (Or.inr ⟨by rfl, rfl⟩) trivial (Or.inr trivial) ?_
    try simp only [Act.put, List.getElem_toArray, List.getElem_cons_succ, List.getElem_cons_zero, List.setIfInBounds_toArray, List.set_cons_zero, List.set_cons_succ]
    refine G_takeA (i := 6) (v := undef) rfl (by kernel_rfl) (by kernel_rfl) (by kernel_rfl) (by kernel_rfl) (fun _ _ _ h => h) (Or.inr ⟨by rfl, rfl⟩) trivial (Or.inr trivial) ?_
    try simp only [Act.put, List.getElem_toArray, List.getElem_cons_succ, List.getElem_cons_zero, List.setIfInBounds_toArray, List.set_cons_zero, List.set_cons_succ]
    refine G_takeA (i := 7) (v := undef) rfl (by kernel_rfl) (by kernel_rfl) (by kernel_rfl) (by kernel_rfl) (fun _ _ _ h => h) (Or.inr ⟨by rfl, rfl⟩) trivial (Or.inr trivial) ?_
    try simp only [Act.put, List.getElem_toArray, List.getElem_cons_succ, List.getElem_cons_zero, List.setIfInBounds_toArray, List.set_cons_zero, List.set_cons_succ]
    refine G_takeA (i := 8) (v := undef) rfl (by kernel_rfl) (by kernel_rfl) (by kernel_rfl) (by kernel_rfl) (fun _ _ _ h => h) (Or.inr ⟨by rfl, rfl⟩) trivial (Or.inr trivial) ?_
    try simp only [Act.put, List.getElem_toArray, List.getElem_cons_succ, List.getElem_cons_zero, List.setIfInBounds_toArray, List.set_cons_zero, List.set_cons_succ]
    refine G_takeA (i := 9) (v := undef) rfl (by kernel_rfl) (by kernel_rfl) (by kernel_rfl) (by kernel_rfl) (fun _ _ _ h => h) (Or.inr ⟨by rfl, rfl⟩) trivial (Or.inr trivial) ?_
    try simp only [Act.put, List.getElem_toArray, List.getElem_cons_succ, List.getElem_cons_zero, List.setIfInBounds_toArray, List.set_cons_zero, List.set_cons_succ]
    refine G_takeA (i := 10) (v := undef) rfl (by kernel_rfl) (by kernel_rfl) (by kernel_rfl) (by kernel_rfl) (fun _ _ _ h => h) (Or.inr ⟨by rfl, rfl⟩) trivial (Or.inr trivial) ?_
    try simp only [Act.put, List.getElem_toArray, List.getElem_cons_succ, List.getElem_cons_zero, List.setIfInBounds_toArray, List.set_cons_zero, List.set_cons_succ]
    refine G_takeA (i := 11) (v := undef) rfl (by kernel_rfl) (by kernel_rfl) (by kernel_rfl) (by kernel_rfl) (fun _ _ _ h => h) (Or.inr ⟨by rfl, rfl⟩) trivial (Or.inr trivial) ?_
    try simp only [Act.put, List.getElem_toArray, List.getElem_cons_succ, List.getElem_cons_zero, List.setIfInBounds_toArray, List.set_cons_zero, List.set_cons_succ]
    refine G_takeA (i := 12) (v := ?_) rfl (by kernel_rfl) (by kernel_rfl) (by kernel_rfl) (by kernel_rfl) (fun _ _ _ h => h) (Or.inl ⟨by rfl, ?_⟩) trivial (Or.inr trivial) ?_
    rotate_left
    ·intro w hS
     go_simp
     try rfl
    try simp only [Act.put, List.getElem_toArray, List.getElem_cons_succ, List.getElem_cons_zero, List.setIfInBounds_toArray, List.set_cons_zero, List.set_cons_succ]
    refine G_takeA (i := 13) (v := ?_) rfl (by kernel_rfl) (by kernel_rfl) (by kernel_rfl) (by kernel_rfl) (fun _ _ _ h => h) (Or.inl ⟨by rfl, ?_⟩) trivial (Or.inr trivial) ?_
    rotate_left
    ·intro w hS
     go_simp
     try rfl
    try simp only [Act.put, List.getElem_toArray, List.getElem_cons_succ, List.getElem_cons_zero, List.setIfInBounds_toArray, List.set_cons_zero, List.set_cons_succ]
    refine G_done (by kernel_rfl) ?_ _
    refine NoPanic.normal ?_
    clear d4 HS HE2 hmf hT1
    go_wp2_with fail
    go_roundg m
    case measure => have := HG.out; omega
    case rel => exact ⟨F4, (s2, t1.2), true, rfl, HM.out.1, HM.out.2, HF, hq⟩
theorem keepJ_any {adr : Option Addr} {nr cr : Nat} (hvr : vr = .slice adr nr cr) {t : Js × List En} (h : (mkSd (mjI c k) c.bs vr).J F t w) (hq : t.2.length <= 90000) (x : Int) :
  Calls Tryz.prog 76 #[.pointer (some ⟨c.pk, 0, none⟩), .int .i64 x] w fun e w' => ∃ F', e = .returned (.tuple #[]) /\ (mkSd (mjI c k) c.bs vr).J F' (k.ke t x).2 w' /\ Tn F w F' w' := by
 obtain ⟨F0, ⟨hJ, hI⟩, hstep⟩ := mkSd_in h
 have P := markJ_any hJ hI x
 have HS : Hid ((∀ F1 t1 w', (mjI c k).J F1 t1 w' -> Tn F0 w F1 w' -> ∃ F', (mkSd (mjI c k) c.bs vr).J F' (t1, t.2) w' /\ Tn F w F' w') /\ JI k (k.ma t.1 x)) := ⟨hstep, (hI.ma x).1⟩
 have E : Hid ((k.ke t x).2 = k.sp (k.ma t.1 x, t.2)) := rfl
 generalize (k.ke t x).2 = t1 at E ⊢
 clear hJ hI hstep h
 go_enter Tryz.func76, Tryz.ntmps76
 go_wp2_with fail
 refine P.mono ?_
 clear P
 rintro e w1 ⟨F1, rfl, hJ1, hT1⟩
 obtain ⟨F2, hM, hT⟩ := HS.out.1 F1 _ w1 ⟨hJ1, HS.out.2⟩ hT1
 have HM : Hid (_ /\ _) := ⟨hM, hT⟩
 clear hJ1 hT1 hM hT
 go_wp2_with fail
 refine (spreadJ_any hvr HM.out.1 hq).mono ?_
 rintro e w2 ⟨F3, rfl, hM2, hT2⟩
 have HM2 : Hid (_ /\ _) := ⟨hM2, HM.out.2.trans hT2⟩
 clear hM2 hT2
 go_wp2_with fail
 go_end0
 rw [E.out]
 exact ⟨F3, rfl, HM2.out.1, HM2.out.2⟩
end
end Go.Proofs.YtalgochmjddodaaGreat

namespace Go.Proofs.YtalgochmjddodaaGreat
set_option maxRecDepth 100000
set_option maxHeartbeats 2000000
open Go.RowKit W Kp Stl
def Jk.sS (k : Jk) (t : Js × List En) (r : List En) : Js × List En := stS (noSd Js) (fun s x => k.al s.1 x) k.ke t r
def Jk.sR (k : Jk) (t : Js × List En) (r : List En) : List En := stR (noSd Js) (fun s x => k.al s.1 x) k.ke (fun s x => k.nw s.1 x) t r
def Jk.sQ (k : Jk) (t : Js × List En) (r : List En) : List En := stQ (noSd Js) (fun s x => k.al s.1 x) k.ke (fun s x => k.nw s.1 x) t r
theorem sprJ_len (k : Jk) : ∀ (n : Nat) (t : Js × List En), (k.spr n t).2.length = t.2.length
 | 0, t => rfl
 | n + 1, t => by
  unfold Jk.spr
  split
  ·exact sprJ_len k n ((k.kv (k.LM t.1)).2, t.2)
  ·split
   ·exact (sprJ_len k n _).trans (wkQ_len _ _ _ _)
   ·exact wkQ_len _ _ _ _
theorem keJ_len (k : Jk) (t : Js × List En) (x : Int) : (k.ke t x).2.2.length = t.2.length := sprJ_len k _ _
section
variable {c : Jc} {k : Jk} {F : Nat -> Prop} {s : Js} {w : World} {vr : Value}
theorem keepsW_fkJ (bx by_ : Nat) (hne : bx ≠ by_) {adr : Option Addr} {nr cr : Nat} (hvr : vr = .slice adr nr cr) : KeepsW (mkSd (obX (obX (mjI c k) by_ (boxK (fkJ c))) bx (boxJ c)) c.bs vr) (fun _ => True) (fpJ by_).f (fpJ by_).b (fpJ by_).c k.ke := by
 intro F t w x _ hn hJ
 have hn : (k.ke t x).2.2.length <= 90000 := hn
 obtain ⟨h1, hx, hbx⟩ := mkSd_less hJ
 obtain ⟨h2, hy, hby⟩ := mkSd_less h1
 rw [keJ_len] at hn
 have P := keepJ_any hvr h2 hn x
 have c0 : w.cell? ⟨by_, 0, none⟩ = some (fkJ c).v := by simp [World.cell?, hy]
 have HX : Hid (w.heap[bx]? = some (boxJ c) /\ w.heap[by_]? = some (boxK (fkJ c)) /\ F bx /\ F by_) := ⟨hx, hy, hbx, hby.1⟩
 have E : Hid ((k.ke t x).1 = x) := rfl
 generalize (k.ke t x).1 = x1 at E ⊢
 generalize (k.ke t x).2 = t2 at P ⊢
 clear hJ h1 h2 hx hy hbx hby hn
 show Calls Tryz.prog 157 #[.int .i64 x, .pointer (some ⟨by_, 0, none⟩)] w _
 go_enter Tryz.func157, Tryz.ntmps157
 go_wp2_with fail
 refine P.mono ?_
 clear P
 rintro e w1 ⟨F1, rfl, hM, hT⟩
 have lx := lt_of_some HX.out.1
 have ly := lt_of_some HX.out.2.1
 have hx1 : w1.heap[bx]? = some (boxJ c) := (hT.fr.block bx lx (fun d => d.1.2 rfl)).trans HX.out.1
 have hy1 : w1.heap[by_]? = some (boxK (fkJ c)) := (hT.fr.block by_ ly (fun d => d.2 rfl)).trans HX.out.2.1
 have nF : ¬ F1 by_ := fun d => (hT.sub by_ d).elim (fun d => d.2 rfl) (fun d => by omega)
 have nG : ¬ (F1 bx \/ bx = by_) := fun d => d.elim (fun d => (hT.sub bx d).elim (fun d => d.1.2 rfl) (fun d => by omega)) hne
 have HF : Hid ((mkSd (obX (obX (mjI c k) by_ (boxK (fkJ c))) bx (boxJ c)) c.bs vr).J (fun b => (F1 b \/ b = by_) \/ b = bx) t2 w1 /\ Fr F w w1 /\ ∀ b, ((F1 b \/ b = by_) \/ b = bx) -> F b \/ w.heap.size <= b) := by
  refine ⟨mkSd_add (mkSd_add hM hy1 nF) hx1 nG, hT.fr.mono (fun b d => d.1.1), fun b d => ?_⟩
  rcases d with (d | d) | d
  ·exact (hT.sub b d).imp (fun d => d.1.1) id
  ·exact Or.inl (by rw [d]; exact HX.out.2.2.2)
  ·exact Or.inl (by rw [d]; exact HX.out.2.2.1)
 clear hM hT hx1 hy1 nF nG
 go_wp2_with fail
 go_ret
 rw [E.out]
 exact ⟨_, rfl, HF.out.1, HF.out.2.1, HF.out.2.2⟩
theorem lksJ (bx by_ : Nat) (hne : bx ≠ by_) {adr : Option Addr} {nr cr : Nat} (hvr : vr = .slice adr nr cr) : Lks (mkSd (obX (obX (mjI c k) by_ (boxK (fkJ c))) bx (boxJ c)) c.bs vr) (fun _ => True) (faJ bx) (fpJ by_) (fnJ c) (fun s x => k.al s.1 x) k.ke (fun s x => k.nw s.1 x) where
  ea := ent_faJ
  ek := ent_fpJ
  en := ent_fnJ
  ha := by
    rintro F s w x _ ⟨F0, ad, cap, h1, _⟩
    exact alives_faJ2 bx by_ (fkJ c) F0 s.1 w x trivial h1
  hk := keepsW_fkJ bx by_ hne hvr
  ht := by
    rintro F s w x _ ⟨F0, ad, cap, h1, _⟩
    exact tells_obX (tells_obX tells_fnJ) F0 s.1 w x trivial h1
  hl := fun s x => keJ_len k s x
theorem settleJ_any {adr : Option Addr} {cr : Nat} {r : List En} (hvr : vr = .slice adr r.length cr) {t : Js × List En} (h : (mkSd (mjI c k) c.bs vr).J F t w) (hr : w.ownsRow 0 101 2 vr r.length (ev r)) (hq : t.2.length + r.length <= 90000) (bx by_ : Nat) (hne : bx ≠ by_) (hx : w.heap[bx]? = some (boxJ c)) (hy : w.heap[by_]? = some (boxK (fkJ c))) (hn : ¬ F bx) (hm : ¬ F by_) :
  Calls Tryz.prog 62 #[.pointer (some ⟨c.bs, 0, none⟩), .agg #[(faJ bx).v, (fpJ by_).v, (fnJ c).v]] w fun e w' => ∃ a1 c1 F', e = .returned (.tuple #[]) /\ (mkSd (mjI c k) c.bs (.slice a1 (k.sR t r).length c1)).J F' ((k.sS t r).1, k.sQ t r) w' /\
   w'.ownsRow 0 101 2 (.slice a1 (k.sR t r).length c1) (k.sR t r).length (ev (k.sR t r)) /\ (∀ b, some b = (Value.slice a1 (k.sR t r).length c1).ownBlock -> ¬ F' b /\ w.heap.size <= b) /\ Fr (fun b => F b \/ b = by_ \/ b = bx) w w' /\ (∀ b, F' b -> F b \/ w.heap.size <= b) := by
 subst hvr
 have P := settle_more (mkSd (obX (obX (mjI c k) by_ (boxK (fkJ c))) bx (boxJ c)) c.bs (.slice adr r.length cr)) (fun _ => True) (faJ bx) (fpJ by_) (fnJ c) _ _ _ (lksJ bx by_ hne rfl) r adr cr rfl (by omega) (fun _ _ => ⟨trivial, trivial⟩) _ t w (fun _ _ => ⟨trivial, trivial⟩) hq (mkSd_add (mkSd_add h hy hm) hx (fun d => d.elim hn hne)) (row_pairs hr)
 refine P.mono ?_
 clear P
 rintro e w' ⟨a1, c1, a2, c2, F1, wm, rfl, ⟨F0, ad, cap, ⟨Fb, ⟨Fc, g1, g2', g3', g4'⟩, g2, g3, g4⟩, h2, h3, h4, h5, h6, h7, h8⟩, q3, q4, q5, q6, q7, q8, q9, q10, q11, q12⟩
 have q5 : w'.heap[c.bs]? = some (.cells #[.slice a1 (k.sR t r).length c1, .slice a2 (k.sQ t r).length c2] 72 (0, 0)) := q5
 have q6 : w'.ownsRow w.heap.size 101 2 (.slice a1 (k.sR t r).length c1) (k.sR t r).length (ev (k.sR t r)) := q6
 have q7 : w'.ownsRow w.heap.size 101 2 (.slice a2 (k.sQ t r).length c2) (k.sQ t r).length (ev (k.sQ t r)) := q7
 have q10 : ∀ b, some b = (Value.slice a1 (k.sR t r).length c1).ownBlock -> ¬ F1 b := q10
 have q11 : ∀ b, some b = (Value.slice a2 (k.sQ t r).length c2).ownBlock -> ¬ F1 b := q11
 have q12 : ∀ b, some b = (Value.slice a1 (k.sR t r).length c1).ownBlock -> some b ≠ (Value.slice a2 (k.sQ t r).length c2).ownBlock := q12
 have g1 : (mjI c k).J Fc (k.sS t r).1 wm := g1
 have fb0 : ∀ b, Fc b -> F0 b := fun b hb => (g4 b).2 (Or.inl ((g4' b).2 (Or.inl hb)))
 have fc1 : ∀ b, Fc b -> F1 b := fun b hb => h4 b (fb0 b hb)
 have fcp : ∀ b, Fc b -> b ≠ c.bs := fun b hb e => h6 (by show F0 c.bs; rw [<- e]; exact fb0 b hb)
 have g1' := (mjI c k).keep (w' := w') g1 q4 (fun b hb => q3 b (fc1 b hb) (fcp b hb))
 have hFs : F c.bs := by
  obtain ⟨_, _, _, _, _, _, _, e5, _⟩ := h
  exact e5
 refine ⟨a1, c1, fun b => Fc b \/ b = c.bs \/ some b = (Value.slice a2 (k.sQ t r).length c2).ownBlock, rfl, ⟨Fc, a2, c2, g1', q5, row_base q7 (fun _ _ => Nat.zero_le _), fun b hb => Or.inl hb, Or.inr (Or.inl rfl), fun d => fcp _ d rfl, fun b e => ⟨Or.inr (Or.inr e), fun d => q11 b e (fc1 b d)⟩, fun b hb => ?_⟩, row_base q6 (fun _ _ => Nat.zero_le _), fun b e => ⟨fun d => ?_, (row_lt q6 b e).1⟩, q8.mono (fun b d => ?_), fun b hb => ?_⟩
 ·rcases hb with hb | hb | hb
  ·exact (mjI c k).lt g1' b hb
  ·rw [hb]; exact lt_of_some q5
  ·exact (row_lt q7 b hb).2
 ·rcases d with d | d | d
  ·exact q10 b e (fc1 b d)
  ·obtain ⟨cs, hc⟩ := row_type q6 b e
   rw [d, q5] at hc
   simp at hc
  ·exact q12 b e d
 ·rcases d with (d | d) | d
  ·exact Or.inl d
  ·exact Or.inr (Or.inl d)
  ·exact Or.inr (Or.inr d)
 ·rcases hb with hb | hb | hb
  ·rcases q9 b (fc1 b hb) with ((d | d) | d) | d
   ·exact Or.inl d
   ·exact absurd hb (by rw [d]; exact g3')
   ·exact absurd ((g4' b).2 (Or.inl hb)) (by rw [d]; exact g3)
   ·exact Or.inr d
  ·exact Or.inl (by rw [hb]; exact hFs)
  ·exact Or.inr (row_lt q7 b hb).1
def Jk.kr (k : Jk) (s : Js) : Nat -> Js
 | 0 => s
 | n + 1 => k.ma (k.kr s n) (k.s.rs.getD n 0)
theorem Jl.kr (h : JI k s) : ∀ n, Jl k s (k.kr s n)
 | 0 => Jl.refl h
 | n + 1 => (Jl.kr h n).trans (Jl.ma (Jl.kr h n).ji _)
theorem keepRootsJ_any (h : (mjO c k).J F s w) (hI : JI k s) :
  Calls Tryz.prog 73 #[.pointer (some ⟨c.pk, 0, none⟩)] w fun e w' => ∃ F', e = .returned (.tuple #[]) /\ (mjO c k).J F' (k.kr s 12) w' /\ Tn F w F' w' := by
 have HJ : Hid ((mjO c k).J F s w) := h
 have HI : Hid (JI k s) := hI
 obtain ⟨vt, ve, h⟩ := h
 obtain ⟨_, c0, c3, _⟩ := mj_wood h
 obtain ⟨d0, _⟩ := mj_cells h
 clear h hI
 go_enter Tryz.func73, Tryz.ntmps73
 go_wp2_with fail
 go_loopw [12] (fun iv wr => ∃ (j : Nat) (F' : Nat -> Prop), j <= 12 /\ iv = .int .i64 j /\ Hid ((mjO c k).J F' (k.kr s j) wr /\ Tn F w F' wr)) (fun iv _ => 12 - (intOf iv).toNat)
 case atStart => exact ⟨0, F, Nat.zero_le _, rfl, ⟨HJ.out, Tn.refl _ _⟩⟩
 case round =>
  clear HJ c0 c3 d0
  obtain ⟨j, F', hj, rfl, HJ1⟩ := hrel
  by_cases hlt : j < 12
  ·obtain ⟨vt, ve, h1⟩ := HJ1.out.1
   obtain ⟨_, _, _, rt⟩ := mj_wood h1
   have r1 := rt j hlt
   have PM := markJ_any HJ1.out.1 (Jl.kr HI.out j).ji (k.s.rs.getD j 0)
   have HS : Hid (k.ma (k.kr s j) (k.s.rs.getD j 0) = k.kr s (j + 1)) := rfl
   rw [HS.out] at PM
   have j0 : (0 : Int) <= (j : Int) := by omega
   have j1 : (j : Int) < 12 := by omega
   generalize k.s.rs.getD j 0 = x at r1 PM
   clear h1 rt HS
   go_wp2_with fail
   refine PM.mono ?_
   clear PM
   rintro e w2 ⟨F2, rfl, j2, t2⟩
   have HJ2 : Hid ((mjO c k).J F2 (k.kr s (j + 1)) w2 /\ Tn F w F2 w2) := ⟨j2, HJ1.out.2.trans t2⟩
   clear j2 t2 r1 HJ1
   go_wp2_with fail
   go_roundw
   case rel => exact ⟨j + 1, F2, by omega, by go_num, HJ2⟩
   case measure => simp [intOf]; omega
  ·obtain rfl : j = 12 := by omega
   go_wp2_with fail
   go_end0
   exact ⟨F', rfl, HJ1.out.1, HJ1.out.2⟩
end
end Go.Proofs.YtalgochmjddodaaGreat

namespace Go.Proofs.YtalgochmjddodaaGreat
set_option maxRecDepth 100000
set_option maxHeartbeats 2000000
open Go.RowKit W Kp Stl
theorem zeros_len1 (z : Value) (n : Nat) (hz : z.cells.size = 1) : (Builtin.zeroCells z.cells n).size = n * 1 := by rw [size_zeroCells, hz]
theorem int_one (l : List Int) : ∀ u ∈ l.map (Value.int .i64), u.oneCell' = true := fun u hu => by
 obtain ⟨x, _, rfl⟩ := List.mem_map.1 hu
 rfl
theorem row_none {w : World} {base n m : Nat} {e : TypeId} {ad : Option Addr} {cap : Nat} {xs : List Value} (h : w.ownsRow base e m (.slice ad n cap) n xs) : ad = none -> n = 0 /\ cap = 0 := fun e0 => by
 subst e0
 rcases h.2 with ⟨hv, hn⟩ | ⟨g, c, cur, hv, _⟩
 ·simp at hv
  exact ⟨hn, hv.2⟩
 ·simp at hv
theorem row_adds {w : World} {base : Nat} {e : TypeId} {ad : Option Addr} {cap : Nat} {l : List Int} (h : w.ownsRow base e 1 (.slice ad l.length cap) l.length (l.map (Value.int .i64))) : ∀ a, ad = some a -> ∀ j u, (l.map (Value.int .i64))[j]? = some u -> w.cell? (a.add j) = some u := fun a ea j u hj => by
 have hjl : j < l.length := by
  have := (List.getElem?_eq_some_iff.1 hj).1
  simpa using this
 obtain ⟨b, o, e2, _, hc⟩ := row_ints h (by omega)
 rw [ea] at e2
 cases e2
 have h1 := hc j hjl
 rw [List.getElem?_map, List.getElem?_eq_getElem hjl] at hj
 simp at hj
 have e3 : (⟨b, o, none⟩ : Addr).add j = ⟨b, o + j, none⟩ := by simp [Addr.add]
 rw [e3, h1, <- hj]
 simp [List.getD_eq_getElem?_getD, List.getElem?_eq_getElem hjl]
theorem growI_any (w : World) (n : Nat) (hn : n <= 100000) :
  Calls Tryz.prog 237 #[.slice none 0 0, .int .i64 n] w fun e w' => ∃ a1 c1, e = .returned (.slice a1 0 c1) /\ w'.ownsRow w.heap.size 3 1 (.slice a1 0 c1) 0 [] /\ Below w.heap.size w w' := by
 obtain ⟨i0, hi, hz0, hz1, hz2⟩ := info_parts infoInt
 rcases Nat.eq_zero_or_pos n with h0 | h0
 ·subst h0
  go_enter Tryz.func237, Tryz.ntmps237
  go_wp2_with fail
  go_ret
  exact ⟨none, 0, rfl, World.ownsRow_nil _ _ _ _, Below.refl _ _⟩
 ·have hr := Lib.run_append_nil_zeros (P := Tryz.prog) w 105 3 105 3 i0 (.int .i64 0) .i64 .i64 Tryz.underlying105 Tryz.underlying3 hi hz0 n h0 (by rw [hz1]; decide) (by omega) (by rw [hz2]; omega)
  have hge := grownCap_ge w n 0 3
  have hcm : grownCap w n 0 3 <= maxLen := grownCap_le_maxLen w n 0 3 (by unfold maxLen; omega)
  generalize grownCap w n 0 3 = g at hr hge hcm
  have hown : (w.drew.alloc (.cells (Builtin.zeroCells (Value.int .i64 0).cells n ++ Builtin.zeroCells (Value.int .i64 0).cells (g - n)) 3)).ownsRow w.heap.size 3 1 (.slice (some ⟨w.heap.size, 0, none⟩) 0 g) 0 [] :=
   World.ownsRow_made w.drew _ g (Nat.le_refl _) hcm (by rw [Array.size_append, zeros_len1 _ _ rfl, zeros_len1 _ _ rfl]; omega)
  have hb : Below w.heap.size w (w.drew.alloc (.cells (Builtin.zeroCells (Value.int .i64 0).cells n ++ Builtin.zeroCells (Value.int .i64 0).cells (g - n)) 3)) := (Below.refl _ w).drew.alloc (Nat.le_refl _) _
  generalize w.drew.alloc (.cells (Builtin.zeroCells (Value.int .i64 0).cells n ++ Builtin.zeroCells (Value.int .i64 0).cells (g - n)) 3) = w1 at hr hown hb
  go_enter Tryz.func237, Tryz.ntmps237
  go_wp2_with (at_builtin; refine Lib.wpList_append_run _ rfl _ _ _ _ rfl _ _ rfl rfl _ _ hr ?_)
  go_wp2_with fail
  go_ret
  exact ⟨_, _, rfl, hown, hb⟩
theorem concatI_any (w : World) (B : Nat) (l1 l2 : List Int) (z1 z2 : Option Addr) (c1 c2 : Nat) (x0 : w.cell? ⟨B, 0, none⟩ = some (.slice z1 l1.length c1)) (x1 : w.cell? ⟨B, 1, none⟩ = some (.slice z2 l2.length c2)) (h1 : w.ownsRow 0 3 1 (.slice z1 l1.length c1) l1.length (l1.map (Value.int .i64))) (h2 : w.ownsRow 0 3 1 (.slice z2 l2.length c2) l2.length (l2.map (Value.int .i64))) (hm : l1.length + l2.length <= 100000) :
  Calls Tryz.prog 215 #[.slice (some ⟨B, 0, none⟩) 2 2] w fun e w' => ∃ a c, e = .returned (.slice a (l1.length + l2.length) c) /\ w'.ownsRow w.heap.size 3 1 (.slice a (l1.length + l2.length) c) (l1.length + l2.length) ((l1 ++ l2).map (Value.int .i64)) /\ Below w.heap.size w w' := by
 obtain ⟨i0, hi, hz0, hz1, hz2⟩ := info_parts infoInt
 have H1 : Hid (w.ownsRow 0 3 1 (.slice z1 l1.length c1) l1.length (l1.map (Value.int .i64))) := h1
 have H2 : Hid (w.ownsRow 0 3 1 (.slice z2 l2.length c2) l2.length (l2.map (Value.int .i64))) := h2
 have hB := World.block_lt_of_cell? w _ x0
 clear h1 h2
 go_enter Tryz.func215, Tryz.ntmps215
 go_wp2_with fail
 go_loopw [3, 11] (fun sv iv wr => wr = w /\ ((iv = .int .i64 0 /\ sv = .int .i64 0) \/ (iv = .int .i64 1 /\ sv = .int .i64 l1.length) \/ (iv = .int .i64 2 /\ sv = .int .i64 (l1.length + l2.length : Nat)))) (fun _ iv _ => 2 - (intOf iv).toNat)
 case atStart => exact ⟨rfl, Or.inl ⟨rfl, rfl⟩⟩
 case round =>
  obtain ⟨hw, ⟨rfl, rfl⟩ | ⟨rfl, rfl⟩ | ⟨rfl, rfl⟩⟩ := hrel
  all_goals
   have hw := hw.symm
   subst hw
  ·go_wp2_with fail
   go_roundw
   case rel => exact ⟨trivial, Or.inr (Or.inl ⟨by go_num, by go_num⟩)⟩
   case measure => simp [intOf]
  ·go_wp2_with fail
   go_roundw
   case rel => exact ⟨trivial, Or.inr (Or.inr ⟨by go_num, by go_num⟩)⟩
   case measure => simp [intOf]
  ·go_wp2_with fail
   refine (growI_any w (l1.length + l2.length) hm).mono ?_
   rintro e w1 ⟨a1, d1, rfl, hown, hb⟩
   go_wp2_with fail
   go_loopw [6, 27] (fun vv iv wk => Below w.heap.size w wk /\ ((∃ a c, iv = .int .i64 0 /\ vv = .slice a 0 c /\ wk.ownsRow w.heap.size 3 1 (.slice a 0 c) 0 []) \/ (∃ a c, iv = .int .i64 1 /\ vv = .slice a l1.length c /\ wk.ownsRow w.heap.size 3 1 (.slice a l1.length c) l1.length (l1.map (Value.int .i64))) \/ (∃ a c, iv = .int .i64 2 /\ vv = .slice a (l1.length + l2.length) c /\ wk.ownsRow w.heap.size 3 1 (.slice a (l1.length + l2.length) c) (l1.length + l2.length) ((l1 ++ l2).map (Value.int .i64))))) (fun _ iv _ => 2 - (intOf iv).toNat)
   case atStart => exact ⟨hb, Or.inl ⟨a1, d1, rfl, rfl, hown⟩⟩
   case round =>
    clear hown hb
    obtain ⟨hb, ⟨a, c, rfl, rfl, hown⟩ | ⟨a, c, rfl, rfl, hown⟩ | ⟨a, c, rfl, rfl, hown⟩⟩ := hrel
    ·have y0 := (hb.cell (p := ⟨B, 0, none⟩) hB).trans x0
     have hs := hb.size
     go_wp2_with (at_builtin; refine wpList_append_src _ rfl _ _ 105 rfl w.heap.size 3 i0 (.int .i64 0) 1 8 Tryz.underlying105 hi hz0 hz1 hz2 rfl (by decide) (.slice a 0 c) 0 [] rfl hown z1 l1.length c1 (l1.map (Value.int .i64)) rfl (by simp) (row_none H1.out) (row_adds (row_keep H1.out (fun k e => hb.block k (row_lt H1.out k e).2))) (int_one l1) ?_ ?_ hs ?_; (unfold maxLen; omega); omega; intro a2 d2 w2 hown2 hgrow2 _; rw [Nat.zero_add, List.nil_append] at hown2)
     have hb2 := hb.grown hgrow2 hs (fun k e => (row_lt hown k e.symm).1)
     clear hb hgrow2
     go_wp2_with fail
     go_roundw
     case rel => exact ⟨hb2, Or.inr (Or.inl ⟨a2, d2, by go_num, rfl, hown2⟩)⟩
     case measure => simp [intOf]
    ·have y0 := (hb.cell (p := ⟨B, 1, none⟩) hB).trans x1
     have hs := hb.size
     go_wp2_with (at_builtin; refine wpList_append_src _ rfl _ _ 105 rfl w.heap.size 3 i0 (.int .i64 0) 1 8 Tryz.underlying105 hi hz0 hz1 hz2 rfl (by decide) (.slice a l1.length c) l1.length (l1.map (Value.int .i64)) rfl hown z2 l2.length c2 (l2.map (Value.int .i64)) rfl (by simp) (row_none H2.out) (row_adds (row_keep H2.out (fun k e => hb.block k (row_lt H2.out k e).2))) (int_one l2) ?_ ?_ hs ?_; (unfold maxLen; omega); omega; intro a2 d2 w2 hown2 hgrow2 _; rw [<- List.map_append] at hown2)
     have hb2 := hb.grown hgrow2 hs (fun k e => (row_lt hown k e.symm).1)
     clear hb hgrow2
     go_wp2_with fail
     go_roundw
     case rel => exact ⟨hb2, Or.inr (Or.inr ⟨a2, d2, by go_num, rfl, hown2⟩)⟩
     case measure => simp [intOf]
    ·go_wp2_with fail
     go_ret
     exact ⟨a, c, rfl, hown, hb⟩
section
variable {c : Jc} {k : Jk} {F : Nat -> Prop} {s : Js} {w : World}
theorem mj_things {vt ve : Value} (h : (mjV c k vt ve).J F s w) : w.ownsRow 0 3 1 c.yv k.Y.length (k.Y.map (Value.int .i64)) /\ w.ownsRow 0 3 1 c.ov k.G.length (k.G.map (Value.int .i64)) := by
 obtain ⟨FW, own, h, _⟩ := h
 exact ⟨h.yr, h.gr⟩
theorem allJ_any (h : (mjO c k).J F s w) (hl : k.T.length <= 4000) :
  Calls Tryz.prog 151 #[.pointer (some ⟨c.pk, 0, none⟩)] w fun e w' => ∃ a d, e = .returned (.slice a k.T.length d) /\ w'.ownsRow w.heap.size 3 1 (.slice a k.T.length d) k.T.length (k.T.map (Value.int .i64)) /\ Below w.heap.size w w' := by
 have hlen : k.T.length = k.G.length + k.Y.length := by unfold Jk.T; rw [List.length_append]
 have ET : Hid (k.T.map (Value.int .i64) = (k.G ++ k.Y).map (Value.int .i64)) := rfl
 rw [hlen] at hl ⊢
 rw [ET.out]
 obtain ⟨vt, ve, h⟩ := h
 obtain ⟨_, d1, d2, _, _, _, _, _, lk⟩ := mj_cells h
 obtain ⟨yr, gr⟩ := mj_things h
 obtain ⟨ya, yc, ey⟩ := row_slice yr
 obtain ⟨ga, gc, eg⟩ := row_slice gr
 rw [ey] at d1 yr
 rw [eg] at d2 gr
 have hba := (Below.refl w.drew.heap.size w.drew).alloc (Nat.le_refl _) (.cells #[.slice ga k.G.length gc, .slice ya k.Y.length yc] 105)
 have hB0 : Below w.heap.size w (w.drew.alloc (.cells #[.slice ga k.G.length gc, .slice ya k.Y.length yc] 105)) := (Below.refl w.heap.size w).drew.trans (hba.mono (Nat.le_refl _))
 have hx := heap_alloc_new w.drew (.cells #[.slice ga k.G.length gc, .slice ya k.Y.length yc] 105)
 have P := concatI_any (w.drew.alloc (.cells #[.slice ga k.G.length gc, .slice ya k.Y.length yc] 105)) w.heap.size k.G k.Y ga ya gc yc (by simp only [World.cell?]; rw [show w.heap.size = w.drew.heap.size from rfl, hx]; rfl) (by simp only [World.cell?]; rw [show w.heap.size = w.drew.heap.size from rfl, hx]; rfl) (row_keep gr (fun b e => hB0.block b (row_lt gr b e).2)) (row_keep yr (fun b e => hB0.block b (row_lt yr b e).2)) (by omega)
 have HB0 : Hid (Below w.heap.size w (w.drew.alloc (.cells #[.slice ga k.G.length gc, .slice ya k.Y.length yc] 105))) := hB0
 clear h yr gr hba hx hB0 hlen ey eg
 go_enter Tryz.func151, Tryz.ntmps151
 go_wp2_with fail
 go_region_held3 (fun w' => w'.cell? ⟨c.pk, 1, none⟩ = some (.slice ya k.Y.length yc) /\ w'.cell? ⟨c.pk, 2, none⟩ = some (.slice ga k.G.length gc)) (go_keep)
  (first
   | (go_at_call 215; refine P.mono ?_; clear P; rintro e w3 ⟨a, d, rfl, hown, hb⟩; have hB3 := HB0.out.trans (hb.mono HB0.out.size); have y1 := (hB3.cell (p := ⟨c.pk, 1, none⟩) lk).trans d1; have y2 := (hB3.cell (p := ⟨c.pk, 2, none⟩) lk).trans d2; have HO : Hid (w3.ownsRow w.heap.size 3 1 (.slice a (k.G.length + k.Y.length) d) (k.G.length + k.Y.length) ((k.G ++ k.Y).map (Value.int .i64)) /\ Below w.heap.size w w3) := ⟨row_base hown (fun b e => Nat.le_trans HB0.out.size (row_lt hown b e).1), hB3⟩; clear hown hb hB3))
 clear y1 y2 d1 d2
 go_wp2_with fail
 go_ret
 exact ⟨a, d, rfl, HO.out.1, HO.out.2⟩
end
end Go.Proofs.YtalgochmjddodaaGreat
