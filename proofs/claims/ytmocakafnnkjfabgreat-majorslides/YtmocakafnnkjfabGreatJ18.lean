/- Joined: Mj11, Mn15, Mj12, Sd7. -/
import Derived.Test.YtmocakafnnkjfabGreatJ17
import Derived.Test.YtmocakafnnkjfabGreatJ14
import Derived.Test.YtmocakafnnkjfabGreatJ15
import Derived.Test.YtmocakafnnkjfabGreatJ06
import Derived.Lib.AppendZeros
/- A great cut in memory: Wake beside it, spread, keep: contracts. -/
namespace Go.Proofs.YtmocakafnnkjfabGreat
open Go.RowKit W Kp Stl

section
variable {c : Jc} {k : Jk} {F : Nat → Prop} {s : Js} {w : World} {vr : Value}

set_option maxRecDepth 100000 in
set_option maxHeartbeats 1000000 in
theorem alives_faJ2 (bx by_ : Nat) (fv : Fv) : Alives (obX (obX (mjI c k) by_ (boxK fv)) bx (boxJ c)) (fun _ => True) (faJ bx).f (faJ bx).b (faJ bx).c k.al := by
  rintro F s w x _ ⟨F0, ⟨F00, ⟨⟨vt, ve, h⟩, _⟩, _⟩, hx, _⟩
  have P := isLostJ_any h x
  have c0 : w.cell? ⟨bx, 0, none⟩ = some (.pointer (some ⟨c.pk, 0, none⟩)) := by simp [World.cell?, hx]
  have E : k.al s x = !k.jl s x := rfl
  rw [E]
  clear h hx E
  generalize k.jl s x = b at P ⊢
  show Calls Tryz.prog 147 #[.int .i64 x, .pointer (some ⟨bx, 0, none⟩)] w _
  go_enter Tryz.func147, Tryz.ntmps147
  go_wp2_with fail
  refine P.mono ?_
  rintro e w1 ⟨rfl, hb1⟩
  go_wp2_with fail
  go_ret
  exact ⟨rfl, hb1⟩

theorem wakeJ_any {adr : Option Addr} {nr cr : Nat} (hvr : vr = .slice adr nr cr) {t : Js × List En} (h : (mkSd (mjI c k) c.bs vr).J F t w) (hq : t.2.length ≤ 90000) (bx by_ : Nat) (hx : w.heap[bx]? = some (boxJ c)) (hy : w.heap[by_]? = some (boxK (fmJ c))) (hn : ¬ F bx) (hm : ¬ F by_) (hne : bx ≠ by_) :
    Calls Tryz.prog 125 #[.pointer (some ⟨c.bs, 0, none⟩), .agg #[(faJ bx).v, (fpJ by_).v, (fnJ c).v]] w fun e w' => ∃ F', e = .returned (.bool (k.wa t).2) ∧ (mkSd (mjI c k) c.bs vr).J F' (k.wa t).1 w' ∧ Fr (fun b => F b ∨ b = by_ ∨ b = bx) w w' ∧ (∀ b, F' b → F b ∨ b = by_ ∨ b = bx ∨ w.heap.size ≤ b) := by
  have hL := lks_mk (obX (obX (mjI c k) by_ (boxK (fmJ c))) bx (boxJ c)) c.bs vr (fun _ => True) (faJ bx) (fpJ by_) (fnJ c) k.al k.mp k.nw ent_faJ ent_fpJ ent_fnJ (alives_faJ2 bx by_ (fmJ c)) (keeps_obX (keeps_fmJ by_)) (tells_obX (tells_obX tells_fnJ))
  have P := wake_any (mkSd (obX (obX (mjI c k) by_ (boxK (fmJ c))) bx (boxJ c)) c.bs vr) (sets_mk _ _ _) (fun _ => True) (faJ bx) (fpJ by_) (fnJ c) _ _ _ hL adr nr cr hvr _ t w hq (fun _ _ => ⟨trivial, trivial⟩) (mkSd_add (mkSd_add h hy hm) hx (fun d => d.elim hn hne))
  refine P.mono ?_
  rintro e w' ⟨F', rfl, hJ, hf, hs⟩
  refine ⟨F', rfl, mkSd_drop (mkSd_drop hJ), hf.mono (fun b d => ?_), fun b hb => ?_⟩
  · rcases d with (d | d) | d
    · exact Or.inl d
    · exact Or.inr (Or.inl d)
    · exact Or.inr (Or.inr d)
  · rcases hs b hb with ((d | d) | d) | d
    · exact Or.inl d
    · exact Or.inr (Or.inl d)
    · exact Or.inr (Or.inr (Or.inl d))
    · exact Or.inr (Or.inr (Or.inr d))

set_option maxRecDepth 100000 in
set_option maxHeartbeats 4000000 in
theorem spreadJ_any {adr : Option Addr} {nr cr : Nat} (hvr : vr = .slice adr nr cr) {t : Js × List En} (h : (mkSd (mjI c k) c.bs vr).J F t w) (hq : t.2.length ≤ 90000) :
    Calls Tryz.prog 86 #[.pointer (some ⟨c.pk, 0, none⟩)] w fun e w' => ∃ F', e = .returned (.tuple #[]) ∧ (mkSd (mjI c k) c.bs vr).J F' (k.sp t) w' ∧ Tn F w F' w' := by
  have hmf : ∀ (fn : Fn) (first cap : Array Value) (w : World), (Instr.makeFunc fn first cap).run Tryz.prog w = .ok (.func fn first cap) w := fun _ _ _ _ => rfl
  obtain ⟨t9, E9⟩ : ∃ t9, k.sp t = t9 := ⟨_, rfl⟩
  rw [E9]
  have H9 : Hid (k.spr (k.mu t.1 + 1) t = t9) := E9
  clear E9
  go_enter Tryz.func86, Tryz.ntmps86
  go_wp2_with fail
  go_loopg [2] (k.mu t.1 + 1) (fun n bv wr => ∃ (F1 : Nat → Prop) (t1 : Js × List En) (b : Bool), bv = .bool b ∧ (mkSd (mjI c k) c.bs vr).J F1 t1 wr ∧ Tn F w F1 wr ∧ Hid (if b = true then k.mu t1.1 < n ∧ k.spr n t1 = t9 else t1 = t9) ∧ t1.2.length ≤ 90000)
  case atStart => exact ⟨F, t, true, rfl, h, Tn.refl _ _, ⟨by omega, H9.out⟩, hq⟩
  case round =>
    clear h hq H9
    obtain ⟨F1, t1, b, rfl, hJ, hT, HE, hq⟩ := hrel
    cases b
    · have HE2 : Hid (t1 = t9) := HE.out
      go_wp2_with fail
      go_end0
      rw [← HE2.out]
      exact ⟨F1, rfl, hJ, hT⟩
    · obtain ⟨e1, e2⟩ := HE.out
      obtain ⟨m, hm⟩ : ∃ m, gk = m + 1 := ⟨gk - 1, by omega⟩
      obtain ⟨F0, hI, hstep⟩ := mkSd_in hJ
      have B := lamJ_any hI.1 hI.2
      have j0 := Jl.LM hI.2
      obtain ⟨j1, j2⟩ := Jl.kv j0.ji
      have j3 := (j0.trans j1).mu
      have j4 := j0.mu
      have EL : k.lm (k.lost t1.1 + t1.1.td.length + 1) t1.1 = k.LM t1.1 := rfl
      rw [EL] at B
      have HL : Hid (JI k (k.LM t1.1)) := j0.ji
      have HS : Hid (Tn F w F1 wr ∧ (∀ F1_1 t1_1 w', (mjI c k).J F1_1 t1_1 w' → Tn F0 wr F1_1 w' → ∃ F', (mkSd (mjI c k) c.bs vr).J F' (t1_1, t1.2) w' ∧ Tn F1 wr F' w') ∧ JI k (k.kv (k.LM t1.1)).2) := ⟨hT, hstep, j1.ji⟩
      have HN : Hid (k.mu (k.kv (k.LM t1.1)).2 ≤ k.mu t1.1 ∧ ((k.kv (k.LM t1.1)).1 = true → k.mu (k.kv (k.LM t1.1)).2 < k.mu t1.1) ∧ k.mu t1.1 < m + 1) := ⟨j3, fun e => by have := j2 e; omega, by omega⟩
      have HE2 : Hid (k.spr (m + 1) t1 = t9) := by rw [← hm]; exact e2
      have HG : Hid (gk = m + 1) := hm
      clear hI hstep j0 j1 j2 j3 j4 hJ hT HE e1 e2 EL hm
      go_wp2_with fail
      refine B.mono ?_
      clear B
      rintro e w1 ⟨F2, rfl, hJ1, hT1⟩
      have V := keepValuesJ_any ((mjO c k).below hJ1 (Below.refl _ w1).drew) HL.out
      have hT1 := hT1.below (Below.refl _ w1).drew
      obtain ⟨vt1, ve1, hJ1⟩ := hJ1
      obtain ⟨_, _, _, _, d4, _⟩ := mj_cells hJ1
      cases hkv : (k.kv (k.LM t1.1)).1
      · rw [hkv] at V
        have HE3 : Hid ((if (k.wa ((k.kv (k.LM t1.1)).2, t1.2)).2 = true then k.spr m (k.wa ((k.kv (k.LM t1.1)).2, t1.2)).1 else (k.wa ((k.kv (k.LM t1.1)).2, t1.2)).1) = t9) := by
          have := HE2.out
          unfold Jk.spr at this
          rw [hkv] at this
          exact this
        have HW := Jl.wa (t := ((k.kv (k.LM t1.1)).2, t1.2)) HS.out.2.2
        have HW : Hid ((k.wa ((k.kv (k.LM t1.1)).2, t1.2)).1.2.length ≤ 90000 ∧ ((k.wa ((k.kv (k.LM t1.1)).2, t1.2)).2 = true → k.mu (k.wa ((k.kv (k.LM t1.1)).2, t1.2)).1.1 < k.mu t1.1)) := by
          have n1 := HN.out.1
          refine ⟨by rw [HW.2.1]; exact hq, fun e => by have := HW.2.2 e; dsimp only at this; omega⟩
        generalize k.LM t1.1 = s1 at *
        generalize (k.kv s1).2 = s2 at *
        clear hJ1
        go_wp2_with fail
        go_region_held3 (fun w' => w'.cell? ⟨c.pk, 4, none⟩ = some (.pointer (some ⟨c.bs, 0, none⟩))) (go_keep)
          (first
            | (go_at_call 146; refine V.mono ?_; clear V; rintro e w2 ⟨F3, rfl, hJ2, hT2⟩; obtain ⟨F4, hM, hT4⟩ := HS.out.2.1 F3 s2 w2 ⟨hJ2, HS.out.2.2⟩ (hT1.trans hT2); obtain ⟨vt2, ve2, hJ2⟩ := hJ2; obtain ⟨_, _, _, _, g4, _⟩ := mj_cells hJ2; have l0 := World.block_lt_of_cell? w2 _ g4; have HM : Hid ((mkSd (mjI c k) c.bs vr).J F4 (s2, t1.2) w2 ∧ Tn F w F4 w2) := ⟨hM, HS.out.1.trans hT4⟩; clear hJ2 hT2 hM hT4)
            | (go_at_call 87; refine (looksJ_any (fmJ c) w2 c.pk).mono ?_; rintro e w3 ⟨rfl, hx3, hy3, hb3⟩; have y4 := (hb3.cell (p := ⟨c.pk, 4, none⟩) l0).trans g4; have HX : Hid (w3.heap[w2.heap.size]? = some (boxJ c) ∧ w3.heap[w2.heap.size + 1]? = some (boxK (fmJ c)) ∧ Below w2.heap.size w2 w3) := ⟨hx3, hy3, hb3⟩; clear hx3 hy3 hb3)
            | (go_at_call 125; refine (wakeJ_any hvr (t := (s2, t1.2)) ((mkSd (mjI c k) c.bs vr).below HM.out.1 HX.out.2.2) hq w2.heap.size (w2.heap.size + 1) HX.out.1 HX.out.2.1 (fun h => by have := (mkSd (mjI c k) c.bs vr).lt HM.out.1 _ h; omega) (fun h => by have := (mkSd (mjI c k) c.bs vr).lt HM.out.1 _ h; omega) (by omega)).mono ?_; rintro e w4 ⟨F5, rfl, hM5, hf5, hs5⟩; have HM5 : Hid ((mkSd (mjI c k) c.bs vr).J F5 (k.wa (s2, t1.2)).1 w4 ∧ Tn F w F5 w4) := ⟨hM5, ⟨(HM.out.2.below HX.out.2.2).fr.trans hf5 (fun b hb => hb.elim (HM.out.2.sub b) (fun e => Or.inr (by have := HM.out.2.fr.size; omega))), fun b hb => (hs5 b hb).elim (HM.out.2.sub b) (fun h => Or.inr (by have h1 := HM.out.2.fr.size; have h2 := HX.out.2.2.size; omega))⟩⟩; obtain ⟨F6, ⟨⟨vt6, ve6, hJ6⟩, _⟩, _⟩ := mkSd_in hM5; obtain ⟨_, _, _, _, r4, _⟩ := mj_cells hJ6; clear hM5 hf5 hs5 hJ6))
        clear r4 g4 y4 d4 HS HM HX HE2 hmf hT1
        cases hbw : (k.wa (s2, t1.2)).2
        · have HF : Hid (if false = true then k.mu (k.wa (s2, t1.2)).1.1 < m ∧ k.spr m (k.wa (s2, t1.2)).1 = t9 else (k.wa (s2, t1.2)).1 = t9) := by
            have := HE3.out
            rw [hbw] at this
            exact this
          go_wp2_with fail
          go_roundg m
          case measure => have := HG.out; omega
          case rel => exact ⟨F5, (k.wa (s2, t1.2)).1, false, rfl, HM5.out.1, HM5.out.2, HF, HW.out.1⟩
        · have HF : Hid (if true = true then k.mu (k.wa (s2, t1.2)).1.1 < m ∧ k.spr m (k.wa (s2, t1.2)).1 = t9 else (k.wa (s2, t1.2)).1 = t9) := by
            have h1 := HE3.out
            rw [hbw] at h1
            have h2 := HW.out.2 hbw
            have h3 := HN.out.2.2
            exact ⟨by omega, h1⟩
          go_wp2_with fail
          go_roundg m
          case measure => have := HG.out; omega
          case rel => exact ⟨F5, (k.wa (s2, t1.2)).1, true, rfl, HM5.out.1, HM5.out.2, HF, HW.out.1⟩
      · rw [hkv] at V
        have HF : Hid (if true = true then k.mu (k.kv (k.LM t1.1)).2 < m ∧ k.spr m ((k.kv (k.LM t1.1)).2, t1.2) = t9 else ((k.kv (k.LM t1.1)).2, t1.2) = t9) := by
          have h1 := HE2.out
          unfold Jk.spr at h1
          rw [hkv] at h1
          have h2 := HN.out.2.1 hkv
          have h3 := HN.out.2.2
          exact ⟨by omega, h1⟩
        generalize k.LM t1.1 = s1 at *
        generalize (k.kv s1).2 = s2 at *
        clear hJ1
        go_wp2_with fail
        refine wp_region_noPanic ?_
        refine wp_region_any (by kernel_rfl) ?_
        refine any_of_G (T := fun _ => True) (S := fun _ => True) (St := []) _ _ _ _ ?_
        refine G_takeA (i := 0) (v := ?_) rfl (by kernel_rfl) (by kernel_rfl) (by kernel_rfl) (by kernel_rfl) (fun _ _ _ h => h) (Or.inl ⟨by rfl, ?_⟩) trivial (Or.inr trivial) ?_
        rotate_left
        · intro w hS
          go_simp
          try rfl
        try simp only [Act.put, List.getElem_toArray, List.getElem_cons_zero, List.setIfInBounds_toArray, List.set_cons_zero, List.set_cons_succ]
        refine G_one (i := 1) (by kernel_rfl) ?_
        refine wpOp_of_wpG rfl (by rfl) ?_
        simp only [List.getElem_toArray, List.getElem_cons_succ, List.getElem_cons_zero]
        go_simp
        refine V.mono ?_
        clear V
        rintro e w2 ⟨F3, rfl, hJ2, hT2⟩
        obtain ⟨F4, hM, hT4⟩ := HS.out.2.1 F3 s2 w2 ⟨hJ2, HS.out.2.2⟩ (hT1.trans hT2)
        have HM : Hid ((mkSd (mjI c k) c.bs vr).J F4 (s2, t1.2) w2 ∧ Tn F w F4 w2) := ⟨hM, HS.out.1.trans hT4⟩
        clear hJ2 hT2 hM hT4
        refine G_takeA (i := 2) (v := ?_) rfl (by kernel_rfl) (by kernel_rfl) (by kernel_rfl) (by kernel_rfl) (fun _ _ _ h => h) (Or.inl ⟨by rfl, ?_⟩) trivial (Or.inr trivial) ?_
        rotate_left
        · intro w hS
          go_simp
          try rfl
        try simp only [Act.put, List.getElem_toArray, List.getElem_cons_succ, List.getElem_cons_zero, List.setIfInBounds_toArray, List.set_cons_zero, List.set_cons_succ]
        refine G_takeA (i := 3) (v := undef) rfl (by kernel_rfl) (by kernel_rfl) (by kernel_rfl) (by kernel_rfl) (fun _ _ _ h => h) (Or.inr ⟨by rfl, rfl⟩) trivial (Or.inr trivial) ?_
        try simp only [Act.put, List.getElem_toArray, List.getElem_cons_succ, List.getElem_cons_zero, List.setIfInBounds_toArray, List.set_cons_zero, List.set_cons_succ]
        refine G_takeA (i := 4) (v := undef) rfl (by kernel_rfl) (by kernel_rfl) (by kernel_rfl) (by kernel_rfl) (fun _ _ _ h => h) (Or.inr ⟨by rfl, rfl⟩) trivial (Or.inr trivial) ?_
        try simp only [Act.put, List.getElem_toArray, List.getElem_cons_succ, List.getElem_cons_zero, List.setIfInBounds_toArray, List.set_cons_zero, List.set_cons_succ]
        refine G_takeA (i := 5) (v := undef) rfl (by kernel_rfl) (by kernel_rfl) (by kernel_rfl) (by kernel_rfl) (fun _ _ _ h => h) (Or.inr ⟨by rfl, rfl⟩) trivial (Or.inr trivial) ?_
        try simp only [Act.put, List.getElem_toArray, List.getElem_cons_succ, List.getElem_cons_zero, List.setIfInBounds_toArray, List.set_cons_zero, List.set_cons_succ]
        refine G_takeA (i := 6) (v := undef) rfl (by kernel_rfl) (by kernel_rfl) (by kernel_rfl) (by kernel_rfl) (fun _ _ _ h => h) (Or.inr ⟨by rfl, rfl⟩) trivial (Or.inr trivial) ?_
        try simp only [Act.put, List.getElem_toArray, List.getElem_cons_succ, List.getElem_cons_zero, List.setIfInBounds_toArray, List.set_cons_zero, List.set_cons_succ]
        refine G_takeA (i := 7) (v := undef) rfl (by kernel_rfl) (by kernel_rfl) (by kernel_rfl) (by kernel_rfl) (fun _ _ _ h => h) (Or.inr ⟨by rfl, rfl⟩) trivial (Or.inr trivial) ?_
        try simp only [Act.put, List.getElem_toArray, List.getElem_cons_succ, List.getElem_cons_zero, List.setIfInBounds_toArray, List.set_cons_zero, List.set_cons_succ]
        refine G_takeA (i := 8) (v := undef) rfl (by kernel_rfl) (by kernel_rfl) (by kernel_rfl) (by kernel_rfl) (fun _ _ _ h => h) (Or.inr ⟨by rfl, rfl⟩) trivial (Or.inr trivial) ?_
        try simp only [Act.put, List.getElem_toArray, List.getElem_cons_succ, List.getElem_cons_zero, List.setIfInBounds_toArray, List.set_cons_zero, List.set_cons_succ]
        refine G_takeA (i := 9) (v := undef) rfl (by kernel_rfl) (by kernel_rfl) (by kernel_rfl) (by kernel_rfl) (fun _ _ _ h => h) (Or.inr ⟨by rfl, rfl⟩) trivial (Or.inr trivial) ?_
        try simp only [Act.put, List.getElem_toArray, List.getElem_cons_succ, List.getElem_cons_zero, List.setIfInBounds_toArray, List.set_cons_zero, List.set_cons_succ]
        refine G_takeA (i := 10) (v := undef) rfl (by kernel_rfl) (by kernel_rfl) (by kernel_rfl) (by kernel_rfl) (fun _ _ _ h => h) (Or.inr ⟨by rfl, rfl⟩) trivial (Or.inr trivial) ?_
        try simp only [Act.put, List.getElem_toArray, List.getElem_cons_succ, List.getElem_cons_zero, List.setIfInBounds_toArray, List.set_cons_zero, List.set_cons_succ]
        refine G_takeA (i := 11) (v := undef) rfl (by kernel_rfl) (by kernel_rfl) (by kernel_rfl) (by kernel_rfl) (fun _ _ _ h => h) (Or.inr ⟨by rfl, rfl⟩) trivial (Or.inr trivial) ?_
        try simp only [Act.put, List.getElem_toArray, List.getElem_cons_succ, List.getElem_cons_zero, List.setIfInBounds_toArray, List.set_cons_zero, List.set_cons_succ]
        refine G_takeA (i := 12) (v := ?_) rfl (by kernel_rfl) (by kernel_rfl) (by kernel_rfl) (by kernel_rfl) (fun _ _ _ h => h) (Or.inl ⟨by rfl, ?_⟩) trivial (Or.inr trivial) ?_
        rotate_left
        · intro w hS
          go_simp
          try rfl
        try simp only [Act.put, List.getElem_toArray, List.getElem_cons_succ, List.getElem_cons_zero, List.setIfInBounds_toArray, List.set_cons_zero, List.set_cons_succ]
        refine G_takeA (i := 13) (v := ?_) rfl (by kernel_rfl) (by kernel_rfl) (by kernel_rfl) (by kernel_rfl) (fun _ _ _ h => h) (Or.inl ⟨by rfl, ?_⟩) trivial (Or.inr trivial) ?_
        rotate_left
        · intro w hS
          go_simp
          try rfl
        try simp only [Act.put, List.getElem_toArray, List.getElem_cons_succ, List.getElem_cons_zero, List.setIfInBounds_toArray, List.set_cons_zero, List.set_cons_succ]
        refine G_done (by kernel_rfl) ?_ _
        refine NoPanic.normal ?_
        clear d4 HS HE2 hmf hT1
        go_wp2_with fail
        go_roundg m
        case measure => have := HG.out; omega
        case rel => exact ⟨F4, (s2, t1.2), true, rfl, HM.out.1, HM.out.2, HF, hq⟩

set_option maxRecDepth 100000 in
set_option maxHeartbeats 2000000 in
theorem keepJ_any {adr : Option Addr} {nr cr : Nat} (hvr : vr = .slice adr nr cr) {t : Js × List En} (h : (mkSd (mjI c k) c.bs vr).J F t w) (hq : t.2.length ≤ 90000) (x : Int) :
    Calls Tryz.prog 88 #[.pointer (some ⟨c.pk, 0, none⟩), .int .i64 x] w fun e w' => ∃ F', e = .returned (.tuple #[]) ∧ (mkSd (mjI c k) c.bs vr).J F' (k.ke t x).2 w' ∧ Tn F w F' w' := by
  obtain ⟨F0, ⟨hJ, hI⟩, hstep⟩ := mkSd_in h
  have P := markJ_any hJ hI x
  have HS : Hid ((∀ F1 t1 w', (mjI c k).J F1 t1 w' → Tn F0 w F1 w' → ∃ F', (mkSd (mjI c k) c.bs vr).J F' (t1, t.2) w' ∧ Tn F w F' w') ∧ JI k (k.ma t.1 x)) := ⟨hstep, (hI.ma x).1⟩
  have E : Hid ((k.ke t x).2 = k.sp (k.ma t.1 x, t.2)) := rfl
  generalize (k.ke t x).2 = t1 at E ⊢
  clear hJ hI hstep h
  go_enter Tryz.func88, Tryz.ntmps88
  go_wp2_with fail
  refine P.mono ?_
  clear P
  rintro e w1 ⟨F1, rfl, hJ1, hT1⟩
  obtain ⟨F2, hM, hT⟩ := HS.out.1 F1 _ w1 ⟨hJ1, HS.out.2⟩ hT1
  have HM : Hid (_ ∧ _) := ⟨hM, hT⟩
  clear hJ1 hT1 hM hT
  go_wp2_with fail
  refine (spreadJ_any hvr HM.out.1 hq).mono ?_
  rintro e w2 ⟨F3, rfl, hM2, hT2⟩
  have HM2 : Hid (_ ∧ _) := ⟨hM2, HM.out.2.trans hT2⟩
  clear hM2 hT2
  go_wp2_with fail
  go_end0
  rw [E.out]
  exact ⟨F3, rfl, HM2.out.1, HM2.out.2⟩
end

end Go.Proofs.YtmocakafnnkjfabGreat

/- A small cut in memory: Settle, as it asks it; what is left of it: contracts. -/
namespace Go.Proofs.YtmocakafnnkjfabGreat
open Go.RowKit W Kp Stl

section
variable {τ : Type} {o : Ob τ} {bx p : Nat} {x : Obj} {vr : Value} {F : Nat → Prop} {w w' : World}

theorem mkSd_less {t : τ × List En} (h : (mkSd (obX o bx x) p vr).J F t w) : (mkSd o p vr).J (fun b => F b ∧ b ≠ bx) t w ∧ w.heap[bx]? = some x ∧ F bx := by
  obtain ⟨F0, ad, cap, ⟨F1, g1, g2, g3, g4⟩, h2, h3, h4, h5, h6, h7, h8⟩ := h
  have hbx : F0 bx := (g4 bx).2 (Or.inr rfl)
  exact ⟨⟨F1, ad, cap, g1, h2, h3, fun b hb => ⟨h4 b ((g4 b).2 (Or.inl hb)), fun e => g3 (by rw [← e]; exact hb)⟩, ⟨h5, fun e => h6 (by rw [e]; exact hbx)⟩, fun c => h6 ((g4 p).2 (Or.inl c)), fun b e => ⟨⟨(h7 b e).1, fun e' => (h7 b e).2 (by rw [e']; exact hbx)⟩, fun c => (h7 b e).2 ((g4 b).2 (Or.inl c))⟩, fun b hb => h8 b hb.1⟩, g2, h4 _ hbx⟩
theorem mkSd_to {t : τ × List En} (h : (mkSd o p vr).J F t w) : ∃ F0, o.J F0 t.1 w ∧ ∀ {τ' : Type} (o' : Ob τ') F1 t1 w', o'.J F1 t1 w' → Tn F0 w F1 w' → ∃ F', (mkSd o' p vr).J F' (t1, t.2) w' ∧ Tn F w F' w' := by
  obtain ⟨F0, ad, cap, h1, h2, h3, h4, h5, h6, h7, h8⟩ := h
  refine ⟨F0, h1, fun o' F1 t1 w' hJ hT => ?_⟩
  have lp := lt_of_some h2
  refine ⟨fun k => F k ∨ F1 k, ⟨F1, ad, cap, hJ, (hT.fr.block p lp h6).trans h2, row_keep h3 (fun k e => hT.fr.block k (row_lt h3 k e).2 (h7 k e).2), fun k h => Or.inr h, Or.inl h5, fun h => (hT.sub p h).elim h6 (fun h => by omega), fun k e => ⟨Or.inl (h7 k e).1, fun h => (hT.sub k h).elim (h7 k e).2 (fun h => by have := (row_lt h3 k e).2; omega)⟩, fun k h => ?_⟩, hT.fr.mono h4, fun k h => ?_⟩
  · rcases h with h | h
    · exact Nat.lt_of_lt_of_le (h8 k h) hT.fr.size
    · exact o'.lt hJ k h
  · rcases h with h | h
    · exact Or.inl h
    · exact (hT.sub k h).imp (h4 k) id
end

def botO (τ : Type) : Ob τ where
  J _ _ _ := False
  lt := fun h => h.elim
  keep := fun h => h.elim
def noSd (τ : Type) : SdOb (τ × List En) := mkSd (botO τ) 0 (.slice none 0 0)
def Ck.sS (k : Ck) (t : Cs × List En) (r : List En) : Cs × List En := stS (noSd Cs) (fun s x => k.al s.1 x) k.ke t r
def Ck.sR (k : Ck) (t : Cs × List En) (r : List En) : List En := stR (noSd Cs) (fun s x => k.al s.1 x) k.ke (fun s x => k.nw s.1 x) t r
def Ck.sQ (k : Ck) (t : Cs × List En) (r : List En) : List En := stQ (noSd Cs) (fun s x => k.al s.1 x) k.ke (fun s x => k.nw s.1 x) t r

theorem wkQ_len {α : Type} (is : α → Int → Bool) (kp : α → Int → Int × α) (s : α × List En) : ∀ n, (wkQ is kp s n).1.2.length = s.2.length
  | 0 => rfl
  | n + 1 => by
    have e : wkQ is kp s (n + 1) = wkP is kp (wkQ is kp s n) n := by simp [wkQ, List.range_succ]
    rw [e]
    have ih := wkQ_len is kp s n
    generalize wkQ is kp s n = t at ih ⊢
    unfold wkP
    split
    · exact ih
    · simpa using ih
theorem spr_len (k : Ck) : ∀ (n : Nat) (t : Cs × List En), (k.spr n t).2.length = t.2.length
  | 0, _ => rfl
  | n + 1, t => by
    unfold Ck.spr
    split
    · exact spr_len k n _
    · split
      · exact (spr_len k n _).trans (wkQ_len _ _ _ _)
      · exact wkQ_len _ _ _ _
theorem ke_len (k : Ck) (t : Cs × List En) (x : Int) : (k.ke t x).2.2.length = t.2.length := spr_len k _ _

section
variable {c : Cc} {k : Ck} {F : Nat → Prop} {s : Cs} {w : World} {vr : Value}

theorem keepsW_fkM (bx : Nat) {adr : Option Addr} {nr cr : Nat} (hvr : vr = .slice adr nr cr) : KeepsW (mkSd (obX (cutI c k) bx (boxC c)) c.sd vr) (fun _ => True) (fkM c).f (fkM c).b (fkM c).c k.ke := by
  intro F t w x _ hn hJ
  have hn : (k.ke t x).2.2.length ≤ 90000 := hn
  obtain ⟨h1, hx, hbx⟩ := mkSd_less hJ
  rw [ke_len] at hn
  refine (keepM_any hvr h1 hn x).mono ?_
  rintro r w' ⟨F', rfl, hM, hT⟩
  have lx := lt_of_some hx
  have nF : ¬ F' bx := fun d => (hT.sub bx d).elim (fun d => d.2 rfl) (fun d => by omega)
  refine ⟨fun b => F' b ∨ b = bx, rfl, mkSd_add hM ((hT.fr.block bx lx (fun d => d.2 rfl)).trans hx) nF, hT.fr.mono (fun b d => d.1), fun b d => ?_⟩
  rcases d with d | d
  · exact (hT.sub b d).imp (fun d => d.1) id
  · exact Or.inl (by rw [d]; exact hbx)

theorem lksM (bx : Nat) {adr : Option Addr} {nr cr : Nat} (hvr : vr = .slice adr nr cr) : Lks (mkSd (obX (cutI c k) bx (boxC c)) c.sd vr) (fun _ => True) (faM bx) (fkM c) (fnM c) (fun s x => k.al s.1 x) k.ke (fun s x => k.nw s.1 x) where
  ea := ent_faM
  ek := ent_fkM
  en := ent_fnM
  ha := by
    rintro F s w x _ ⟨F0, ad, cap, h1, _⟩
    exact alives_faM bx F0 s.1 w x trivial h1
  hk := keepsW_fkM bx hvr
  ht := by
    rintro F s w x _ ⟨F0, ad, cap, h1, _⟩
    exact tells_obX tells_fnM F0 s.1 w x trivial h1
  hl := fun s x => ke_len k s x

theorem settleM_any {adr : Option Addr} {cr : Nat} {r : List En} (hvr : vr = .slice adr r.length cr) {t : Cs × List En} (h : (mkSd (cutI c k) c.sd vr).J F t w) (hr : w.ownsRow 0 95 2 vr r.length (ev r)) (hq : t.2.length + r.length ≤ 90000) (bx : Nat) (hx : w.heap[bx]? = some (boxC c)) (hn : ¬ F bx) :
    Calls Tryz.prog 63 #[.pointer (some ⟨c.sd, 0, none⟩), .agg #[(faM bx).v, (fkM c).v, (fnM c).v]] w fun e w' => ∃ a1 c1 F', e = .returned (.tuple #[]) ∧ (mkSd (cutI c k) c.sd (.slice a1 (k.sR t r).length c1)).J F' ((k.sS t r).1, k.sQ t r) w' ∧
      w'.ownsRow 0 95 2 (.slice a1 (k.sR t r).length c1) (k.sR t r).length (ev (k.sR t r)) ∧ (∀ b, some b = (Value.slice a1 (k.sR t r).length c1).ownBlock → ¬ F' b ∧ w.heap.size ≤ b) ∧ Fr (fun b => F b ∨ b = bx) w w' ∧ (∀ b, F' b → F b ∨ w.heap.size ≤ b) := by
  subst hvr
  have P := settle_more (mkSd (obX (cutI c k) bx (boxC c)) c.sd (.slice adr r.length cr)) (fun _ => True) (faM bx) (fkM c) (fnM c) _ _ _ (lksM bx rfl) r adr cr rfl (by omega) (fun _ _ => ⟨trivial, trivial⟩) _ t w (fun _ _ => ⟨trivial, trivial⟩) hq (mkSd_add h hx hn) (row_pairs hr)
  refine P.mono ?_
  clear P
  rintro e w' ⟨a1, c1, a2, c2, F1, wm, rfl, ⟨F0, ad, cap, ⟨Fc, g1, g2, g3, g4⟩, h2, h3, h4, h5, h6, h7, h8⟩, q3, q4, q5, q6, q7, q8, q9, q10, q11, q12⟩
  have q5 : w'.heap[c.sd]? = some (.cells #[.slice a1 (k.sR t r).length c1, .slice a2 (k.sQ t r).length c2] 162 (0, 0)) := q5
  have q6 : w'.ownsRow w.heap.size 95 2 (.slice a1 (k.sR t r).length c1) (k.sR t r).length (ev (k.sR t r)) := q6
  have q7 : w'.ownsRow w.heap.size 95 2 (.slice a2 (k.sQ t r).length c2) (k.sQ t r).length (ev (k.sQ t r)) := q7
  have q10 : ∀ b, some b = (Value.slice a1 (k.sR t r).length c1).ownBlock → ¬ F1 b := q10
  have q11 : ∀ b, some b = (Value.slice a2 (k.sQ t r).length c2).ownBlock → ¬ F1 b := q11
  have q12 : ∀ b, some b = (Value.slice a1 (k.sR t r).length c1).ownBlock → some b ≠ (Value.slice a2 (k.sQ t r).length c2).ownBlock := q12
  have g1 : (cutI c k).J Fc (k.sS t r).1 wm := g1
  have fc1 : ∀ b, Fc b → F1 b := fun b hb => h4 b ((g4 b).2 (Or.inl hb))
  have fcp : ∀ b, Fc b → b ≠ c.sd := fun b hb e => h6 (by show F0 c.sd; rw [← e]; exact (g4 b).2 (Or.inl hb))
  have g1' := (cutI c k).keep (w' := w') g1 q4 (fun b hb => q3 b (fc1 b hb) (fcp b hb))
  have hFs : F c.sd := by
    obtain ⟨_, _, _, _, _, _, _, e5, _⟩ := h
    exact e5
  refine ⟨a1, c1, fun b => Fc b ∨ b = c.sd ∨ some b = (Value.slice a2 (k.sQ t r).length c2).ownBlock, rfl, ⟨Fc, a2, c2, g1', q5, row_base q7 (fun _ _ => Nat.zero_le _), fun b hb => Or.inl hb, Or.inr (Or.inl rfl), fun d => fcp _ d rfl, fun b e => ⟨Or.inr (Or.inr e), fun d => q11 b e (fc1 b d)⟩, fun b hb => ?_⟩, row_base q6 (fun _ _ => Nat.zero_le _), fun b e => ⟨fun d => ?_, (row_lt q6 b e).1⟩, q8, fun b hb => ?_⟩
  · rcases hb with hb | hb | hb
    · exact (cutI c k).lt g1' b hb
    · rw [hb]; exact lt_of_some q5
    · exact (row_lt q7 b hb).2
  · rcases d with d | d | d
    · exact q10 b e (fc1 b d)
    · obtain ⟨cs, hc⟩ := row_type q6 b e
      rw [d, q5] at hc
      simp at hc
    · exact q12 b e d
  · rcases hb with hb | hb | hb
    · rcases q9 b (fc1 b hb) with (d | d) | d
      · exact Or.inl d
      · exact absurd hb (by rw [d]; exact g3)
      · exact Or.inr d
    · exact Or.inl (by rw [hb]; exact hFs)
    · exact Or.inr (row_lt q7 b hb).1
end

theorem cut_wood {pk mq pq y : Nat} {a : Wc} {M T : List Int} {F : Nat → Prop} {s : Cs} {w : World} (h : (cutO ⟨pk, mq, a.pw, a.p, a.q, a.pc, pq, a.sd, a.nb, nC a.O, M⟩ ⟨a.N, a.O, y, T⟩).J F s w) : ∃ F', (wodO a).J F' ⟨y, s.g, s.ws, M, s.rs⟩ w ∧ (∀ b, F' b → F b) ∧ ¬ F' pk := by
  obtain ⟨vw, ve, own, h, hF⟩ := h
  have e1 : ∀ b j, own b = j → j ≤ 4 → (if own b ≤ 4 then own b else 0) = j := fun b j e hj => by rw [if_pos (by omega)]; exact e
  refine ⟨fun b => (if own b ≤ 4 then own b else 0) ≠ 0, ⟨fun b => if own b ≤ 4 then own b else 0, pq, ?_, fun b => Iff.rfl⟩, fun b hb => (hF b).2 (fun e => hb (by rw [e]; rfl)), fun hb => hb ?_⟩
  · exact { ar := h.ar, a1 := e1 _ _ h.a1 (by decide), a2 := e1 _ _ h.a2 (by decide), cd := h.cd, c1 := e1 _ _ h.c1 (by decide), c2 := e1 _ _ h.c2 (by decide), wd := h.wd, w1 := e1 _ _ h.w1 (by decide), rt := h.rt, rl := h.rl, r1 := e1 _ _ h.r1 (by decide)
            le := fun b => by
              split
              · assumption
              · decide
            lt := fun b hb => h.lt b (fun e => hb (by rw [e]; rfl)) }
  · have := h.k1
    dsimp only at this
    rw [this]
    rfl

structure Ww where
  s : Wst
  r : List En
  q : List En
def wsO (a : Wc) : Ob Ww where
  J F S w := ∃ F0 ar cr, (mkSd (wodO a) a.sd (.slice ar S.r.length cr)).J F0 (S.s, S.q) w ∧ w.ownsRow 0 95 2 (.slice ar S.r.length cr) S.r.length (ev S.r) ∧ (∀ b, some b = (Value.slice ar S.r.length cr).ownBlock → ¬ F0 b) ∧ ∀ b, F b ↔ (F0 b ∨ some b = (Value.slice ar S.r.length cr).ownBlock)
  lt := by
    rintro F S w ⟨F0, ar, cr, h1, h2, h3, hF⟩ b hb
    rcases (hF b).1 hb with hb | hb
    · exact (mkSd (wodO a) a.sd (.slice ar S.r.length cr)).lt h1 b hb
    · exact (row_lt h2 b hb).2
  keep := by
    rintro F S w w' ⟨F0, ar, cr, h1, h2, h3, hF⟩ hs hk
    exact ⟨F0, ar, cr, (mkSd (wodO a) a.sd (.slice ar S.r.length cr)).keep h1 hs (fun b hb => hk b ((hF b).2 (Or.inl hb))), row_keep h2 (fun b e => hk b ((hF b).2 (Or.inr e))), h3, hF⟩

end Go.Proofs.YtmocakafnnkjfabGreat

/- A great cut in memory: Settle beside it: a contract. -/
namespace Go.Proofs.YtmocakafnnkjfabGreat
open Go.RowKit W Kp Stl

def Jk.sS (k : Jk) (t : Js × List En) (r : List En) : Js × List En := stS (noSd Js) (fun s x => k.al s.1 x) k.ke t r
def Jk.sR (k : Jk) (t : Js × List En) (r : List En) : List En := stR (noSd Js) (fun s x => k.al s.1 x) k.ke (fun s x => k.nw s.1 x) t r
def Jk.sQ (k : Jk) (t : Js × List En) (r : List En) : List En := stQ (noSd Js) (fun s x => k.al s.1 x) k.ke (fun s x => k.nw s.1 x) t r

theorem sprJ_len (k : Jk) : ∀ (n : Nat) (t : Js × List En), (k.spr n t).2.length = t.2.length
  | 0, t => rfl
  | n + 1, t => by
    unfold Jk.spr
    split
    · exact sprJ_len k n ((k.kv (k.LM t.1)).2, t.2)
    · split
      · exact (sprJ_len k n _).trans (wkQ_len _ _ _ _)
      · exact wkQ_len _ _ _ _
theorem keJ_len (k : Jk) (t : Js × List En) (x : Int) : (k.ke t x).2.2.length = t.2.length := sprJ_len k _ _

section
variable {c : Jc} {k : Jk} {F : Nat → Prop} {s : Js} {w : World} {vr : Value}

set_option maxRecDepth 100000 in
set_option maxHeartbeats 2000000 in
theorem keepsW_fkJ (bx by_ : Nat) (hne : bx ≠ by_) {adr : Option Addr} {nr cr : Nat} (hvr : vr = .slice adr nr cr) : KeepsW (mkSd (obX (obX (mjI c k) by_ (boxK (fkJ c))) bx (boxJ c)) c.bs vr) (fun _ => True) (fpJ by_).f (fpJ by_).b (fpJ by_).c k.ke := by
  intro F t w x _ hn hJ
  have hn : (k.ke t x).2.2.length ≤ 90000 := hn
  obtain ⟨h1, hx, hbx⟩ := mkSd_less hJ
  obtain ⟨h2, hy, hby⟩ := mkSd_less h1
  rw [keJ_len] at hn
  have P := keepJ_any hvr h2 hn x
  have c0 : w.cell? ⟨by_, 0, none⟩ = some (fkJ c).v := by simp [World.cell?, hy]
  have HX : Hid (w.heap[bx]? = some (boxJ c) ∧ w.heap[by_]? = some (boxK (fkJ c)) ∧ F bx ∧ F by_) := ⟨hx, hy, hbx, hby.1⟩
  have E : Hid ((k.ke t x).1 = x) := rfl
  generalize (k.ke t x).1 = x1 at E ⊢
  generalize (k.ke t x).2 = t2 at P ⊢
  clear hJ h1 h2 hx hy hbx hby hn
  show Calls Tryz.prog 149 #[.int .i64 x, .pointer (some ⟨by_, 0, none⟩)] w _
  go_enter Tryz.func149, Tryz.ntmps149
  go_wp2_with fail
  refine P.mono ?_
  clear P
  rintro e w1 ⟨F1, rfl, hM, hT⟩
  have lx := lt_of_some HX.out.1
  have ly := lt_of_some HX.out.2.1
  have hx1 : w1.heap[bx]? = some (boxJ c) := (hT.fr.block bx lx (fun d => d.1.2 rfl)).trans HX.out.1
  have hy1 : w1.heap[by_]? = some (boxK (fkJ c)) := (hT.fr.block by_ ly (fun d => d.2 rfl)).trans HX.out.2.1
  have nF : ¬ F1 by_ := fun d => (hT.sub by_ d).elim (fun d => d.2 rfl) (fun d => by omega)
  have nG : ¬ (F1 bx ∨ bx = by_) := fun d => d.elim (fun d => (hT.sub bx d).elim (fun d => d.1.2 rfl) (fun d => by omega)) hne
  have HF : Hid ((mkSd (obX (obX (mjI c k) by_ (boxK (fkJ c))) bx (boxJ c)) c.bs vr).J (fun b => (F1 b ∨ b = by_) ∨ b = bx) t2 w1 ∧ Fr F w w1 ∧ ∀ b, ((F1 b ∨ b = by_) ∨ b = bx) → F b ∨ w.heap.size ≤ b) := by
    refine ⟨mkSd_add (mkSd_add hM hy1 nF) hx1 nG, hT.fr.mono (fun b d => d.1.1), fun b d => ?_⟩
    rcases d with (d | d) | d
    · exact (hT.sub b d).imp (fun d => d.1.1) id
    · exact Or.inl (by rw [d]; exact HX.out.2.2.2)
    · exact Or.inl (by rw [d]; exact HX.out.2.2.1)
  clear hM hT hx1 hy1 nF nG
  go_wp2_with fail
  go_ret
  rw [E.out]
  exact ⟨_, rfl, HF.out.1, HF.out.2.1, HF.out.2.2⟩

theorem lksJ (bx by_ : Nat) (hne : bx ≠ by_) {adr : Option Addr} {nr cr : Nat} (hvr : vr = .slice adr nr cr) : Lks (mkSd (obX (obX (mjI c k) by_ (boxK (fkJ c))) bx (boxJ c)) c.bs vr) (fun _ => True) (faJ bx) (fpJ by_) (fnJ c) (fun s x => k.al s.1 x) k.ke (fun s x => k.nw s.1 x) where
  ea := ent_faJ
  ek := ent_fpJ
  en := ent_fnJ
  ha := by
    rintro F s w x _ ⟨F0, ad, cap, h1, _⟩
    exact alives_faJ2 bx by_ (fkJ c) F0 s.1 w x trivial h1
  hk := keepsW_fkJ bx by_ hne hvr
  ht := by
    rintro F s w x _ ⟨F0, ad, cap, h1, _⟩
    exact tells_obX (tells_obX tells_fnJ) F0 s.1 w x trivial h1
  hl := fun s x => keJ_len k s x

theorem settleJ_any {adr : Option Addr} {cr : Nat} {r : List En} (hvr : vr = .slice adr r.length cr) {t : Js × List En} (h : (mkSd (mjI c k) c.bs vr).J F t w) (hr : w.ownsRow 0 95 2 vr r.length (ev r)) (hq : t.2.length + r.length ≤ 90000) (bx by_ : Nat) (hne : bx ≠ by_) (hx : w.heap[bx]? = some (boxJ c)) (hy : w.heap[by_]? = some (boxK (fkJ c))) (hn : ¬ F bx) (hm : ¬ F by_) :
    Calls Tryz.prog 63 #[.pointer (some ⟨c.bs, 0, none⟩), .agg #[(faJ bx).v, (fpJ by_).v, (fnJ c).v]] w fun e w' => ∃ a1 c1 F', e = .returned (.tuple #[]) ∧ (mkSd (mjI c k) c.bs (.slice a1 (k.sR t r).length c1)).J F' ((k.sS t r).1, k.sQ t r) w' ∧
      w'.ownsRow 0 95 2 (.slice a1 (k.sR t r).length c1) (k.sR t r).length (ev (k.sR t r)) ∧ (∀ b, some b = (Value.slice a1 (k.sR t r).length c1).ownBlock → ¬ F' b ∧ w.heap.size ≤ b) ∧ Fr (fun b => F b ∨ b = by_ ∨ b = bx) w w' ∧ (∀ b, F' b → F b ∨ w.heap.size ≤ b) := by
  subst hvr
  have P := settle_more (mkSd (obX (obX (mjI c k) by_ (boxK (fkJ c))) bx (boxJ c)) c.bs (.slice adr r.length cr)) (fun _ => True) (faJ bx) (fpJ by_) (fnJ c) _ _ _ (lksJ bx by_ hne rfl) r adr cr rfl (by omega) (fun _ _ => ⟨trivial, trivial⟩) _ t w (fun _ _ => ⟨trivial, trivial⟩) hq (mkSd_add (mkSd_add h hy hm) hx (fun d => d.elim hn hne)) (row_pairs hr)
  refine P.mono ?_
  clear P
  rintro e w' ⟨a1, c1, a2, c2, F1, wm, rfl, ⟨F0, ad, cap, ⟨Fb, ⟨Fc, g1, g2', g3', g4'⟩, g2, g3, g4⟩, h2, h3, h4, h5, h6, h7, h8⟩, q3, q4, q5, q6, q7, q8, q9, q10, q11, q12⟩
  have q5 : w'.heap[c.bs]? = some (.cells #[.slice a1 (k.sR t r).length c1, .slice a2 (k.sQ t r).length c2] 162 (0, 0)) := q5
  have q6 : w'.ownsRow w.heap.size 95 2 (.slice a1 (k.sR t r).length c1) (k.sR t r).length (ev (k.sR t r)) := q6
  have q7 : w'.ownsRow w.heap.size 95 2 (.slice a2 (k.sQ t r).length c2) (k.sQ t r).length (ev (k.sQ t r)) := q7
  have q10 : ∀ b, some b = (Value.slice a1 (k.sR t r).length c1).ownBlock → ¬ F1 b := q10
  have q11 : ∀ b, some b = (Value.slice a2 (k.sQ t r).length c2).ownBlock → ¬ F1 b := q11
  have q12 : ∀ b, some b = (Value.slice a1 (k.sR t r).length c1).ownBlock → some b ≠ (Value.slice a2 (k.sQ t r).length c2).ownBlock := q12
  have g1 : (mjI c k).J Fc (k.sS t r).1 wm := g1
  have fb0 : ∀ b, Fc b → F0 b := fun b hb => (g4 b).2 (Or.inl ((g4' b).2 (Or.inl hb)))
  have fc1 : ∀ b, Fc b → F1 b := fun b hb => h4 b (fb0 b hb)
  have fcp : ∀ b, Fc b → b ≠ c.bs := fun b hb e => h6 (by show F0 c.bs; rw [← e]; exact fb0 b hb)
  have g1' := (mjI c k).keep (w' := w') g1 q4 (fun b hb => q3 b (fc1 b hb) (fcp b hb))
  have hFs : F c.bs := by
    obtain ⟨_, _, _, _, _, _, _, e5, _⟩ := h
    exact e5
  refine ⟨a1, c1, fun b => Fc b ∨ b = c.bs ∨ some b = (Value.slice a2 (k.sQ t r).length c2).ownBlock, rfl, ⟨Fc, a2, c2, g1', q5, row_base q7 (fun _ _ => Nat.zero_le _), fun b hb => Or.inl hb, Or.inr (Or.inl rfl), fun d => fcp _ d rfl, fun b e => ⟨Or.inr (Or.inr e), fun d => q11 b e (fc1 b d)⟩, fun b hb => ?_⟩, row_base q6 (fun _ _ => Nat.zero_le _), fun b e => ⟨fun d => ?_, (row_lt q6 b e).1⟩, q8.mono (fun b d => ?_), fun b hb => ?_⟩
  · rcases hb with hb | hb | hb
    · exact (mjI c k).lt g1' b hb
    · rw [hb]; exact lt_of_some q5
    · exact (row_lt q7 b hb).2
  · rcases d with d | d | d
    · exact q10 b e (fc1 b d)
    · obtain ⟨cs, hc⟩ := row_type q6 b e
      rw [d, q5] at hc
      simp at hc
    · exact q12 b e d
  · rcases d with (d | d) | d
    · exact Or.inl d
    · exact Or.inr (Or.inl d)
    · exact Or.inr (Or.inr d)
  · rcases hb with hb | hb | hb
    · rcases q9 b (fc1 b hb) with ((d | d) | d) | d
      · exact Or.inl d
      · exact absurd hb (by rw [d]; exact g3')
      · exact absurd ((g4' b).2 (Or.inl hb)) (by rw [d]; exact g3)
      · exact Or.inr d
    · exact Or.inl (by rw [hb]; exact hFs)
    · exact Or.inr (row_lt q7 b hb).1

def Jk.kr (k : Jk) (s : Js) : Nat → Js
  | 0 => s
  | n + 1 => k.ma (k.kr s n) (k.s.rs.getD n 0)
theorem Jl.kr (h : JI k s) : ∀ n, Jl k s (k.kr s n)
  | 0 => Jl.refl h
  | n + 1 => (Jl.kr h n).trans (Jl.ma (Jl.kr h n).ji _)
set_option maxRecDepth 100000 in
set_option maxHeartbeats 2000000 in
theorem keepRootsJ_any (h : (mjO c k).J F s w) (hI : JI k s) :
    Calls Tryz.prog 85 #[.pointer (some ⟨c.pk, 0, none⟩)] w fun e w' => ∃ F', e = .returned (.tuple #[]) ∧ (mjO c k).J F' (k.kr s 12) w' ∧ Tn F w F' w' := by
  have HJ : Hid ((mjO c k).J F s w) := h
  have HI : Hid (JI k s) := hI
  obtain ⟨vt, ve, h⟩ := h
  obtain ⟨_, c0, c3, _⟩ := mj_wood h
  obtain ⟨d0, _⟩ := mj_cells h
  clear h hI
  go_enter Tryz.func85, Tryz.ntmps85
  go_wp2_with fail
  go_loopw [12] (fun iv wr => ∃ (j : Nat) (F' : Nat → Prop), j ≤ 12 ∧ iv = .int .i64 j ∧ Hid ((mjO c k).J F' (k.kr s j) wr ∧ Tn F w F' wr)) (fun iv _ => 12 - (intOf iv).toNat)
  case atStart => exact ⟨0, F, Nat.zero_le _, rfl, ⟨HJ.out, Tn.refl _ _⟩⟩
  case round =>
    clear HJ c0 c3 d0
    obtain ⟨j, F', hj, rfl, HJ1⟩ := hrel
    by_cases hlt : j < 12
    · obtain ⟨vt, ve, h1⟩ := HJ1.out.1
      obtain ⟨_, _, _, rt⟩ := mj_wood h1
      have r1 := rt j hlt
      have PM := markJ_any HJ1.out.1 (Jl.kr HI.out j).ji (k.s.rs.getD j 0)
      have HS : Hid (k.ma (k.kr s j) (k.s.rs.getD j 0) = k.kr s (j + 1)) := rfl
      rw [HS.out] at PM
      have j0 : (0 : Int) ≤ (j : Int) := by omega
      have j1 : (j : Int) < 12 := by omega
      generalize k.s.rs.getD j 0 = x at r1 PM
      clear h1 rt HS
      go_wp2_with fail
      refine PM.mono ?_
      clear PM
      rintro e w2 ⟨F2, rfl, j2, t2⟩
      have HJ2 : Hid ((mjO c k).J F2 (k.kr s (j + 1)) w2 ∧ Tn F w F2 w2) := ⟨j2, HJ1.out.2.trans t2⟩
      clear j2 t2 r1 HJ1
      go_wp2_with fail
      go_roundw
      case rel => exact ⟨j + 1, F2, by omega, by go_num, HJ2⟩
      case measure => simp [intOf]; omega
    · obtain rfl : j = 12 := by omega
      go_wp2_with fail
      go_end0
      exact ⟨F', rfl, HJ1.out.1, HJ1.out.2⟩
end

end Go.Proofs.YtmocakafnnkjfabGreat

/- Library functions over lists of entries: Grow, Concat, IndexFunc: contracts. -/
namespace Go.Proofs.YtmocakafnnkjfabGreat
open Go.RowKit W Kp Stl

end Go.Proofs.YtmocakafnnkjfabGreat
