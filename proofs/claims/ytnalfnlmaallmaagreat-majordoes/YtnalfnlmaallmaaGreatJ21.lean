/- Joined: Mj8, Mj9, Mj10, Mj11. -/
import Derived.Test.YtnalfnlmaallmaaGreatJ20
import Derived.Test.YtnalfnlmaallmaaGreatJ17
import Derived.Test.YtnalfnlmaallmaaGreatJ18
namespace Go.Proofs.YtnalfnlmaallmaaGreat
set_option maxRecDepth 100000
set_option maxHeartbeats 2000000
open Go.RowKit W Kp Stl
section
variable {c : Jc} {k : Jk} {F : Nat -> Prop} {s : Js} {w : World}
theorem keepValuesJ_any (h : (mjO c k).J F s w) (hI : JI k s) :
  Calls Tryz.prog 204 #[.pointer (some ⟨c.pk, 0, none⟩)] w fun e w' => ∃ F', e = .returned (.bool (k.kv s).1) /\ (mjO c k).J F' (k.kv s).2 w' /\ Tn F w F' w' := by
 obtain ⟨i0, hi, hz0, hz1, hz2⟩ := info_parts infoInt
 obtain ⟨vt, ve, h⟩ := h
 obtain ⟨_, _, _, _, _, _, c6, _⟩ := mj_cells h
 obtain ⟨_, er, _⟩ := mj_rows h
 obtain ⟨ad, cap, evt⟩ := row_slice er
 subst evt
 have HI : Hid (JI k s) := hI
 have HJ : Hid ((mjE c k (.slice ad s.ep.length cap)).J F s w) := ⟨vt, h⟩
 have hel : s.ep.length <= 4000 := by have := hI.sum; have := hI.tl; omega
 have HP : Hid (∀ a ∈ s.ep, 0 <= a /\ a <= 2000) := fun a ha => hI.ps a (hI.ep a ha)
 have EK : Hid (k.kv s = (decide ((k.kvf s s.ep).1.length < s.ep.length), { (k.kvf s s.ep).2 with ep := (k.kvf s s.ep).1 })) := rfl
 clear hI h er
 go_enter Tryz.func204, Tryz.ntmps204
 go_wp2_with fail
 go_loopw [3, 12] (fun vr iv wr => ∃ (j : Nat) (R : List Int) (s1 : Js) (ar : Option Addr) (cr : Nat) (F1 : Nat -> Prop), j <= s.ep.length /\ iv = .int .i64 j /\ Hid (k.kvf s (s.ep.take j) = (R, s1)) /\ vr = .slice ar R.length cr /\ wr.ownsRow w.heap.size 3 1 (.slice ar R.length cr) R.length (R.map (Value.int .i64)) /\ (mjE c k (.slice ad s.ep.length cap)).J F1 s1 wr /\ Tn F w F1 wr /\ Hid (∀ b, some b = (Value.slice ar R.length cr).ownBlock -> ¬ F1 b) /\ Hid (JI k s1 /\ s1.ep = s.ep)) (fun _ iv _ => s.ep.length - (intOf iv).toNat)
 case atStart => exact ⟨0, [], s, none, 0, F, Nat.zero_le _, rfl, rfl, rfl, World.ownsRow_nil _ _ _ _, HJ.out, Tn.refl _ _, fun b e => by simp [Value.ownBlock] at e, ⟨HI.out, rfl⟩⟩
 case round =>
  obtain ⟨j, R, s1, ar, cr, F1, hj, rfl, HE, rfl, hR, hJ, hT, HR, HI1⟩ := hrel
  clear HJ c6
  have hRl : R.length <= 10000 := by
   have h1 := (JI.kvl (s.ep.take j) (t := ([], s)) HI.out (fun a ha => HI.out.ep a (List.mem_of_mem_take ha)) (fun b hb => by cases hb)).2.1
   have e9 := HE.out
   unfold Jk.kvf at e9
   rw [e9] at h1
   simp at h1
   omega
  by_cases hlt : j < s.ep.length
  ·obtain ⟨vt1, hJv⟩ := hJ
   obtain ⟨_, er1, _⟩ := mj_rows hJv
   rw [HI1.out.2] at er1
   obtain ⟨b0, o0, e0, hb0, hc⟩ := row_ints er1 (by omega)
   have x1 := hc j hlt
   subst e0
   have hin : s.ep.getD j 0 ∈ s.ep := by rw [List.getD_eq_getElem?_getD, List.getElem?_eq_getElem hlt]; exact List.getElem_mem hlt
   have hbd := HP.out _ hin
   have HS : Hid (k.kvf s (s.ep.take (j + 1)) = k.kv1 (R, s1) (s.ep.getD j 0)) := by
    show _ = _
    rw [take_snoc s.ep j hlt 0]
    unfold Jk.kvf
    rw [List.foldl_append]
    have := HE.out
    unfold Jk.kvf at this
    rw [this]
    rfl
   generalize s.ep.getD j 0 = a at x1 hbd HS
   obtain ⟨d0, _⟩ := mj_cells hJv
   obtain ⟨hA, d5, _⟩ := mj_wood hJv
   have L := load_any (a + 1) wr hA
   have el : ld k.a.N k.s.y k.s.g k.s.ws (a + 1) = k.ld (a + 1) := rfl
   rw [el] at L
   have HJ1 : Hid ((mjE c k (.slice (some ⟨b0, o0, none⟩) s.ep.length cap)).J F1 s1 wr /\ Tn F w F1 wr) := ⟨⟨vt1, hJv⟩, hT⟩
   have hsz := hT.fr.size
   have HRl : Hid (∀ b, some b = (Value.slice ar R.length cr).ownBlock -> b < wr.heap.size) := fun b e => (row_lt hR b e).2
   have j0 : (0 : Int) <= (j : Int) := by omega
   have j1 : (j : Int) < (s.ep.length : Int) := by omega
   clear hc hin hJv hT hA el er1
   cases hls : k.jl s1 (k.ld (a + 1))
   ·have HS2 : Hid (k.kvf s (s.ep.take (j + 1)) = (R, k.ma s1 (k.ld (a + 2)))) := by
     show _ = _
     rw [HS.out]
     unfold Jk.kv1
     rw [hls]
     rfl
    generalize k.ld (a + 1) = x at L hls
    go_wp2_with fail
    refine L.mono ?_
    clear L
    rintro e w1 ⟨rfl, hb1⟩
    obtain ⟨vt2, hJ2⟩ := (mjE c k (.slice (some ⟨b0, o0, none⟩) s.ep.length cap)).below HJ1.out.1 hb1
    have P := isLostJ_any hJ2 x
    rw [hls] at P
    clear x1 d0 d5 hJ2
    go_wp2_with fail
    refine P.mono ?_
    clear P
    rintro e w2 ⟨rfl, hb2⟩
    have hb := hb1.trans (hb2.mono hb1.size)
    obtain ⟨vt3, hJ3⟩ := (mjE c k (.slice (some ⟨b0, o0, none⟩) s.ep.length cap)).below HJ1.out.1 hb
    obtain ⟨d0, _⟩ := mj_cells hJ3
    obtain ⟨hA, d5, _⟩ := mj_wood hJ3
    have L2 := load_any (a + 2) w2 hA
    have el : ld k.a.N k.s.y k.s.g k.s.ws (a + 2) = k.ld (a + 2) := rfl
    rw [el] at L2
    have HX : Hid (k.ld (a + 2) = k.ld (a + 2)) := rfl
    generalize k.ld (a + 2) = y at L2 HS2
    have HJ3 : Hid ((mjE c k (.slice (some ⟨b0, o0, none⟩) s.ep.length cap)).J F1 s1 w2 /\ Below wr.heap.size wr w2) := ⟨⟨vt3, hJ3⟩, hb⟩
    clear hb1 hb2 hJ3 hA el hb HX
    go_wp2_with fail
    refine L2.mono ?_
    clear L2
    rintro e w3 ⟨rfl, hb3⟩
    have PM := markE_any ((mjE c k (.slice (some ⟨b0, o0, none⟩) s.ep.length cap)).below HJ3.out.1 hb3) HI1.out.1 y
    have HT3 : Hid (Tn F1 wr F1 w3) := (Tn.of HJ3.out.2).below hb3
    clear hb3 d0 d5 HJ3
    go_wp2_with fail
    refine PM.mono ?_
    clear PM
    rintro e w4 ⟨F4, rfl, hJ4, hT4⟩
    have hT5 := HT3.out.trans hT4
    have hI4 := HI1.out.1.ma y
    have HJ4 : Hid (Tn F w F4 w4 /\ JI k (k.ma s1 y) /\ (k.ma s1 y).ep = s.ep) := ⟨HJ1.out.2.trans hT5, hI4.1, hI4.2.2.trans HI1.out.2⟩
    have hR4 := row_fr hR hT5.fr (fun b e => HR.out b e)
    have HR4 : Hid (∀ b, some b = (Value.slice ar R.length cr).ownBlock -> ¬ F4 b) := fun b e d => (hT5.sub b d).elim (HR.out b e) (fun d => by have := HRl.out b e; omega)
    clear hT4 hT5 hI4 hR HT3 HR
    go_wp2_with fail
    go_roundw
    case rel => exact ⟨j + 1, R, _, ar, cr, F4, by omega, by go_num, HS2, rfl, hR4, hJ4, HJ4.out.1, HR4, ⟨HJ4.out.2.1, HJ4.out.2.2⟩⟩
    case measure => simp [intOf]; omega
   ·have HS2 : Hid (k.kvf s (s.ep.take (j + 1)) = (R ++ [a], s1)) := by
     show _ = _
     rw [HS.out]
     unfold Jk.kv1
     rw [if_pos hls]
    generalize k.ld (a + 1) = x at L hls
    go_wp2_with fail
    refine L.mono ?_
    clear L
    rintro e w1 ⟨rfl, hb1⟩
    obtain ⟨vt2, hJ2⟩ := (mjE c k (.slice (some ⟨b0, o0, none⟩) s.ep.length cap)).below HJ1.out.1 hb1
    have P := isLostJ_any hJ2 x
    rw [hls] at P
    clear x1 d0 d5 hJ2
    go_wp2_with fail
    refine P.mono ?_
    clear P
    rintro e w2 ⟨rfl, hb2⟩
    have hb := hb1.trans (hb2.mono hb1.size)
    have hR2 := row_keep hR (fun b e => hb.block b (HRl.out b e))
    have hs2 := hb.size
    clear hb1 hb2
    go_wp2_with (at_builtin; refine wpList_append_own_at _ rfl _ _ 81 rfl w.heap.size 3 i0 (.int .i64 0) 1 8 Tryz.underlying81 hi hz0 hz1 hz2 rfl (by decide) (.slice ar R.length cr) R.length (R.map (Value.int .i64)) rfl (row_alloc hR2 _) ⟨w2.heap.size, 0, none⟩ 1 1 [.int .i64 a] rfl rfl ?_ ?_ ?_ ?_ ?_ ?_; (intro j u hj; match j, hj with | 0, hj => (simp at hj; subst hj; simp [Addr.add])); (intro u hu; simp at hu; subst hu; rfl); (unfold maxLen; omega); omega; (simp; omega); intro v' w4 hown4 hgrow4 _ hloc4; obtain ⟨b4, cap4, ev4⟩ := row_shape hown4 (Nat.succ_pos _); subst ev4)
    have hR4 : w4.ownsRow w.heap.size 3 1 (.slice (some ⟨b4, 0, none⟩) (R ++ [a]).length cap4) (R ++ [a]).length ((R ++ [a]).map (Value.int .i64)) := by simpa using hown4
    have hJ2 := (mjE c k (.slice (some ⟨b0, o0, none⟩) s.ep.length cap)).below HJ1.out.1 hb
    have hJ4 := grow_ob (mjE c k (.slice (some ⟨b0, o0, none⟩) s.ep.length cap)) hJ2 hgrow4 (fun b e => HR.out b e)
    have hT4 : Tn F w F1 w4 := ⟨((HJ1.out.2.below hb).fr.alloc _).grown hgrow4 (fun b e => Or.inr (row_lt hR2 b e.symm).1), HJ1.out.2.sub⟩
    have HR4 : Hid (∀ b, some b = (Value.slice (some ⟨b4, 0, none⟩) (R ++ [a]).length cap4).ownBlock -> ¬ F1 b) := fun b e hF => by
     have hbl : some b4 = (Value.slice ar R.length cr).ownBlock \/ b4 = w2.heap.size + 1 := hloc4.imp id (fun e => by simpa [Value.ownBlock] using e)
     simp [Value.ownBlock] at e
     subst e
     rcases hbl with e | e
     ·exact HR.out _ e hF
     ·have := (mjE c k (.slice (some ⟨b0, o0, none⟩) s.ep.length cap)).lt hJ2 _ hF
      omega
    clear hJ2 hown4 hgrow4 hloc4 hR2 hR hb
    go_wp2_with fail
    go_roundw
    case rel => exact ⟨j + 1, R ++ [a], s1, some ⟨b4, 0, none⟩, cap4, F1, by omega, by go_num, HS2, by simp, hR4, hJ4, hT4, HR4, HI1⟩
    case measure => simp [intOf]; omega
  ·obtain rfl : j = s.ep.length := by omega
   rw [List.take_length] at HE
   obtain ⟨vt1, hJv⟩ := hJ
   obtain ⟨_, _, _, _, _, _, d6, dz, lk⟩ := mj_cells hJv
   have z6 := dz 6
   obtain ⟨hJ5, hf5⟩ := mj_ephems0 hJv (v1 := .slice ar R.length cr) (l := R) (Fr.refl _ wr) (row_base hR (fun _ _ => Nat.zero_le _)) (fun b e => Or.inr (HR.out b e))
   have HJ5 : Hid (_ /\ _) := ⟨hJ5, hT.fr.trans hf5 hT.sub⟩
   have HRs : Hid (∀ b, some b = (Value.slice ar R.length cr).ownBlock -> w.heap.size <= b) := fun b e => (row_lt hR b e).1
   have HTs : Hid (∀ b, F1 b -> F b \/ w.heap.size <= b) := hT.sub
   have E2 : Hid ((k.kv s).1 = decide (R.length < s.ep.length) /\ (k.kv s).2 = { s1 with ep := R }) := by
    have h1 := EK.out
    rw [HE.out] at h1
    rw [h1]
    exact ⟨rfl, rfl⟩
   clear hJ5 hf5 hJv hT hR HE EK dz
   by_cases hll : R.length < s.ep.length
   ·go_wp2_with fail
    go_ret
    rw [E2.out.1, E2.out.2]
    exact ⟨_, by simp [hll], ⟨_, _, HJ5.out.1⟩, ⟨HJ5.out.2, fun b hb => hb.elim (HTs.out b) (fun e => Or.inr (HRs.out b e))⟩⟩
   ·go_wp2_with fail
    go_ret
    rw [E2.out.1, E2.out.2]
    exact ⟨_, by simp [hll], ⟨_, _, HJ5.out.1⟩, ⟨HJ5.out.2, fun b hb => hb.elim (HTs.out b) (fun e => Or.inr (HRs.out b e))⟩⟩
end
end Go.Proofs.YtnalfnlmaallmaaGreat

namespace Go.Proofs.YtnalfnlmaallmaaGreat
set_option maxRecDepth 100000
set_option maxHeartbeats 1000000
open Go.RowKit W Kp Stl
def mjI (c : Jc) (k : Jk) : Ob Js := obI (mjO c k) (fun s => JI k s)
abbrev boxJ (c : Jc) : Obj := .cells #[.pointer (some ⟨c.pk, 0, none⟩)] 195 (0, 0)
abbrev fmJ (c : Jc) : Fv := ⟨202, #[.pointer (some ⟨c.pk, 0, none⟩)], #[]⟩
abbrev fkJ (c : Jc) : Fv := ⟨150, #[.pointer (some ⟨c.pk, 0, none⟩)], #[]⟩
abbrev boxK (fv : Fv) : Obj := .cells #[fv.v] 200 (0, 0)
abbrev faJ (bx : Nat) : Fv := ⟨205, #[], #[.pointer (some ⟨bx, 0, none⟩)]⟩
abbrev fpJ (by_ : Nat) : Fv := ⟨207, #[], #[.pointer (some ⟨by_, 0, none⟩)]⟩
abbrev fnJ (c : Jc) : Fv := ⟨208, #[.pointer (some ⟨c.pk, 0, none⟩)], #[]⟩
theorem ent_faJ : Ent 205 := ent_of Tryz.func205 (by kernel_rfl) rfl
theorem ent_fpJ : Ent 207 := ent_of Tryz.func207 (by kernel_rfl) rfl
theorem ent_fnJ : Ent 208 := ent_of Tryz.func208 (by kernel_rfl) rfl
section
variable {c : Jc} {k : Jk} {F : Nat -> Prop} {s : Js} {w : World}
theorem looksJ_any (fv : Fv) (w : World) (p : Nat) :
  Calls Tryz.prog 149 #[.pointer (some ⟨p, 0, none⟩), fv.v] w fun e w' => e = .returned (.agg #[(faJ w.heap.size).v, (fpJ (w.heap.size + 1)).v, .func (.func 208) #[.pointer (some ⟨p, 0, none⟩)] #[]]) /\ w'.heap[w.heap.size]? = some (.cells #[.pointer (some ⟨p, 0, none⟩)] 195 (0, 0)) /\ w'.heap[w.heap.size + 1]? = some (boxK fv) /\ Below w.heap.size w w' := by
 obtain ⟨f, b, c⟩ := fv
 have hmf : ∀ (fn : Fn) (first cap : Array Value) (w : World), (Instr.makeFunc fn first cap).run Tryz.prog w = .ok (.func fn first cap) w := fun _ _ _ _ => rfl
 go_enter Tryz.func149, Tryz.ntmps149
 go_wp2_with fail
 refine bodyPost_ret (v := .agg #[(faJ w.heap.size).v, (fpJ (w.heap.size + 1)).v, .func (.func 208) #[.pointer (some ⟨p, 0, none⟩)] #[]]) (by simp [results, Tryz.results149, go_sem]) rfl ⟨rfl, ?_, ?_, (((Below.refl _ w).alloc (Nat.le_refl _) _).alloc (by simp) _).alloc (by simp; omega) _⟩
 ·rw [Below.heap_alloc _ _ _ (by simp; omega), Below.heap_alloc _ _ _ (by simp)]
  exact heap_alloc_new _ _
 ·rw [Below.heap_alloc _ _ _ (by simp)]
  have := heap_alloc_new (w.alloc (.cells #[.pointer (some ⟨p, 0, none⟩)] 195)) (.cells #[.func (.func f) b c] 200)
  simpa using this
theorem tells_fnJ : Tells (mjI c k) (fun _ => True) (fnJ c).f (fnJ c).b (fnJ c).c k.nw := by
 rintro F s w x _ ⟨⟨vt, ve, h⟩, _⟩
 exact nowJ_any h x
def Jk.mp (k : Jk) (s : Js) (x : Int) : Int × Js := (x, k.ma s x)
theorem keeps_fmJ (by_ : Nat) : Keeps (obX (mjI c k) by_ (boxK (fmJ c))) (fun _ => True) (fpJ by_).f (fpJ by_).b (fpJ by_).c k.mp := by
 rintro F s w x _ ⟨F0, ⟨h, hI⟩, hx, hn, hF⟩
 have P := markJ_any h hI x
 have c0 : w.cell? ⟨by_, 0, none⟩ = some (fmJ c).v := by simp [World.cell?, hx]
 have HI : Hid (JI k (k.ma s x)) := (hI.ma x).1
 have HX : Hid (w.heap[by_]? = some (boxK (fmJ c)) /\ ¬ F0 by_ /\ ∀ b, F b ↔ (F0 b \/ b = by_)) := ⟨hx, hn, hF⟩
 clear h hI hx hn hF
 show Calls Tryz.prog 207 #[.int .i64 x, .pointer (some ⟨by_, 0, none⟩)] w _
 go_enter Tryz.func207, Tryz.ntmps207
 go_wp2_with fail
 refine P.mono ?_
 clear P
 rintro e w1 ⟨F1, rfl, j1, t1⟩
 have hx1 : w1.heap[by_]? = some (boxK (fmJ c)) := (t1.fr.block by_ (lt_of_some HX.out.1) HX.out.2.1).trans HX.out.1
 have HF : Hid ((obX (mjI c k) by_ (boxK (fmJ c))).J (fun b => F1 b \/ b = by_) (k.ma s x) w1 /\ Fr F w w1 /\ ∀ b, (F1 b \/ b = by_) -> F b \/ w.heap.size <= b) := by
  refine ⟨⟨F1, ⟨j1, HI.out⟩, hx1, fun d => (t1.sub _ d).elim HX.out.2.1 (fun d => by have := lt_of_some HX.out.1; omega), fun b => Iff.rfl⟩, t1.fr.mono (fun b d => (HX.out.2.2 b).2 (Or.inl d)), fun b d => ?_⟩
  rcases d with d | d
  ·exact (t1.sub b d).imp (fun d => (HX.out.2.2 b).2 (Or.inl d)) id
  ·exact Or.inl ((HX.out.2.2 b).2 (Or.inr d))
 clear j1 t1 hx1
 go_wp2_with fail
 go_ret
 exact ⟨_, rfl, HF.out.1, HF.out.2.1, HF.out.2.2⟩
end
end Go.Proofs.YtnalfnlmaallmaaGreat

namespace Go.Proofs.YtnalfnlmaallmaaGreat
open Go.RowKit W Kp Stl
def Jk.LM (k : Jk) (s : Js) : Js := k.lm (k.lost s + s.td.length + 1) s
def Jk.wa (k : Jk) (t : Js × List En) : (Js × List En) × Bool := wkQ k.al k.mp t t.2.length
def Jk.ph (k : Jk) (s : Js) : Nat := k.lost s + s.td.length + s.ep.length
def Jk.mu (k : Jk) (s : Js) : Nat := k.lost s + k.ph s
def Jk.spr (k : Jk) : Nat -> Js × List En -> Js × List En
 | 0, t => t
 | n + 1, t =>
  if (k.kv (k.LM t.1)).1 = true then k.spr n ((k.kv (k.LM t.1)).2, t.2)
  else if (k.wa ((k.kv (k.LM t.1)).2, t.2)).2 = true then k.spr n (k.wa ((k.kv (k.LM t.1)).2, t.2)).1
  else (k.wa ((k.kv (k.LM t.1)).2, t.2)).1
def Jk.sp (k : Jk) (t : Js × List En) : Js × List En := k.spr (k.mu t.1 + 1) t
def Jk.ke (k : Jk) (t : Js × List En) (x : Int) : Int × (Js × List En) := (x, k.sp (k.ma t.1 x, t.2))
structure Jl (k : Jk) (s t : Js) : Prop where
  ji : JI k t
  lo : k.lost t <= k.lost s
  ph : k.ph t <= k.ph s
section
variable {k : Jk} {s t u : Js}
theorem Jl.refl (h : JI k s) : Jl k s s := ⟨h, Nat.le_refl _, Nat.le_refl _⟩
theorem Jl.trans (h : Jl k s t) (j : Jl k t u) : Jl k s u := ⟨j.ji, Nat.le_trans j.lo h.lo, Nat.le_trans j.ph h.ph⟩
theorem Jl.mu (h : Jl k s t) : k.mu t <= k.mu s := by
 have h1 := h.lo
 have h2 := h.ph
 unfold Jk.mu
 omega
theorem ma_lt (h : JI k s) (x : Int) : k.jl s x = true -> k.lost (k.ma s x) < k.lost s := fun c => by
 have := Jk.lost_ma h.nd c (fun a ha => (h.ps a ha).1)
 omega
theorem Jl.ma (h : JI k s) (x : Int) : Jl k s (k.ma s x) := by
 obtain ⟨h1, h2, h3⟩ := h.ma x
 refine ⟨h1, ?_, ?_⟩
 ·by_cases c : k.jl s x = true
  ·exact Nat.le_of_lt (ma_lt h x c)
  ·have e : k.ma s x = s := by unfold Jk.ma; rw [if_neg c]
   rw [e]
   exact Nat.le_refl _
 ·unfold Jk.ph
  rw [h3]
  omega
theorem Jl.mas (h : JI k s) (a : Int) : ∀ n, Jl k s (k.mas s a n)
 | 0 => Jl.refl h
 | n + 1 => (Jl.mas h a n).trans (Jl.ma (Jl.mas h a n).ji _)
theorem lk_lost (h : JI k s) (a : Int) : k.lost (k.lk s a) <= k.lost s := by
 unfold Jk.lk
 split
 ·exact (Jl.mas h a _).lo
 ·split
  ·exact (Jl.ma h _).lo
  ·split
   ·exact Nat.le_refl _
   ·exact Nat.le_refl _
theorem Jl.l1 (h : JI k s) (hl : 0 < s.td.length) : Jl k s (k.l1 s) := by
 obtain ⟨h1, h2⟩ := h.l1 hl
 have hm : s.td.getD (s.td.length - 1) 0 ∈ s.td := by
  rw [List.getD_eq_getElem?_getD, List.getElem?_eq_getElem (by omega)]
  exact List.getElem_mem _
 have hs := h.sum
 have e : (s.td.take (s.td.length - 1)).length = s.td.length - 1 := by rw [List.length_take]; omega
 have h0 : JI k { s with td := s.td.take (s.td.length - 1) } := ⟨h.nd, h.ps, fun a ha => h.td a (List.mem_of_mem_take ha), h.ep, h.tl, by
  show k.lost s + (s.td.take (s.td.length - 1)).length + s.ep.length <= _
  omega⟩
 have h3 := lk_lost h0 (s.td.getD (s.td.length - 1) 0)
 have h4 := (h0.lk (h.td _ hm) (by
  show k.lost s + (s.td.take (s.td.length - 1)).length + s.ep.length + 1 <= _
  omega)).2.2
 have h3 : k.lost (k.l1 s) <= k.lost s := h3
 have h4 : (k.l1 s).ep.length <= s.ep.length + 1 := h4
 refine ⟨h1, h3, ?_⟩
 unfold Jk.ph
 omega
theorem Jl.lm : ∀ (n : Nat) {s : Js}, JI k s -> Jl k s (k.lm n s)
 | 0, s, h => Jl.refl h
 | n + 1, s, h => by
  unfold Jk.lm
  by_cases c : 0 < s.td.length
  ·rw [if_pos c]
   exact (Jl.l1 h c).trans (Jl.lm n (Jl.l1 h c).ji)
  ·rw [if_neg c]
   exact Jl.refl h
theorem Jl.LM (h : JI k s) : Jl k s (k.LM s) := Jl.lm _ h
theorem LM_td (h : JI k s) : (k.LM s).td = [] := (JI.lm _ h).2.1 (by omega)
theorem Jl.kvl : ∀ (l : List Int) {t : List Int × Js}, JI k t.2 -> Jl k t.2 (l.foldl k.kv1 t).2
 | [], t, h => Jl.refl h
 | a :: l, t, h => by
  rw [List.foldl_cons]
  have h1 : Jl k t.2 (k.kv1 t a).2 := by
   unfold Jk.kv1
   split
   ·exact Jl.refl h
   ·exact Jl.ma h _
  exact h1.trans (Jl.kvl l h1.ji)
theorem Jl.kv (h : JI k s) : Jl k s (k.kv s).2 /\ ((k.kv s).1 = true -> k.mu (k.kv s).2 < k.mu s) := by
 obtain ⟨h1, h2, h3, h4⟩ := h.kv
 have h5 : k.lost (k.kv s).2 <= k.lost s := (Jl.kvl s.ep (t := ([], s)) h).lo
 refine ⟨⟨h1, h5, by unfold Jk.ph; omega⟩, fun e => ?_⟩
 have := h4 e
 unfold Jk.mu Jk.ph
 omega
theorem wkl_le : ∀ (l : List Nat) (t : (Js × List En) × Bool), JI k t.1.1 -> Jl k t.1.1 (l.foldl (wkP k.al k.mp) t).1.1 /\ (l.foldl (wkP k.al k.mp) t).1.2.length = t.1.2.length /\ ((l.foldl (wkP k.al k.mp) t).2 = true -> t.2 = true \/ k.lost (l.foldl (wkP k.al k.mp) t).1.1 < k.lost t.1.1)
 | [], t, h => ⟨Jl.refl h, rfl, fun e => Or.inl e⟩
 | i :: l, t, h => by
  rw [List.foldl_cons]
  have key : Jl k t.1.1 (wkP k.al k.mp t i).1.1 /\ (wkP k.al k.mp t i).1.2.length = t.1.2.length /\ ((wkP k.al k.mp t i).2 = true -> t.2 = true \/ k.lost (wkP k.al k.mp t i).1.1 < k.lost t.1.1) := by
   unfold wkP
   split
   ·exact ⟨Jl.refl h, rfl, fun e => Or.inl e⟩
   ·rename_i c
    refine ⟨Jl.ma h _, by simp, fun _ => Or.inr (ma_lt h _ ?_)⟩
    rw [Bool.or_eq_true] at c
    cases hj : k.jl t.1.1 (t.1.2.getD i (0, 0)).2
    ·exact absurd (Or.inl (by unfold Jk.al; rw [hj]; rfl)) c
    ·rfl
  obtain ⟨k1, k2, k3⟩ := key
  obtain ⟨j1, j2, j3⟩ := wkl_le l (wkP k.al k.mp t i) k1.ji
  refine ⟨k1.trans j1, j2.trans k2, fun e => ?_⟩
  rcases j3 e with d | d
  ·rcases k3 d with d | d
   ·exact Or.inl d
   ·exact Or.inr (Nat.lt_of_le_of_lt j1.lo d)
  ·exact Or.inr (Nat.lt_of_lt_of_le d k1.lo)
theorem Jl.wa {t : Js × List En} (h : JI k t.1) : Jl k t.1 (k.wa t).1.1 /\ (k.wa t).1.2.length = t.2.length /\ ((k.wa t).2 = true -> k.mu (k.wa t).1.1 < k.mu t.1) := by
 obtain ⟨h1, h2, h3⟩ := wkl_le (List.range t.2.length) (t, false) h
 have h1 : Jl k t.1 (k.wa t).1.1 := h1
 refine ⟨h1, h2, fun e => ?_⟩
 have h4 : k.lost (k.wa t).1.1 < k.lost t.1 := (h3 e).resolve_left (by simp)
 have h5 := h1.ph
 unfold Jk.mu
 omega
end
end Go.Proofs.YtnalfnlmaallmaaGreat

namespace Go.Proofs.YtnalfnlmaallmaaGreat
set_option maxRecDepth 100000
set_option maxHeartbeats 4000000
open Go.RowKit W Kp Stl
section
variable {c : Jc} {k : Jk} {F : Nat -> Prop} {s : Js} {w : World} {vr : Value}
theorem alives_faJ2 (bx by_ : Nat) (fv : Fv) : Alives (obX (obX (mjI c k) by_ (boxK fv)) bx (boxJ c)) (fun _ => True) (faJ bx).f (faJ bx).b (faJ bx).c k.al := by
 rintro F s w x _ ⟨F0, ⟨F00, ⟨⟨vt, ve, h⟩, _⟩, _⟩, hx, _⟩
 have P := isLostJ_any h x
 have c0 : w.cell? ⟨bx, 0, none⟩ = some (.pointer (some ⟨c.pk, 0, none⟩)) := by simp [World.cell?, hx]
 have E : k.al s x = !k.jl s x := rfl
 rw [E]
 clear h hx E
 generalize k.jl s x = b at P ⊢
 show Calls Tryz.prog 205 #[.int .i64 x, .pointer (some ⟨bx, 0, none⟩)] w _
 go_enter Tryz.func205, Tryz.ntmps205
 go_wp2_with fail
 refine P.mono ?_
 rintro e w1 ⟨rfl, hb1⟩
 go_wp2_with fail
 go_ret
 exact ⟨rfl, hb1⟩
theorem wakeJ_any {adr : Option Addr} {nr cr : Nat} (hvr : vr = .slice adr nr cr) {t : Js × List En} (h : (mkSd (mjI c k) c.bs vr).J F t w) (hq : t.2.length <= 90000) (bx by_ : Nat) (hx : w.heap[bx]? = some (boxJ c)) (hy : w.heap[by_]? = some (boxK (fmJ c))) (hn : ¬ F bx) (hm : ¬ F by_) (hne : bx ≠ by_) :
  Calls Tryz.prog 133 #[.pointer (some ⟨c.bs, 0, none⟩), .agg #[(faJ bx).v, (fpJ by_).v, (fnJ c).v]] w fun e w' => ∃ F', e = .returned (.bool (k.wa t).2) /\ (mkSd (mjI c k) c.bs vr).J F' (k.wa t).1 w' /\ Fr (fun b => F b \/ b = by_ \/ b = bx) w w' /\ (∀ b, F' b -> F b \/ b = by_ \/ b = bx \/ w.heap.size <= b) := by
 have hL := lks_mk (obX (obX (mjI c k) by_ (boxK (fmJ c))) bx (boxJ c)) c.bs vr (fun _ => True) (faJ bx) (fpJ by_) (fnJ c) k.al k.mp k.nw ent_faJ ent_fpJ ent_fnJ (alives_faJ2 bx by_ (fmJ c)) (keeps_obX (keeps_fmJ by_)) (tells_obX (tells_obX tells_fnJ))
 have P := wake_any (mkSd (obX (obX (mjI c k) by_ (boxK (fmJ c))) bx (boxJ c)) c.bs vr) (sets_mk _ _ _) (fun _ => True) (faJ bx) (fpJ by_) (fnJ c) _ _ _ hL adr nr cr hvr _ t w hq (fun _ _ => ⟨trivial, trivial⟩) (mkSd_add (mkSd_add h hy hm) hx (fun d => d.elim hn hne))
 refine P.mono ?_
 rintro e w' ⟨F', rfl, hJ, hf, hs⟩
 refine ⟨F', rfl, mkSd_drop (mkSd_drop hJ), hf.mono (fun b d => ?_), fun b hb => ?_⟩
 ·rcases d with (d | d) | d
  ·exact Or.inl d
  ·exact Or.inr (Or.inl d)
  ·exact Or.inr (Or.inr d)
 ·rcases hs b hb with ((d | d) | d) | d
  ·exact Or.inl d
  ·exact Or.inr (Or.inl d)
  ·exact Or.inr (Or.inr (Or.inl d))
  ·exact Or.inr (Or.inr (Or.inr d))
theorem spreadJ_any {adr : Option Addr} {nr cr : Nat} (hvr : vr = .slice adr nr cr) {t : Js × List En} (h : (mkSd (mjI c k) c.bs vr).J F t w) (hq : t.2.length <= 90000) :
  Calls Tryz.prog 148 #[.pointer (some ⟨c.pk, 0, none⟩)] w fun e w' => ∃ F', e = .returned (.tuple #[]) /\ (mkSd (mjI c k) c.bs vr).J F' (k.sp t) w' /\ Tn F w F' w' := by
 have hmf : ∀ (fn : Fn) (first cap : Array Value) (w : World), (Instr.makeFunc fn first cap).run Tryz.prog w = .ok (.func fn first cap) w := fun _ _ _ _ => rfl
 obtain ⟨t9, E9⟩ : ∃ t9, k.sp t = t9 := ⟨_, rfl⟩
 rw [E9]
 have H9 : Hid (k.spr (k.mu t.1 + 1) t = t9) := E9
 clear E9
 go_enter Tryz.func148, Tryz.ntmps148
 go_wp2_with fail
 go_loopg [2] (k.mu t.1 + 1) (fun n bv wr => ∃ (F1 : Nat -> Prop) (t1 : Js × List En) (b : Bool), bv = .bool b /\ (mkSd (mjI c k) c.bs vr).J F1 t1 wr /\ Tn F w F1 wr /\ Hid (if b = true then k.mu t1.1 < n /\ k.spr n t1 = t9 else t1 = t9) /\ t1.2.length <= 90000)
 case atStart => exact ⟨F, t, true, rfl, h, Tn.refl _ _, ⟨by omega, H9.out⟩, hq⟩
 case round =>
  clear h hq H9
  obtain ⟨F1, t1, b, rfl, hJ, hT, HE, hq⟩ := hrel
  cases b
  ·have HE2 : Hid (t1 = t9) := HE.out
   go_wp2_with fail
   go_end0
   rw [<- HE2.out]
   exact ⟨F1, rfl, hJ, hT⟩
  ·obtain ⟨e1, e2⟩ := HE.out
   obtain ⟨m, hm⟩ : ∃ m, gk = m + 1 := ⟨gk - 1, by omega⟩
   obtain ⟨F0, hI, hstep⟩ := mkSd_in hJ
   have B := lamJ_any hI.1 hI.2
   have j0 := Jl.LM hI.2
   obtain ⟨j1, j2⟩ := Jl.kv j0.ji
   have j3 := (j0.trans j1).mu
   have j4 := j0.mu
   have EL : k.lm (k.lost t1.1 + t1.1.td.length + 1) t1.1 = k.LM t1.1 := rfl
   rw [EL] at B
   have HL : Hid (JI k (k.LM t1.1)) := j0.ji
   have HS : Hid (Tn F w F1 wr /\ (∀ F1_1 t1_1 w', (mjI c k).J F1_1 t1_1 w' -> Tn F0 wr F1_1 w' -> ∃ F', (mkSd (mjI c k) c.bs vr).J F' (t1_1, t1.2) w' /\ Tn F1 wr F' w') /\ JI k (k.kv (k.LM t1.1)).2) := ⟨hT, hstep, j1.ji⟩
   have HN : Hid (k.mu (k.kv (k.LM t1.1)).2 <= k.mu t1.1 /\ ((k.kv (k.LM t1.1)).1 = true -> k.mu (k.kv (k.LM t1.1)).2 < k.mu t1.1) /\ k.mu t1.1 < m + 1) := ⟨j3, fun e => by have := j2 e; omega, by omega⟩
   have HE2 : Hid (k.spr (m + 1) t1 = t9) := by rw [<- hm]; exact e2
   have HG : Hid (gk = m + 1) := hm
   clear hI hstep j0 j1 j2 j3 j4 hJ hT HE e1 e2 EL hm
   go_wp2_with fail
   refine B.mono ?_
   clear B
   rintro e w1 ⟨F2, rfl, hJ1, hT1⟩
   have V := keepValuesJ_any ((mjO c k).below hJ1 (Below.refl _ w1).drew) HL.out
   have hT1 := hT1.below (Below.refl _ w1).drew
   obtain ⟨vt1, ve1, hJ1⟩ := hJ1
   obtain ⟨_, _, _, _, d4, _⟩ := mj_cells hJ1
   cases hkv : (k.kv (k.LM t1.1)).1
   ·rw [hkv] at V
    have HE3 : Hid ((if (k.wa ((k.kv (k.LM t1.1)).2, t1.2)).2 = true then k.spr m (k.wa ((k.kv (k.LM t1.1)).2, t1.2)).1 else (k.wa ((k.kv (k.LM t1.1)).2, t1.2)).1) = t9) := by
     have := HE2.out
     unfold Jk.spr at this
     rw [hkv] at this
     exact this
    have HW := Jl.wa (t := ((k.kv (k.LM t1.1)).2, t1.2)) HS.out.2.2
    have HW : Hid ((k.wa ((k.kv (k.LM t1.1)).2, t1.2)).1.2.length <= 90000 /\ ((k.wa ((k.kv (k.LM t1.1)).2, t1.2)).2 = true -> k.mu (k.wa ((k.kv (k.LM t1.1)).2, t1.2)).1.1 < k.mu t1.1)) := by
     have n1 := HN.out.1
     refine ⟨by rw [HW.2.1]; exact hq, fun e => by have := HW.2.2 e; dsimp only at this; omega⟩
    generalize k.LM t1.1 = s1 at *
    generalize (k.kv s1).2 = s2 at *
    clear hJ1
    go_wp2_with fail
    go_region_held3 (fun w' => w'.cell? ⟨c.pk, 4, none⟩ = some (.pointer (some ⟨c.bs, 0, none⟩))) (go_keep)
     (first
      | (go_at_call 204; refine V.mono ?_; clear V; rintro e w2 ⟨F3, rfl, hJ2, hT2⟩; obtain ⟨F4, hM, hT4⟩ := HS.out.2.1 F3 s2 w2 ⟨hJ2, HS.out.2.2⟩ (hT1.trans hT2); obtain ⟨vt2, ve2, hJ2⟩ := hJ2; obtain ⟨_, _, _, _, g4, _⟩ := mj_cells hJ2; have l0 := World.block_lt_of_cell? w2 _ g4; have HM : Hid ((mkSd (mjI c k) c.bs vr).J F4 (s2, t1.2) w2 /\ Tn F w F4 w2) := ⟨hM, HS.out.1.trans hT4⟩; clear hJ2 hT2 hM hT4)
      | (go_at_call 149; refine (looksJ_any (fmJ c) w2 c.pk).mono ?_; rintro e w3 ⟨rfl, hx3, hy3, hb3⟩; have y4 := (hb3.cell (p := ⟨c.pk, 4, none⟩) l0).trans g4; have HX : Hid (w3.heap[w2.heap.size]? = some (boxJ c) /\ w3.heap[w2.heap.size + 1]? = some (boxK (fmJ c)) /\ Below w2.heap.size w2 w3) := ⟨hx3, hy3, hb3⟩; clear hx3 hy3 hb3)
      | (go_at_call 133; refine (wakeJ_any hvr (t := (s2, t1.2)) ((mkSd (mjI c k) c.bs vr).below HM.out.1 HX.out.2.2) hq w2.heap.size (w2.heap.size + 1) HX.out.1 HX.out.2.1 (fun h => by have := (mkSd (mjI c k) c.bs vr).lt HM.out.1 _ h; omega) (fun h => by have := (mkSd (mjI c k) c.bs vr).lt HM.out.1 _ h; omega) (by omega)).mono ?_; rintro e w4 ⟨F5, rfl, hM5, hf5, hs5⟩; have HM5 : Hid ((mkSd (mjI c k) c.bs vr).J F5 (k.wa (s2, t1.2)).1 w4 /\ Tn F w F5 w4) := ⟨hM5, ⟨(HM.out.2.below HX.out.2.2).fr.trans hf5 (fun b hb => hb.elim (HM.out.2.sub b) (fun e => Or.inr (by have := HM.out.2.fr.size; omega))), fun b hb => (hs5 b hb).elim (HM.out.2.sub b) (fun h => Or.inr (by have h1 := HM.out.2.fr.size; have h2 := HX.out.2.2.size; omega))⟩⟩; obtain ⟨F6, ⟨⟨vt6, ve6, hJ6⟩, _⟩, _⟩ := mkSd_in hM5; obtain ⟨_, _, _, _, r4, _⟩ := mj_cells hJ6; clear hM5 hf5 hs5 hJ6))
    clear r4 g4 y4 d4 HS HM HX HE2 hmf hT1
    cases hbw : (k.wa (s2, t1.2)).2
    ·have HF : Hid (if false = true then k.mu (k.wa (s2, t1.2)).1.1 < m /\ k.spr m (k.wa (s2, t1.2)).1 = t9 else (k.wa (s2, t1.2)).1 = t9) := by
      have := HE3.out
      rw [hbw] at this
      exact this
     go_wp2_with fail
     go_roundg m
     case measure => have := HG.out; omega
     case rel => exact ⟨F5, (k.wa (s2, t1.2)).1, false, rfl, HM5.out.1, HM5.out.2, HF, HW.out.1⟩
    ·have HF : Hid (if true = true then k.mu (k.wa (s2, t1.2)).1.1 < m /\ k.spr m (k.wa (s2, t1.2)).1 = t9 else (k.wa (s2, t1.2)).1 = t9) := by
      have h1 := HE3.out
      rw [hbw] at h1
      have h2 := HW.out.2 hbw
      have h3 := HN.out.2.2
      exact ⟨by omega, h1⟩
     go_wp2_with fail
     go_roundg m
     case measure => have := HG.out; omega
     case rel => exact ⟨F5, (k.wa (s2, t1.2)).1, true, rfl, HM5.out.1, HM5.out.2, HF, HW.out.1⟩
   ·rw [hkv] at V
    have HF : Hid (if true = true then k.mu (k.kv (k.LM t1.1)).2 < m /\ k.spr m ((k.kv (k.LM t1.1)).2, t1.2) = t9 else ((k.kv (k.LM t1.1)).2, t1.2) = t9) := by
     have h1 := HE2.out
     unfold Jk.spr at h1
     rw [hkv] at h1
     have h2 := HN.out.2.1 hkv
     have h3 := HN.out.2.2
     exact ⟨by omega, h1⟩
    generalize k.LM t1.1 = s1 at *
    generalize (k.kv s1).2 = s2 at *
    clear hJ1
    go_wp2_with fail
    refine wp_region_noPanic ?_
    refine wp_region_any (by kernel_rfl) ?_
    refine any_of_G (T := fun _ => True) (S := fun _ => True) (St := []) _ _ _ _ ?_
    refine G_takeA (i := 0) (v := ?_) rfl (by kernel_rfl) (by kernel_rfl) (by kernel_rfl) (by kernel_rfl) (fun _ _ _ h => h) (Or.inl ⟨by rfl, ?_⟩) trivial (Or.inr trivial) ?_
    rotate_left
    ·intro w hS
     go_simp
     try rfl
    try simp only [Act.put, List.getElem_toArray, List.getElem_cons_zero, List.setIfInBounds_toArray, List.set_cons_zero, List.set_cons_succ]
    refine G_one (i := 1) (by kernel_rfl) ?_
    refine wpOp_of_wpG rfl (by rfl) ?_
    simp only [List.getElem_toArray, List.getElem_cons_succ, List.getElem_cons_zero]
    go_simp
    refine V.mono ?_
    clear V
    rintro e w2 ⟨F3, rfl, hJ2, hT2⟩
    obtain ⟨F4, hM, hT4⟩ := HS.out.2.1 F3 s2 w2 ⟨hJ2, HS.out.2.2⟩ (hT1.trans hT2)
    have HM : Hid ((mkSd (mjI c k) c.bs vr).J F4 (s2, t1.2) w2 /\ Tn F w F4 w2) := ⟨hM, HS.out.1.trans hT4⟩
    clear hJ2 hT2 hM hT4
    refine G_takeA (i := 2) (v := ?_) rfl (by kernel_rfl) (by kernel_rfl) (by kernel_rfl) (by kernel_rfl) (fun _ _ _ h => h) (Or.inl ⟨by rfl, ?_⟩) trivial (Or.inr trivial) ?_
    rotate_left
    ·intro w hS
     go_simp
     try rfl
    try simp only [Act.put, List.getElem_toArray, List.getElem_cons_succ, List.getElem_cons_zero, List.setIfInBounds_toArray, List.set_cons_zero, List.set_cons_succ]
    refine G_takeA (i := 3) (v := undef) rfl (by kernel_rfl) (by kernel_rfl) (by kernel_rfl) (by kernel_rfl) (fun _ _ _ h => h) (Or.inr ⟨by rfl, rfl⟩) trivial (Or.inr trivial) ?_
    try simp only [Act.put, List.getElem_toArray, List.getElem_cons_succ, List.getElem_cons_zero, List.setIfInBounds_toArray, List.set_cons_zero, List.set_cons_succ]
    refine G_takeA (i := 4) (v := undef) rfl (by kernel_rfl) (by kernel_rfl) (by kernel_rfl) (by kernel_rfl) (fun _ _ _ h => h) (Or.inr ⟨by rfl, rfl⟩) trivial (Or.inr trivial) ?_
    try simp only [Act.put, List.getElem_toArray, List.getElem_cons_succ, List.getElem_cons_zero, List.setIfInBounds_toArray, List.set_cons_zero, List.set_cons_succ]
    refine G_takeA (i := 5) (v := undef) rfl (by kernel_rfl) (by kernel_rfl) (by kernel_rfl) (by kernel_rfl) (fun _ _ _ h => h) (Or.inr ⟨by rfl, rfl⟩) trivial (Or.inr trivial) ?_
    try simp only [Act.put, List.getElem_toArray, List.getElem_cons_succ, List.getElem_cons_zero, List.setIfInBounds_toArray, List.set_cons_zero, List.set_cons_succ]
    refine G_takeA (i := 6) (v := undef) rfl (by kernel_rfl) (by kernel_rfl) (by kernel_rfl) (by kernel_rfl) (fun _ _ _ h => h) (Or.inr ⟨by rfl, rfl⟩) trivial (Or.inr trivial) ?_
    try simp only [Act.put, List.getElem_toArray, List.getElem_cons_succ, List.getElem_cons_zero, List.setIfInBounds_toArray, List.set_cons_zero, List.set_cons_succ]
    refine G_takeA (i := 7) (v := undef) rfl (by kernel_rfl) (by kernel_rfl) (by kernel_rfl) (by kernel_rfl) (fun _ _ _ h => h) (Or.inr ⟨by rfl, rfl⟩) trivial (Or.inr trivial) ?_
    try simp only [Act.put, List.getElem_toArray, List.getElem_cons_succ, List.getElem_cons_zero, List.setIfInBounds_toArray, List.set_cons_zero, List.set_cons_succ]
    refine G_takeA (i := 8) (v := undef) rfl (by kernel_rfl) (by kernel_rfl) (by kernel_rfl) (by kernel_rfl) (fun _ _ _ h => h) (Or.inr ⟨by rfl, rfl⟩) trivial (Or.inr trivial) ?_
    try simp only [Act.put, List.getElem_toArray, List.getElem_cons_succ, List.getElem_cons_zero, List.setIfInBounds_toArray, List.set_cons_zero, List.set_cons_succ]
    refine G_takeA (i := 9) (v := undef) rfl (by kernel_rfl) (by kernel_rfl) (by kernel_rfl) (by kernel_rfl) (fun _ _ _ h => h) (Or.inr ⟨by rfl, rfl⟩) trivial (Or.inr trivial) ?_
    try simp only [Act.put, List.getElem_toArray, List.getElem_cons_succ, List.getElem_cons_zero, List.setIfInBounds_toArray, List.set_cons_zero, List.set_cons_succ]
    refine G_takeA (i := 10) (v := undef) rfl (by kernel_rfl) (by kernel_rfl) (by kernel_rfl) (by kernel_rfl) (fun _ _ _ h => h) (Or.inr ⟨by rfl, rfl⟩) trivial (Or.inr trivial) ?_
    try simp only [Act.put, List.getElem_toArray, List.getElem_cons_succ, List.getElem_cons_zero, List.setIfInBounds_toArray, List.set_cons_zero, List.set_cons_succ]
    refine G_takeA (i := 11) (v := undef) rfl (by kernel_rfl) (by kernel_rfl) (by kernel_rfl) (by kernel_rfl) (fun _ _ _ h => h) (Or.inr ⟨by rfl, rfl⟩) trivial (Or.inr trivial) ?_
    try simp only [Act.put, List.getElem_toArray, List.getElem_cons_succ, List.getElem_cons_zero, List.setIfInBounds_toArray, List.set_cons_zero, List.set_cons_succ]
    refine G_takeA (i := 12) (v := ?_) rfl (by kernel_rfl) (by kernel_rfl) (by kernel_rfl) (by kernel_rfl) (fun _ _ _ h => h) (Or.inl ⟨by rfl, ?_⟩) trivial (Or.inr trivial) ?_
    rotate_left
    ·intro w hS
     go_simp
     try rfl
    try simp only [Act.put, List.getElem_toArray, List.getElem_cons_succ, List.getElem_cons_zero, List.setIfInBounds_toArray, List.set_cons_zero, List.set_cons_succ]
    refine G_takeA (i := 13) (v := ?_) rfl (by kernel_rfl) (by kernel_rfl) (by kernel_rfl) (by kernel_rfl) (fun _ _ _ h => h) (Or.inl ⟨by rfl, ?_⟩) trivial (Or.inr trivial) ?_
    rotate_left
    ·intro w hS
     go_simp
     try rfl
    try simp only [Act.put, List.getElem_toArray, List.getElem_cons_succ, List.getElem_cons_zero, List.setIfInBounds_toArray, List.set_cons_zero, List.set_cons_succ]
    refine G_done (by kernel_rfl) ?_ _
    refine NoPanic.normal ?_
    clear d4 HS HE2 hmf hT1
    go_wp2_with fail
    go_roundg m
    case measure => have := HG.out; omega
    case rel => exact ⟨F4, (s2, t1.2), true, rfl, HM.out.1, HM.out.2, HF, hq⟩
theorem keepJ_any {adr : Option Addr} {nr cr : Nat} (hvr : vr = .slice adr nr cr) {t : Js × List En} (h : (mkSd (mjI c k) c.bs vr).J F t w) (hq : t.2.length <= 90000) (x : Int) :
  Calls Tryz.prog 150 #[.pointer (some ⟨c.pk, 0, none⟩), .int .i64 x] w fun e w' => ∃ F', e = .returned (.tuple #[]) /\ (mkSd (mjI c k) c.bs vr).J F' (k.ke t x).2 w' /\ Tn F w F' w' := by
 obtain ⟨F0, ⟨hJ, hI⟩, hstep⟩ := mkSd_in h
 have P := markJ_any hJ hI x
 have HS : Hid ((∀ F1 t1 w', (mjI c k).J F1 t1 w' -> Tn F0 w F1 w' -> ∃ F', (mkSd (mjI c k) c.bs vr).J F' (t1, t.2) w' /\ Tn F w F' w') /\ JI k (k.ma t.1 x)) := ⟨hstep, (hI.ma x).1⟩
 have E : Hid ((k.ke t x).2 = k.sp (k.ma t.1 x, t.2)) := rfl
 generalize (k.ke t x).2 = t1 at E ⊢
 clear hJ hI hstep h
 go_enter Tryz.func150, Tryz.ntmps150
 go_wp2_with fail
 refine P.mono ?_
 clear P
 rintro e w1 ⟨F1, rfl, hJ1, hT1⟩
 obtain ⟨F2, hM, hT⟩ := HS.out.1 F1 _ w1 ⟨hJ1, HS.out.2⟩ hT1
 have HM : Hid (_ /\ _) := ⟨hM, hT⟩
 clear hJ1 hT1 hM hT
 go_wp2_with fail
 refine (spreadJ_any hvr HM.out.1 hq).mono ?_
 rintro e w2 ⟨F3, rfl, hM2, hT2⟩
 have HM2 : Hid (_ /\ _) := ⟨hM2, HM.out.2.trans hT2⟩
 clear hM2 hT2
 go_wp2_with fail
 go_end0
 rw [E.out]
 exact ⟨F3, rfl, HM2.out.1, HM2.out.2⟩
end
end Go.Proofs.YtnalfnlmaallmaaGreat
