/- Joined: Sdc, Sde, Mn1. -/
import Derived.Test.YtnalfnlmaallmaaGreatJ07
import Derived.Deep.DeepCutAuto
import Derived.Test.YtnalfnlmaallmaaGreatJ06
namespace Go.Proofs.YtnalfnlmaallmaaGreat
open Go.RowKit W Kp Stl
def mkSd {α : Type} (o : Ob α) (p : Nat) (vr : Value) : SdOb (α × List En) where
  J F s w := ∃ F0 ad cap, o.J F0 s.1 w /\ w.heap[p]? = some (.cells #[vr, .slice ad s.2.length cap] 153 (0, 0)) /\ w.ownsRow 0 106 2 (.slice ad s.2.length cap) s.2.length (ev s.2) /\ (∀ k, F0 k -> F k) /\ F p /\ ¬ F0 p /\ (∀ k, some k = (Value.slice ad s.2.length cap).ownBlock -> F k /\ ¬ F0 k) /\ (∀ k, F k -> k < w.heap.size)
  lt := by
    rintro F t w ⟨F0, ad, cap, h1, h2, h3, h4, h5, h6, h7, h8⟩ k hk
    exact h8 k hk
  keep := by
    rintro F t w w' ⟨F0, ad, cap, h1, h2, h3, h4, h5, h6, h7, h8⟩ hs hk
    exact ⟨F0, ad, cap, o.keep h1 hs (fun k h => hk k (h4 k h)), (hk p h5).trans h2, row_keep h3 (fun k e => hk k (h7 k e).1), h4, h5, h6, h7, fun k h => Nat.lt_of_lt_of_le (h8 k h) hs⟩
  p := p
  vr := vr
  wt s := s.2
  put s q := (s.1, q)
  side := by
    rintro F s w ⟨F0, ad, cap, h1, h2, h3, h4, h5, h6, h7, h8⟩
    refine ⟨ad, cap, h2, ⟨row_pairs h3, ?_, ?_⟩, h5, fun hp z e => (h7 z.block (by rw [e]; rfl)).1⟩
    · rcases h3.2 with ⟨hv, h0⟩ | ⟨g, cap', cur, hv, _, _, hc, _⟩
      · omega
      · simp at hv; omega
    · intro e0
      rcases h3.2 with ⟨hv, h0⟩ | ⟨g, cap', cur, hv, _⟩
      · simp at hv; exact ⟨h0, hv.2.2⟩
      · rw [e0] at hv; simp at hv
  set := by
    rintro F s w ⟨F0, ad, cap, h1, h2, h3, h4, h5, h6, h7, h8⟩ w1 q b1 cap1 hb hown
    have lp := lt_of_some h2
    have hb1 := row_lt hown b1 rfl
    have kk : ∀ k, k ≠ p -> (w1.setCell ⟨p, 1, none⟩ (.slice (some ⟨b1, 0, none⟩) q.length cap1)).heap[k]? = w1.heap[k]? := fun k hk => Below.heap_setCell _ _ _ _ hk
    have hs : (w1.setCell ⟨p, 1, none⟩ (.slice (some ⟨b1, 0, none⟩) q.length cap1)).heap.size = w1.heap.size := by simp [World.setCell]
    have hbs := hb.size
    refine ⟨F0, some ⟨b1, 0, none⟩, cap1, o.keep (o.below h1 hb) (by rw [hs]; exact Nat.le_refl _) (fun k h => kk k (fun e => h6 (by rw [<- e]; exact h))), ?_, row_base (row_keep hown (fun k e => kk k (by simp [Value.ownBlock] at e; omega))) (fun _ _ => Nat.zero_le _), fun k h => Or.inl (h4 k h), Or.inl h5, h6, fun k e => ?_, fun k h => ?_⟩
    · have h2' := (hb.block p lp).trans h2
      simp only [World.setCell, Array.getElem?_modify, if_true, h2', Option.map_some]
      simp
    · simp [Value.ownBlock] at e
      exact ⟨Or.inr e, fun h => by have := h8 k (h4 k h); omega⟩
    · rw [hs]
      rcases h with h | h
      · have := h8 k h; omega
      · omega
  wt_put := fun _ _ => rfl
theorem lks_mk {α : Type} (o : Ob α) (p : Nat) (vr : Value) (D : Int -> Prop) (fa fk fn : Fv) (is : α -> Int -> Bool) (kp : α -> Int -> Int × α) (nw : α -> Int -> Int) (ea : Ent fa.f) (ek : Ent fk.f) (en : Ent fn.f) (ha : Alives o D fa.f fa.b fa.c is) (hk : Keeps o D fk.f fk.b fk.c kp) (ht : Tells o D fn.f fn.b fn.c nw) :
    Lks (mkSd o p vr) D fa fk fn (fun s x => is s.1 x) (fun s x => ((kp s.1 x).1, ((kp s.1 x).2, s.2))) (fun s x => nw s.1 x) where
  ea := ea
  ek := ek
  en := en
  ha := by
    rintro F s w x hD ⟨F0, ad, cap, h1, _⟩
    exact ha F0 s.1 w x hD h1
  hk := by
    rintro F s w x hD _ ⟨F0, ad, cap, h1, h2, h3, h4, h5, h6, h7, h8⟩
    refine (hk F0 s.1 w x hD h1).mono ?_
    rintro r w' ⟨F1, rfl, hJ, hfr, hF1⟩
    have lp := lt_of_some h2
    refine ⟨fun k => F k \/ F1 k, rfl, ⟨F1, ad, cap, hJ, (hfr.block p lp h6).trans h2, row_keep h3 (fun k e => hfr.block k (row_lt h3 k e).2 (h7 k e).2), fun k h => Or.inr h, Or.inl h5, fun h => (hF1 p h).elim h6 (fun h => by omega), fun k e => ⟨Or.inl (h7 k e).1, fun h => (hF1 k h).elim (h7 k e).2 (fun h => by have := (row_lt h3 k e).2; omega)⟩, fun k h => ?_⟩, hfr.mono h4, fun k h => ?_⟩
    · rcases h with h | h
      · exact Nat.lt_of_lt_of_le (h8 k h) hfr.size
      · exact o.lt hJ k h
    · rcases h with h | h
      · exact Or.inl h
      · exact (hF1 k h).imp (h4 k) id
  ht := by
    rintro F s w x hD ⟨F0, ad, cap, h1, _⟩
    exact ht F0 s.1 w x hD h1
  hl := fun _ _ => rfl
end Go.Proofs.YtnalfnlmaallmaaGreat

namespace Go.Proofs.YtnalfnlmaallmaaGreat
set_option maxRecDepth 100000
set_option maxHeartbeats 2000000
open Go.RowKit W Kp Stl
structure SdSets {σ : Type} (o : SdOb σ) : Prop where
  setv : ∀ {F s w}, o.J F s w -> ∀ {w1 : World} {q : List En} {a1 : Option Addr} {c1 : Nat}, Below w.heap.size w w1 -> w1.ownsRow w.heap.size 106 2 (.slice a1 q.length c1) q.length (ev q) ->
    o.J (fun k => F k \/ some k = (Value.slice a1 q.length c1).ownBlock) (o.put s q) (w1.setCell ⟨o.p, 1, none⟩ (.slice a1 q.length c1))
  seti : ∀ {F s w}, o.J F s w -> ∀ {ad : Option Addr} {cap : Nat}, w.heap[o.p]? = some (.cells #[o.vr, .slice ad (o.wt s).length cap] 153 (0, 0)) -> ∀ i, i < (o.wt s).length -> ∀ g z : Int, ∃ b f, ad = some ⟨b, f, none⟩ /\ F b /\ b ≠ o.p /\ w.frozen? ⟨b, f + i * 2, none⟩ = false /\ w.frozen? ⟨b, f + i * 2 + 1, none⟩ = false /\
    o.J F (o.put s ((o.wt s).set i (g, z))) ((w.setCell ⟨b, f + i * 2, none⟩ (.int .i64 g)).setCell ⟨b, f + i * 2 + 1, none⟩ (.int .i64 z))
def wks {σ : Type} (o : SdOb σ) (is : σ -> Int -> Bool) (kp : σ -> Int -> Int × σ) (t : σ × Bool) (i : Nat) : σ × Bool :=
 if is t.1 ((o.wt t.1).getD i (0, 0)).2 || !is t.1 ((o.wt t.1).getD i (0, 0)).1 then t
 else (o.put (kp t.1 ((o.wt t.1).getD i (0, 0)).2).2 ((o.wt (kp t.1 ((o.wt t.1).getD i (0, 0)).2).2).set i (((o.wt t.1).getD i (0, 0)).1, (kp t.1 ((o.wt t.1).getD i (0, 0)).2).1)), true)
def wkF {σ : Type} (o : SdOb σ) (is : σ -> Int -> Bool) (kp : σ -> Int -> Int × σ) (s : σ) (n : Nat) : σ × Bool := (List.range n).foldl (wks o is kp) (o.put s (o.wt s), false)
theorem wkF_zero {σ : Type} (o : SdOb σ) (is : σ -> Int -> Bool) (kp : σ -> Int -> Int × σ) (s : σ) : wkF o is kp s 0 = (o.put s (o.wt s), false) := rfl
theorem wkF_succ {σ : Type} (o : SdOb σ) (is : σ -> Int -> Bool) (kp : σ -> Int -> Int × σ) (s : σ) (n : Nat) : wkF o is kp s (n + 1) = wks o is kp (wkF o is kp s n) n := by simp [wkF, List.range_succ]
theorem wks_len {σ : Type} (o : SdOb σ) (is : σ -> Int -> Bool) (kp : σ -> Int -> Int × σ) (hl : ∀ s x, (o.wt (kp s x).2).length = (o.wt s).length) (t : σ × Bool) (i : Nat) : (o.wt (wks o is kp t i).1).length = (o.wt t.1).length := by
 unfold wks
 split
 ·rfl
 ·simp [o.wt_put, hl]
theorem wkF_len {σ : Type} (o : SdOb σ) (is : σ -> Int -> Bool) (kp : σ -> Int -> Int × σ) (hl : ∀ s x, (o.wt (kp s x).2).length = (o.wt s).length) (s : σ) : ∀ n, (o.wt (wkF o is kp s n).1).length = (o.wt s).length
 | 0 => by rw [wkF_zero]; simp [o.wt_put]
 | n + 1 => by rw [wkF_succ, wks_len o is kp hl, wkF_len o is kp hl s n]
theorem wks_stay {σ : Type} {o : SdOb σ} {is : σ -> Int -> Bool} {kp : σ -> Int -> Int × σ} {t : σ × Bool} {i : Nat} {g z : Int} (hg : ((o.wt t.1).getD i (0, 0)).1 = g) (hz : ((o.wt t.1).getD i (0, 0)).2 = z) (h : is t.1 z = true \/ is t.1 g = false) : wks o is kp t i = t := by
 unfold wks
 rw [hg, hz]
 rcases h with h | h <;> simp [h]
theorem wks_come {σ : Type} {o : SdOb σ} {is : σ -> Int -> Bool} {kp : σ -> Int -> Int × σ} {t : σ × Bool} {i : Nat} {g z : Int} (hg : ((o.wt t.1).getD i (0, 0)).1 = g) (hz : ((o.wt t.1).getD i (0, 0)).2 = z) (h1 : is t.1 z = false) (h2 : is t.1 g = true) : wks o is kp t i = (o.put (kp t.1 z).2 ((o.wt (kp t.1 z).2).set i (g, (kp t.1 z).1)), true) := by
 unfold wks
 rw [hg, hz]
 simp [h1, h2]
def findRg (n : Nat) : Code -> Option Code
 | .region m o dr => match m == n with
  | true => some (.region m o dr)
  | false => none
 | .seq a b => match findRg n a with
  | some c => some c
  | none => findRg n b
 | .cond _ a b => match findRg n a with
  | some c => some c
  | none => findRg n b
 | .block _ c => findRg n c
 | .loop c => findRg n c
 | .scope c => findRg n c
 | _ => none
theorem wake1r_wp {s1 s2 s3 s4 s5 s6 s7 s8 s9 s10 s11 s12 s13 s14 s15 s16 s17 s18 s19 s20 s21 s22 s23 s24 s25 s26 s27 s28 s29 s30 s31 s32 s33 s34 s35 s36 s37 s38 s39 s40 s41 s42 s43 s44 s45 s46 s47 s48 s49 s50 s51 s52 s53 s54 s55 s56 : Value} {Q : Exit -> Act -> World -> Prop} {bs p cap : Nat} {ad : Option Addr} {l : List En} {w : World} (hl : l.length <= 100000) (h : Li w ad l cap) (c0 : w.cell? ⟨bs, 0, none⟩ = some (.pointer (some ⟨p, 0, none⟩))) (c1 : w.cell? ⟨p, 1, none⟩ = some (.slice ad l.length cap)) (f1 : w.frozen? ⟨p, 1, none⟩ = false)
  (hQ : ∀ (v6 v7 v8 v9 v10 v11 v12 v13 : Value) (a1 : Option Addr) (k1 : Nat) (w1 : World), w1.ownsRow w.heap.size 106 2 (.slice a1 l.length k1) l.length (ev l) -> Below w.heap.size w w1 -> Q .normal ⟨#[.pointer (some ⟨bs, 0, none⟩), s1, s2, s3, s4, s5, v6, v7, v8, v9, v10, v11, v12, v13, s14, s15, s16, s17, s18, s19, s20, s21, s22, s23, s24, s25, s26, s27, s28, s29, s30, s31, s32, s33, s34, s35, s36, s37, s38, s39, s40, s41, s42, s43, s44, s45, s46, s47, s48, s49, s50, s51, s52, s53, s54, s55, s56], []⟩ (w1.setCell ⟨p, 1, none⟩ (.slice a1 l.length k1))) :
  Code.wp Tryz.prog ((Tryz.f195.body.bind (findRg 1)).getD .skip) Q ⟨#[.pointer (some ⟨bs, 0, none⟩), s1, s2, s3, s4, s5, s6, s7, s8, s9, s10, s11, s12, s13, s14, s15, s16, s17, s18, s19, s20, s21, s22, s23, s24, s25, s26, s27, s28, s29, s30, s31, s32, s33, s34, s35, s36, s37, s38, s39, s40, s41, s42, s43, s44, s45, s46, s47, s48, s49, s50, s51, s52, s53, s54, s55, s56], []⟩ w := by
 conv => arg 2; whnf
 refine wp_region_noPanic ?_
 have HQ : Hid (∀ (v6 v7 v8 v9 v10 v11 v12 v13 : Value) (a1 : Option Addr) (k1 : Nat) (w1 : World), w1.ownsRow w.heap.size 106 2 (.slice a1 l.length k1) l.length (ev l) -> Below w.heap.size w w1 -> Q .normal ⟨#[.pointer (some ⟨bs, 0, none⟩), s1, s2, s3, s4, s5, v6, v7, v8, v9, v10, v11, v12, v13, s14, s15, s16, s17, s18, s19, s20, s21, s22, s23, s24, s25, s26, s27, s28, s29, s30, s31, s32, s33, s34, s35, s36, s37, s38, s39, s40, s41, s42, s43, s44, s45, s46, s47, s48, s49, s50, s51, s52, s53, s54, s55, s56], []⟩ (w1.setCell ⟨p, 1, none⟩ (.slice a1 l.length k1))) := hQ
 have HLi : Hid (Li w ad l cap) := h
 have l2 := World.block_lt_of_cell? w _ c0
 have lp := World.block_lt_of_cell? w _ c1
 dsimp only at l2 lp
 clear hQ h
 go_region_with (go_at_call 196; refine (cloneE_any _ ad l cap (HLi.out.below ((Below.refl _ _).drew)) hl).mono ?_; rintro e w1 ⟨a1, k1, rfl, hown, hb1⟩; have e0 := (hb1.cell (p := ⟨bs, 0, none⟩) l2).trans c0; have e1 := (hb1.cell (p := ⟨p, 1, none⟩) lp).trans c1; have e2 := (hb1.frozen (p := ⟨p, 1, none⟩) lp).trans f1)
 all_goals exact NoPanic.normal (HQ.out _ _ _ _ _ _ _ _ a1 k1 w1 hown ((Below.refl _ w).drew.trans hb1))
theorem wake1_any {σ : Type} (o : SdOb σ) (hS : SdSets o) (D : Int -> Prop) (fa fk fn : Fv) (is : σ -> Int -> Bool) (kp : σ -> Int -> Int × σ) (nw : σ -> Int -> Int) (hL : Lks o D fa fk fn is kp nw) (F : Nat -> Prop) (s : σ) (w : World) (hn : (o.wt s).length <= 90000)
  (hD : ∀ j, j < (o.wt s).length -> D ((o.wt (wkF o is kp s j).1).getD j (0, 0)).1 /\ D ((o.wt (wkF o is kp s j).1).getD j (0, 0)).2) (bl bs : Nat) (hJ : o.J F s w) (hbl : w.heap[bl]? = some (.cells #[fa.v, fk.v, fn.v] 116 (0, 0))) (hbs : w.heap[bs]? = some (.cells #[.pointer (some ⟨o.p, 0, none⟩)] 41 (0, 0))) (h1 : ¬ F bl) (h2 : ¬ F bs) :
  Calls Tryz.prog 195 #[.pointer (some ⟨bs, 0, none⟩), .pointer (some ⟨bl, 0, none⟩)] w fun r w' => ∃ F', r = .returned (.bool (wkF o is kp s (o.wt s).length).2) /\ o.J F' (wkF o is kp s (o.wt s).length).1 w' /\ Fr F w w' /\ ∀ k, F' k -> F k \/ w.heap.size <= k := by
 have HS : Hid (SdSets o) := hS
 have HA : Hid (Alives o.toOb D fa.f fa.b fa.c is) := hL.ha
 have HK : Hid (KeepsW o D fk.f fk.b fk.c kp) := hL.hk
 have HL : Hid (∀ s x, (o.wt (kp s x).2).length = (o.wt s).length) := hL.hl
 have HD : Hid (∀ j, j < (o.wt s).length -> D ((o.wt (wkF o is kp s j).1).getD j (0, 0)).1 /\ D ((o.wt (wkF o is kp s j).1).getD j (0, 0)).2) := hD
 have HJ : Hid (o.J F s w) := hJ
 have HBL : Hid (w.heap[bl]? = some (.cells #[fa.v, fk.v, fn.v] 116 (0, 0))) := hbl
 have HBS : Hid (w.heap[bs]? = some (.cells #[.pointer (some ⟨o.p, 0, none⟩)] 41 (0, 0))) := hbs
 have hcf : ∀ (args : Array Value) (w : World), (callFunc fa.f args).run Tryz.prog w = .ok (.enter fa.f args) w := hL.ea
 have hck : ∀ (args : Array Value) (w : World), (callFunc fk.f args).run Tryz.prog w = .ok (.enter fk.f args) w := hL.ek
 have c0 : w.cell? ⟨bs, 0, none⟩ = some (.pointer (some ⟨o.p, 0, none⟩)) := by simp [World.cell?, hbs]
 have l1 : bl < w.heap.size := lt_of_some hbl
 have l2 : bs < w.heap.size := lt_of_some hbs
 obtain ⟨ad, cap, hp, hLi, hFp, hFa⟩ := o.side hJ
 have c1 : w.cell? ⟨o.p, 1, none⟩ = some (.slice ad (o.wt s).length cap) := by simp [World.cell?, hp]
 have f1 : w.frozen? ⟨o.p, 1, none⟩ = false := by simp [World.frozen?, hp]
 have lp : o.p < w.heap.size := lt_of_some hp
 have HLi : Hid (Li w ad (o.wt s) cap) := hLi
 clear hL hS hD hJ hbl hbs hp hLi hFa
 go_enter Tryz.func195, Tryz.ntmps195
 go_upto_region 1 with fail
 refine wake1r_wp (by omega) HLi.out c0 c1 f1 ?_
 intro v6 v7 v8 v9 v10 v11 v12 v13 a1 k1 w1 hown hb1
 have hsz1 := hb1.size
 have hJ1 := HS.out.setv HJ.out hb1 hown
 have hfr1 : Fr F w (w1.setCell ⟨o.p, 1, none⟩ (.slice a1 (o.wt s).length k1)) := (Fr.of (X := F) hb1).trans ((Fr.refl (fun k => k = o.p) w1).set o.p 1 _ rfl) (fun i c => Or.inl (by rw [c]; exact hFp))
 have hsub1 : ∀ k, F k \/ some k = (Value.slice a1 (o.wt s).length k1).ownBlock -> F k \/ w.heap.size <= k := fun k h => h.imp id (fun e => (row_lt hown k e).1)
 clear hown
 go_wp2_with fail
 go_loopw [3, 4] (fun bv iv wr => ∃ (j : Nat) (t1 : σ) (b1 : Bool) (F1 : Nat -> Prop), j <= (o.wt s).length /\ iv = .int .i64 j /\ bv = .bool b1 /\ Hid (wkF o is kp s j = (t1, b1)) /\ o.J F1 t1 wr /\ Fr F w wr /\ Hid (∀ k, F1 k -> F k \/ w.heap.size <= k)) (fun _ iv _ => (o.wt s).length - (intOf iv).toNat)
 case atStart => exact ⟨0, _, false, _, Nat.zero_le _, rfl, rfl, rfl, hJ1, hfr1, hsub1⟩
 case round =>
  clear hJ1 hfr1 hsub1 hsz1 hb1
  obtain ⟨j, t1, b1, F1, hj, rfl, rfl, HT, hJ, hfr, HF1⟩ := hrel
  have hlen : (o.wt t1).length = (o.wt s).length := by have h9 := wkF_len o is kp HL.out s j; rw [HT.out] at h9; exact h9
  obtain ⟨ad, cap, hp, hLi, hFp, hFa⟩ := o.side hJ
  have hszr := hfr.size
  have n1 : ¬ F1 bl := fun h => (HF1.out bl h).elim h1 (fun h => by omega)
  have n2 : ¬ F1 bs := fun h => (HF1.out bs h).elim h2 (fun h => by omega)
  have kbl := (hfr.block bl l1 h1).trans HBL.out
  have kbs := (hfr.block bs l2 h2).trans HBS.out
  have d0 : wr.cell? ⟨bs, 0, none⟩ = some (.pointer (some ⟨o.p, 0, none⟩)) := by simp [World.cell?, kbs]
  have d1 : wr.cell? ⟨o.p, 1, none⟩ = some (.slice ad (o.wt s).length cap) := by simp [World.cell?, hp, hlen]
  by_cases hlt : j < (o.wt s).length
  ·obtain ⟨b0, o0, e0, hb0, hc⟩ := hLi.lp (by omega)
   obtain ⟨x1, x2⟩ := hc j (by omega)
   obtain ⟨hdg, hdz⟩ := HD.out j hlt
   rw [HT.out] at hdg hdz
   have HS1 : Hid (wkF o is kp s (j + 1) = wks o is kp (t1, b1) j) := by show _ = _; rw [wkF_succ, HT.out]
   obtain ⟨g, hg⟩ : ∃ g, ((o.wt t1).getD j (0, 0)).1 = g := ⟨_, rfl⟩
   obtain ⟨z, hz⟩ : ∃ z, ((o.wt t1).getD j (0, 0)).2 = z := ⟨_, rfl⟩
   rw [hg] at x1
   rw [hz] at x2
   have hdg : D g := by rw [<- hg]; exact hdg
   have hdz : D z := by rw [<- hz]; exact hdz
   have HG : Hid (((o.wt t1).getD j (0, 0)).1 = g) := hg
   have HZ : Hid (((o.wt t1).getD j (0, 0)).2 = z) := hz
   subst e0
   have HJr : Hid (o.J F1 t1 wr) := hJ
   have HFr : Hid (Fr F w wr) := hfr
   have HKS : Hid (wr.heap[bs]? = some (.cells #[.pointer (some ⟨o.p, 0, none⟩)] 41 (0, 0))) := kbs
   have m0 : wr.cell? ⟨bl, 0, none⟩ = some (.func (.func fa.f) fa.b fa.c) := by simp [World.cell?, kbl]
   have m1 : wr.cell? ⟨bl, 1, none⟩ = some (.func (.func fk.f) fk.b fk.c) := by simp [World.cell?, kbl]
   have hA0 := (Below.refl wr.heap.size wr).alloc (Nat.le_refl _) (.cells #[.int .i64 g, .int .i64 z] 106)
   have lbl : bl < wr.heap.size := by omega
   have lbs : bs < wr.heap.size := by omega
   have lpr : o.p < wr.heap.size := lt_of_some hp
   have j0 : (0 : Int) <= (j : Int) := by omega
   have j1 : (j : Int) < ((o.wt s).length : Int) := by omega
   clear hc hg hz hJ hfr kbl kbs hp hLi hFp hFa HT
   go_wp2_with fail
   refine (HA.out F1 t1 _ z hdz (o.below HJr.out hA0)).mono ?_
   rintro r w2 ⟨rfl, hb2⟩
   have ls2 : wr.heap.size < w2.heap.size := by have := hb2.size; simp at this; omega
   have hB2 : Below wr.heap.size wr w2 := hA0.trans (hb2.mono (by simp))
   have y0 : w2.cell? ⟨wr.heap.size, 0, none⟩ = some (.int .i64 g) := (hb2.cell (by simp)).trans (by simp)
   have y1 : w2.cell? ⟨wr.heap.size, 1, none⟩ = some (.int .i64 z) := (hb2.cell (by simp)).trans (by simp)
   have yf : w2.frozen? ⟨wr.heap.size, 1, none⟩ = false := (hb2.frozen (by simp)).trans (by simp)
   have y2 : w2.cell? ⟨bl, 0, none⟩ = some (.func (.func fa.f) fa.b fa.c) := (hB2.cell lbl).trans m0
   cases hz1 : is t1 z
   ·go_wp2_with fail
    refine (HA.out F1 t1 _ g hdg (o.below HJr.out hB2)).mono ?_
    rintro r w3 ⟨rfl, hb3⟩
    have ls3 : wr.heap.size < w3.heap.size := by have := hb3.size; omega
    have hB3 : Below wr.heap.size wr w3 := hB2.trans (hb3.mono (by omega))
    have z0 := (hb3.cell (p := ⟨wr.heap.size, 0, none⟩) ls2).trans y0
    have z1 := (hb3.cell (p := ⟨wr.heap.size, 1, none⟩) ls2).trans y1
    have zf := (hb3.frozen (p := ⟨wr.heap.size, 1, none⟩) ls2).trans yf
    have z2 : w3.cell? ⟨bl, 1, none⟩ = some (.func (.func fk.f) fk.b fk.c) := (hB3.cell lbl).trans m1
    clear y0 y1 yf y2 hb3 hb2 hB2 x1 x2 d0 d1
    cases hg1 : is t1 g
    ·have HN : Hid (wkF o is kp s (j + 1) = (t1, b1)) := HS1.out.trans (wks_stay HG.out HZ.out (Or.inr hg1))
     go_wp2_with fail
     go_roundw
     case rel => exact ⟨j + 1, t1, b1, F1, by omega, by go_num, rfl, HN, o.below HJr.out hB3, HFr.out.trans (Fr.of (X := F) hB3) (fun _ c => Or.inl c), HF1⟩
     case measure => simp [intOf]; omega
    ·have HC : Hid (wkF o is kp s (j + 1) = (o.put (kp t1 z).2 ((o.wt (kp t1 z).2).set j (g, (kp t1 z).1)), true)) := HS1.out.trans (wks_come HG.out HZ.out hz1 hg1)
     have HL2 : Hid ((o.wt (kp t1 z).2).length = (o.wt s).length) := (HL.out t1 z).trans hlen
     go_wp2_with fail
     refine (HK.out F1 t1 _ z hdz (by rw [HL2.out]; exact hn) (o.below HJr.out hB3)).mono ?_
     rintro r w4 ⟨F2, rfl, hJ4, hfr4, hF2⟩
     generalize (kp t1 z).1 = y at HC ⊢
     generalize (kp t1 z).2 = s2 at HC HL2 hJ4
     have hFw : ¬ F1 wr.heap.size := fun h => by have := o.lt HJr.out _ h; omega
     have hF2w : ¬ F2 wr.heap.size := fun h => (hF2 _ h).elim hFw (fun h => by omega)
     have hF2b : ¬ F2 bs := fun h => (hF2 _ h).elim n2 (fun h => by omega)
     have hs4 := hfr4.size
     have kb := hfr4.block _ ls3 hFw
     have ks := ((hfr4.block bs (by omega) n2).trans (hB3.block bs lbs)).trans HKS.out
     have v0 : w4.cell? ⟨wr.heap.size, 0, none⟩ = some (.int .i64 g) := (World.cell?_of_block (a := ⟨wr.heap.size, 0, none⟩) kb).trans z0
     have v1 : w4.cell? ⟨wr.heap.size, 1, none⟩ = some (.int .i64 z) := (World.cell?_of_block (a := ⟨wr.heap.size, 1, none⟩) kb).trans z1
     have vf : w4.frozen? ⟨wr.heap.size, 1, none⟩ = false := (World.frozen?_of_block (a := ⟨wr.heap.size, 1, none⟩) kb).trans zf
     have keep5 : ∀ k : Nat, k ≠ wr.heap.size -> (w4.setCell ⟨wr.heap.size, 1, none⟩ (.int .i64 y)).heap[k]? = w4.heap[k]? := fun k hk => Below.heap_setCell _ _ _ _ hk
     have sz5 : (w4.setCell ⟨wr.heap.size, 1, none⟩ (.int .i64 y)).heap.size = w4.heap.size := by simp [World.setCell]
     have hJ5 : o.J F2 s2 (w4.setCell ⟨wr.heap.size, 1, none⟩ (.int .i64 y)) := o.keep hJ4 (by rw [sz5]; exact Nat.le_refl _) (fun k hk => keep5 k (fun e => hF2w (by rw [<- e]; exact hk)))
     have t0 : (w4.setCell ⟨wr.heap.size, 1, none⟩ (.int .i64 y)).cell? ⟨wr.heap.size, 0, none⟩ = some (.int .i64 g) := (World.cell?_setCell_other w4 ⟨wr.heap.size, 1, none⟩ ⟨wr.heap.size, 0, none⟩ (.int .i64 y) (by simp)).trans v0
     have t2 : (w4.setCell ⟨wr.heap.size, 1, none⟩ (.int .i64 y)).cell? ⟨wr.heap.size, 1, none⟩ = some (.int .i64 y) := World.cell?_setCell_same _ _ _ v1
     have t3 : (w4.setCell ⟨wr.heap.size, 1, none⟩ (.int .i64 y)).cell? ⟨bs, 0, none⟩ = some (.pointer (some ⟨o.p, 0, none⟩)) := (World.cell?_of_block (a := ⟨bs, 0, none⟩) (keep5 bs (by omega))).trans (by simp [World.cell?, ks])
     have hfr5 : Fr F w (w4.setCell ⟨wr.heap.size, 1, none⟩ (.int .i64 y)) := ((HFr.out.trans (Fr.of (X := F) hB3) (fun _ c => Or.inl c)).trans hfr4 (fun i c => HF1.out i c)).trans ((Fr.refl (fun k => k = wr.heap.size) w4).set _ 1 _ rfl) (fun i c => Or.inr (by omega))
     have HF2 : Hid (∀ k, F2 k -> F k \/ w.heap.size <= k) := fun k h => (hF2 k h).elim (HF1.out k) (fun h => Or.inr (by omega))
     obtain ⟨ad5, cap5, hp5, hLi5, hFp5, hFa5⟩ := o.side hJ5
     obtain ⟨b5, f5, e5, hFb, hbp, fz0, fz1, hJ6⟩ := HS.out.seti hJ5 hp5 j (by rw [HL2.out]; exact hlt) g y
     obtain ⟨b6, o6, e6, hb6, hc6⟩ := hLi5.lp (by rw [HL2.out]; omega)
     obtain ⟨u1, u2⟩ := hc6 j (by rw [HL2.out]; exact hlt)
     rw [e5] at e6
     cases e6
     subst e5
     have t4 : (w4.setCell ⟨wr.heap.size, 1, none⟩ (.int .i64 y)).cell? ⟨o.p, 1, none⟩ = some (.slice (some ⟨b5, f5, none⟩) (o.wt s).length cap5) := by simp [World.cell?, hp5, HL2.out]
     have hbw : b5 ≠ wr.heap.size := fun e => hF2w (by rw [<- e]; exact hFb)
     have hbb : b5 ≠ bs := fun e => hF2b (by rw [<- e]; exact hFb)
     have HFb : Hid (F2 b5) := hFb
     generalize ((o.wt s2).getD j (0, 0)).1 = og at u1
     generalize ((o.wt s2).getD j (0, 0)).2 = oz at u2
     clear z0 z1 zf z2 hF2 hJ4 hfr4 kb ks keep5 hJ5 hp5 hLi5 hFp5 hFa5 hc6 hB3 hA0 ls2 ls3 hs4 hF2w hF2b sz5 hb6 hFw hFb m0 m1
     go_wp2_with fail
     generalize w4.setCell ⟨wr.heap.size, 1, none⟩ (.int .i64 y) = w5 at *
     clear v0 v1 vf
     go_region_held3 (fun w' => w'.cell? ⟨bs, 0, none⟩ = some (.pointer (some ⟨o.p, 0, none⟩)) /\ w'.cell? ⟨o.p, 1, none⟩ = some (.slice (some ⟨b5, f5, none⟩) (o.wt s).length cap5) /\ w'.cell? ⟨wr.heap.size, 0, none⟩ = some (.int .i64 g) /\ w'.cell? ⟨wr.heap.size, 1, none⟩ = some (.int .i64 y)) (go_keep) (fail)
     have hfr6 := (hfr5.trans (((Fr.refl (fun k => k = b5) w5).set b5 (f5 + j * 2) (.int .i64 g) rfl).set b5 (f5 + j * 2 + 1) (.int .i64 y) rfl) (fun i c => by rw [c]; exact HF2.out _ HFb.out)).drew
     have hJ7 := o.keep (w' := ((w5.setCell ⟨b5, f5 + j * 2, none⟩ (.int .i64 g)).setCell ⟨b5, f5 + j * 2 + 1, none⟩ (.int .i64 y)).drew) hJ6 (Nat.le_refl _) (fun _ _ => rfl)
     clear hfr5 hJ6
     go_wp2_with fail
     go_roundw
     case rel => exact ⟨j + 1, o.put s2 ((o.wt s2).set j (g, y)), true, F2, by omega, by go_num, rfl, HC, hJ7, hfr6, HF2⟩
     case measure => simp [intOf]; omega
   ·have HN : Hid (wkF o is kp s (j + 1) = (t1, b1)) := HS1.out.trans (wks_stay HG.out HZ.out (Or.inl hz1))
    go_wp2_with fail
    go_roundw
    case rel => exact ⟨j + 1, t1, b1, F1, by omega, by go_num, rfl, HN, o.below HJr.out hB2, HFr.out.trans (Fr.of (X := F) hB2) (fun _ c => Or.inl c), HF1⟩
    case measure => simp [intOf]; omega
  ·obtain rfl : j = (o.wt s).length := by omega
   have HR := HT.out
   go_wp2_with fail
   go_ret
   rw [HR]
   exact ⟨F1, rfl, hJ, hfr, HF1.out⟩
theorem ent_wake1 : Ent 195 := ent_of Tryz.func195 (by kernel_rfl) rfl
theorem wake_any {σ : Type} (o : SdOb σ) (hS : SdSets o) (D : Int -> Prop) (fa fk fn : Fv) (is : σ -> Int -> Bool) (kp : σ -> Int -> Int × σ) (nw : σ -> Int -> Int) (hL : Lks o D fa fk fn is kp nw) (adr : Option Addr) (nr cr : Nat) (hvr : o.vr = .slice adr nr cr) (F : Nat -> Prop) (s : σ) (w : World) (hn : (o.wt s).length <= 90000)
  (hD : ∀ j, j < (o.wt s).length -> D ((o.wt (wkF o is kp s j).1).getD j (0, 0)).1 /\ D ((o.wt (wkF o is kp s j).1).getD j (0, 0)).2) (hJ : o.J F s w) :
  Calls Tryz.prog 133 #[.pointer (some ⟨o.p, 0, none⟩), .agg #[fa.v, fk.v, fn.v]] w fun e w' => ∃ F', e = .returned (.bool (wkF o is kp s (o.wt s).length).2) /\ o.J F' (wkF o is kp s (o.wt s).length).1 w' /\ Fr F w w' /\ ∀ k, F' k -> F k \/ w.heap.size <= k := by
 obtain ⟨ad0, cap0, hp, _, hFp, _⟩ := o.side hJ
 rw [hvr] at hp
 have c0 : w.cell? ⟨o.p, 0, none⟩ = some (.slice adr nr cr) := by simp [World.cell?, hp]
 have c1 : w.cell? ⟨o.p, 1, none⟩ = some (.slice ad0 (o.wt s).length cap0) := by simp [World.cell?, hp]
 have lp : o.p < w.heap.size := lt_of_some hp
 have HJ : Hid (o.J F s w) := hJ
 have HH : Hid (∀ w1, Below w.heap.size w w1 -> w1.heap[w.heap.size + 1]? = some (.cells #[fa.v, fk.v, fn.v] 116 (0, 0)) -> w1.heap[w.heap.size]? = some (.cells #[.pointer (some ⟨o.p, 0, none⟩)] 41 (0, 0)) -> Calls Tryz.prog 195 #[.pointer (some ⟨w.heap.size, 0, none⟩), .pointer (some ⟨w.heap.size + 1, 0, none⟩)] w1 fun r w' => ∃ F', r = .returned (.bool (wkF o is kp s (o.wt s).length).2) /\ o.J F' (wkF o is kp s (o.wt s).length).1 w' /\ Fr F w1 w' /\ ∀ k, F' k -> F k \/ w1.heap.size <= k) := by
  intro w1 hb h1 h2
  have q : ∀ k, w.heap.size <= k -> ¬ F k := fun k hk h => by have := o.lt hJ k h; omega
  exact wake1_any o hS D fa fk fn is kp nw hL F s w1 hn hD _ _ (o.below hJ hb) h1 h2 (q _ (by omega)) (q _ (by omega))
 clear hL hJ hp hvr hFp hS hD
 go_enter Tryz.func133, Tryz.ntmps133
 go_wp2_with fail
 have hW : ∃ W4, W4 = (w.alloc (.cells #[.pointer (some ⟨o.p, 0, none⟩)] 41)).alloc (.cells #[fa.v, fk.v, fn.v] 116) := ⟨_, rfl⟩
 obtain ⟨W4, hW⟩ := hW
 have sz : W4.heap.size = w.heap.size + 2 := by rw [hW]; simp
 have hb4 : Below w.heap.size w W4 := by rw [hW]; exact ((Below.refl _ w).alloc (Nat.le_refl _) _).alloc (by simp) _
 have g0 : W4.heap[w.heap.size]? = some (.cells #[.pointer (some ⟨o.p, 0, none⟩)] 41 (0, 0)) := by
  rw [hW, Below.heap_alloc _ _ _ (by simp)]
  exact heap_alloc_new _ _
 have g1 : W4.heap[w.heap.size + 1]? = some (.cells #[fa.v, fk.v, fn.v] 116 (0, 0)) := by
  rw [hW]
  simpa using heap_alloc_new (w.alloc (.cells #[.pointer (some ⟨o.p, 0, none⟩)] 41)) (.cells #[fa.v, fk.v, fn.v] 116)
 rw [<- hW]
 have P := wholly_any 195 #[] #[.pointer (some ⟨w.heap.size, 0, none⟩), .pointer (some ⟨w.heap.size + 1, 0, none⟩)] ent_wake1 W4 o.p adr ad0 nr cr (o.wt s).length cap0 ((hb4.cell (p := ⟨o.p, 0, none⟩) lp).trans c0) ((hb4.cell (p := ⟨o.p, 1, none⟩) lp).trans c1)
  (fun bv w2 => ∃ F', bv = (wkF o is kp s (o.wt s).length).2 /\ o.J F' (wkF o is kp s (o.wt s).length).1 w2 /\ Fr F w w2 /\ ∀ k, F' k -> F k \/ w.heap.size + 5 <= k)
  (by
   intro w1 hw1
   have s1 : w1.heap.size = w.heap.size + 5 := by rw [hw1]; simp; omega
   have b1 : Below W4.heap.size W4 w1 := by rw [hw1]; exact (((Below.refl _ W4).alloc (Nat.le_refl _) _).alloc (by simp) _).alloc (by simp; omega) _
   have hk : w1.heap[W4.heap.size + 1]? = some (.cells #[.bool false] 4 (0, 0)) := by
    rw [hw1, Below.heap_alloc _ _ _ (by simp)]
    simpa using heap_alloc_new (W4.alloc (.cells #[.pointer (some ⟨o.p, 0, none⟩)] 41)) (.cells #[.bool false] 4)
   have b2 : Below w.heap.size w w1 := hb4.trans (b1.mono (by omega))
   refine (HH.out w1 b2 ((b1.block _ (by omega)).trans g1) ((b1.block _ (by omega)).trans g0)).mono ?_
   rintro e w2 ⟨F1, rfl, q1, q2, q3⟩
   rw [s1] at q3
   refine ⟨_, rfl, ⟨F1, rfl, q1, (Fr.of (X := F) b2).trans q2 (fun _ c => Or.inl c), q3⟩, (q2.block _ (by omega) (fun h => ?_)).trans hk⟩
   have := o.lt HJ.out _ h
   omega)
 refine P.mono ?_
 clear P
 rintro e w3 ⟨bv, w2, rfl, ⟨F1, rfl, q1, q2, q3⟩, hk, rfl⟩
 obtain ⟨m, hm⟩ : ∃ m, m = W4.heap.size + 1 := ⟨_, rfl⟩
 rw [<- hm]
 have Hm : Hid (m = w.heap.size + 3) := by show m = _; omega
 clear hm hk hb4 g0 g1 sz hW
 have hm := Hm.out
 have kp9 : ∀ k, k ≠ m -> (w2.setCell ⟨m, 0, none⟩ (.bool (wkF o is kp s (o.wt s).length).2)).heap[k]? = w2.heap[k]? := fun k hk => Below.heap_setCell _ _ _ _ hk
 have hJ9 := o.keep (w' := w2.setCell ⟨m, 0, none⟩ (.bool (wkF o is kp s (o.wt s).length).2)) q1 (by simp [World.setCell]) (fun k hk => kp9 k (fun e => by
  rcases q3 k hk with h | h
  ·have := o.lt HJ.out k h
   omega
  ·omega))
 have hfr9 := q2.trans ((Fr.refl (fun k => k = m) w2).set m 0 (.bool (wkF o is kp s (o.wt s).length).2) rfl) (fun i c => Or.inr (by omega))
 have HE : Hid (∃ F', o.J F' (wkF o is kp s (o.wt s).length).1 (w2.setCell ⟨m, 0, none⟩ (.bool (wkF o is kp s (o.wt s).length).2)) /\ Fr F w (w2.setCell ⟨m, 0, none⟩ (.bool (wkF o is kp s (o.wt s).length).2)) /\ ∀ k, F' k -> F k \/ w.heap.size <= k) := ⟨F1, hJ9, hfr9, fun k h => (q3 k h).imp id (fun h => by omega)⟩
 clear hJ9 hfr9 kp9 q1 q2 q3 hm
 go_wp2_with fail
 go_ret
 obtain ⟨F', x1, x2, x3⟩ := HE.out
 exact ⟨F', rfl, x1, x2, x3⟩
end Go.Proofs.YtnalfnlmaallmaaGreat

namespace Go.Proofs.YtnalfnlmaallmaaGreat
open Go.RowKit W Kp Stl
structure Ck where
  N : Nat
  O : Nat
  y : Nat
  T : List Int
structure Cs where
  g : Nat
  ws : List Int
  f : Int -> Int
  nx : Int
  wk : List Int
  ep : List Int
  rs : List Int
def Ck.ld (k : Ck) (s : Cs) (a : Int) : Int := Proofs.YtnalfnlmaallmaaGreat.ld k.N k.y s.g s.ws a
def Ck.yg (k : Ck) (x : Int) : Bool := aB x && k.T.contains (aV x)
def Ck.ls (k : Ck) (s : Cs) (x : Int) : Bool := k.yg x && (s.f (aV x) == -1)
def Ck.nw (k : Ck) (s : Cs) (x : Int) : Int := if (k.yg x && !(s.f (aV x) == -1)) = true then ew 3 (s.f (aV x)) else x
def upf (f : Int -> Int) (a v : Int) : Int -> Int := fun b => if b = a then v else f b
def Ck.cp (k : Ck) (s : Cs) (a : Int) : Cs := { s with g := cpG k.N k.O k.y s.g s.ws a, ws := cpW k.N k.O k.y s.g s.ws a, f := upf s.f a (cpR k.N k.O k.y s.g s.ws a) }
def Ck.br (k : Ck) (s : Cs) (x : Int) : Int × Cs := if k.ls s x = true then (k.nw (k.cp s (aV x)) x, k.cp s (aV x)) else (k.nw s x, s)
def Ck.st (k : Ck) (s : Cs) (a x : Int) : Cs := { s with ws := if iB k.N k.y s.g a = true then s.ws.set a.toNat x else s.ws }
def Ck.kf (k : Ck) (s : Cs) (a : Int) : Cs := k.st (k.br s (k.ld s a)).2 a (k.br s (k.ld s a)).1
def Ck.kfs (k : Ck) (s : Cs) (a : Int) : Nat -> Cs
 | 0 => s
 | n + 1 => k.kf (k.kfs s a n) (a + 1 + n)
def Ck.lk (k : Ck) (s : Cs) (a : Int) : Cs :=
 if pk (k.ld s a) = 1 \/ pk (k.ld s a) = 2 then k.kfs s a (pf (k.ld s a)).toNat
 else if pk (k.ld s a) = 3 then k.kf { s with wk := s.wk ++ [a] } (a + 2)
 else if pk (k.ld s a) = 4 then { s with ep := s.ep ++ [a] } else s
def Ck.lb (k : Ck) : Nat -> Cs -> Cs
 | 0, s => s
 | n + 1, s => if hB k.N s.g s.nx = true then k.lb n { k.lk s s.nx with nx := s.nx + (1 + pf (k.ld s s.nx)) } else s
def Ck.kv1 (k : Ck) (t : List Int × Cs) (a : Int) : List Int × Cs := if k.ls t.2 (k.ld t.2 (a + 1)) = true then (t.1 ++ [a], t.2) else (t.1, k.kf (k.kf t.2 (a + 1)) (a + 2))
def Ck.kvf (k : Ck) (s : Cs) (l : List Int) : List Int × Cs := l.foldl k.kv1 ([], s)
def Ck.kv (k : Ck) (s : Cs) : Bool × Cs := (decide ((k.kvf s s.ep).1.length < s.ep.length), { (k.kvf s s.ep).2 with ep := (k.kvf s s.ep).1 })
def wkP {α : Type} (is : α -> Int -> Bool) (kp : α -> Int -> Int × α) (t : (α × List En) × Bool) (i : Nat) : (α × List En) × Bool :=
 if is t.1.1 (t.1.2.getD i (0, 0)).2 || !is t.1.1 (t.1.2.getD i (0, 0)).1 then t
 else (((kp t.1.1 (t.1.2.getD i (0, 0)).2).2, t.1.2.set i ((t.1.2.getD i (0, 0)).1, (kp t.1.1 (t.1.2.getD i (0, 0)).2).1)), true)
def wkQ {α : Type} (is : α -> Int -> Bool) (kp : α -> Int -> Int × α) (s : α × List En) (n : Nat) : (α × List En) × Bool := (List.range n).foldl (wkP is kp) (s, false)
def Ck.al (k : Ck) (s : Cs) (x : Int) : Bool := !k.ls s x
def Ck.wa (k : Ck) (s : Cs × List En) : (Cs × List En) × Bool := wkQ k.al k.br s s.2.length
def Ck.mu (k : Ck) (s : Cs) : Nat := (k.N + k.O + 13 - s.nx).toNat + s.ep.length + (k.O - s.g)
def Ck.spr (k : Ck) : Nat -> Cs × List En -> Cs × List En
 | 0, s => s
 | n + 1, s =>
  if (k.kv (k.lb (k.O + 1) s.1)).1 = true then k.spr n ((k.kv (k.lb (k.O + 1) s.1)).2, s.2)
  else if (k.wa ((k.kv (k.lb (k.O + 1) s.1)).2, s.2)).2 = true then k.spr n (k.wa ((k.kv (k.lb (k.O + 1) s.1)).2, s.2)).1
  else (k.wa ((k.kv (k.lb (k.O + 1) s.1)).2, s.2)).1
def Ck.sp (k : Ck) (s : Cs × List En) : Cs × List En := k.spr (k.mu s.1 + 1) s
def Ck.ke (k : Ck) (s : Cs × List En) (x : Int) : Int × (Cs × List En) := ((k.br s.1 x).1, k.sp ((k.br s.1 x).2, s.2))
def Ck.kr (k : Ck) (s : Cs) : Nat -> Cs
 | 0 => s
 | n + 1 => { (k.br (k.kr s n) ((k.kr s n).rs.getD n 0)).2 with rs := (k.br (k.kr s n) ((k.kr s n).rs.getD n 0)).2.rs.set n (k.br (k.kr s n) ((k.kr s n).rs.getD n 0)).1 }
def Ck.lm1 (k : Ck) (e c : Int) (M : List Int) (s : Cs) (a : Int) : Cs := if a + pf (k.ld s a) < e then (if (cB k.N c a && M.contains (cN k.N a)) = true then k.lk s a else s) else s
def Ck.lm (k : Ck) (c : Int) (M : List Int) (s : Cs) (l : List Int) : Cs := l.foldl (k.lm1 s.nx c M) s
def Ck.mw1 (k : Ck) (s : Cs) (a : Int) : Cs := if k.ls s (k.ld s (a + 1)) = true then k.st s (a + 1) 3 else k.st s (a + 1) (k.nw s (k.ld s (a + 1)))
def Ck.mw (k : Ck) (s : Cs) (l : List Int) : Cs := l.foldl k.mw1 s
def Ck.be1 (k : Ck) (s : Cs) (a : Int) : Cs := k.st (k.st s (a + 1) 3) (a + 2) 3
def Ck.be (k : Ck) (s : Cs) (l : List Int) : Cs := l.foldl k.be1 s
/-! ### what is not brought yet has room -/
def Ck.sz (k : Ck) (s : Cs) : Nat := ((k.T.filter (fun a => s.f a == -1)).map (fun a => 1 + (pf (k.ld s a)).toNat)).sum
structure CI (k : Ck) (s : Cs) : Prop where
  hN : 16 <= k.N
  hN' : k.N <= 256
  hO : k.O <= 1024
  hy : k.y <= k.N
  hg : s.g <= k.O
  len : s.ws.length = k.N + k.O
  th : ∀ a ∈ k.T, 0 <= a /\ pc (k.ld s a) = 0 /\ a + 1 + pf (k.ld s a) <= k.y
  nd : k.T.Nodup
  room : k.sz s <= k.O - s.g
  nx0 : (k.N : Int) <= s.nx
  nx1 : s.nx <= (k.N : Int) + k.O + 13
  wk0 : ∀ a ∈ s.wk, (k.N : Int) <= a /\ a <= 2000
  ep0 : ∀ a ∈ s.ep, (k.N : Int) <= a /\ a <= 2000
  tl : k.T.length <= 2000
structure CB (k : Ck) (s : Cs) : Prop where
  wk : s.wk.length + (k.N + k.O + 13 - s.nx).toNat <= 4000
  ep : s.ep.length + (k.N + k.O + 13 - s.nx).toNat <= 4000
end Go.Proofs.YtnalfnlmaallmaaGreat
