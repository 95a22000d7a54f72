/- Joined: Ws13, Ws14, Ws18, Mj29, Mn19, Mn20. -/
import Derived.Test.YtalgochmjddodaaGreatJ24
import Derived.Test.YtalgochmjddodaaGreatJ05
import Derived.Test.YtalgochmjddodaaGreatJ06
import Derived.Test.YtalgochmjddodaaGreatJ30
import Derived.Test.YtalgochmjddodaaGreatJ19
import Derived.Test.YtalgochmjddodaaGreatJ23
import Derived.Test.YtalgochmjddodaaGreatJ25
namespace Go.Proofs.YtalgochmjddodaaGreat
open Go.RowKit W Kp Stl
def CdI (N O y g : Nat) (ws M Y G : List Int) : Prop :=
 ∀ v ∈ G, ∀ i, 0 <= i -> i < pf (ld N y g ws v) -> aB (ld N y g ws (v + 1 + i)) = true -> aV (ld N y g ws (v + 1 + i)) ∈ Y -> (cB N (nC O) v && M.contains (cN N v)) = true
section
variable {N O y g : Nat} {ws M Y G rs : List Int}
theorem CdI.make (h : WInv N y g ws Y G rs) (hc : CdI N O y g ws M Y G) (hl : ws.length = N + O) {k f : Int} (hm : mkB N y k f = true) : CdI N O (mkY N y k f) g (mkW N y k f ws) M (Y ++ [(y : Int)]) G := by
 obtain ⟨h1, h2⟩ := mkB_yes hm
 have hf := hc_bd k f h1
 have eY : mkY N y k f = y + 1 + f.toNat := by unfold mkY; rw [if_pos hm]
 have eW : mkW N y k f ws = fil ws y (hw k f) f.toNat := by unfold mkW; rw [if_pos hm]
 have hlt : y + f.toNat < ws.length := by omega
 rw [eY, eW]
 intro v hv i i0 i1 ha hy
 have hi := h.full.io v hv
 have e0 : ld N (y + 1 + f.toNat) g (fil ws y (hw k f) f.toNat) v = ld N y g ws v := by
  rw [ld_in (iB_o hi.1 hi.2), ld_in (iB_o hi.1 hi.2), fil_get _ _ _ _ _ hlt, if_neg (by omega), if_neg (by omega)]
 rw [e0] at i1
 have hb := field_o h.full hv i0 i1
 have e1 : ld N (y + 1 + f.toNat) g (fil ws y (hw k f) f.toNat) (v + 1 + i) = ld N y g ws (v + 1 + i) := by
  rw [ld_in (iB_o hb.1 hb.2), ld_in (iB_o hb.1 hb.2), fil_get _ _ _ _ _ hlt, if_neg (by omega), if_neg (by omega)]
 rw [e1] at ha hy
 rcases List.mem_append.1 hy with d | d
 ·exact hc v hv i i0 i1 ha d
 ·simp at d
  rcases h.fd v (Or.inr hv) i i0 i1 ha with e | e
  ·have := (h.full.iy _ e).2
   omega
  ·have := (h.full.io _ e).1
   omega
theorem cB_old {v : Int} (h0 : (N : Int) <= v) (h1 : v < (N : Int) + g) (hg : g <= O) : cB N (nC O) v = true := by
 unfold cB nC
 rw [if_neg (by omega)]
 simp only [Bool.and_eq_true, decide_eq_true_eq]
 omega
theorem fc_no2 {x i z c : Int} (h : fcC N y g ws x i ≠ 0) : stW N y g ws x i z = ws /\ stM N y g ws x i z c M = M := by
 refine ⟨by unfold stW; rw [if_neg h], ?_⟩
 have e : stB N y g ws x i z = false := by
  unfold stB
  rw [decide_eq_false h]
  rfl
 unfold stM
 rw [e]
 rfl
theorem same_thing (h : Full2 N y g ws Y G) {u v i j : Int} (hu : u ∈ G) (hv : v ∈ G) (i0 : 0 <= i) (i1 : i < pf (ld N y g ws u)) (j0 : 0 <= j) (j1 : j < pf (ld N y g ws v)) (e : u + 1 + i = v + 1 + j) : u = v := by
 rcases Int.lt_trichotomy u v with d | d | d
 ·have := h.to.apart u hu v hv d
  omega
 ·exact d
 ·have := h.to.apart v hv u hu d
  omega
theorem CdI.set (h : WInv N y g ws Y G rs) (hc : CdI N O y g ws M Y G) (hl : ws.length = N + O) (hN : N <= 256) (hy : y <= N) (hO : O <= 1024) (hg : g <= O) (x i z : Int) : CdI N O y g (stW N y g ws x i z) (stM N y g ws x i z (nC O) M) Y G := by
 by_cases hfc : fcC N y g ws x i = 0
 ·obtain ⟨t1, t2, t3, t4⟩ := fcC_zero hfc
  obtain ⟨l1, l2⟩ := h.full.lists (O := O) hN hy hO hg
  have hv : aV x ∈ Y \/ aV x ∈ G := by
   unfold tB at t1
   rw [l1, l2] at t1
   have t5 := (Bool.and_eq_true _ _ ▸ t1 : aB x = true /\ (Y.contains (aV x) || G.contains (aV x)) = true).2
   simpa using t5
  have hst := h.full.stands hy hv
  rw [hst] at t4
  have hi0 := field_i h.full hv t3 t4
  have hbd := iB_bd (O := O) hi0 hy hg
  have eW : stW N y g ws x i z = ws.set (aV x + 1 + i).toNat z := by
   unfold stW
   rw [if_pos hfc, if_pos hi0]
  obtain ⟨hF, hk⟩ := h.full.set (z := z) hl hy hg hv t3 t4
  rw [eW]
  have hsub : ∀ k, M.contains k = true -> (stM N y g ws x i z (nC O) M).contains k = true := fun k hk => by
   unfold stM
   split
   ·unfold mkM
    split
    ·rw [has_addM, hk]
     rfl
    ·exact hk
   ·exact hk
  intro v hv' j j0 j1 ha hyo
  rw [hk v (Or.inr hv')] at j1
  have hi := field_i h.full (Or.inr hv') j0 j1
  have hbi := iB_bd (O := O) hi hy hg
  have e1 : ld N y g (ws.set (aV x + 1 + i).toNat z) (v + 1 + j) = if (aV x + 1 + i).toNat = (v + 1 + j).toNat then z else ld N y g ws (v + 1 + j) := by
   rw [ld_in hi, ld_in hi, getD_set _ _ _ _ (by omega)]
  rw [e1] at ha hyo
  have hvo := h.full.io v hv'
  by_cases e : (aV x + 1 + i).toNat = (v + 1 + j).toNat
  ·rw [if_pos e] at ha hyo
   have e2 : aV x + 1 + i = v + 1 + j := by omega
   have hz := h.full.iy _ hyo
   have hav : hB N g (aV x) = true := by
    unfold hB
    rw [decide_eq_true_eq]
    rcases hv with d | d
    ·have h1 := field_y h.full d t3 t4
     have h2 := field_o h.full hv' j0 j1
     omega
    ·have := h.full.io _ d
     omega
   have eo := hB_yes hav
   have hsb : stB N y g ws x i z = true := by
    unfold stB
    rw [ha, hav, decide_eq_true hfc]
    simp only [Bool.true_and, Bool.and_true]
    unfold hB
    rw [decide_eq_true_eq]
    omega
   have hxG : aV x ∈ G := by
    rcases hv with d | d
    ·have := h.full.iy _ d
     omega
    ·exact d
   have evx : aV x = v := same_thing h.full hxG hv' t3 t4 j0 j1 e2
   rw [Bool.and_eq_true]
   refine ⟨cB_old hvo.1 hvo.2 hg, ?_⟩
   unfold stM
   rw [if_pos hsb, evx, mkM_yes (cB_old hvo.1 hvo.2 hg), has_addM]
   simp
  ·rw [if_neg e] at ha hyo
   have h1 := hc v hv' j j0 j1 ha hyo
   rw [Bool.and_eq_true] at h1 ⊢
   exact ⟨h1.1, hsub _ h1.2⟩
 ·obtain ⟨e1, e2⟩ := fc_no2 (z := z) (c := nC O) (M := M) hfc
  rw [e1, e2]
  exact hc
end
end Go.Proofs.YtalgochmjddodaaGreat

namespace Go.Proofs.YtalgochmjddodaaGreat
open Go.RowKit W Kp Stl
structure Wbd (a : Wc) (s : Wst) : Prop where
  n0 : 16 <= a.N
  n1 : a.N <= 256
  o1 : a.O <= 1024
  y1 : s.y <= a.N
  g1 : s.g <= a.O
  l1 : s.ws.length = a.N + a.O
  r1 : s.rs.length = 12
structure KInv (a : Wc) (s : Wst) (Y G : List Int) : Prop where
  inv : WInv a.N s.y s.g s.ws Y G s.rs
  cd : CdI a.N a.O s.y s.g s.ws s.M Y G
section
variable {a : Wc} {s : Wst} {Y G : List Int}
theorem KInv.root (h : KInv a s Y G) (k : Nat) (x : Int) (hx : aB x = true -> aV x ∈ Y \/ aV x ∈ G) : KInv a { s with rs := s.rs.set k x } Y G := ⟨h.inv.root k x hx, h.cd⟩
theorem KInv.set (h : KInv a s Y G) (hb : Wbd a s) (k m : Nat) (hk : k < 12) (i : Int) (hm : m < 12) :
  KInv a { s with ws := stW a.N s.y s.g s.ws (s.rs.getD k 0) i (s.rs.getD m 0), M := stM a.N s.y s.g s.ws (s.rs.getD k 0) i (s.rs.getD m 0) (nC a.O) s.M } Y G := by
 refine ⟨?_, CdI.set h.inv h.cd hb.l1 hb.n1 hb.y1 hb.o1 hb.g1 _ _ _⟩
 dsimp only
 by_cases hfc : fcC a.N s.y s.g s.ws (s.rs.getD k 0) i = 0
 ·obtain ⟨t1, t2, t3, t4⟩ := fcC_zero hfc
  have hax : aB (s.rs.getD k 0) = true := by
   rw [<- h.inv.tb (O := a.O) hb.n1 hb.y1 hb.o1 hb.g1 k (by rw [hb.r1]; exact hk)]
   exact t1
  have hv := h.inv.at k (by rw [hb.r1]; exact hk) hax
  rw [h.inv.full.stands hb.y1 hv] at t4
  have hi := field_i h.inv.full hv t3 t4
  unfold stW
  rw [if_pos hfc, if_pos hi]
  exact h.inv.set hb.l1 hb.y1 hb.g1 hv t3 t4 (fun d => h.inv.at m (by rw [hb.r1]; exact hm) d)
 ·rw [(fc_no2 (M := s.M) (c := nC a.O) hfc).1]
  exact h.inv
theorem KInv.get (h : KInv a s Y G) (hb : Wbd a s) (k : Nat) (hk : k < 12) (i : Int) (hfc : fcC a.N s.y s.g s.ws (s.rs.getD k 0) i = 0) (ha : aB (ld a.N s.y s.g s.ws (aV (s.rs.getD k 0) + 1 + i)) = true) : aV (ld a.N s.y s.g s.ws (aV (s.rs.getD k 0) + 1 + i)) ∈ Y \/ aV (ld a.N s.y s.g s.ws (aV (s.rs.getD k 0) + 1 + i)) ∈ G := by
 obtain ⟨t1, t2, t3, t4⟩ := fcC_zero hfc
 have hax : aB (s.rs.getD k 0) = true := by
  rw [<- h.inv.tb (O := a.O) hb.n1 hb.y1 hb.o1 hb.g1 k (by rw [hb.r1]; exact hk)]
  exact t1
 have hv := h.inv.at k (by rw [hb.r1]; exact hk) hax
 rw [h.inv.full.stands hb.y1 hv] at t4
 exact h.inv.fd _ hv i t3 t4 ha
theorem KInv.make (h : KInv a s Y G) (hb : Wbd a s) (k f : Int) (m : Nat) : ∃ Y', KInv a { s with y := mkY a.N s.y k f, ws := mkW a.N s.y k f s.ws, rs := if 0 <= mkR a.N s.y k f then s.rs.set m (ew 3 (mkR a.N s.y k f)) else s.rs } Y' G := by
 cases hm : mkB a.N s.y k f
 ·refine ⟨Y, ?_⟩
  have e1 : mkY a.N s.y k f = s.y := by unfold mkY; rw [hm]; rfl
  have e2 : mkW a.N s.y k f s.ws = s.ws := by unfold mkW; rw [hm]; rfl
  have e3 : ¬ 0 <= mkR a.N s.y k f := by unfold mkR; rw [hm, if_neg (by simp)]; omega
  rw [e1, e2, if_neg e3]
  exact h
 ·have e3 : mkR a.N s.y k f = s.y := by unfold mkR; rw [hm]; rfl
  rw [e3, if_pos (by omega)]
  have h1 := h.inv.make (O := a.O) hb.l1 hm
  obtain ⟨z1, z2⟩ := ew_at s.y (by have := hb.y1; have := hb.n1; omega)
  exact ⟨Y ++ [(s.y : Int)], h1.root m _ (fun _ => Or.inl (by rw [z2]; simp)), CdI.make h.inv h.cd hb.l1 hm⟩
end
theorem doS_wood {c : Bc} {S : Ww × Wrs} {Y G : List Int} (h : KInv c.a S.1.s Y G) (hb : Wbd c.a S.1.s) (d A B C : Int) : ∃ Y', KInv c.a (doS c S d A B C).1.s Y' G := by
 unfold doS
 by_cases e0 : d = 0
 ·rw [if_pos e0]
  exact h.make hb A B (rtN C)
 rw [if_neg e0]
 by_cases e1 : d = 1
 ·rw [if_pos e1]
  exact ⟨Y, h.set hb _ _ (rtN_lt A) B (rtN_lt C)⟩
 rw [if_neg e1]
 by_cases e2 : d = 2
 ·rw [if_pos e2]
  refine ⟨Y, ?_⟩
  unfold boG
  dsimp only
  split
  ·rename_i hfc
   exact h.root _ _ (fun ha => h.get hb _ (rtN_lt A) B hfc ha)
  ·exact h
 rw [if_neg e2]
 by_cases e3 : d = 3
 ·rw [if_pos e3]
  refine ⟨Y, ?_⟩
  unfold boI
  dsimp only
  split
  ·rename_i hv
   refine h.root _ _ (fun ha => ?_)
   have h1 := (at_enc 1 A hv).1
   rw [h1] at ha
   exact absurd ha (by decide)
  ·exact h
 rw [if_neg e3]
 by_cases e4 : d = 4
 ·rw [if_pos e4]
  exact ⟨Y, h.root _ _ (fun ha => absurd ha (by decide))⟩
 rw [if_neg e4]
 by_cases e5 : d = 5
 ·rw [if_pos e5]
  refine ⟨Y, ?_⟩
  unfold boR Ww.rW
  dsimp only
  split
  ·split
   ·exact h
   ·exact h
  ·exact h
 rw [if_neg e5]
 exact ⟨Y, h⟩
end Go.Proofs.YtalgochmjddodaaGreat

namespace Go.Proofs.YtalgochmjddodaaGreat
open Go.RowKit W Kp Stl
theorem trn_wait {σ : Type} (o : SdOb σ) (is : σ -> Int -> Bool) (kp : σ -> Int -> Int × σ) (hl : ∀ s x, (o.wt (kp s x).2).length = (o.wt s).length) : ∀ (n : Nat) (s : σ) (d : List En), (o.wt (trn (cm o is kp) n s d).1).length + (trn (cm o is kp) n s d).2.length = (o.wt s).length + d.length
 | 0, s, d => rfl
 | n + 1, s, d => by
  have h1 := pts_wait o is kp hl s d
  have h2 := pts_len (cm o is kp) s d
  by_cases h : (pts (cm o is kp) s d).1.length = 0
  ·rw [trn_stop _ _ _ _ h]
   dsimp only
   omega
  ·rw [trn_go _ _ _ _ h, trn_wait o is kp hl n]
   omega
theorem st_len {σ : Type} (o : SdOb σ) (is : σ -> Int -> Bool) (kp : σ -> Int -> Int × σ) (nw : σ -> Int -> Int) (hl : ∀ s x, (o.wt (kp s x).2).length = (o.wt s).length) (s : σ) (r : List En) : (stR o is kp nw s r).length + (stQ o is kp nw s r).length <= r.length + (o.wt s).length := by
 have h1 := trn_wait o is kp hl ((r.filter (fun e => !is s e.2)).length + 1) s (r.filter (fun e => !is s e.2))
 have h2 : (stQ o is kp nw s r).length <= (o.wt (stS o is kp s r)).length := by
  unfold stQ
  rw [List.length_map]
  exact List.length_filter_le _ _
 have h3 : (stR o is kp nw s r).length <= (r.filter (fun e => is s e.2)).length := by
  unfold stR
  rw [List.length_map]
  exact List.length_filter_le _ _
 have h4 : (r.filter (fun e => is s e.2)).length + (r.filter (fun e => !is s e.2)).length = r.length := by
  clear h1 h2 h3
  induction r with
  | nil => rfl
  | cons e r ih =>
   simp only [List.filter_cons]
   cases is s e.2 <;> simp <;> omega
 have h5 : (o.wt (stS o is kp s r)).length <= (o.wt s).length + (r.filter (fun e => !is s e.2)).length := by
  unfold stS
  omega
 omega
theorem cut_len (a : Wc) (S : Ww) : (S.cut a).r.length + (S.cut a).q.length <= S.r.length + S.q.length := by
 unfold Ww.cut
 split
 ·exact Nat.le_refl _
 ·have h1 := st_len (noSd Cs) (fun s x => (S.s.k0 a).al s.1 x) (S.s.k0 a).ke (fun s x => (S.s.k0 a).nw s.1 x) (fun s x => ke_len (S.s.k0 a) s x) (S.t3 a) S.r
  have h2 : (S.t3 a).2.length = S.q.length := by
   unfold Ww.t3 Ck.sp
   rw [spr_len]
  dsimp only
  generalize S.t3 a = t at *
  have h3 : (noSd Cs).wt t = t.2 := rfl
  rw [h3] at h1
  unfold Ck.sR Ck.sQ
  omega
theorem doS_len (c : Bc) (S : Ww × Wrs) (d A B C : Int) : (doS c S d A B C).1.s.M.length <= S.1.s.M.length + 1 /\ (doS c S d A B C).1.r.length + (doS c S d A B C).1.q.length <= S.1.r.length + S.1.q.length + 1 := by
 unfold doS
 split
 ·exact ⟨Nat.le_succ _, Nat.le_succ _⟩
 split
 ·exact ⟨stM_len .., Nat.le_succ _⟩
 split
 ·exact ⟨Nat.le_succ _, Nat.le_succ _⟩
 split
 ·exact ⟨Nat.le_succ _, Nat.le_succ _⟩
 split
 ·exact ⟨Nat.le_succ _, Nat.le_succ _⟩
 split
 ·unfold boR Ww.rW
  dsimp only
  split
  ·split
   ·exact ⟨Nat.le_succ _, Nat.le_succ _⟩
   ·refine ⟨Nat.le_succ _, ?_⟩
    simp only [List.length_append, List.length_cons, List.length_nil]
    omega
  ·exact ⟨Nat.le_succ _, Nat.le_succ _⟩
 ·exact ⟨Nat.le_succ _, Nat.le_succ _⟩
end Go.Proofs.YtalgochmjddodaaGreat

namespace Go.Proofs.YtalgochmjddodaaGreat
set_option maxRecDepth 100000
set_option maxHeartbeats 4000000
open Go.RowKit W Kp Stl
theorem JI.pl {k : Jk} {s : Js} (h : JI k s) (hN : (0 : Int) <= k.a.N) : JI k (k.pl s).1 := by
 obtain ⟨P, _, e1, e2⟩ := pl_pos k (fun c => !(s.f c == -1)) k.T (s, k.a.N) h.nd (fun c _ => rfl)
 have P : Pos (fun c => pf (k.ld c)) (fun c => !(s.f c == -1)) (k.pl s).1.f k.a.N k.T (k.pl s).2 := P
 have e1 : (k.pl s).1.td = s.td := e1
 have e2 : (k.pl s).1.ep = s.ep := e2
 have hlost : k.lost (k.pl s).1 <= k.lost s := by
  unfold Jk.lost
  rw [<- List.countP_eq_length_filter, <- List.countP_eq_length_filter]
  refine List.countP_mono_left (fun c hc hf => ?_)
  cases q : (s.f c == -1)
  ·have := (P.bd (fun c => (pf_bd _).1) c hc (by rw [q]; rfl)).1
   have hf : (k.pl s).1.f c = -1 := by simpa using hf
   omega
  ·rfl
 have := h.sum
 exact ⟨h.nd, h.ps, by rw [e1]; exact h.td, by rw [e2]; exact h.ep, h.tl, by rw [e1, e2]; omega⟩
theorem ejL_keep {τ β : Type} (g : τ -> β) (fm : τ -> Int -> Int) (st : τ -> Int -> τ) (h : ∀ t a, g (st t a) = g t) : ∀ (l : List Int) (t : τ), g (ejL fm st t l) = g t
 | [], _ => rfl
 | a :: l, t => by
  have e : ejL fm st t (a :: l) = ejL fm st (ejS fm st t a) l := rfl
  rw [e, ejL_keep g fm st h l]
  unfold ejS
  split
  ·rfl
  ·exact h t a
theorem tlr_a (k : Jk) (s : Js) : ∀ n, (k.tlr s n).a = k.a
 | 0 => rfl
 | n + 1 => tlr_a k s n
theorem tlf_a (k : Jk) (s : Js) (a : Int) : ∀ n, (k.tlf s a n).a = k.a
 | 0 => rfl
 | n + 1 => tlf_a k s a n
theorem tlA_a (k : Jk) (s : Js) : (k.tlA s).a = k.a := by
 unfold Jk.tlA Jk.tlL
 rw [ejL_keep (fun k : Jk => k.a) _ _ (fun t a => ?_)]
 ·exact tlr_a k s 12
 ·unfold Jk.tl1
  rw [tlf_a]
  exact (brk_same t s a).1
theorem sl_a (k : Jk) (s : Js) : (k.sl s).a = k.a := by
 have e1 : (k.slL s k.G).1.a = k.a := ejL_keep (fun t : Jk × Int => t.1.a) (fun _ a => s.f a) (Jk.slS s) (fun _ _ => rfl) k.G (k, 0)
 have e2 : (k.sl2 s).a = (k.sl1 s).a := ejL_keep (fun t : Jk => t.a) (fun (_ : Jk) a => s.f a) (fun k a => k.cop a) (fun _ _ => rfl) k.Y (k.sl1 s)
 have e3 : (k.sl s).a = (k.sl2 s).a := rfl
 have e4 : (k.sl1 s).a = (k.slL s k.G).1.a := rfl
 rw [e3, e2, e4, e1]
theorem mj_wod {c : Jc} {k : Jk} {vt ve : Value} {F : Nat -> Prop} {s : Js} {w : World} (h : (mjV c k vt ve).J F s w) : ∃ FW, (wodO k.a).J FW k.s w /\ ∀ b, FW b -> F b := by
 obtain ⟨FW, own, h, hF⟩ := h
 exact ⟨FW, h.wd, fun b d => (hF b).2 (by rw [(h.w1 b).1 d]; decide)⟩
section
variable {a : Wc} {F : Nat -> Prop} {S : Ww} {w : World}
theorem cutJ_any (h : (wsO a).J F S w) (hq : S.q.length + S.r.length <= 90000) (hsl : S.jfull a = false -> ∃ G, SlG (S.k5 a) (S.j5 a) G /\ G 0 (S.k5 a, 0)) :
  Calls Tryz.prog 22 #[.pointer (some ⟨a.pw, 0, none⟩)] w fun e w' => ∃ F', e = .returned (.int .i64 (S.gcode a)) /\ (wsO a).J F' (S.gcut a) w' /\ Tn F w F' w' := by
 have hmf : ∀ (fn : Fn) (first cap : Array Value) (w : World), (Instr.makeFunc fn first cap).run Tryz.prog w = .ok (.func fn first cap) w := fun _ _ _ _ => rfl
 obtain ⟨F0, ar, cr, h1, hR, hRn, hF⟩ := h
 obtain ⟨FW, ad, cap, g1, g2, g3, g4, g5, g6, g7, g8⟩ := h1
 have HSL : Hid (S.jfull a = false -> ∃ G, SlG (S.k5 a) (S.j5 a) G /\ G 0 (S.k5 a, 0)) := hsl
 have hAt := (wod_arena g1).1
 have hO := hAt.hO
 have hN := hAt.hN'
 have HW : Hid ((wodO a).J FW S.s w /\ w.heap[a.sd]? = some (.cells #[.slice ar S.r.length cr, .slice ad S.q.length cap] 72 (0, 0)) /\ w.ownsRow 0 101 2 (.slice ad S.q.length cap) S.q.length (ev S.q) /\ w.ownsRow 0 101 2 (.slice ar S.r.length cr) S.r.length (ev S.r) /\ (∀ b, FW b -> F0 b) /\ F0 a.sd /\ ¬ FW a.sd) := ⟨g1, g2, g3, hR, g4, g5, g6⟩
 have HW2 : Hid ((∀ b, some b = (Value.slice ad S.q.length cap).ownBlock -> F0 b /\ ¬ FW b) /\ (∀ b, F0 b -> b < w.heap.size) /\ (∀ b, some b = (Value.slice ar S.r.length cr).ownBlock -> ¬ F0 b) /\ ∀ b, F b ↔ (F0 b \/ some b = (Value.slice ar S.r.length cr).ownBlock)) := ⟨g7, g8, hRn, hF⟩
 have P1 := newJ_any (S := S) g1 ⟨g2, hR, g3⟩ (by omega) (by omega)
 clear g1 g2 g3 g4 g5 g6 g7 g8 hR hRn hF hsl hAt
 have EC : Hid (S.gcode a = if S.jfull a = true then 3 else 0) := rfl
 have EG : Hid (S.gcut a = if S.jfull a = true then S else ⟨(S.k6 a).s, (S.k5 a).tR (S.j4 a, S.q3 a) (S.r3 a), (S.k5 a).tQ (S.j4 a, S.q3 a) (S.r3 a)⟩) := rfl
 go_enter Tryz.func22, Tryz.ntmps22
 go_wp2_with fail
 refine P1.mono ?_
 clear P1
 rintro e w1 ⟨c, br, dr, F1, rfl, hM1, hR1, hn1, sub1, hb1⟩
 have HT1 : Hid (Tn FW w F1 w1) := ⟨Fr.of hb1, sub1⟩
 have HR1 : Hid (w1.ownsRow 0 101 2 (.slice br S.r.length dr) S.r.length (ev S.r) /\ ∀ b, some b = (Value.slice br S.r.length dr).ownBlock -> ¬ F1 b /\ w.heap.size <= b) := ⟨hR1, hn1⟩
 obtain ⟨Fi, ⟨hJ1, hI1⟩, U1⟩ := mkSd_to hM1
 have hI1 : JI (S.s.j0 a) js0 := hI1
 have P2 := keepRootsJ_any hJ1 hI1
 have HU1 : Hid (∀ F2 t w', (mjO c (S.s.j0 a)).J F2 t w' -> JI (S.s.j0 a) t -> Tn Fi w1 F2 w' -> ∃ F', (mkSd (mjI c (S.s.j0 a)) c.bs (.slice br S.r.length dr)).J F' (t, S.q) w' /\ Tn F1 w1 F' w') := fun F2 t w' q1 q2 q3 => U1 (mjI c (S.s.j0 a)) F2 t w' ⟨q1, q2⟩ q3
 have HI2 : Hid (JI (S.s.j0 a) ((S.s.j0 a).kr js0 12)) := (Jl.kr hI1 12).ji
 clear hM1 hR1 hn1 sub1 hb1 hJ1 hI1 U1
 go_wp2_with fail
 refine P2.mono ?_
 clear P2
 rintro e w2 ⟨F2, rfl, hJ2, hT2⟩
 obtain ⟨F3, hM3, hT3⟩ := HU1.out F2 _ w2 hJ2 HI2.out hT2
 have P3 := spreadJ_any (c := c) rfl hM3 (by show S.q.length <= 90000; omega)
 have HT3 : Hid (Tn FW w F3 w2 /\ Tn F1 w1 F3 w2) := ⟨HT1.out.trans hT3, hT3⟩
 clear hJ2 hT2 hM3 hT3 HU1 HI2
 go_wp2_with fail
 refine P3.mono ?_
 clear P3
 rintro e w3 ⟨F4, rfl, hM4, hT4⟩
 have hM4 : (mkSd (mjI c (S.s.j0 a)) c.bs (.slice br S.r.length dr)).J F4 (S.j2 a) w3 := hM4
 obtain ⟨Fk, ⟨⟨vt3, ve3, hV3⟩, hI3⟩, _⟩ := mkSd_to hM4
 obtain ⟨_, _, _, _, d4, _⟩ := mj_cells hV3
 have l4 := World.block_lt_of_cell? w3 _ d4
 have hd := (Below.refl w3.heap.size w3).drew
 have HM4 : Hid ((mkSd (mjI c (S.s.j0 a)) c.bs (.slice br S.r.length dr)).J F4 (S.j2 a) w3.drew /\ Tn FW w F4 w3.drew /\ w3.drew.ownsRow 0 101 2 (.slice br S.r.length dr) S.r.length (ev S.r) /\ (∀ b, F4 b -> b < w3.heap.size) /\ w.heap.size <= w3.heap.size) := by
  have hT14 : Tn F1 w1 F4 w3 := HT3.out.2.trans hT4
  refine ⟨(mkSd (mjI c (S.s.j0 a)) c.bs (.slice br S.r.length dr)).below hM4 hd, (HT3.out.1.trans hT4).below hd, ?_, (mkSd (mjI c (S.s.j0 a)) c.bs (.slice br S.r.length dr)).lt hM4, (HT3.out.1.trans hT4).fr.size⟩
  exact row_keep HR1.out.1 (fun b e => (hd.block b (Nat.lt_of_lt_of_le (row_lt HR1.out.1 b e).2 hT14.fr.size)).trans (hT14.fr.block b (row_lt HR1.out.1 b e).2 (HR1.out.2 b e).1))
 have hlq : (S.j2 a).2.length + S.r.length <= 90000 := by
  have : (S.j2 a).2.length = S.q.length := sprJ_len _ _ _
  omega
 have EP : Hid (∀ w5, Below w3.drew.heap.size w3.drew w5 -> w5.heap[w3.heap.size]? = some (boxJ c) -> w5.heap[w3.heap.size + 1]? = some (boxK (fkJ c)) -> Calls Tryz.prog 62 #[.pointer (some ⟨c.bs, 0, none⟩), .agg #[(faJ w3.heap.size).v, (fpJ (w3.heap.size + 1)).v, (fnJ c).v]] w5 fun e w' => ∃ a1 c1 F', e = .returned (.tuple #[]) /\ (mkSd (mjI c (S.s.j0 a)) c.bs (.slice a1 (S.r3 a).length c1)).J F' (S.j3 a, S.q3 a) w' /\ w'.ownsRow 0 101 2 (.slice a1 (S.r3 a).length c1) (S.r3 a).length (ev (S.r3 a)) /\ (∀ b, some b = (Value.slice a1 (S.r3 a).length c1).ownBlock -> ¬ F' b /\ w5.heap.size <= b) /\ Tn FW w F' w' /\ w.heap.size <= w5.heap.size) := fun w5 hb5 hx5 hy5 => by
  have hs : w3.drew.heap.size = w3.heap.size := rfl
  refine (settleJ_any (t := S.j2 a) (r := S.r) rfl ((mkSd (mjI c (S.s.j0 a)) c.bs (.slice br S.r.length dr)).below HM4.out.1 hb5) (row_keep HM4.out.2.2.1 (fun b e => hb5.block b (row_lt HM4.out.2.2.1 b e).2)) hlq w3.heap.size (w3.heap.size + 1) (by omega) hx5 hy5 (fun d => by have := HM4.out.2.2.2.1 _ d; omega) (fun d => by have := HM4.out.2.2.2.1 _ d; omega)).mono ?_
  rintro e w' ⟨a1, c1, F', rfl, q1, q2, q3, q4, q5⟩
  have T5 := HM4.out.2.1.below hb5
  have z5 := HM4.out.2.2.2.2
  have z6 := hb5.size
  refine ⟨a1, c1, F', rfl, q1, q2, q3, ⟨T5.fr.trans q4 (fun b d => ?_), fun b d => ?_⟩, by omega⟩
  ·rcases d with d | d | d
   ·exact T5.sub b d
   ·exact Or.inr (by omega)
   ·exact Or.inr (by omega)
  ·exact (q5 b d).elim (T5.sub b) (fun d => Or.inr (by omega))
 clear hM4 hT4 hV3 hI3 hd HM4 HT3 HR1 HT1 hlq
 go_wp2_with fail
 go_region_held3 (fun w' => w'.cell? ⟨c.pk, 4, none⟩ = some (.pointer (some ⟨c.bs, 0, none⟩))) (go_keep)
  (first
   | (go_at_call 75; refine (looksJ_any (fkJ c) w3.drew c.pk).mono ?_; rintro e w5 ⟨rfl, hx5, hy5, hb5⟩; have y4 := (hb5.cell (p := ⟨c.pk, 4, none⟩) l4).trans d4; have HX : Hid (w5.heap[w3.heap.size]? = some (boxJ c) /\ w5.heap[w3.heap.size + 1]? = some (boxK (fkJ c)) /\ Below w3.drew.heap.size w3.drew w5) := ⟨hx5, hy5, hb5⟩; clear hx5 hy5 hb5)
   | (go_at_call 62; refine (EP.out w5 HX.out.2.2 HX.out.1 HX.out.2.1).mono ?_; rintro e w6 ⟨a1, c1, F6, rfl, hM6, hR6, hn6, hT6, hz6⟩; obtain ⟨_, ⟨⟨vt6, ve6, hV6⟩, _⟩, _⟩ := mkSd_to hM6; obtain ⟨_, _, _, _, u4, _⟩ := mj_cells hV6; have HM6 : Hid ((mkSd (mjI c (S.s.j0 a)) c.bs (.slice a1 (S.r3 a).length c1)).J F6 (S.j3 a, S.q3 a) w6 /\ w6.ownsRow 0 101 2 (.slice a1 (S.r3 a).length c1) (S.r3 a).length (ev (S.r3 a)) /\ (∀ b, some b = (Value.slice a1 (S.r3 a).length c1).ownBlock -> ¬ F6 b /\ w.heap.size <= b) /\ Tn FW w F6 w6) := ⟨hM6, hR6, fun b e => ⟨(hn6 b e).1, Nat.le_trans hz6 (hn6 b e).2⟩, hT6⟩; clear hM6 hR6 hn6 hT6 hz6 hV6))
 all_goals
  clear d4 y4 u4 EP HX l4
  obtain ⟨Fm, ⟨⟨vt6, ve6, hV6⟩, hI6⟩, U6⟩ := mkSd_to HM6.out.1
  have hI6 : JI (S.s.j0 a) (S.j3 a) := hI6
  have hV6 : (mjV c (S.s.j0 a) vt6 ve6).J Fm (S.j3 a) w6 := hV6
  have P4 := placeJ_any hV6 hI6.tl hI6.ps
  have HI7 : Hid (JI (S.s.j0 a) (S.j4 a)) := hI6.pl (by omega)
  have EN : Hid (((S.s.j0 a).pl (S.j3 a)).2 - (S.s.j0 a).a.N = S.n4 a /\ ((S.s.j0 a).pl (S.j3 a)).1 = S.j4 a) := ⟨rfl, rfl⟩
  rw [EN.out.1, EN.out.2] at P4
  have HU6 : Hid (∀ F2 w' vt ve, (mjV c (S.s.j0 a) vt ve).J F2 (S.j4 a) w' -> Tn Fm w6 F2 w' -> ∃ F', (mkSd (mjI c (S.s.j0 a)) c.bs (.slice a1 (S.r3 a).length c1)).J F' (S.j4 a, S.q3 a) w' /\ Tn F6 w6 F' w') := fun F2 w' vt ve q1 q3 => U6 (mjI c (S.s.j0 a)) F2 (S.j4 a) w' ⟨⟨vt, ve, q1⟩, HI7.out⟩ q3
  clear hV6 hI6 U6
  go_wp2_with fail
  refine P4.mono ?_
  clear P4
  rintro e w7 ⟨F7, rfl, hV7, hT7⟩
  obtain ⟨F8, hM8, hT8⟩ := HU6.out F7 w7 vt6 ve6 hV7 hT7
  have P5 := roomJ_any hV7
  have EO : Hid ((S.s.j0 a).a.O = a.O) := rfl
  rw [EO.out] at P5
  have HM8 : Hid ((mkSd (mjI c (S.s.j0 a)) c.bs (.slice a1 (S.r3 a).length c1)).J F8 (S.j4 a, S.q3 a) w7 /\ Tn FW w F8 w7 /\ w7.ownsRow 0 101 2 (.slice a1 (S.r3 a).length c1) (S.r3 a).length (ev (S.r3 a)) /\ ∀ b, some b = (Value.slice a1 (S.r3 a).length c1).ownBlock -> ¬ F8 b) := by
   refine ⟨hM8, HM6.out.2.2.2.trans hT8, row_fr HM6.out.2.1 hT8.fr (fun b e => (HM6.out.2.2.1 b e).1), fun b e d => (hT8.sub b d).elim (HM6.out.2.2.1 b e).1 (fun d => by have := (row_lt HM6.out.2.1 b e).2; omega)⟩
  clear hV7 hT7 hM8 hT8 HU6 HM6
  go_wp2_with fail
  refine P5.mono ?_
  clear P5
  rintro e w8 ⟨rfl, hb8⟩
  have HM9 : Hid ((mkSd (mjI c (S.s.j0 a)) c.bs (.slice a1 (S.r3 a).length c1)).J F8 (S.j4 a, S.q3 a) w8 /\ Tn FW w F8 w8 /\ w8.ownsRow 0 101 2 (.slice a1 (S.r3 a).length c1) (S.r3 a).length (ev (S.r3 a)) /\ ∀ b, some b = (Value.slice a1 (S.r3 a).length c1).ownBlock -> ¬ F8 b) := ⟨(mkSd (mjI c (S.s.j0 a)) c.bs (.slice a1 (S.r3 a).length c1)).below HM8.out.1 hb8, HM8.out.2.1.below hb8, row_keep HM8.out.2.2.1 (fun b e => hb8.block b (row_lt HM8.out.2.2.1 b e).2), HM8.out.2.2.2⟩
  clear hb8 HM8
  by_cases hf : (a.O : Int) < S.n4 a
  ·have hfull : S.jfull a = true := decide_eq_true hf
   have HZ : Hid (∃ F', (wsO a).J F' (S.gcut a) w8 /\ Tn F w F' w8) := by
    have eG := EG.out
    rw [if_pos hfull] at eG
    rw [eG]
    obtain ⟨_, ⟨⟨vt, ve, hV⟩, _⟩, _⟩ := mkSd_to HM9.out.1
    obtain ⟨Fx, ax, cx, ⟨⟨vt, ve, hV⟩, _⟩, _, _, m4, _⟩ := HM9.out.1
    obtain ⟨FW', q1, q2⟩ := mj_wod hV
    have q1 : (wodO a).J FW' S.s w8 := q1
    have T : Tn FW w FW' w8 := HM9.out.2.1.less (fun b d => m4 b (q2 b d))
    obtain ⟨g1, g2, g3, hR, g4, g5, g6⟩ := HW.out
    obtain ⟨g7, g8, hRn, hF⟩ := HW2.out
    obtain ⟨FW0, _, U⟩ := mkSd_to (o := wodO a) (F := F0) (t := (S.s, S.q)) (w := w) (p := a.sd) (vr := .slice ar S.r.length cr) ⟨FW, ad, cap, g1, g2, g3, g4, g5, g6, g7, g8⟩
    have lsd := lt_of_some g2
    refine ⟨fun b => (FW' b \/ b = a.sd \/ some b = (Value.slice ad S.q.length cap).ownBlock) \/ some b = (Value.slice ar S.r.length cr).ownBlock, ⟨fun b => FW' b \/ b = a.sd \/ some b = (Value.slice ad S.q.length cap).ownBlock, ar, cr, ⟨FW', ad, cap, q1, (T.fr.block _ lsd g6).trans g2, row_fr g3 T.fr (fun b e => (g7 b e).2), fun b d => Or.inl d, Or.inr (Or.inl rfl), fun d => (T.sub _ d).elim g6 (fun d => by omega), fun b e => ⟨Or.inr (Or.inr e), fun d => (T.sub b d).elim (g7 b e).2 (fun d => by have := (row_lt g3 b e).2; omega)⟩, fun b d => ?_⟩, row_fr hR T.fr (fun b e d => hRn b e (g4 b d)), fun b e d => ?_, fun b => Iff.rfl⟩, ⟨T.fr.mono (fun b d => (hF b).2 (Or.inl (g4 b d))), fun b d => ?_⟩⟩
    ·rcases d with d | d | d
     ·exact (wodO a).lt q1 b d
     ·have := T.fr.size
      omega
     ·have := (row_lt g3 b d).2
      have := T.fr.size
      omega
    ·have hbl := (row_lt hR b e).2
     rcases d with d | d | d
     ·exact (T.sub b d).elim (fun d => hRn b e (g4 b d)) (fun d => by omega)
     ·exact hRn b e (by rw [d]; exact g5)
     ·exact hRn b e (g7 b d).1
    ·rcases d with (d | d | d) | d
     ·exact (T.sub b d).imp (fun d => (hF b).2 (Or.inl (g4 b d))) id
     ·exact Or.inl ((hF b).2 (Or.inl (by rw [d]; exact g5)))
     ·exact Or.inl ((hF b).2 (Or.inl (g7 b d).1))
     ·exact Or.inl ((hF b).2 (Or.inr d))
   have eC := EC.out
   rw [if_pos hfull] at eC
   have HC : Hid (S.gcode a = 3) := eC
   have hf2 : decide ((a.O : Int) < S.n4 a) = true := decide_eq_true hf
   clear HM9 HW HW2 HSL EG EC eC
   go_wp2_with fail
   go_ret
   obtain ⟨F', j1, j2⟩ := HZ.out
   exact ⟨F', by rw [HC.out]; rfl, j1, j2⟩
  ·have hfull : S.jfull a = false := decide_eq_false hf
   obtain ⟨GG, sg1, sg2⟩ := HSL.out hfull
   have HSG : Hid (SlG (S.k5 a) (S.j5 a) GG /\ GG 0 (S.k5 a, 0)) := ⟨sg1, sg2⟩
   have hlr : (S.q3 a).length + (S.r3 a).length <= 90000 := by
    have h1 := st_len (noSd Js) (fun s x => (S.s.j0 a).al s.1 x) (S.s.j0 a).ke (fun s x => (S.s.j0 a).nw s.1 x) (fun s x => keJ_len (S.s.j0 a) s x) (S.j2 a) S.r
    have h2 : (S.j2 a).2.length = S.q.length := sprJ_len _ _ _
    have h3 : (noSd Js).wt (S.j2 a) = (S.j2 a).2 := rfl
    have h4 : S.r3 a = stR (noSd Js) (fun s x => (S.s.j0 a).al s.1 x) (S.s.j0 a).ke (fun s x => (S.s.j0 a).nw s.1 x) (S.j2 a) S.r := rfl
    have h5 : S.q3 a = stQ (noSd Js) (fun s x => (S.s.j0 a).al s.1 x) (S.s.j0 a).ke (fun s x => (S.s.j0 a).nw s.1 x) (S.j2 a) S.r := rfl
    rw [h3, <- h4, <- h5] at h1
    omega
   have nsd : ¬ F8 a.sd := fun d => (HM9.out.2.1.sub _ d).elim HW.out.2.2.2.2.2.2 (fun d => by have := lt_of_some HW.out.2.1; omega)
   have P6 := tellJ_any (k := S.s.j0 a) (t := (S.j4 a, S.q3 a)) rfl HM9.out.1 HM9.out.2.2.1 HM9.out.2.2.2 hlr (v1 := .slice ar S.r.length cr) (v2 := .slice ad S.q.length cap) ((HM9.out.2.1.fr.block a.sd (lt_of_some HW.out.2.1) HW.out.2.2.2.2.2.2).trans HW.out.2.1) nsd
   have E5 : Hid ((S.s.j0 a).tlA (S.j4 a) = S.k5 a) := rfl
   dsimp only at P6
   rw [E5.out] at P6
   have hf2 : decide ((a.O : Int) < S.n4 a) = false := decide_eq_false hf
   clear sg1 sg2 hlr
   go_wp2_with fail
   refine P6.mono ?_
   clear P6
   rintro e w9 ⟨a2, c2, F9, rfl, hM9, hR9, hn9, hsd9, nsd9, hf9, hs9⟩
   have HTT : Hid (Fr (fun b => FW b \/ b = a.sd) w w9 /\ (∀ b, F9 b -> FW b \/ w.heap.size <= b) /\ w.heap.size <= w8.heap.size) := by
    have T := HM9.out.2.1
    have z := T.fr.size
    refine ⟨(T.fr.mono (fun b d => Or.inl d)).trans hf9 (fun b d => ?_), fun b d => (hs9 b d).elim (T.sub b) (fun d => Or.inr (by omega)), z⟩
    rcases d with d | d
    ·exact (T.sub b d).imp Or.inl id
    ·exact Or.inl (Or.inr d)
   obtain ⟨Fz, az, cz, ⟨⟨vt, ve, hVz⟩, hIz⟩, m2, m3, m4, m5, m6, m7, m8⟩ := hM9
   have hVz : (mjV c (S.k5 a) vt ve).J Fz (S.j5 a) w9 := hVz
   have hIz : JI (S.k5 a) (S.j5 a) := hIz
   have P7 := slideJ_any HSG.out.1 HSG.out.2 hVz hIz.tl hIz.ps
   have E6 : Hid ((S.k5 a).sl (S.j5 a) = S.k6 a) := rfl
   rw [E6.out] at P7
   obtain ⟨R5, hR5⟩ : ∃ R5, (S.k5 a).tR (S.j4 a, S.q3 a) (S.r3 a) = R5 := ⟨_, rfl⟩
   obtain ⟨Q5, hQ5⟩ : ∃ Q5, (S.k5 a).tQ (S.j4 a, S.q3 a) (S.r3 a) = Q5 := ⟨_, rfl⟩
   rw [hR5] at hR9 hn9 m2
   dsimp only at m2 m3 m7
   rw [hQ5] at m2 m3 m7
   have HM : Hid (w9.heap[a.sd]? = some (.cells #[.slice a2 R5.length c2, .slice az Q5.length cz] 72 (0, 0)) /\ w9.ownsRow 0 101 2 (.slice az Q5.length cz) Q5.length (ev Q5) /\ (∀ b, Fz b -> F9 b) /\ ¬ F9 a.sd /\ (∀ b, some b = (Value.slice az Q5.length cz).ownBlock -> F9 b /\ ¬ Fz b) /\ (∀ b, F9 b -> b < w9.heap.size)) := ⟨hsd9.trans m2, m3, m4, nsd9, m7, m8⟩
   have HR9 : Hid (w9.ownsRow 0 101 2 (.slice a2 R5.length c2) R5.length (ev R5) /\ ∀ b, some b = (Value.slice a2 R5.length c2).ownBlock -> ¬ F9 b /\ w8.heap.size <= b) := ⟨hR9, hn9⟩
   have HRQ : Hid ((S.k5 a).tR (S.j4 a, S.q3 a) (S.r3 a) = R5 /\ (S.k5 a).tQ (S.j4 a, S.q3 a) (S.r3 a) = Q5) := ⟨hR5, hQ5⟩
   clear hR5 hQ5 m2 m3 m4 m5 m6 m7 m8 hVz hIz hR9 hn9 hsd9 nsd9 hf9 hs9 HM9 nsd
   go_wp2_with fail
   refine P7.mono ?_
   clear P7
   rintro e w10 ⟨F10, rfl, hV10, hT10⟩
   have HZ : Hid (∃ F', (wsO a).J F' (S.gcut a) w10 /\ Tn F w F' w10) := by
    have eG := EG.out
    rw [if_neg (by rw [hfull]; simp), HRQ.out.1, HRQ.out.2] at eG
    rw [eG]
    obtain ⟨FW', q1, q2⟩ := mj_wod hV10
    have ea : (S.k6 a).a = a := by
     have e1 : S.k6 a = (S.k5 a).sl (S.j5 a) := rfl
     have e2 : S.k5 a = (S.s.j0 a).tlA (S.j4 a) := rfl
     rw [e1, sl_a, e2, tlA_a]
     rfl
    rw [ea] at q1
    obtain ⟨b1, b2, b3, b4, b5, b6⟩ := HM.out
    obtain ⟨r1, r2⟩ := HR9.out
    obtain ⟨t1, t2, t3⟩ := HTT.out
    obtain ⟨g1, g2, g3, hR, g4, g5, g6⟩ := HW.out
    obtain ⟨g7, g8, hRn, hF⟩ := HW2.out
    have lsd := lt_of_some g2
    have lz := t1.size
    have l10 := hT10.fr.size
    have s10 : ∀ b, FW' b -> Fz b \/ w9.heap.size <= b := fun b d => hT10.sub b (q2 b d)
    have nz : ¬ Fz a.sd := fun d => b4 (b3 _ d)
    have hap : ∀ b, some b = (Value.slice a2 R5.length c2).ownBlock -> ¬ (FW' b \/ b = a.sd \/ some b = (Value.slice az Q5.length cz).ownBlock) := fun b e d => by
     have q := r2 b e
     rcases d with d | d | d
     ·exact (s10 b d).elim (fun d => q.1 (b3 b d)) (fun d => by have := (row_lt r1 b e).2; omega)
     ·omega
     ·exact q.1 (b5 b d).1
    refine ⟨fun b => (FW' b \/ b = a.sd \/ some b = (Value.slice az Q5.length cz).ownBlock) \/ some b = (Value.slice a2 R5.length c2).ownBlock, ⟨fun b => FW' b \/ b = a.sd \/ some b = (Value.slice az Q5.length cz).ownBlock, a2, c2, ⟨FW', az, cz, q1, (hT10.fr.block _ (by omega) nz).trans b1, row_fr b2 hT10.fr (fun b e => (b5 b e).2), fun b d => Or.inl d, Or.inr (Or.inl rfl), fun d => (s10 _ d).elim nz (fun d => by omega), fun b e => ⟨Or.inr (Or.inr e), fun d => (s10 b d).elim (b5 b e).2 (fun d => by have := (row_lt b2 b e).2; omega)⟩, fun b d => ?_⟩, row_fr r1 hT10.fr (fun b e d => (r2 b e).1 (b3 b d)), hap, fun b => Iff.rfl⟩, ⟨(t1.trans hT10.fr (fun b d => (t2 b (b3 b d)).imp Or.inl id)).mono (fun b d => ?_), fun b d => ?_⟩⟩
    ·rcases d with d | d | d
     ·exact (wodO a).lt q1 b d
     ·omega
     ·have := (row_lt b2 b d).2
      omega
    ·rcases d with d | d
     ·exact (hF b).2 (Or.inl (g4 b d))
     ·exact (hF b).2 (Or.inl (by rw [d]; exact g5))
    ·rcases d with (d | d | d) | d
     ·rcases s10 b d with d | d
      ·exact (t2 b (b3 b d)).imp (fun d => (hF b).2 (Or.inl (g4 b d))) id
      ·exact Or.inr (by omega)
     ·exact Or.inl ((hF b).2 (Or.inl (by rw [d]; exact g5)))
     ·exact (t2 b (b5 b d).1).imp (fun d => (hF b).2 (Or.inl (g4 b d))) id
     ·have := (r2 b d).2
      exact Or.inr (by omega)
   have eC := EC.out
   rw [if_neg (by rw [hfull]; simp)] at eC
   have HC : Hid (S.gcode a = 0) := eC
   clear HM HR9 HTT HRQ HW HW2 EG EC eC hV10 hT10
   go_wp2_with fail
   go_ret
   obtain ⟨F', j1, j2⟩ := HZ.out
   exact ⟨F', by rw [HC.out]; rfl, j1, j2⟩
end
end Go.Proofs.YtalgochmjddodaaGreat

namespace Go.Proofs.YtalgochmjddodaaGreat
open Go.RowKit W Kp Stl
theorem Tile.next {L : Int -> Int} {hi : Int} : ∀ {l : List Int} {a : Int}, Tile L hi a l -> ∀ x ∈ l, x + (1 + pf (L x)) ∈ l \/ x + (1 + pf (L x)) = hi
 | [], _, _, x, hx => by cases hx
 | y :: l, a, h, x, hx => by
  obtain ⟨e, _, _, ht⟩ := h
  rcases List.mem_cons.1 hx with d | d
  ·subst d
   subst e
   match l, ht with
   | [], ht => exact Or.inr ht
   | y' :: l', ht =>
    obtain ⟨e', _⟩ := ht
    exact Or.inl (by rw [<- e']; simp)
  ·exact (Tile.next ht x d).imp (List.mem_cons_of_mem _) id
theorem tile_behind {L : Int -> Int} {hi : Int} : ∀ {l m : List Int} {a x y : Int}, Tile L hi a (l ++ m) -> x ∈ l -> y ∈ m -> x < y
 | [], _, _, _, _, _, hx, _ => by cases hx
 | u :: l, m, a, x, y, h, hx, hy => by
  obtain ⟨e, _, _, ht⟩ := h
  have hp := pf_bd (L a)
  rcases List.mem_cons.1 hx with d | d
  ·have := (ht.mem y (List.mem_append_right l hy)).1
   omega
  ·exact tile_behind ht d hy
structure LI (k : Ck) (z : C0) (s : Cs) (H D : List Int) : Prop where
  mi : MI k z s H
  bo : s.nx ∈ H \/ s.nx = (k.N : Int) + s.g
  lo : ∀ b ∈ H, b < s.nx -> Lo k s b
  ld : ∀ b ∈ D, Lo k s b
  dg : ∀ b ∈ D, b ∈ z.G
section
variable {k : Ck} {z : C0} {s t : Cs} {H D : List Int}
theorem LI.lb1 (h : LI k z s H D) (hn : hB k.N s.g s.nx = true) : ∃ H', LI k z { k.lk s s.nx with nx := s.nx + (1 + pf (k.ld s s.nx)) } H' D /\ Pg k s { k.lk s s.nx with nx := s.nx + (1 + pf (k.ld s s.nx)) } /\ ∃ H2, H' = H ++ H2 := by
 have hb := hB_yes hn
 have hnx : s.nx ∈ H := h.bo.resolve_right (by omega)
 obtain ⟨a, ho⟩ := h.mi.from (List.mem_append_right z.G hnx)
 have hbd := h.mi.bd (List.mem_append_right z.G hnx)
 have hpf := pf_bd (k.ld s s.nx)
 have hg := h.mi.ci.hg
 obtain ⟨H', m1, m2, ⟨H2, m3⟩, m4, m5, m6⟩ := h.mi.lk ho
 obtain ⟨x1, x2⟩ := lk_nx k s s.nx
 have e0 := h.mi.hd a _ ho
 have e1 := m1.hd a _ (m2.or ho)
 have mt := m1.turn (k.lk s s.nx).wk (k.lk s s.nx).ep (k.lk s s.nx).rs (s.nx + (1 + pf (k.ld s s.nx))) m1.ci.wk0 m1.ci.ep0 (by omega) (by omega)
 have hlo := h.mi.hlo _ hnx
 have m7 : ∀ b ∈ H2, s.nx < b := fun b d => tile_behind (by have := m1.full.to; rw [m3, <- List.append_assoc] at this; exact this) (List.mem_append_right z.G hnx) d
 have hsub : ∀ b, b ∈ H -> b ∈ H' := fun b d => by rw [m3]; exact List.mem_append_left _ d
 have keep : ∀ b, (∃ a, k.or z s a b) -> Lo k s b -> Lo k { k.lk s s.nx with nx := s.nx + (1 + pf (k.ld s s.nx)) } b := fun b ⟨a, o⟩ l => by
  have l2 : Lo k (k.lk s s.nx) b := Lo.go l h.mi m1 m2 o (m5 b) (m6 b)
  exact l2
 refine ⟨H', ⟨mt, ?_, fun b d lt => ?_, fun b d => keep b ⟨b, Or.inl ⟨rfl, h.dg b d⟩⟩ (h.ld b d), h.dg⟩, ⟨m2.f, m2.g, m2.cl⟩, H2, m3⟩
 ·have nn := Tile.next m1.full.to s.nx (List.mem_append_right z.G (hsub _ hnx))
  have e2 : Proofs.YtalgochmjddodaaGreat.ld k.N k.y (k.lk s s.nx).g (k.lk s s.nx).ws s.nx = k.ld s s.nx := e1.trans e0.symm
  rw [e2] at nn
  rcases nn with d | d
  ·rcases List.mem_append.1 d with d | d
   ·have := h.mi.zh _ d
    omega
   ·exact Or.inl d
  ·exact Or.inr d
 ·dsimp only at lt
  by_cases eb : b = s.nx
  ·subst eb
   exact m4
  ·by_cases lb : b < s.nx
   ·have hbH : b ∈ H := by
     rw [m3] at d
     rcases List.mem_append.1 d with d | d
     ·exact d
     ·exact absurd (m7 b d) (by omega)
    exact keep b (h.mi.from (List.mem_append_right z.G hbH)) (h.lo b hbH lb)
   ·have ap := m1.full.to.apart s.nx (List.mem_append_right z.G (hsub _ hnx)) b (List.mem_append_right z.G d) (by omega)
    have e2 : Proofs.YtalgochmjddodaaGreat.ld k.N k.y (k.lk s s.nx).g (k.lk s s.nx).ws s.nx = k.ld s s.nx := e1.trans e0.symm
    rw [e2] at ap
    omega
end
end Go.Proofs.YtalgochmjddodaaGreat

namespace Go.Proofs.YtalgochmjddodaaGreat
open Go.RowKit W Kp Stl
section
variable {k : Ck} {z : C0} {s t : Cs} {H D : List Int}
theorem LI.lift (h : LI k z s H D) {K : List Int} (ht : MI k z t K) (p : Pg k s t) (hw : t.wk = s.wk) (he : t.ep = s.ep) (hn : t.nx = s.nx) (hb : t.nx ∈ K \/ t.nx = (k.N : Int) + t.g) (hK : ∀ b ∈ K, b < t.nx -> b ∈ H) : LI k z t K D :=
 ⟨ht, hb, fun b d lt => by
  have hbH := hK b d lt
  obtain ⟨a, o⟩ := h.mi.from (List.mem_append_right z.G hbH)
  exact Lo.go (h.lo b hbH (by rw [<- hn]; exact lt)) h.mi ht p o (fun c => by rw [hw]; exact c) (fun c => by rw [he]; exact c), fun b d => Lo.go (h.ld b d) h.mi ht p (Or.inl ⟨rfl, h.dg b d⟩) (fun c => by rw [hw]; exact c) (fun c => by rw [he]; exact c), h.dg⟩
theorem LI.nxle (h : LI k z s H D) : s.nx <= (k.N : Int) + s.g := by
 rcases h.bo with d | d
 ·have := (h.mi.bdH d).2
  omega
 ·omega
theorem LI.cp (h : LI k z s H D) {a : Int} (ha : a ∈ k.T) (hf : s.f a = -1) : LI k z (k.cp s a) (H ++ [((k.N + s.g : Nat) : Int)]) D /\ Pg k s (k.cp s a) := by
 obtain ⟨m1, m2, _⟩ := h.mi.cp ha hf
 have hle := h.nxle
 refine ⟨h.lift m1 m2 rfl rfl rfl ?_ (fun b d lt => ?_), m2⟩
 ·show s.nx ∈ _ \/ _
  rcases h.bo with d | d
  ·exact Or.inl (List.mem_append_left _ d)
  ·exact Or.inl (List.mem_append_right _ (by rw [d]; simp))
 ·have lt2 : b < s.nx := lt
  rcases List.mem_append.1 d with d | d
  ·exact d
  ·rw [List.mem_singleton] at d
   omega
theorem LI.br (h : LI k z s H D) (x : Int) : ∃ H', LI k z (k.br s x).2 H' D /\ Pg k s (k.br s x).2 /\ (∃ H2, H' = H ++ H2) /\ k.yg (k.br s x).1 = false /\ (∀ x0, k.ml s x0 x -> k.ml (k.br s x).2 x0 (k.br s x).1) := by
 obtain ⟨_, _, _, m3, _, m5, _⟩ := h.mi.br x
 cases hls : k.ls s x
 ·have e : (k.br s x).2 = s := by
   unfold Ck.br
   rw [hls]
   rfl
  rw [e] at m5 ⊢
  exact ⟨H, h, Pg.refl _ _, ⟨[], by simp⟩, m3, m5⟩
 ·have e : (k.br s x).2 = k.cp s (aV x) := by
   unfold Ck.br
   rw [if_pos hls]
  have hl2 := hls
  unfold Ck.ls at hl2
  rw [Bool.and_eq_true] at hl2
  have h1 := hl2.1
  unfold Ck.yg at h1
  rw [Bool.and_eq_true] at h1
  obtain ⟨j1, j2⟩ := h.cp (a := aV x) (by simpa using h1.2) (by simpa using hl2.2)
  rw [e] at m5 ⊢
  exact ⟨_, j1, j2, ⟨_, rfl⟩, m3, m5⟩
theorem LI.kf (h : LI k z s H D) {a b i : Int} (ho : k.or z s a b) (i0 : 0 <= i) (i1 : i < pf (k.l0 z a)) : ∃ H', LI k z (k.kf s (b + 1 + i)) H' D /\ Pg k s (k.kf s (b + 1 + i)) /\ k.yg (k.ld (k.kf s (b + 1 + i)) (b + 1 + i)) = false /\ ∃ H2, H' = H ++ H2 := by
 obtain ⟨H', m1, m2, m4, m3, m5⟩ := h.br (k.ld s (b + 1 + i))
 obtain ⟨s1, s2, s3⟩ := m1.mi.st (m2.or ho) i0 i1 (m5 _ (h.mi.fd a b ho i i0 i1))
 have p := Pg.st (a := b + 1 + i) m1.mi.ci m3
 refine ⟨H', m1.lift s1 p rfl rfl rfl m1.bo (fun b d _ => d), m2.trans p, ?_, m4⟩
 unfold Ck.kf
 rw [s2]
 exact m3
end
end Go.Proofs.YtalgochmjddodaaGreat
