/- Joined: Rl1, Rl2. -/
import Derived.Test.YtnalfnlmaallmaaGreatJ23
import Derived.Test.YtnalfnlmaallmaaGreatJ45
import Derived.Test.YtnalfnlmaallmaaGreatJ43
namespace Go.Proofs.YtnalfnlmaallmaaGreat
open Go.RowKit W Kp Stl
def wv (m : Nat -> Int) (v : Int × Int) : Int := if v.1 = 3 then ew 3 (m v.2.toNat) else ew v.1 v.2
def we (m : Nat -> Int) (e : En) : En := (ew 3 (m e.1.toNat), ew 3 (m e.2.toNat))
structure Vo (T : List Tw1) (v : Int × Int) : Prop where
  t : v.1 = 3 -> 0 <= v.2 /\ Alv T v.2.toNat
  o : v.1 ≠ 3 -> vc v.1 v.2 = 0
structure Eno (T : List Tw1) (e : En) : Prop where
  g0 : 0 <= e.1
  g : Alv T e.1.toNat
  k : (T.getD e.1.toNat t0).1 = 5
  h0 : 0 <= e.2
  h : Alv T e.2.toNat
structure Rl (a : Wc) (S : Ww) (W : Wrs) (m : Nat -> Int) (Y G : List Int) : Prop where
  kv : KInv a S.s Y G
  rl : W.rs.length = 12
  rv : ∀ v ∈ W.rs, Vo W.T v
  fv : ∀ i, Alv W.T i -> ∀ v ∈ (W.T.getD i t0).2.1, Vo W.T v
  rs : S.s.rs = W.rs.map (wv m)
  young : ∀ i, Alv W.T i -> (W.T.getD i t0).2.2.1 = false -> m i ∈ Y
  old : ∀ i, Alv W.T i -> (W.T.getD i t0).2.2.1 = true -> m i ∈ G
  inj : ∀ i j, Alv W.T i -> Alv W.T j -> m i = m j -> i = j
  sur : ∀ v, (v ∈ Y \/ v ∈ G) -> ∃ i, Alv W.T i /\ m i = v
  hd : ∀ i, Alv W.T i -> hc (W.T.getD i t0).1 (W.T.getD i t0).2.1.length = 0 /\ ld a.N S.s.y S.s.g S.s.ws (m i) = hw (W.T.getD i t0).1 (W.T.getD i t0).2.1.length
  fd : ∀ i, Alv W.T i -> ∀ k : Nat, k < (W.T.getD i t0).2.1.length -> ld a.N S.s.y S.s.g S.s.ws (m i + 1 + k) = wv m ((W.T.getD i t0).2.1.getD k (0, 0))
  rg : S.r = W.rg.map (we m)
  gv : ∀ e ∈ W.rg, Eno W.T e
  wt : S.q = W.wt.map (we m)
  wo : ∀ e ∈ W.wt, Eno W.T e
  tl : ∀ i, (W.T.getD i t0).2.1.length <= 12
theorem getD_setT {α : Type} (l : List α) (i j : Nat) (x d : α) (h : i < l.length) : (l.set i x).getD j d = if i = j then x else l.getD j d := by
 rw [List.getD_eq_getElem?_getD, List.getD_eq_getElem?_getD, List.getElem?_set]
 split
 ·rename_i e
  subst e
  rfl
 ·rfl
theorem getD_mapr {α β : Type} (f : α -> β) (l : List α) (i : Nat) (d : α) (e : β) (h : i < l.length) : (l.map f).getD i e = f (l.getD i d) := by
 rw [List.getD_eq_getElem?_getD, List.getElem?_map, List.getD_eq_getElem?_getD, List.getElem?_eq_getElem h]
 rfl
theorem wv_t {m : Nat -> Int} {v : Int × Int} (h : v.1 = 3) : wv m v = ew 3 (m v.2.toNat) := by unfold wv; rw [if_pos h]
theorem wv_o {m : Nat -> Int} {v : Int × Int} (h : v.1 ≠ 3) : wv m v = ew v.1 v.2 := by unfold wv; rw [if_neg h]
theorem wv_congr {T : List Tw1} {m m' : Nat -> Int} (h : ∀ i, Alv T i -> m' i = m i) {v : Int × Int} (hv : Vo T v) : wv m' v = wv m v := by
 by_cases c : v.1 = 3
 ·rw [wv_t c, wv_t c, h _ (hv.t c).2]
 ·rw [wv_o c, wv_o c]
theorem we_congr {T : List Tw1} {m m' : Nat -> Int} (h : ∀ i, Alv T i -> m' i = m i) {e : En} (he : Eno T e) : we m' e = we m e := by
 unfold we
 rw [h _ he.g, h _ he.h]
theorem Vo.of {T : List Tw1} {k n : Int} (h3 : k ≠ 3) (h : vc k n = 0) : Vo T (k, n) := ⟨fun e => absurd e h3, fun _ => h⟩
theorem Vo.nil (T : List Tw1) : Vo T (0, 0) := Vo.of (by decide) (by decide)
theorem Vo.mono {T T' : List Tw1} (h : ∀ i, Alv T i -> Alv T' i) {v : Int × Int} (hv : Vo T v) : Vo T' v := ⟨fun e => ⟨(hv.t e).1, h _ (hv.t e).2⟩, hv.o⟩
theorem same_thing2 {N y g : Nat} {ws Y G : List Int} (h : Full2 N y g ws Y G) (hy : y <= N) {u v i j : Int} (hu : u ∈ Y \/ u ∈ G) (hv : v ∈ Y \/ v ∈ G) (i0 : 0 <= i) (i1 : i < pf (ld N y g ws u)) (j0 : 0 <= j) (j1 : j < pf (ld N y g ws v)) (e : u + 1 + i = v + 1 + j) : u = v := by
 rcases hu with hu | hu <;> rcases hv with hv | hv
 ·rcases Int.lt_trichotomy u v with d | d | d
  ·have := h.ty.apart u hu v hv d
   omega
  ·exact d
  ·have := h.ty.apart v hv u hu d
   omega
 ·have h1 := field_y h hu i0 i1
  have h2 := field_o h hv j0 j1
  omega
 ·have h1 := field_y h hv j0 j1
  have h2 := field_o h hu i0 i1
  omega
 ·exact same_thing h hu hv i0 i1 j0 j1 e
section
variable {a : Wc} {S : Ww} {W : Wrs} {m : Nat -> Int} {Y G : List Int}
theorem Rl.mem (h : Rl a S W m Y G) {i : Nat} (hi : Alv W.T i) : m i ∈ Y \/ m i ∈ G := by
 cases e : (W.T.getD i t0).2.2.1
 ·exact Or.inl (h.young i hi e)
 ·exact Or.inr (h.old i hi e)
theorem Rl.bd (h : Rl a S W m Y G) (hb : Wbd a S.s) {i : Nat} (hi : Alv W.T i) : 0 <= m i /\ m i < 1280 := by
 have h1 := hb.n1
 have h2 := hb.o1
 have h3 := hb.y1
 have h4 := hb.g1
 rcases h.mem hi with d | d
 ·have := h.kv.inv.full.iy _ d
  omega
 ·have := h.kv.inv.full.io _ d
  omega
theorem Rl.word (h : Rl a S W m Y G) (hb : Wbd a S.s) {i : Nat} (hi : Alv W.T i) : vc 3 (m i) = 0 /\ aB (ew 3 (m i)) = true /\ aV (ew 3 (m i)) = m i := by
 have hB := h.bd hb hi
 have h0 := vc3_in (m i) hB.1 (by omega)
 have h1 := at_enc 3 (m i) h0
 exact ⟨h0, h1.1, h1.2 rfl⟩
theorem Rl.vt (h : Rl a S W m Y G) (hb : Wbd a S.s) {v : Int × Int} (hv : Vo W.T v) (h3 : v.1 = 3) : aB (wv m v) = true /\ aV (wv m v) = m v.2.toNat := by
 rw [wv_t h3]
 exact (h.word hb (hv.t h3).2).2
theorem Vo.no {T : List Tw1} {v : Int × Int} (hv : Vo T v) (h3 : v.1 ≠ 3) : aB (wv m v) = false := by
 rw [wv_o h3, (at_enc _ _ (hv.o h3)).1]
 simpa using h3
theorem Rl.aBv (h : Rl a S W m Y G) (hb : Wbd a S.s) {v : Int × Int} (hv : Vo W.T v) : aB (wv m v) = (v.1 == 3) := by
 by_cases c : v.1 = 3
 ·rw [(h.vt hb hv c).1, c]
  rfl
 ·rw [hv.no c]
  simp [c]
theorem Rl.at (h : Rl a S W m Y G) (hb : Wbd a S.s) {v : Int × Int} (hv : Vo W.T v) (ha : aB (wv m v) = true) : aV (wv m v) ∈ Y \/ aV (wv m v) ∈ G := by
 rw [h.aBv hb hv] at ha
 have h3 : v.1 = 3 := by simpa using ha
 rw [(h.vt hb hv h3).2]
 exact h.mem (hv.t h3).2
theorem Rl.dec (h : Rl a S W m Y G) (hb : Wbd a S.s) {v : Int × Int} (hv : Vo W.T v) : dc (wv m v) = 0 /\ dk (wv m v) = v.1 /\ dn (wv m v) = if v.1 = 3 then m v.2.toNat else v.2 := by
 by_cases c : v.1 = 3
 ·rw [wv_t c, if_pos c, c]
  exact dec_enc 3 _ (h.word hb (hv.t c).2).1
 ·rw [wv_o c, if_neg c]
  exact dec_enc _ _ (hv.o c)
theorem Rl.parts (h : Rl a S W m Y G) {i : Nat} (hi : Alv W.T i) : pk (ld a.N S.s.y S.s.g S.s.ws (m i)) = (W.T.getD i t0).1 /\ pf (ld a.N S.s.y S.s.g S.s.ws (m i)) = (W.T.getD i t0).2.1.length /\ pc (ld a.N S.s.y S.s.g S.s.ws (m i)) = 0 := by
 obtain ⟨h1, h2⟩ := h.hd i hi
 rw [h2]
 exact parts_head _ _ h1
theorem Rl.tB (h : Rl a S W m Y G) (hb : Wbd a S.s) {v : Int × Int} (hv : Vo W.T v) : tB a.N S.s.y S.s.g S.s.ws (wv m v) = (v.1 == 3) := by
 by_cases c : v.1 = 3
 ·rw [(tB_iff (O := a.O) h.kv.inv.full hb.n1 hb.y1 hb.o1 hb.g1).2 ⟨(h.vt hb hv c).1, h.at hb hv (h.vt hb hv c).1⟩, c]
  rfl
 ·have e : (v.1 == 3) = false := by simpa using c
  rw [e, Bool.eq_false_iff]
  intro d
  have := ((tB_iff (O := a.O) h.kv.inv.full hb.n1 hb.y1 hb.o1 hb.g1).1 d).1
  rw [hv.no c] at this
  cases this
theorem Rl.root (h : Rl a S W m Y G) {i : Nat} (hi : i < 12) : S.s.rs.getD i 0 = wv m (W.rs.getD i (0, 0)) /\ Vo W.T (W.rs.getD i (0, 0)) := by
 have hl : i < W.rs.length := by rw [h.rl]; exact hi
 exact ⟨by rw [h.rs]; exact getD_mapr _ _ _ _ _ hl, h.rv _ (getD_in hl)⟩
theorem Rl.code (h : Rl a S W m Y G) (hb : Wbd a S.s) {A : Nat} (hA : A < 12) (I : Int) : fcC a.N S.s.y S.s.g S.s.ws (S.s.rs.getD A 0) I = W.gc A I := by
 obtain ⟨e, hv⟩ := h.root hA
 rw [e]
 unfold fcC Wrs.gc Wrs.th
 rw [h.tB hb hv]
 by_cases c : (W.rs.getD A (0, 0)).1 = 3
 ·have e3 : ((W.rs.getD A (0, 0)).1 == 3) = true := by simpa using c
  obtain ⟨z, al⟩ := hv.t c
  obtain ⟨p1, p2, _⟩ := h.parts al
  rw [e3, if_pos rfl, if_pos c, (h.vt hb hv c).2, h.kv.inv.full.stands hb.y1 (h.mem al), p1, p2]
  have et : W.T.getD (W.rs.getD A (0, 0)).2.toNat (0, [], false, false) = W.T.getD (W.rs.getD A (0, 0)).2.toNat t0 := rfl
  rw [et]
  by_cases c5 : (W.T.getD (W.rs.getD A (0, 0)).2.toNat t0).1 = 5
  ·rw [if_pos c5, if_pos (Or.inr c5)]
  ·have hne : ¬ ((W.rs.getD A (0, 0)).2 < 0 \/ (W.T.getD (W.rs.getD A (0, 0)).2.toNat t0).1 = 5) := fun d => d.elim (fun d => absurd z (by omega)) c5
   rw [if_neg c5, if_neg hne]
 ·have e3 : ((W.rs.getD A (0, 0)).1 == 3) = false := by simpa using c
  rw [e3, if_neg (by simp), if_neg c, if_pos (Or.inl (by decide))]
theorem Rl.put (h : Rl a S W m Y G) (hb : Wbd a S.s) (k : Nat) {v : Int × Int} (hv : Vo W.T v) : Rl a ⟨{ S.s with rs := S.s.rs.set k (wv m v) }, S.r, S.q⟩ { W with rs := W.rs.set k v } m Y G :=
  { kv := h.kv.root k _ (fun ha => h.at hb hv ha), rl := by rw [List.length_set]; exact h.rl
    rv := fun u hu => (mem_set_or hu).elim (h.rv u) (fun e => by rw [e]; exact hv), fv := h.fv
    rs := by show S.s.rs.set k (wv m v) = (W.rs.set k v).map (wv m); rw [h.rs, List.map_set]
    young := h.young, old := h.old, inj := h.inj, sur := h.sur, hd := h.hd, fd := h.fd, rg := h.rg, gv := h.gv, wt := h.wt, wo := h.wo, tl := h.tl }
theorem Rl.beside (h : Rl a S W m Y G) {r q : List En} (hr : ∀ e ∈ r, Eno W.T e) (hq : ∀ e ∈ q, Eno W.T e) : Rl a ⟨S.s, r.map (we m), q.map (we m)⟩ { W with rg := r, wt := q } m Y G :=
 { kv := h.kv, rl := h.rl, rv := h.rv, fv := h.fv, rs := h.rs, young := h.young, old := h.old, inj := h.inj, sur := h.sur, hd := h.hd, fd := h.fd, rg := rfl, gv := hr, wt := rfl, wo := hq, tl := h.tl }
theorem alv_set {T : List Tw1} {i : Nat} {t : Tw1} (hi : i < T.length) (hd : t.2.2.2 = (T.getD i t0).2.2.2) (j : Nat) : Alv (T.set i t) j ↔ Alv T j := by
 unfold Alv
 rw [List.length_set, getD_setT _ _ _ _ _ hi]
 by_cases e : i = j
 ·subst e
  rw [if_pos rfl, hd]
 ·rw [if_neg e]
theorem Rl.store (h : Rl a S W m Y G) (hb : Wbd a S.s) {i k : Nat} (hi : Alv W.T i) (hk : k < (W.T.getD i t0).2.1.length) {v : Int × Int} (hv : Vo W.T v) {ws M : List Int} (ew : ws = S.s.ws.set (m i + 1 + k).toNat (wv m v)) (hK : KInv a { S.s with ws := ws, M := M } Y G) :
    Rl a ⟨{ S.s with ws := ws, M := M }, S.r, S.q⟩ { W with T := W.T.set i ((W.T.getD i t0).1, (W.T.getD i t0).2.1.set k v, (W.T.getD i t0).2.2) } m Y G := by
  have al : ∀ j, Alv (W.T.set i ((W.T.getD i t0).1, (W.T.getD i t0).2.1.set k v, (W.T.getD i t0).2.2)) j ↔ Alv W.T j := alv_set (T := W.T) hi.1 rfl
  have gt : ∀ j, (W.T.set i ((W.T.getD i t0).1, (W.T.getD i t0).2.1.set k v, (W.T.getD i t0).2.2)).getD j t0 = if i = j then ((W.T.getD i t0).1, (W.T.getD i t0).2.1.set k v, (W.T.getD i t0).2.2) else W.T.getD j t0 := fun j => getD_setT _ _ _ _ _ hi.1
  have gl : ∀ j, ((W.T.set i ((W.T.getD i t0).1, (W.T.getD i t0).2.1.set k v, (W.T.getD i t0).2.2)).getD j t0).2.1.length = (W.T.getD j t0).2.1.length := fun j => by
    rw [gt]
    split
    · rename_i e
      subst e
      simp
    · rfl
  have g1 : ∀ j, ((W.T.set i ((W.T.getD i t0).1, (W.T.getD i t0).2.1.set k v, (W.T.getD i t0).2.2)).getD j t0).1 = (W.T.getD j t0).1 := fun j => by
    rw [gt]
    split
    · rename_i e
      subst e
      rfl
    · rfl
  have g2 : ∀ j, ((W.T.set i ((W.T.getD i t0).1, (W.T.getD i t0).2.1.set k v, (W.T.getD i t0).2.2)).getD j t0).2.2 = (W.T.getD j t0).2.2 := fun j => by
    rw [gt]
    split
    · rename_i e
      subst e
      rfl
    · rfl
  obtain ⟨p1, p2, _⟩ := h.parts hi
  have k1 : (k : Int) < pf (ld a.N S.s.y S.s.g S.s.ws (m i)) := by rw [p2]; omega
  obtain ⟨_, hh⟩ := h.kv.inv.full.set (z := wv m v) hb.l1 hb.y1 hb.g1 (h.mem hi) (Int.natCast_nonneg k) k1
  rw [<- ew] at hh
  have vm : ∀ u, Vo W.T u -> Vo (W.T.set i ((W.T.getD i t0).1, (W.T.getD i t0).2.1.set k v, (W.T.getD i t0).2.2)) u := fun u hu => hu.mono (fun j hj => (al j).2 hj)
  have em : ∀ e, Eno W.T e -> Eno (W.T.set i ((W.T.getD i t0).1, (W.T.getD i t0).2.1.set k v, (W.T.getD i t0).2.2)) e := fun e he => ⟨he.g0, (al _).2 he.g, by rw [g1]; exact he.k, he.h0, (al _).2 he.h⟩
  have hi0 := field_i h.kv.inv.full (h.mem hi) (Int.natCast_nonneg k) k1
  have hbd := iB_bd (O := a.O) hi0 hb.y1 hb.g1
  exact
  { kv := hK, rl := h.rl, rv := fun u hu => vm u (h.rv u hu)
    fv := fun j hj u hu => by
      have hj' := (al j).1 hj
      have hu : u ∈ ((W.T.set i ((W.T.getD i t0).1, (W.T.getD i t0).2.1.set k v, (W.T.getD i t0).2.2)).getD j t0).2.1 := hu
      rw [gt] at hu
      split at hu
      · rename_i e
        rcases mem_set_or hu with d | d
        · exact vm u (h.fv i hi u d)
        · rw [d]; exact vm v hv
      · exact vm u (h.fv j hj' u hu)
    rs := h.rs
    young := fun j hj e => h.young j ((al j).1 hj) (by rw [<- g2]; exact e)
    old := fun j hj e => h.old j ((al j).1 hj) (by rw [<- g2]; exact e)
    inj := fun j j' hj hj' e => h.inj j j' ((al j).1 hj) ((al j').1 hj') e
    sur := fun u hu => by
      obtain ⟨j, hj, e⟩ := h.sur u hu
      exact ⟨j, (al j).2 hj, e⟩
    hd := fun j hj => by
      have hj' := (al j).1 hj
      show hc ((W.T.set i _).getD j t0).1 ((W.T.set i _).getD j t0).2.1.length = 0 /\ ld a.N S.s.y S.s.g ws (m j) = hw ((W.T.set i _).getD j t0).1 ((W.T.set i _).getD j t0).2.1.length
      rw [gl, g1, hh _ (h.mem hj')]
      exact h.hd j hj'
    fd := fun j hj n hn => by
      have hj' := (al j).1 hj
      have hn : n < ((W.T.set i ((W.T.getD i t0).1, (W.T.getD i t0).2.1.set k v, (W.T.getD i t0).2.2)).getD j t0).2.1.length := hn
      rw [gl] at hn
      show ld a.N S.s.y S.s.g ws (m j + 1 + n) = wv m (((W.T.set i ((W.T.getD i t0).1, (W.T.getD i t0).2.1.set k v, (W.T.getD i t0).2.2)).getD j t0).2.1.getD n (0, 0))
      obtain ⟨_, q2, _⟩ := h.parts hj'
      have n1 : (n : Int) < pf (ld a.N S.s.y S.s.g S.s.ws (m j)) := by rw [q2]; omega
      have hin := field_i h.kv.inv.full (h.mem hj') (Int.natCast_nonneg n) n1
      have hbn := iB_bd (O := a.O) hin hb.y1 hb.g1
      rw [ld_in hin, ew, getD_set _ _ _ _ (by have := hb.l1; omega), <- ld_in hin, h.fd j hj' n hn, gt]
      by_cases e : i = j
      · subst e
        rw [if_pos rfl]
        show _ = wv m (((W.T.getD i t0).2.1.set k v).getD n (0, 0))
        rw [getD_setT _ _ _ _ _ hk]
        by_cases ek : k = n
        · subst ek
          rw [if_pos rfl, if_pos rfl]
        · rw [if_neg ek, if_neg (by omega)]
      · rw [if_neg e, if_neg (fun d => e ?_)]
        exact h.inj i j hi hj' (same_thing2 h.kv.inv.full hb.y1 (h.mem hi) (h.mem hj') (Int.natCast_nonneg k) k1 (Int.natCast_nonneg n) n1 (by omega))
    rg := h.rg, gv := fun e he => em e (h.gv e he), wt := h.wt, wo := fun e he => em e (h.wo e he)
    tl := fun j => by show ((W.T.set i _).getD j t0).2.1.length <= 12; rw [gl]; exact h.tl j }
theorem alv_snoc {T : List Tw1} {t : Tw1} (ht : t.2.2.2 = false) (j : Nat) : Alv (T ++ [t]) j ↔ Alv T j \/ j = T.length := by
 unfold Alv
 rw [List.length_append]
 rcases Nat.lt_trichotomy j T.length with d | d | d
 ·rw [List.getD_eq_getElem?_getD, List.getElem?_append_left d, <- List.getD_eq_getElem?_getD]
  exact ⟨fun q => Or.inl ⟨d, q.2⟩, fun q => q.elim (fun q => ⟨by simp; omega, q.2⟩) (fun e => absurd d (by omega))⟩
 ·subst d
  rw [List.getD_eq_getElem?_getD, List.getElem?_append_right (Nat.le_refl _)]
  simp [ht]
 ·simp
  omega
theorem getD_snocL {α : Type} (l : List α) (t d : α) (j : Nat) (h : j < l.length) : (l ++ [t]).getD j d = l.getD j d := by
 rw [List.getD_eq_getElem?_getD, List.getElem?_append_left h, <- List.getD_eq_getElem?_getD]
theorem getD_snocR {α : Type} (l : List α) (t d : α) : (l ++ [t]).getD l.length d = t := by
 rw [List.getD_eq_getElem?_getD, List.getElem?_append_right (Nat.le_refl _)]
 simp
def mnew (m : Nat -> Int) (n : Nat) (y : Int) (i : Nat) : Int := if i = n then y else m i
theorem Rl.new (h : Rl a S W m Y G) {kd : Int} {vs : List (Int × Int)} (hk : hc kd vs.length = 0) (hvs : ∀ v ∈ vs, Vo W.T v) {s' : Wst} (er : s'.rs = S.s.rs) (hy' : s'.y <= a.N) (hK : KInv a s' (Y ++ [(S.s.y : Int)]) G)
    (hh : ld a.N s'.y s'.g s'.ws S.s.y = hw kd vs.length) (hf : ∀ k : Nat, k < vs.length -> ld a.N s'.y s'.g s'.ws (S.s.y + 1 + k) = wv m (vs.getD k (0, 0)))
    (h0 : ∀ v, (v ∈ Y \/ v ∈ G) -> ld a.N s'.y s'.g s'.ws v = ld a.N S.s.y S.s.g S.s.ws v) (h1 : ∀ v, (v ∈ Y \/ v ∈ G) -> ∀ k : Nat, (k : Int) < pf (ld a.N S.s.y S.s.g S.s.ws v) -> ld a.N s'.y s'.g s'.ws (v + 1 + k) = ld a.N S.s.y S.s.g S.s.ws (v + 1 + k)) :
    Rl a ⟨s', S.r, S.q⟩ { W with T := W.T ++ [(kd, vs, false, false)] } (mnew m W.T.length S.s.y) (Y ++ [(S.s.y : Int)]) G := by
  have al : ∀ j, Alv (W.T ++ [(kd, vs, false, false)]) j ↔ Alv W.T j \/ j = W.T.length := alv_snoc rfl
  have cg : ∀ i, Alv W.T i -> mnew m W.T.length S.s.y i = m i := fun i hi => by unfold mnew; rw [if_neg (by have := hi.1; omega)]
  have cn : mnew m W.T.length S.s.y W.T.length = S.s.y := by unfold mnew; rw [if_pos rfl]
  have vm : ∀ u, Vo W.T u -> Vo (W.T ++ [(kd, vs, false, false)]) u := fun u hu => hu.mono (fun j hj => (al j).2 (Or.inl hj))
  have em : ∀ e, Eno W.T e -> Eno (W.T ++ [(kd, vs, false, false)]) e := fun e he => ⟨he.g0, (al _).2 (Or.inl he.g), by rw [getD_snocL _ _ _ _ he.g.1]; exact he.k, he.h0, (al _).2 (Or.inl he.h)⟩
  have fresh : ∀ j, Alv W.T j -> m j ≠ S.s.y := fun j hj e => by
    rcases h.mem hj with d | d
    · have := h.kv.inv.full.iy _ d
      omega
    · have hh' : (S.s.y : Int) ∈ Y ++ [(S.s.y : Int)] := by simp
      have n1 := hK.inv.full.iy _ hh'
      have n2 := hK.inv.full.io _ d
      omega
  exact
  { kv := hK, rl := h.rl, rv := fun u hu => vm u (h.rv u hu)
    fv := fun j hj u hu => by
      rcases (al j).1 hj with d | d
      · have hu : u ∈ ((W.T ++ [(kd, vs, false, false)]).getD j t0).2.1 := hu
        rw [getD_snocL _ _ _ _ d.1] at hu
        exact vm u (h.fv j d u hu)
      · have hu : u ∈ ((W.T ++ [(kd, vs, false, false)]).getD j t0).2.1 := hu
        rw [d, getD_snocR] at hu
        exact vm u (hvs u hu)
    rs := by
      show s'.rs = W.rs.map (wv (mnew m W.T.length S.s.y))
      rw [er, h.rs]
      exact List.map_congr_left (fun v hv => (wv_congr cg (h.rv v hv)).symm)
    young := fun j hj e => by
      rcases (al j).1 hj with d | d
      · have e : ((W.T ++ [(kd, vs, false, false)]).getD j t0).2.2.1 = false := e
        rw [getD_snocL _ _ _ _ d.1] at e
        rw [cg j d]
        exact List.mem_append_left _ (h.young j d e)
      · rw [d, cn]
        simp
    old := fun j hj e => by
      have e : ((W.T ++ [(kd, vs, false, false)]).getD j t0).2.2.1 = true := e
      rcases (al j).1 hj with d | d
      · rw [getD_snocL _ _ _ _ d.1] at e
        rw [cg j d]
        exact h.old j d e
      · rw [d, getD_snocR] at e
        cases e
    inj := fun i j hi hj e => by
      rcases (al i).1 hi with d | d <;> rcases (al j).1 hj with d' | d'
      · rw [cg i d, cg j d'] at e
        exact h.inj i j d d' e
      · rw [cg i d, d', cn] at e
        exact absurd e (fresh i d)
      · rw [cg j d', d, cn] at e
        exact absurd e.symm (fresh j d')
      · omega
    sur := fun v hv => by
      have hv' : (v ∈ Y \/ v ∈ G) \/ v = S.s.y := by
        rcases hv with hv | hv
        · rcases List.mem_append.1 hv with d | d
          · exact Or.inl (Or.inl d)
          · exact Or.inr (List.mem_singleton.1 d)
        · exact Or.inl (Or.inr hv)
      rcases hv' with hv' | hv'
      · obtain ⟨j, hj, e⟩ := h.sur v hv'
        exact ⟨j, (al j).2 (Or.inl hj), by rw [cg j hj]; exact e⟩
      · exact ⟨W.T.length, (al _).2 (Or.inr rfl), by rw [cn, hv']⟩
    hd := fun j hj => by
      show hc ((W.T ++ [(kd, vs, false, false)]).getD j t0).1 ((W.T ++ [(kd, vs, false, false)]).getD j t0).2.1.length = 0 /\ ld a.N s'.y s'.g s'.ws (mnew m W.T.length S.s.y j) = hw ((W.T ++ [(kd, vs, false, false)]).getD j t0).1 ((W.T ++ [(kd, vs, false, false)]).getD j t0).2.1.length
      rcases (al j).1 hj with d | d
      · rw [getD_snocL _ _ _ _ d.1, cg j d, h0 _ (h.mem d)]
        exact h.hd j d
      · rw [d, getD_snocR, cn]
        exact ⟨hk, hh⟩
    fd := fun j hj k hk' => by
      have hk' : k < ((W.T ++ [(kd, vs, false, false)]).getD j t0).2.1.length := hk'
      show ld a.N s'.y s'.g s'.ws (mnew m W.T.length S.s.y j + 1 + k) = wv (mnew m W.T.length S.s.y) (((W.T ++ [(kd, vs, false, false)]).getD j t0).2.1.getD k (0, 0))
      rcases (al j).1 hj with d | d
      · rw [getD_snocL _ _ _ _ d.1] at hk' ⊢
        rw [cg j d, h1 _ (h.mem d) k (by rw [(h.parts d).2.1]; omega), h.fd j d k hk']
        exact (wv_congr cg (h.fv j d _ (getD_in hk'))).symm
      · rw [d, getD_snocR] at hk' ⊢
        rw [cn, hf k hk']
        exact (wv_congr cg (hvs _ (getD_in hk'))).symm
    rg := by
      show S.r = W.rg.map (we (mnew m W.T.length S.s.y))
      rw [h.rg]
      exact List.map_congr_left (fun e he => (we_congr cg (h.gv e he)).symm)
    gv := fun e he => em e (h.gv e he)
    wt := by
      show S.q = W.wt.map (we (mnew m W.T.length S.s.y))
      rw [h.wt]
      exact List.map_congr_left (fun e he => (we_congr cg (h.wo e he)).symm)
    wo := fun e he => em e (h.wo e he)
    tl := fun j => by
      show ((W.T ++ [(kd, vs, false, false)]).getD j t0).2.1.length <= 12
      rcases Nat.lt_trichotomy j W.T.length with d | d | d
      · rw [getD_snocL _ _ _ _ d]
        exact h.tl j
      · rw [d, getD_snocR]
        have := hc_bd _ _ hk
        show vs.length <= 12
        omega
      · rw [List.getD_eq_getElem?_getD, List.getElem?_eq_none (by simp; omega)]
        simp [t0] }
end
end Go.Proofs.YtnalfnlmaallmaaGreat

namespace Go.Proofs.YtnalfnlmaallmaaGreat
open Go.RowKit W Kp Stl
def sumN (P : Nat -> Bool) (z : Nat -> Nat) : Nat -> Nat
 | 0 => 0
 | n + 1 => sumN P z n + if P n = true then z n else 0
theorem sumN_map {P : Nat -> Bool} {z : Nat -> Nat} {m : Nat -> Int} {f : Int -> Nat} : ∀ n, (∀ i, i < n -> P i = true -> f (m i) = z i) -> sumN P z n = sumF f (((List.range n).filter P).map m)
 | 0, _ => by simp [sumN, sumF]
 | n + 1, h => by
  rw [sumN, sumN_map n (fun i hi hp => h i (by omega) hp), List.range_succ, List.filter_append, List.map_append, sumF_app]
  cases c : P n
  ·simp [c, sumF]
  ·simp [c, sumF, h n (by omega) c]
theorem sumN_list {P : Nat -> Bool} {z : Nat -> Nat} {m : Nat -> Int} {f : Int -> Nat} {n : Nat} {l : List Int} (hf : ∀ i, i < n -> P i = true -> f (m i) = z i) (hn : l.Nodup) (inj : ∀ i j, i < n -> j < n -> P i = true -> P j = true -> m i = m j -> i = j) (hl : ∀ v, v ∈ l ↔ ∃ i, i < n /\ P i = true /\ m i = v) : sumN P z n = sumF f l := by
 rw [sumN_map n hf]
 have hmem : ∀ v, v ∈ ((List.range n).filter P).map m ↔ v ∈ l := fun v => by
  rw [hl v]
  simp only [List.mem_map, List.mem_filter, List.mem_range]
  constructor
  ·rintro ⟨i, ⟨h1, h2⟩, h3⟩
   exact ⟨i, h1, h2, h3⟩
  ·rintro ⟨i, h1, h2, h3⟩
   exact ⟨i, ⟨h1, h2⟩, h3⟩
 have nd : (((List.range n).filter P).map m).Nodup := by
  unfold List.Nodup
  rw [List.pairwise_map]
  have h0 : ((List.range n).filter P).Nodup := List.nodup_range.filter _
  refine List.Pairwise.imp_of_mem (fun {i j} hi hj hne e => hne ?_) h0
  simp only [List.mem_filter, List.mem_range] at hi hj
  exact inj i j hi.1 hj.1 hi.2 hj.2 e
 exact Nat.le_antisymm (sumF_sub nd hn (fun v hv => (hmem v).1 hv)) (sumF_sub hn nd (fun v hv => (hmem v).2 hv))
theorem sumN_le {P Q : Nat -> Bool} {z : Nat -> Nat} : ∀ n, (∀ i, i < n -> P i = true -> Q i = true) -> sumN P z n <= sumN Q z n
 | 0, _ => Nat.le_refl _
 | n + 1, h => by
  have ih := sumN_le (z := z) n (fun i hi => h i (by omega))
  rw [sumN, sumN]
  by_cases c : P n = true
  ·rw [if_pos c, if_pos (h n (by omega) c)]
   omega
  ·rw [if_neg c]
   omega
theorem sumN_add {P Q R : Nat -> Bool} {z : Nat -> Nat} : ∀ n, (∀ i, i < n -> R i = (P i || Q i) /\ (P i && Q i) = false) -> sumN R z n = sumN P z n + sumN Q z n
 | 0, _ => rfl
 | n + 1, h => by
  have ih := sumN_add (z := z) n (fun i hi => h i (by omega))
  obtain ⟨h1, h2⟩ := h n (by omega)
  rw [sumN, sumN, sumN, ih, h1]
  cases hp : P n <;> cases hq : Q n <;> simp_all <;> omega
def szT (T : List Tw1) (i : Nat) : Nat := 1 + (T.getD i t0).2.1.length
def yB (T : List Tw1) (i : Nat) : Bool := !(T.getD i t0).2.2.2 && !(T.getD i t0).2.2.1
def oB (T : List Tw1) (i : Nat) : Bool := !(T.getD i t0).2.2.2 && (T.getD i t0).2.2.1
theorem usd_take (T : List Tw1) : ∀ n, n <= T.length -> usd (T.take n) = ((sumN (yB T) (szT T) n : Int), (sumN (oB T) (szT T) n : Int))
 | 0, _ => by simp [usd, sumN]
 | n + 1, h => by
  rw [take_snoc T n (by omega) t0, usd_snoc, usd_take T n (by omega)]
  show usP _ _ = (((sumN (yB T) (szT T) n + if yB T n = true then szT T n else 0 : Nat) : Int), ((sumN (oB T) (szT T) n + if oB T n = true then szT T n else 0 : Nat) : Int))
  generalize sumN (yB T) (szT T) n = A
  generalize sumN (oB T) (szT T) n = B
  unfold usP yB oB szT
  generalize T.getD n t0 = t
  cases hd : t.2.2.2 <;> cases ho : t.2.2.1 <;> simp
theorem usd_sum (T : List Tw1) : usd T = ((sumN (yB T) (szT T) T.length : Int), (sumN (oB T) (szT T) T.length : Int)) := by
 have := usd_take T T.length (Nat.le_refl _)
 rwa [List.take_length] at this
theorem cwn_sum (T : List Tw1) (L : List Bool) : ∀ n, cwn T L n = (sumN (fun i => L.getD i false) (szT T) n : Int)
 | 0 => rfl
 | n + 1 => by
  rw [cwn, cwn_sum T L n, sumN]
  split
  ·simp [szT]
  ·simp
section
variable {a : Wc} {S : Ww} {W : Wrs} {m : Nat -> Int} {Y G : List Int}
theorem Rl.size (h : Rl a S W m Y G) {i : Nat} (hi : Alv W.T i) : szL (ld a.N S.s.y S.s.g S.s.ws) (m i) = szT W.T i := by
 unfold szL szT
 rw [(h.parts hi).2.1]
 simp
theorem alv_of {T : List Tw1} {i : Nat} (h1 : i < T.length) (h2 : (T.getD i t0).2.2.2 = false) : Alv T i := ⟨h1, h2⟩
theorem Rl.us (h : Rl a S W m Y G) (hb : Wbd a S.s) : usd W.T = ((S.s.y : Int), (S.s.g : Int)) := by
 have hyN := hb.y1
 have e1 : sumN (yB W.T) (szT W.T) W.T.length = sumF (szL (ld a.N S.s.y S.s.g S.s.ws)) Y := by
  refine sumN_list (m := m) (fun i hi hp => ?_) h.kv.inv.full.ty.nodup (fun i j hi hj hp hq e => ?_) (fun v => ⟨fun hv => ?_, ?_⟩)
  ·unfold yB at hp
   simp at hp
   exact h.size (alv_of hi hp.1)
  ·unfold yB at hp hq
   simp at hp hq
   exact h.inj i j (alv_of hi hp.1) (alv_of hj hq.1) e
  ·obtain ⟨i, hi, e⟩ := h.sur v (Or.inl hv)
   refine ⟨i, hi.1, ?_, e⟩
   unfold yB
   rw [hi.2]
   cases c : (W.T.getD i t0).2.2.1
   ·rfl
   ·have h1 := h.kv.inv.full.io _ (h.old i hi c)
    have h2 := h.kv.inv.full.iy v hv
    omega
  ·rintro ⟨i, hi, hp, e⟩
   unfold yB at hp
   simp at hp
   rw [<- e]
   exact h.young i (alv_of hi hp.1) hp.2
 have e2 : sumN (oB W.T) (szT W.T) W.T.length = sumF (szL (ld a.N S.s.y S.s.g S.s.ws)) G := by
  refine sumN_list (m := m) (fun i hi hp => ?_) h.kv.inv.full.to.nodup (fun i j hi hj hp hq e => ?_) (fun v => ⟨fun hv => ?_, ?_⟩)
  ·unfold oB at hp
   simp at hp
   exact h.size (alv_of hi hp.1)
  ·unfold oB at hp hq
   simp at hp hq
   exact h.inj i j (alv_of hi hp.1) (alv_of hj hq.1) e
  ·obtain ⟨i, hi, e⟩ := h.sur v (Or.inr hv)
   refine ⟨i, hi.1, ?_, e⟩
   unfold oB
   rw [hi.2]
   cases c : (W.T.getD i t0).2.2.1
   ·have h1 := h.kv.inv.full.iy _ (h.young i hi c)
    have h2 := h.kv.inv.full.io v hv
    omega
   ·rfl
  ·rintro ⟨i, hi, hp, e⟩
   unfold oB at hp
   simp at hp
   rw [<- e]
   exact h.old i (alv_of hi hp.1) hp.2
 have t1 := h.kv.inv.full.ty.sum
 have t2 := h.kv.inv.full.to.sum
 rw [usd_sum, e1, e2]
 exact Prod.ext (by show _ = (S.s.y : Int); omega) (by show _ = (S.s.g : Int); omega)
theorem ew_nil : ew 0 0 = 2 := by decide
theorem fil_lenR (ws : List Int) (y : Nat) (x : Int) : ∀ k, (fil ws y x k).length = ws.length
 | 0 => by simp [fil]
 | k + 1 => by simp [fil, fil_lenR ws y x k]
theorem Rl.fresh (h : Rl a S W m Y G) (hb : Wbd a S.s) {k f : Int} (hm : mkB a.N S.s.y k f = true) :
  Rl a ⟨{ S.s with y := mkY a.N S.s.y k f, ws := mkW a.N S.s.y k f S.s.ws }, S.r, S.q⟩ { W with T := W.T ++ [(k, List.replicate f.toNat (0, 0), false, false)] } (mnew m W.T.length S.s.y) (Y ++ [(S.s.y : Int)]) G := by
 obtain ⟨h1, h2⟩ := mkB_yes hm
 have hf := hc_bd k f h1
 have eY : mkY a.N S.s.y k f = S.s.y + 1 + f.toNat := by unfold mkY; rw [if_pos hm]
 have eW : mkW a.N S.s.y k f S.s.ws = fil S.s.ws S.s.y (hw k f) f.toNat := by unfold mkW; rw [if_pos hm]
 have hl := hb.l1
 have hlt : S.s.y + f.toNat < S.s.ws.length := by omega
 have el : ((List.replicate f.toNat ((0, 0) : Int × Int)).length : Int) = f := by simp; omega
 have keep : ∀ q : Int, ((0 <= q /\ q < S.s.y) \/ ((a.N : Int) <= q /\ q < a.N + S.s.g)) -> ld a.N (S.s.y + 1 + f.toNat) S.s.g (fil S.s.ws S.s.y (hw k f) f.toNat) q = ld a.N S.s.y S.s.g S.s.ws q := fun q hq => by
  rcases hq with ⟨q0, q1⟩ | ⟨q0, q1⟩
  ·rw [ld_in (iB_y q0 (by omega)), ld_in (iB_y q0 q1), fil_get _ _ _ _ _ hlt, if_neg (by omega), if_neg (by omega)]
  ·rw [ld_in (iB_o q0 q1), ld_in (iB_o q0 q1), fil_get _ _ _ _ _ hlt, if_neg (by omega), if_neg (by omega)]
 refine h.new (kd := k) (vs := List.replicate f.toNat (0, 0)) (s' := { S.s with y := mkY a.N S.s.y k f, ws := mkW a.N S.s.y k f S.s.ws }) (by rw [el]; exact h1) (fun v hv => by rw [List.eq_of_mem_replicate hv]; exact Vo.nil _) rfl (by show mkY a.N S.s.y k f <= a.N; rw [eY]; omega) ⟨h.kv.inv.make (O := a.O) hb.l1 hm, CdI.make h.kv.inv h.kv.cd hb.l1 hm⟩ ?_ (fun n hn => ?_) (fun v hv => ?_) (fun v hv n hn => ?_)
 ·show ld a.N (mkY a.N S.s.y k f) S.s.g (mkW a.N S.s.y k f S.s.ws) S.s.y = _
  rw [eY, eW, ld_head _ _ hlt, el]
 ·show ld a.N (mkY a.N S.s.y k f) S.s.g (mkW a.N S.s.y k f S.s.ws) (S.s.y + 1 + n) = _
  rw [List.length_replicate] at hn
  have e0 : (List.replicate f.toNat ((0, 0) : Int × Int)).getD n (0, 0) = (0, 0) := by
   rw [List.getD_eq_getElem?_getD, List.getElem?_replicate]
   split <;> rfl
  rw [eY, eW, ld_in (iB_y (by omega) (by omega)), fil_get _ _ _ _ _ hlt, if_neg (by omega), if_pos (by omega), e0, wv_o (by decide), ew_nil]
 ·show ld a.N (mkY a.N S.s.y k f) S.s.g (mkW a.N S.s.y k f S.s.ws) v = _
  rw [eY, eW]
  exact keep v (hv.imp (fun d => h.kv.inv.full.iy v d) (fun d => h.kv.inv.full.io v d))
 ·show ld a.N (mkY a.N S.s.y k f) S.s.g (mkW a.N S.s.y k f S.s.ws) (v + 1 + n) = _
  rw [eY, eW]
  exact keep _ (hv.imp (fun d => field_y h.kv.inv.full d (Int.natCast_nonneg n) hn) (fun d => field_o h.kv.inv.full d (Int.natCast_nonneg n) hn))
end
theorem Rl.do {c : Bc} {S : Ww × Wrs} {m : Nat -> Int} {Y G : List Int} (h : Rl c.a S.1 S.2 m Y G) (hb : Wbd c.a S.1.s) (hm : c.most = c.a.N) (d A B C : Int) : doB c S d A B C = true /\ ∃ m' Y', Rl c.a (doS c S d A B C).1 (doS c S d A B C).2 m' Y' G := by
 have hus := h.us hb
 have code := h.code hb (rtN_lt A) B
 unfold doB doS
 by_cases e0 : d = 0
 ·rw [if_pos e0, if_pos e0]
  have eB : S.2.fB c.most A B = mkB c.a.N S.1.s.y A B := by
   unfold Wrs.fB mkB
   rw [hus, hm]
   have : (hc A B = 0 /\ 1 + B <= ((c.a.N : Int)) - ((S.1.s.y : Int), (S.1.s.g : Int)).1) ↔ (hc A B = 0 /\ B + 1 <= (c.a.N : Int) - S.1.s.y) := by
    constructor <;> rintro ⟨q1, q2⟩ <;> exact ⟨q1, by dsimp only at *; omega⟩
   rw [decide_eq_decide.2 this]
  unfold boM Wrs.fr
  rw [eB]
  cases hmk : mkB c.a.N S.1.s.y A B
  ·have e1 : mkY c.a.N S.1.s.y A B = S.1.s.y := by unfold mkY; rw [hmk]; rfl
   have e2 : mkW c.a.N S.1.s.y A B S.1.s.ws = S.1.s.ws := by unfold mkW; rw [hmk]; rfl
   have e3 : ¬ 0 <= mkR c.a.N S.1.s.y A B := by unfold mkR; rw [hmk, if_neg (by simp)]; omega
   refine ⟨by rw [decide_eq_false e3]; rfl, m, Y, ?_⟩
   dsimp only
   rw [e1, e2, if_neg e3, if_neg (by simp)]
   exact h
  ·have e3 : mkR c.a.N S.1.s.y A B = S.1.s.y := by unfold mkR; rw [hmk]; rfl
   refine ⟨by rw [e3, decide_eq_true (by omega)]; rfl, mnew m S.2.T.length S.1.s.y, Y ++ [(S.1.s.y : Int)], ?_⟩
   dsimp only
   rw [if_pos rfl, e3, if_pos (by omega)]
   have h2 := h.fresh hb hmk
   have al : Alv (S.2.T ++ [(A, List.replicate B.toNat ((0, 0) : Int × Int), false, false)]) S.2.T.length := (alv_snoc rfl _).2 (Or.inr rfl)
   have hb2 : Wbd c.a { S.1.s with y := mkY c.a.N S.1.s.y A B, ws := mkW c.a.N S.1.s.y A B S.1.s.ws } := by
    obtain ⟨q1, q2⟩ := mkB_yes hmk
    have hf := hc_bd A B q1
    have eY : mkY c.a.N S.1.s.y A B = S.1.s.y + 1 + B.toNat := by unfold mkY; rw [if_pos hmk]
    have eW : mkW c.a.N S.1.s.y A B S.1.s.ws = fil S.1.s.ws S.1.s.y (hw A B) B.toNat := by unfold mkW; rw [if_pos hmk]
    exact ⟨hb.n0, hb.n1, hb.o1, by show mkY c.a.N S.1.s.y A B <= c.a.N; rw [eY]; omega, hb.g1, by show (mkW c.a.N S.1.s.y A B S.1.s.ws).length = _; rw [eW, fil_lenR]; exact hb.l1, hb.r1⟩
   have h3 := h2.put hb2 (rtN C) (v := (3, (S.2.T.length : Int))) ⟨fun _ => ⟨by dsimp only; omega, by simpa using al⟩, fun e => absurd rfl e⟩
   have ew3 : wv (mnew m S.2.T.length S.1.s.y) (3, (S.2.T.length : Int)) = ew 3 (S.1.s.y : Int) := by
    rw [wv_t rfl]
    unfold mnew
    simp
   rw [ew3] at h3
   exact h3
 rw [if_neg e0, if_neg e0]
 by_cases e1 : d = 1
 ·rw [if_pos e1, if_pos (Or.inl e1)]
  refine ⟨by rw [code]; simp, m, Y, ?_⟩
  unfold boS
  dsimp only
  by_cases c0 : S.2.gc (rtN A) B = 0
  ·rw [if_pos c0]
   have hfc : fcC c.a.N S.1.s.y S.1.s.g S.1.s.ws (S.1.s.rs.getD (rtN A) 0) B = 0 := code.trans c0
   have hK := h.kv.set hb (rtN A) (rtN C) (rtN_lt A) B (rtN_lt C)
   obtain ⟨er, hv⟩ := h.root (rtN_lt A)
   obtain ⟨er2, hv2⟩ := h.root (rtN_lt C)
   obtain ⟨t1, t2, t3, t4⟩ := fcC_zero hfc
   rw [er, h.tB hb hv] at t1
   have c3 : (S.2.rs.getD (rtN A) (0, 0)).1 = 3 := by simpa using t1
   obtain ⟨z, al⟩ := hv.t c3
   rw [er, (h.vt hb hv c3).2, h.kv.inv.full.stands hb.y1 (h.mem al), (h.parts al).2.1] at t4
   have eth : S.2.th (rtN A) = (S.2.rs.getD (rtN A) (0, 0)).2 := by unfold Wrs.th; rw [if_pos c3]
   have hw : stW c.a.N S.1.s.y S.1.s.g S.1.s.ws (S.1.s.rs.getD (rtN A) 0) B (S.1.s.rs.getD (rtN C) 0) = S.1.s.ws.set (m (S.2.rs.getD (rtN A) (0, 0)).2.toNat + 1 + (B.toNat : Nat)).toNat (wv m (S.2.rs.getD (rtN C) (0, 0))) := by
    unfold stW
    rw [if_pos hfc, er, (h.vt hb hv c3).2, er2]
    have hi := field_i h.kv.inv.full (h.mem al) t3 (by rw [(h.parts al).2.1]; exact t4)
    rw [if_pos hi, Int.toNat_of_nonneg t3]
   have h4 := h.store hb al (k := B.toNat) (by omega) hv2 hw hK
   unfold Wrs.sT
   rw [eth]
   exact h4
  ·rw [if_neg c0]
   have hfc : fcC c.a.N S.1.s.y S.1.s.g S.1.s.ws (S.1.s.rs.getD (rtN A) 0) B ≠ 0 := fun e => c0 (code.symm.trans e)
   obtain ⟨z1, z2⟩ := fc_no2 (z := S.1.s.rs.getD (rtN C) 0) (c := nC c.a.O) (M := S.1.s.M) hfc
   rw [z1, z2]
   exact h
 rw [if_neg e1]
 by_cases e2 : d = 2
 ·rw [if_pos (Or.inr e2), if_pos e2]
  refine ⟨by rw [code]; simp, m, Y, ?_⟩
  unfold boG
  dsimp only
  by_cases c0 : S.2.gc (rtN A) B = 0
  ·have hfc : fcC c.a.N S.1.s.y S.1.s.g S.1.s.ws (S.1.s.rs.getD (rtN A) 0) B = 0 := code.trans c0
   rw [if_pos c0, if_pos hfc, if_pos hfc]
   obtain ⟨er, hv⟩ := h.root (rtN_lt A)
   obtain ⟨t1, t2, t3, t4⟩ := fcC_zero hfc
   rw [er, h.tB hb hv] at t1
   have c3 : (S.2.rs.getD (rtN A) (0, 0)).1 = 3 := by simpa using t1
   obtain ⟨z, al⟩ := hv.t c3
   rw [er, (h.vt hb hv c3).2, h.kv.inv.full.stands hb.y1 (h.mem al), (h.parts al).2.1] at t4
   have eth : S.2.th (rtN A) = (S.2.rs.getD (rtN A) (0, 0)).2 := by unfold Wrs.th; rw [if_pos c3]
   have hB : B.toNat < (S.2.T.getD (S.2.rs.getD (rtN A) (0, 0)).2.toNat t0).2.1.length := by omega
   have ef := h.fd _ al B.toNat hB
   rw [Int.toNat_of_nonneg t3] at ef
   have h3 := h.put hb (rtN C) (h.fv _ al _ (getD_in (x := (0, 0)) hB))
   rw [<- ef] at h3
   rw [er, (h.vt hb hv c3).2]
   unfold Wrs.gf
   rw [eth]
   exact h3
  ·have hfc : fcC c.a.N S.1.s.y S.1.s.g S.1.s.ws (S.1.s.rs.getD (rtN A) 0) B ≠ 0 := fun e => c0 (code.symm.trans e)
   rw [if_neg c0, if_neg hfc]
   exact h
 rw [if_neg (fun e => e.elim e1 e2), if_neg e2]
 by_cases e3 : d = 3
 ·rw [if_pos e3, if_pos e3]
  have ev : vc 1 A = rc A (-1152921504606846976) := by
   unfold vc
   rw [if_neg (by decide), if_neg (by decide), if_pos rfl]
  refine ⟨by rw [ev]; simp, m, Y, ?_⟩
  unfold boI
  dsimp only
  rw [<- ev]
  by_cases c0 : vc 1 A = 0
  ·rw [if_pos c0, if_pos c0]
   have h3 := h.put hb (rtN C) (v := (1, A)) (Vo.of (by decide) c0)
   rw [wv_o (show (1 : Int) ≠ 3 by decide)] at h3
   exact h3
  ·rw [if_neg c0, if_neg c0]
   exact h
 rw [if_neg e3, if_neg e3]
 by_cases e4 : d = 4
 ·rw [if_pos e4, if_neg (by omega)]
  refine ⟨rfl, m, Y, ?_⟩
  have h3 := h.put hb (rtN C) (Vo.nil S.2.T)
  rw [wv_o (by decide), ew_nil] at h3
  exact h3
 rw [if_neg e4]
 by_cases e5 : d = 5
 ·rw [if_pos e5, if_pos e5]
  obtain ⟨er, hv⟩ := h.root (rtN_lt A)
  obtain ⟨er2, hv2⟩ := h.root (rtN_lt C)
  have hlen : S.1.r.length + S.1.q.length = S.2.rg.length + S.2.wt.length := by rw [h.rg, h.wt, List.length_map, List.length_map]
  have kE : ∀ i, i < 12 -> (S.1.kE c.a i = 0 ↔ (S.2.rs.getD i (0, 0)).1 = 3) := fun i hi => by
   obtain ⟨er, hv⟩ := h.root hi
   unfold Ww.kE
   rw [er, h.tB hb hv]
   by_cases c3 : (S.2.rs.getD i (0, 0)).1 = 3
   ·rw [c3, if_pos (show ((3 : Int) == 3) = true from rfl), (h.vt hb hv c3).2, (h.parts (hv.t c3).2).2.2]
    simp
   ·have e3 : ((S.2.rs.getD i (0, 0)).1 == 3) = false := by simpa using c3
    rw [e3, if_neg (by simp)]
    exact ⟨fun q => absurd q (by decide), fun q => absurd q c3⟩
  have kK : (S.2.rs.getD (rtN C) (0, 0)).1 = 3 -> S.1.kK c.a (rtN C) = (S.2.T.getD (S.2.rs.getD (rtN C) (0, 0)).2.toNat t0).1 := fun c3 => by
   unfold Ww.kK
   rw [er2, h.tB hb hv2, c3, if_pos (show ((3 : Int) == 3) = true from rfl), (h.vt hb hv2 c3).2, (h.parts (hv2.t c3).2).1]
  have rK : S.1.rK c.a (rtN A) (rtN C) = true ↔ ¬ (S.2.th (rtN A) < 0 \/ S.2.gd (rtN C) < 0) := by
   unfold Ww.rK
   rw [decide_eq_true_iff, kE _ (rtN_lt A), kE _ (rtN_lt C)]
   unfold Wrs.gd Wrs.th
   by_cases cA : (S.2.rs.getD (rtN A) (0, 0)).1 = 3
   ·have zA := (hv.t cA).1
    by_cases cC : (S.2.rs.getD (rtN C) (0, 0)).1 = 3
    ·have zC := (hv2.t cC).1
     rw [if_pos cA, if_pos cC, kK cC, if_neg (by omega)]
     have et : S.2.T.getD (S.2.rs.getD (rtN C) (0, 0)).2.toNat (0, [], false, false) = S.2.T.getD (S.2.rs.getD (rtN C) (0, 0)).2.toNat t0 := rfl
     rw [et]
     by_cases c5 : (S.2.T.getD (S.2.rs.getD (rtN C) (0, 0)).2.toNat t0).1 = 5
     ·rw [if_pos c5]
      exact ⟨fun _ d => by omega, fun _ => ⟨cC, cA, c5⟩⟩
     ·rw [if_neg c5]
      exact ⟨fun q => absurd q.2.2 c5, fun q => absurd (Or.inr (by decide)) q⟩
    ·rw [if_neg cC, if_pos (by decide : (-1 : Int) < 0)]
     exact ⟨fun q => absurd q.1 cC, fun q => absurd (Or.inr (by decide)) q⟩
   ·rw [if_neg cA]
    exact ⟨fun q => absurd q.2.1 cA, fun q => absurd (Or.inl (by decide)) q⟩
  unfold boR Ww.rW Wrs.rc
  dsimp only
  rw [hlen]
  by_cases cR : S.1.rK c.a (rtN A) (rtN C) = true
  ·have hn := rK.1 cR
   rw [cR, if_neg hn, if_pos rfl]
   by_cases cf : 24 <= S.2.rg.length + S.2.wt.length
   ·refine ⟨by unfold fulB; rw [decide_eq_true cf, if_pos cf]; rfl, m, Y, ?_⟩
    rw [if_pos cf, if_pos cf, if_neg (by decide)]
    exact h
   ·refine ⟨by unfold fulB; rw [decide_eq_false cf, if_neg cf]; rfl, m, Y, ?_⟩
    rw [if_neg cf, if_neg cf, if_pos rfl]
    have hA : ¬ S.2.th (rtN A) < 0 := fun d => hn (Or.inl d)
    have hC : ¬ S.2.gd (rtN C) < 0 := fun d => hn (Or.inr d)
    have cA : (S.2.rs.getD (rtN A) (0, 0)).1 = 3 := by
     unfold Wrs.th at hA
     split at hA
     ·assumption
     ·exact absurd (by decide) hA
    have eA : S.2.th (rtN A) = (S.2.rs.getD (rtN A) (0, 0)).2 := by unfold Wrs.th; rw [if_pos cA]
    have hCt : ¬ S.2.th (rtN C) < 0 := fun d => hC (by unfold Wrs.gd; rw [if_pos d]; decide)
    have cC : (S.2.rs.getD (rtN C) (0, 0)).1 = 3 := by
     unfold Wrs.th at hCt
     split at hCt
     ·assumption
     ·exact absurd (by decide) hCt
    have eC0 : S.2.th (rtN C) = (S.2.rs.getD (rtN C) (0, 0)).2 := by unfold Wrs.th; rw [if_pos cC]
    have k5 : (S.2.T.getD (S.2.rs.getD (rtN C) (0, 0)).2.toNat t0).1 = 5 := by
     unfold Wrs.gd at hC
     rw [if_neg hCt, eC0] at hC
     split at hC
     ·assumption
     ·exact absurd (by decide) hC
    have eC : S.2.gd (rtN C) = (S.2.rs.getD (rtN C) (0, 0)).2 := by
     unfold Wrs.gd
     rw [if_neg hCt, eC0]
     exact if_pos k5
    rw [eA, eC]
    have hE : Eno S.2.T ((S.2.rs.getD (rtN C) (0, 0)).2, (S.2.rs.getD (rtN A) (0, 0)).2) := ⟨(hv2.t cC).1, (hv2.t cC).2, k5, (hv.t cA).1, (hv.t cA).2⟩
    have h3 := h.beside (r := S.2.rg ++ [((S.2.rs.getD (rtN C) (0, 0)).2, (S.2.rs.getD (rtN A) (0, 0)).2)]) (q := S.2.wt) (fun e he => by
     rcases List.mem_append.1 he with d | d
     ·exact h.gv e d
     ·rw [List.mem_singleton.1 d]; exact hE) h.wo
    have e1 : (S.2.rg ++ [((S.2.rs.getD (rtN C) (0, 0)).2, (S.2.rs.getD (rtN A) (0, 0)).2)]).map (we m) = S.1.r ++ [(S.1.s.rs.getD (rtN C) 0, S.1.s.rs.getD (rtN A) 0)] := by
     rw [List.map_append, <- h.rg, er, er2, wv_t cA, wv_t cC]
     rfl
    rw [e1, <- h.wt] at h3
    exact h3
  ·have hn : S.2.th (rtN A) < 0 \/ S.2.gd (rtN C) < 0 := Classical.not_not.1 (fun d => cR (rK.2 d))
   have cR' : S.1.rK c.a (rtN A) (rtN C) = false := by simpa using cR
   rw [cR', if_pos hn]
   refine ⟨rfl, m, Y, ?_⟩
   rw [if_neg (by simp), if_neg (by decide)]
   exact h
 rw [if_neg e5, if_neg e5]
 exact ⟨rfl, m, Y, h⟩
theorem Rl.start (a : Wc) (n o : Nat) : Rl a (bo0 n o).1 (bo0 n o).2 (fun _ => 0) [] [] := by
  have no : ∀ i, ¬ Alv (bo0 n o).2.T i := fun i hi => absurd hi.1 (Nat.not_lt_zero i)
  have h1 : ∀ x ∈ (bo0 n o).1.s.rs, aB x = true -> aV x ∈ ([] : List Int) \/ aV x ∈ ([] : List Int) := fun x hx ha => by
    have hx : x ∈ tw 2 12 := hx
    have e : x = 2 := by simpa [tw] using hx
    rw [e, aB_two] at ha
    cases ha
  exact
  { kv := ⟨⟨Full2.start, h1, fun v hv => (by rcases hv with d | d <;> cases d)⟩, fun v hv => (by cases hv)⟩
    rl := by simp [bo0], rv := fun v hv => by rw [List.eq_of_mem_replicate hv]; exact Vo.nil _
    fv := fun i hi => absurd hi (no i), rs := by show tw 2 12 = (List.replicate 12 ((0, 0) : Int × Int)).map (wv fun _ => 0); decide
    young := fun i hi => absurd hi (no i), old := fun i hi => absurd hi (no i), inj := fun i _ hi => absurd hi (no i)
    sur := fun v hv => by rcases hv with d | d <;> cases d
    hd := fun i hi => absurd hi (no i), fd := fun i hi => absurd hi (no i), rg := rfl, gv := fun e he => (by cases he), wt := rfl, wo := fun e he => (by cases he)
    tl := fun i => by simp [bo0, t0] }
end Go.Proofs.YtnalfnlmaallmaaGreat
