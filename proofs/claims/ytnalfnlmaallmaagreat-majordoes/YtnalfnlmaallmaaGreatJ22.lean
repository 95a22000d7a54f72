/- Joined: Mn15, Mj12, Sd7, Mj13. -/
import Derived.Test.YtnalfnlmaallmaaGreatJ19
import Derived.Test.YtnalfnlmaallmaaGreatJ21
import Derived.Test.YtnalfnlmaallmaaGreatJ06
import Derived.Lib.AppendZeros
import Derived.Test.YtnalfnlmaallmaaGreatJ04
namespace Go.Proofs.YtnalfnlmaallmaaGreat
open Go.RowKit W Kp Stl
section
variable {τ : Type} {o : Ob τ} {bx p : Nat} {x : Obj} {vr : Value} {F : Nat -> Prop} {w w' : World}
theorem mkSd_less {t : τ × List En} (h : (mkSd (obX o bx x) p vr).J F t w) : (mkSd o p vr).J (fun b => F b /\ b ≠ bx) t w /\ w.heap[bx]? = some x /\ F bx := by
 obtain ⟨F0, ad, cap, ⟨F1, g1, g2, g3, g4⟩, h2, h3, h4, h5, h6, h7, h8⟩ := h
 have hbx : F0 bx := (g4 bx).2 (Or.inr rfl)
 exact ⟨⟨F1, ad, cap, g1, h2, h3, fun b hb => ⟨h4 b ((g4 b).2 (Or.inl hb)), fun e => g3 (by rw [<- e]; exact hb)⟩, ⟨h5, fun e => h6 (by rw [e]; exact hbx)⟩, fun c => h6 ((g4 p).2 (Or.inl c)), fun b e => ⟨⟨(h7 b e).1, fun e' => (h7 b e).2 (by rw [e']; exact hbx)⟩, fun c => (h7 b e).2 ((g4 b).2 (Or.inl c))⟩, fun b hb => h8 b hb.1⟩, g2, h4 _ hbx⟩
theorem mkSd_to {t : τ × List En} (h : (mkSd o p vr).J F t w) : ∃ F0, o.J F0 t.1 w /\ ∀ {τ' : Type} (o' : Ob τ') F1 t1 w', o'.J F1 t1 w' -> Tn F0 w F1 w' -> ∃ F', (mkSd o' p vr).J F' (t1, t.2) w' /\ Tn F w F' w' := by
 obtain ⟨F0, ad, cap, h1, h2, h3, h4, h5, h6, h7, h8⟩ := h
 refine ⟨F0, h1, fun o' F1 t1 w' hJ hT => ?_⟩
 have lp := lt_of_some h2
 refine ⟨fun k => F k \/ F1 k, ⟨F1, ad, cap, hJ, (hT.fr.block p lp h6).trans h2, row_keep h3 (fun k e => hT.fr.block k (row_lt h3 k e).2 (h7 k e).2), fun k h => Or.inr h, Or.inl h5, fun h => (hT.sub p h).elim h6 (fun h => by omega), fun k e => ⟨Or.inl (h7 k e).1, fun h => (hT.sub k h).elim (h7 k e).2 (fun h => by have := (row_lt h3 k e).2; omega)⟩, fun k h => ?_⟩, hT.fr.mono h4, fun k h => ?_⟩
 ·rcases h with h | h
  ·exact Nat.lt_of_lt_of_le (h8 k h) hT.fr.size
  ·exact o'.lt hJ k h
 ·rcases h with h | h
  ·exact Or.inl h
  ·exact (hT.sub k h).imp (h4 k) id
end
def botO (τ : Type) : Ob τ where
  J _ _ _ := False
  lt := fun h => h.elim
  keep := fun h => h.elim
def noSd (τ : Type) : SdOb (τ × List En) := mkSd (botO τ) 0 (.slice none 0 0)
def Ck.sS (k : Ck) (t : Cs × List En) (r : List En) : Cs × List En := stS (noSd Cs) (fun s x => k.al s.1 x) k.ke t r
def Ck.sR (k : Ck) (t : Cs × List En) (r : List En) : List En := stR (noSd Cs) (fun s x => k.al s.1 x) k.ke (fun s x => k.nw s.1 x) t r
def Ck.sQ (k : Ck) (t : Cs × List En) (r : List En) : List En := stQ (noSd Cs) (fun s x => k.al s.1 x) k.ke (fun s x => k.nw s.1 x) t r
theorem wkQ_len {α : Type} (is : α -> Int -> Bool) (kp : α -> Int -> Int × α) (s : α × List En) : ∀ n, (wkQ is kp s n).1.2.length = s.2.length
 | 0 => rfl
 | n + 1 => by
  have e : wkQ is kp s (n + 1) = wkP is kp (wkQ is kp s n) n := by simp [wkQ, List.range_succ]
  rw [e]
  have ih := wkQ_len is kp s n
  generalize wkQ is kp s n = t at ih ⊢
  unfold wkP
  split
  ·exact ih
  ·simpa using ih
theorem spr_len (k : Ck) : ∀ (n : Nat) (t : Cs × List En), (k.spr n t).2.length = t.2.length
 | 0, _ => rfl
 | n + 1, t => by
  unfold Ck.spr
  split
  ·exact spr_len k n _
  ·split
   ·exact (spr_len k n _).trans (wkQ_len _ _ _ _)
   ·exact wkQ_len _ _ _ _
theorem ke_len (k : Ck) (t : Cs × List En) (x : Int) : (k.ke t x).2.2.length = t.2.length := spr_len k _ _
section
variable {c : Cc} {k : Ck} {F : Nat -> Prop} {s : Cs} {w : World} {vr : Value}
theorem keepsW_fkM (bx : Nat) {adr : Option Addr} {nr cr : Nat} (hvr : vr = .slice adr nr cr) : KeepsW (mkSd (obX (cutI c k) bx (boxC c)) c.sd vr) (fun _ => True) (fkM c).f (fkM c).b (fkM c).c k.ke := by
 intro F t w x _ hn hJ
 have hn : (k.ke t x).2.2.length <= 90000 := hn
 obtain ⟨h1, hx, hbx⟩ := mkSd_less hJ
 rw [ke_len] at hn
 refine (keepM_any hvr h1 hn x).mono ?_
 rintro r w' ⟨F', rfl, hM, hT⟩
 have lx := lt_of_some hx
 have nF : ¬ F' bx := fun d => (hT.sub bx d).elim (fun d => d.2 rfl) (fun d => by omega)
 refine ⟨fun b => F' b \/ b = bx, rfl, mkSd_add hM ((hT.fr.block bx lx (fun d => d.2 rfl)).trans hx) nF, hT.fr.mono (fun b d => d.1), fun b d => ?_⟩
 rcases d with d | d
 ·exact (hT.sub b d).imp (fun d => d.1) id
 ·exact Or.inl (by rw [d]; exact hbx)
theorem lksM (bx : Nat) {adr : Option Addr} {nr cr : Nat} (hvr : vr = .slice adr nr cr) : Lks (mkSd (obX (cutI c k) bx (boxC c)) c.sd vr) (fun _ => True) (faM bx) (fkM c) (fnM c) (fun s x => k.al s.1 x) k.ke (fun s x => k.nw s.1 x) where
  ea := ent_faM
  ek := ent_fkM
  en := ent_fnM
  ha := by
    rintro F s w x _ ⟨F0, ad, cap, h1, _⟩
    exact alives_faM bx F0 s.1 w x trivial h1
  hk := keepsW_fkM bx hvr
  ht := by
    rintro F s w x _ ⟨F0, ad, cap, h1, _⟩
    exact tells_obX tells_fnM F0 s.1 w x trivial h1
  hl := fun s x => ke_len k s x
theorem settleM_any {adr : Option Addr} {cr : Nat} {r : List En} (hvr : vr = .slice adr r.length cr) {t : Cs × List En} (h : (mkSd (cutI c k) c.sd vr).J F t w) (hr : w.ownsRow 0 106 2 vr r.length (ev r)) (hq : t.2.length + r.length <= 90000) (bx : Nat) (hx : w.heap[bx]? = some (boxC c)) (hn : ¬ F bx) :
  Calls Tryz.prog 64 #[.pointer (some ⟨c.sd, 0, none⟩), .agg #[(faM bx).v, (fkM c).v, (fnM c).v]] w fun e w' => ∃ a1 c1 F', e = .returned (.tuple #[]) /\ (mkSd (cutI c k) c.sd (.slice a1 (k.sR t r).length c1)).J F' ((k.sS t r).1, k.sQ t r) w' /\
   w'.ownsRow 0 106 2 (.slice a1 (k.sR t r).length c1) (k.sR t r).length (ev (k.sR t r)) /\ (∀ b, some b = (Value.slice a1 (k.sR t r).length c1).ownBlock -> ¬ F' b /\ w.heap.size <= b) /\ Fr (fun b => F b \/ b = bx) w w' /\ (∀ b, F' b -> F b \/ w.heap.size <= b) := by
 subst hvr
 have P := settle_more (mkSd (obX (cutI c k) bx (boxC c)) c.sd (.slice adr r.length cr)) (fun _ => True) (faM bx) (fkM c) (fnM c) _ _ _ (lksM bx rfl) r adr cr rfl (by omega) (fun _ _ => ⟨trivial, trivial⟩) _ t w (fun _ _ => ⟨trivial, trivial⟩) hq (mkSd_add h hx hn) (row_pairs hr)
 refine P.mono ?_
 clear P
 rintro e w' ⟨a1, c1, a2, c2, F1, wm, rfl, ⟨F0, ad, cap, ⟨Fc, g1, g2, g3, g4⟩, h2, h3, h4, h5, h6, h7, h8⟩, q3, q4, q5, q6, q7, q8, q9, q10, q11, q12⟩
 have q5 : w'.heap[c.sd]? = some (.cells #[.slice a1 (k.sR t r).length c1, .slice a2 (k.sQ t r).length c2] 153 (0, 0)) := q5
 have q6 : w'.ownsRow w.heap.size 106 2 (.slice a1 (k.sR t r).length c1) (k.sR t r).length (ev (k.sR t r)) := q6
 have q7 : w'.ownsRow w.heap.size 106 2 (.slice a2 (k.sQ t r).length c2) (k.sQ t r).length (ev (k.sQ t r)) := q7
 have q10 : ∀ b, some b = (Value.slice a1 (k.sR t r).length c1).ownBlock -> ¬ F1 b := q10
 have q11 : ∀ b, some b = (Value.slice a2 (k.sQ t r).length c2).ownBlock -> ¬ F1 b := q11
 have q12 : ∀ b, some b = (Value.slice a1 (k.sR t r).length c1).ownBlock -> some b ≠ (Value.slice a2 (k.sQ t r).length c2).ownBlock := q12
 have g1 : (cutI c k).J Fc (k.sS t r).1 wm := g1
 have fc1 : ∀ b, Fc b -> F1 b := fun b hb => h4 b ((g4 b).2 (Or.inl hb))
 have fcp : ∀ b, Fc b -> b ≠ c.sd := fun b hb e => h6 (by show F0 c.sd; rw [<- e]; exact (g4 b).2 (Or.inl hb))
 have g1' := (cutI c k).keep (w' := w') g1 q4 (fun b hb => q3 b (fc1 b hb) (fcp b hb))
 have hFs : F c.sd := by
  obtain ⟨_, _, _, _, _, _, _, e5, _⟩ := h
  exact e5
 refine ⟨a1, c1, fun b => Fc b \/ b = c.sd \/ some b = (Value.slice a2 (k.sQ t r).length c2).ownBlock, rfl, ⟨Fc, a2, c2, g1', q5, row_base q7 (fun _ _ => Nat.zero_le _), fun b hb => Or.inl hb, Or.inr (Or.inl rfl), fun d => fcp _ d rfl, fun b e => ⟨Or.inr (Or.inr e), fun d => q11 b e (fc1 b d)⟩, fun b hb => ?_⟩, row_base q6 (fun _ _ => Nat.zero_le _), fun b e => ⟨fun d => ?_, (row_lt q6 b e).1⟩, q8, fun b hb => ?_⟩
 ·rcases hb with hb | hb | hb
  ·exact (cutI c k).lt g1' b hb
  ·rw [hb]; exact lt_of_some q5
  ·exact (row_lt q7 b hb).2
 ·rcases d with d | d | d
  ·exact q10 b e (fc1 b d)
  ·obtain ⟨cs, hc⟩ := row_type q6 b e
   rw [d, q5] at hc
   simp at hc
  ·exact q12 b e d
 ·rcases hb with hb | hb | hb
  ·rcases q9 b (fc1 b hb) with (d | d) | d
   ·exact Or.inl d
   ·exact absurd hb (by rw [d]; exact g3)
   ·exact Or.inr d
  ·exact Or.inl (by rw [hb]; exact hFs)
  ·exact Or.inr (row_lt q7 b hb).1
end
theorem cut_wood {pk mq pq y : Nat} {a : Wc} {M T : List Int} {F : Nat -> Prop} {s : Cs} {w : World} (h : (cutO ⟨pk, mq, a.pw, a.p, a.q, a.pc, pq, a.sd, a.nb, nC a.O, M⟩ ⟨a.N, a.O, y, T⟩).J F s w) : ∃ F', (wodO a).J F' ⟨y, s.g, s.ws, M, s.rs⟩ w /\ (∀ b, F' b -> F b) /\ ¬ F' pk := by
  obtain ⟨vw, ve, own, h, hF⟩ := h
  have e1 : ∀ b j, own b = j -> j <= 4 -> (if own b <= 4 then own b else 0) = j := fun b j e hj => by rw [if_pos (by omega)]; exact e
  refine ⟨fun b => (if own b <= 4 then own b else 0) ≠ 0, ⟨fun b => if own b <= 4 then own b else 0, pq, ?_, fun b => Iff.rfl⟩, fun b hb => (hF b).2 (fun e => hb (by rw [e]; rfl)), fun hb => hb ?_⟩
  · exact { ar := h.ar, a1 := e1 _ _ h.a1 (by decide), a2 := e1 _ _ h.a2 (by decide), cd := h.cd, c1 := e1 _ _ h.c1 (by decide), c2 := e1 _ _ h.c2 (by decide), wd := h.wd, w1 := e1 _ _ h.w1 (by decide), rt := h.rt, rl := h.rl, r1 := e1 _ _ h.r1 (by decide)
            le := fun b => by
              split
              · assumption
              · decide
            lt := fun b hb => h.lt b (fun e => hb (by rw [e]; rfl)) }
  · have := h.k1
    dsimp only at this
    rw [this]
    rfl
structure Ww where
  s : Wst
  r : List En
  q : List En
def wsO (a : Wc) : Ob Ww where
  J F S w := ∃ F0 ar cr, (mkSd (wodO a) a.sd (.slice ar S.r.length cr)).J F0 (S.s, S.q) w /\ w.ownsRow 0 106 2 (.slice ar S.r.length cr) S.r.length (ev S.r) /\ (∀ b, some b = (Value.slice ar S.r.length cr).ownBlock -> ¬ F0 b) /\ ∀ b, F b ↔ (F0 b \/ some b = (Value.slice ar S.r.length cr).ownBlock)
  lt := by
    rintro F S w ⟨F0, ar, cr, h1, h2, h3, hF⟩ b hb
    rcases (hF b).1 hb with hb | hb
    · exact (mkSd (wodO a) a.sd (.slice ar S.r.length cr)).lt h1 b hb
    · exact (row_lt h2 b hb).2
  keep := by
    rintro F S w w' ⟨F0, ar, cr, h1, h2, h3, hF⟩ hs hk
    exact ⟨F0, ar, cr, (mkSd (wodO a) a.sd (.slice ar S.r.length cr)).keep h1 hs (fun b hb => hk b ((hF b).2 (Or.inl hb))), row_keep h2 (fun b e => hk b ((hF b).2 (Or.inr e))), h3, hF⟩
end Go.Proofs.YtnalfnlmaallmaaGreat

namespace Go.Proofs.YtnalfnlmaallmaaGreat
set_option maxRecDepth 100000
set_option maxHeartbeats 2000000
open Go.RowKit W Kp Stl
def Jk.sS (k : Jk) (t : Js × List En) (r : List En) : Js × List En := stS (noSd Js) (fun s x => k.al s.1 x) k.ke t r
def Jk.sR (k : Jk) (t : Js × List En) (r : List En) : List En := stR (noSd Js) (fun s x => k.al s.1 x) k.ke (fun s x => k.nw s.1 x) t r
def Jk.sQ (k : Jk) (t : Js × List En) (r : List En) : List En := stQ (noSd Js) (fun s x => k.al s.1 x) k.ke (fun s x => k.nw s.1 x) t r
theorem sprJ_len (k : Jk) : ∀ (n : Nat) (t : Js × List En), (k.spr n t).2.length = t.2.length
 | 0, t => rfl
 | n + 1, t => by
  unfold Jk.spr
  split
  ·exact sprJ_len k n ((k.kv (k.LM t.1)).2, t.2)
  ·split
   ·exact (sprJ_len k n _).trans (wkQ_len _ _ _ _)
   ·exact wkQ_len _ _ _ _
theorem keJ_len (k : Jk) (t : Js × List En) (x : Int) : (k.ke t x).2.2.length = t.2.length := sprJ_len k _ _
section
variable {c : Jc} {k : Jk} {F : Nat -> Prop} {s : Js} {w : World} {vr : Value}
theorem keepsW_fkJ (bx by_ : Nat) (hne : bx ≠ by_) {adr : Option Addr} {nr cr : Nat} (hvr : vr = .slice adr nr cr) : KeepsW (mkSd (obX (obX (mjI c k) by_ (boxK (fkJ c))) bx (boxJ c)) c.bs vr) (fun _ => True) (fpJ by_).f (fpJ by_).b (fpJ by_).c k.ke := by
 intro F t w x _ hn hJ
 have hn : (k.ke t x).2.2.length <= 90000 := hn
 obtain ⟨h1, hx, hbx⟩ := mkSd_less hJ
 obtain ⟨h2, hy, hby⟩ := mkSd_less h1
 rw [keJ_len] at hn
 have P := keepJ_any hvr h2 hn x
 have c0 : w.cell? ⟨by_, 0, none⟩ = some (fkJ c).v := by simp [World.cell?, hy]
 have HX : Hid (w.heap[bx]? = some (boxJ c) /\ w.heap[by_]? = some (boxK (fkJ c)) /\ F bx /\ F by_) := ⟨hx, hy, hbx, hby.1⟩
 have E : Hid ((k.ke t x).1 = x) := rfl
 generalize (k.ke t x).1 = x1 at E ⊢
 generalize (k.ke t x).2 = t2 at P ⊢
 clear hJ h1 h2 hx hy hbx hby hn
 show Calls Tryz.prog 207 #[.int .i64 x, .pointer (some ⟨by_, 0, none⟩)] w _
 go_enter Tryz.func207, Tryz.ntmps207
 go_wp2_with fail
 refine P.mono ?_
 clear P
 rintro e w1 ⟨F1, rfl, hM, hT⟩
 have lx := lt_of_some HX.out.1
 have ly := lt_of_some HX.out.2.1
 have hx1 : w1.heap[bx]? = some (boxJ c) := (hT.fr.block bx lx (fun d => d.1.2 rfl)).trans HX.out.1
 have hy1 : w1.heap[by_]? = some (boxK (fkJ c)) := (hT.fr.block by_ ly (fun d => d.2 rfl)).trans HX.out.2.1
 have nF : ¬ F1 by_ := fun d => (hT.sub by_ d).elim (fun d => d.2 rfl) (fun d => by omega)
 have nG : ¬ (F1 bx \/ bx = by_) := fun d => d.elim (fun d => (hT.sub bx d).elim (fun d => d.1.2 rfl) (fun d => by omega)) hne
 have HF : Hid ((mkSd (obX (obX (mjI c k) by_ (boxK (fkJ c))) bx (boxJ c)) c.bs vr).J (fun b => (F1 b \/ b = by_) \/ b = bx) t2 w1 /\ Fr F w w1 /\ ∀ b, ((F1 b \/ b = by_) \/ b = bx) -> F b \/ w.heap.size <= b) := by
  refine ⟨mkSd_add (mkSd_add hM hy1 nF) hx1 nG, hT.fr.mono (fun b d => d.1.1), fun b d => ?_⟩
  rcases d with (d | d) | d
  ·exact (hT.sub b d).imp (fun d => d.1.1) id
  ·exact Or.inl (by rw [d]; exact HX.out.2.2.2)
  ·exact Or.inl (by rw [d]; exact HX.out.2.2.1)
 clear hM hT hx1 hy1 nF nG
 go_wp2_with fail
 go_ret
 rw [E.out]
 exact ⟨_, rfl, HF.out.1, HF.out.2.1, HF.out.2.2⟩
theorem lksJ (bx by_ : Nat) (hne : bx ≠ by_) {adr : Option Addr} {nr cr : Nat} (hvr : vr = .slice adr nr cr) : Lks (mkSd (obX (obX (mjI c k) by_ (boxK (fkJ c))) bx (boxJ c)) c.bs vr) (fun _ => True) (faJ bx) (fpJ by_) (fnJ c) (fun s x => k.al s.1 x) k.ke (fun s x => k.nw s.1 x) where
  ea := ent_faJ
  ek := ent_fpJ
  en := ent_fnJ
  ha := by
    rintro F s w x _ ⟨F0, ad, cap, h1, _⟩
    exact alives_faJ2 bx by_ (fkJ c) F0 s.1 w x trivial h1
  hk := keepsW_fkJ bx by_ hne hvr
  ht := by
    rintro F s w x _ ⟨F0, ad, cap, h1, _⟩
    exact tells_obX (tells_obX tells_fnJ) F0 s.1 w x trivial h1
  hl := fun s x => keJ_len k s x
theorem settleJ_any {adr : Option Addr} {cr : Nat} {r : List En} (hvr : vr = .slice adr r.length cr) {t : Js × List En} (h : (mkSd (mjI c k) c.bs vr).J F t w) (hr : w.ownsRow 0 106 2 vr r.length (ev r)) (hq : t.2.length + r.length <= 90000) (bx by_ : Nat) (hne : bx ≠ by_) (hx : w.heap[bx]? = some (boxJ c)) (hy : w.heap[by_]? = some (boxK (fkJ c))) (hn : ¬ F bx) (hm : ¬ F by_) :
  Calls Tryz.prog 64 #[.pointer (some ⟨c.bs, 0, none⟩), .agg #[(faJ bx).v, (fpJ by_).v, (fnJ c).v]] w fun e w' => ∃ a1 c1 F', e = .returned (.tuple #[]) /\ (mkSd (mjI c k) c.bs (.slice a1 (k.sR t r).length c1)).J F' ((k.sS t r).1, k.sQ t r) w' /\
   w'.ownsRow 0 106 2 (.slice a1 (k.sR t r).length c1) (k.sR t r).length (ev (k.sR t r)) /\ (∀ b, some b = (Value.slice a1 (k.sR t r).length c1).ownBlock -> ¬ F' b /\ w.heap.size <= b) /\ Fr (fun b => F b \/ b = by_ \/ b = bx) w w' /\ (∀ b, F' b -> F b \/ w.heap.size <= b) := by
 subst hvr
 have P := settle_more (mkSd (obX (obX (mjI c k) by_ (boxK (fkJ c))) bx (boxJ c)) c.bs (.slice adr r.length cr)) (fun _ => True) (faJ bx) (fpJ by_) (fnJ c) _ _ _ (lksJ bx by_ hne rfl) r adr cr rfl (by omega) (fun _ _ => ⟨trivial, trivial⟩) _ t w (fun _ _ => ⟨trivial, trivial⟩) hq (mkSd_add (mkSd_add h hy hm) hx (fun d => d.elim hn hne)) (row_pairs hr)
 refine P.mono ?_
 clear P
 rintro e w' ⟨a1, c1, a2, c2, F1, wm, rfl, ⟨F0, ad, cap, ⟨Fb, ⟨Fc, g1, g2', g3', g4'⟩, g2, g3, g4⟩, h2, h3, h4, h5, h6, h7, h8⟩, q3, q4, q5, q6, q7, q8, q9, q10, q11, q12⟩
 have q5 : w'.heap[c.bs]? = some (.cells #[.slice a1 (k.sR t r).length c1, .slice a2 (k.sQ t r).length c2] 153 (0, 0)) := q5
 have q6 : w'.ownsRow w.heap.size 106 2 (.slice a1 (k.sR t r).length c1) (k.sR t r).length (ev (k.sR t r)) := q6
 have q7 : w'.ownsRow w.heap.size 106 2 (.slice a2 (k.sQ t r).length c2) (k.sQ t r).length (ev (k.sQ t r)) := q7
 have q10 : ∀ b, some b = (Value.slice a1 (k.sR t r).length c1).ownBlock -> ¬ F1 b := q10
 have q11 : ∀ b, some b = (Value.slice a2 (k.sQ t r).length c2).ownBlock -> ¬ F1 b := q11
 have q12 : ∀ b, some b = (Value.slice a1 (k.sR t r).length c1).ownBlock -> some b ≠ (Value.slice a2 (k.sQ t r).length c2).ownBlock := q12
 have g1 : (mjI c k).J Fc (k.sS t r).1 wm := g1
 have fb0 : ∀ b, Fc b -> F0 b := fun b hb => (g4 b).2 (Or.inl ((g4' b).2 (Or.inl hb)))
 have fc1 : ∀ b, Fc b -> F1 b := fun b hb => h4 b (fb0 b hb)
 have fcp : ∀ b, Fc b -> b ≠ c.bs := fun b hb e => h6 (by show F0 c.bs; rw [<- e]; exact fb0 b hb)
 have g1' := (mjI c k).keep (w' := w') g1 q4 (fun b hb => q3 b (fc1 b hb) (fcp b hb))
 have hFs : F c.bs := by
  obtain ⟨_, _, _, _, _, _, _, e5, _⟩ := h
  exact e5
 refine ⟨a1, c1, fun b => Fc b \/ b = c.bs \/ some b = (Value.slice a2 (k.sQ t r).length c2).ownBlock, rfl, ⟨Fc, a2, c2, g1', q5, row_base q7 (fun _ _ => Nat.zero_le _), fun b hb => Or.inl hb, Or.inr (Or.inl rfl), fun d => fcp _ d rfl, fun b e => ⟨Or.inr (Or.inr e), fun d => q11 b e (fc1 b d)⟩, fun b hb => ?_⟩, row_base q6 (fun _ _ => Nat.zero_le _), fun b e => ⟨fun d => ?_, (row_lt q6 b e).1⟩, q8.mono (fun b d => ?_), fun b hb => ?_⟩
 ·rcases hb with hb | hb | hb
  ·exact (mjI c k).lt g1' b hb
  ·rw [hb]; exact lt_of_some q5
  ·exact (row_lt q7 b hb).2
 ·rcases d with d | d | d
  ·exact q10 b e (fc1 b d)
  ·obtain ⟨cs, hc⟩ := row_type q6 b e
   rw [d, q5] at hc
   simp at hc
  ·exact q12 b e d
 ·rcases d with (d | d) | d
  ·exact Or.inl d
  ·exact Or.inr (Or.inl d)
  ·exact Or.inr (Or.inr d)
 ·rcases hb with hb | hb | hb
  ·rcases q9 b (fc1 b hb) with ((d | d) | d) | d
   ·exact Or.inl d
   ·exact absurd hb (by rw [d]; exact g3')
   ·exact absurd ((g4' b).2 (Or.inl hb)) (by rw [d]; exact g3)
   ·exact Or.inr d
  ·exact Or.inl (by rw [hb]; exact hFs)
  ·exact Or.inr (row_lt q7 b hb).1
def Jk.kr (k : Jk) (s : Js) : Nat -> Js
 | 0 => s
 | n + 1 => k.ma (k.kr s n) (k.s.rs.getD n 0)
theorem Jl.kr (h : JI k s) : ∀ n, Jl k s (k.kr s n)
 | 0 => Jl.refl h
 | n + 1 => (Jl.kr h n).trans (Jl.ma (Jl.kr h n).ji _)
theorem keepRootsJ_any (h : (mjO c k).J F s w) (hI : JI k s) :
  Calls Tryz.prog 147 #[.pointer (some ⟨c.pk, 0, none⟩)] w fun e w' => ∃ F', e = .returned (.tuple #[]) /\ (mjO c k).J F' (k.kr s 12) w' /\ Tn F w F' w' := by
 have HJ : Hid ((mjO c k).J F s w) := h
 have HI : Hid (JI k s) := hI
 obtain ⟨vt, ve, h⟩ := h
 obtain ⟨_, c0, c3, _⟩ := mj_wood h
 obtain ⟨d0, _⟩ := mj_cells h
 clear h hI
 go_enter Tryz.func147, Tryz.ntmps147
 go_wp2_with fail
 go_loopw [12] (fun iv wr => ∃ (j : Nat) (F' : Nat -> Prop), j <= 12 /\ iv = .int .i64 j /\ Hid ((mjO c k).J F' (k.kr s j) wr /\ Tn F w F' wr)) (fun iv _ => 12 - (intOf iv).toNat)
 case atStart => exact ⟨0, F, Nat.zero_le _, rfl, ⟨HJ.out, Tn.refl _ _⟩⟩
 case round =>
  clear HJ c0 c3 d0
  obtain ⟨j, F', hj, rfl, HJ1⟩ := hrel
  by_cases hlt : j < 12
  ·obtain ⟨vt, ve, h1⟩ := HJ1.out.1
   obtain ⟨_, _, _, rt⟩ := mj_wood h1
   have r1 := rt j hlt
   have PM := markJ_any HJ1.out.1 (Jl.kr HI.out j).ji (k.s.rs.getD j 0)
   have HS : Hid (k.ma (k.kr s j) (k.s.rs.getD j 0) = k.kr s (j + 1)) := rfl
   rw [HS.out] at PM
   have j0 : (0 : Int) <= (j : Int) := by omega
   have j1 : (j : Int) < 12 := by omega
   generalize k.s.rs.getD j 0 = x at r1 PM
   clear h1 rt HS
   go_wp2_with fail
   refine PM.mono ?_
   clear PM
   rintro e w2 ⟨F2, rfl, j2, t2⟩
   have HJ2 : Hid ((mjO c k).J F2 (k.kr s (j + 1)) w2 /\ Tn F w F2 w2) := ⟨j2, HJ1.out.2.trans t2⟩
   clear j2 t2 r1 HJ1
   go_wp2_with fail
   go_roundw
   case rel => exact ⟨j + 1, F2, by omega, by go_num, HJ2⟩
   case measure => simp [intOf]; omega
  ·obtain rfl : j = 12 := by omega
   go_wp2_with fail
   go_end0
   exact ⟨F', rfl, HJ1.out.1, HJ1.out.2⟩
end
end Go.Proofs.YtnalfnlmaallmaaGreat

namespace Go.Proofs.YtnalfnlmaallmaaGreat
open Go.RowKit W Kp Stl
end Go.Proofs.YtnalfnlmaallmaaGreat

namespace Go.Proofs.YtnalfnlmaallmaaGreat
set_option maxRecDepth 100000
set_option maxHeartbeats 2000000
open Go.RowKit W Kp Stl
theorem zeros_len1 (z : Value) (n : Nat) (hz : z.cells.size = 1) : (Builtin.zeroCells z.cells n).size = n * 1 := by rw [size_zeroCells, hz]
theorem int_one (l : List Int) : ∀ u ∈ l.map (Value.int .i64), u.oneCell' = true := fun u hu => by
 obtain ⟨x, _, rfl⟩ := List.mem_map.1 hu
 rfl
theorem row_none {w : World} {base n m : Nat} {e : TypeId} {ad : Option Addr} {cap : Nat} {xs : List Value} (h : w.ownsRow base e m (.slice ad n cap) n xs) : ad = none -> n = 0 /\ cap = 0 := fun e0 => by
 subst e0
 rcases h.2 with ⟨hv, hn⟩ | ⟨g, c, cur, hv, _⟩
 ·simp at hv
  exact ⟨hn, hv.2⟩
 ·simp at hv
theorem row_adds {w : World} {base : Nat} {e : TypeId} {ad : Option Addr} {cap : Nat} {l : List Int} (h : w.ownsRow base e 1 (.slice ad l.length cap) l.length (l.map (Value.int .i64))) : ∀ a, ad = some a -> ∀ j u, (l.map (Value.int .i64))[j]? = some u -> w.cell? (a.add j) = some u := fun a ea j u hj => by
 have hjl : j < l.length := by
  have := (List.getElem?_eq_some_iff.1 hj).1
  simpa using this
 obtain ⟨b, o, e2, _, hc⟩ := row_ints h (by omega)
 rw [ea] at e2
 cases e2
 have h1 := hc j hjl
 rw [List.getElem?_map, List.getElem?_eq_getElem hjl] at hj
 simp at hj
 have e3 : (⟨b, o, none⟩ : Addr).add j = ⟨b, o + j, none⟩ := by simp [Addr.add]
 rw [e3, h1, <- hj]
 simp [List.getD_eq_getElem?_getD, List.getElem?_eq_getElem hjl]
theorem growI_any (w : World) (n : Nat) (hn : n <= 100000) :
  Calls Tryz.prog 252 #[.slice none 0 0, .int .i64 n] w fun e w' => ∃ a1 c1, e = .returned (.slice a1 0 c1) /\ w'.ownsRow w.heap.size 3 1 (.slice a1 0 c1) 0 [] /\ Below w.heap.size w w' := by
 obtain ⟨i0, hi, hz0, hz1, hz2⟩ := info_parts infoInt
 rcases Nat.eq_zero_or_pos n with h0 | h0
 ·subst h0
  go_enter Tryz.func252, Tryz.ntmps252
  go_wp2_with fail
  go_ret
  exact ⟨none, 0, rfl, World.ownsRow_nil _ _ _ _, Below.refl _ _⟩
 ·have hr := Lib.run_append_nil_zeros (P := Tryz.prog) w 81 3 81 3 i0 (.int .i64 0) .i64 .i64 Tryz.underlying81 Tryz.underlying3 hi hz0 n h0 (by rw [hz1]; decide) (by omega) (by rw [hz2]; omega)
  have hge := grownCap_ge w n 0 3
  have hcm : grownCap w n 0 3 <= maxLen := grownCap_le_maxLen w n 0 3 (by unfold maxLen; omega)
  generalize grownCap w n 0 3 = g at hr hge hcm
  have hown : (w.drew.alloc (.cells (Builtin.zeroCells (Value.int .i64 0).cells n ++ Builtin.zeroCells (Value.int .i64 0).cells (g - n)) 3)).ownsRow w.heap.size 3 1 (.slice (some ⟨w.heap.size, 0, none⟩) 0 g) 0 [] :=
   World.ownsRow_made w.drew _ g (Nat.le_refl _) hcm (by rw [Array.size_append, zeros_len1 _ _ rfl, zeros_len1 _ _ rfl]; omega)
  have hb : Below w.heap.size w (w.drew.alloc (.cells (Builtin.zeroCells (Value.int .i64 0).cells n ++ Builtin.zeroCells (Value.int .i64 0).cells (g - n)) 3)) := (Below.refl _ w).drew.alloc (Nat.le_refl _) _
  generalize w.drew.alloc (.cells (Builtin.zeroCells (Value.int .i64 0).cells n ++ Builtin.zeroCells (Value.int .i64 0).cells (g - n)) 3) = w1 at hr hown hb
  go_enter Tryz.func252, Tryz.ntmps252
  go_wp2_with (at_builtin; refine Lib.wpList_append_run _ rfl _ _ _ _ rfl _ _ rfl rfl _ _ hr ?_)
  go_wp2_with fail
  go_ret
  exact ⟨_, _, rfl, hown, hb⟩
theorem concatI_any (w : World) (B : Nat) (l1 l2 : List Int) (z1 z2 : Option Addr) (c1 c2 : Nat) (x0 : w.cell? ⟨B, 0, none⟩ = some (.slice z1 l1.length c1)) (x1 : w.cell? ⟨B, 1, none⟩ = some (.slice z2 l2.length c2)) (h1 : w.ownsRow 0 3 1 (.slice z1 l1.length c1) l1.length (l1.map (Value.int .i64))) (h2 : w.ownsRow 0 3 1 (.slice z2 l2.length c2) l2.length (l2.map (Value.int .i64))) (hm : l1.length + l2.length <= 100000) :
  Calls Tryz.prog 236 #[.slice (some ⟨B, 0, none⟩) 2 2] w fun e w' => ∃ a c, e = .returned (.slice a (l1.length + l2.length) c) /\ w'.ownsRow w.heap.size 3 1 (.slice a (l1.length + l2.length) c) (l1.length + l2.length) ((l1 ++ l2).map (Value.int .i64)) /\ Below w.heap.size w w' := by
 obtain ⟨i0, hi, hz0, hz1, hz2⟩ := info_parts infoInt
 have H1 : Hid (w.ownsRow 0 3 1 (.slice z1 l1.length c1) l1.length (l1.map (Value.int .i64))) := h1
 have H2 : Hid (w.ownsRow 0 3 1 (.slice z2 l2.length c2) l2.length (l2.map (Value.int .i64))) := h2
 have hB := World.block_lt_of_cell? w _ x0
 clear h1 h2
 go_enter Tryz.func236, Tryz.ntmps236
 go_wp2_with fail
 go_loopw [3, 11] (fun sv iv wr => wr = w /\ ((iv = .int .i64 0 /\ sv = .int .i64 0) \/ (iv = .int .i64 1 /\ sv = .int .i64 l1.length) \/ (iv = .int .i64 2 /\ sv = .int .i64 (l1.length + l2.length : Nat)))) (fun _ iv _ => 2 - (intOf iv).toNat)
 case atStart => exact ⟨rfl, Or.inl ⟨rfl, rfl⟩⟩
 case round =>
  obtain ⟨hw, ⟨rfl, rfl⟩ | ⟨rfl, rfl⟩ | ⟨rfl, rfl⟩⟩ := hrel
  all_goals
   have hw := hw.symm
   subst hw
  ·go_wp2_with fail
   go_roundw
   case rel => exact ⟨trivial, Or.inr (Or.inl ⟨by go_num, by go_num⟩)⟩
   case measure => simp [intOf]
  ·go_wp2_with fail
   go_roundw
   case rel => exact ⟨trivial, Or.inr (Or.inr ⟨by go_num, by go_num⟩)⟩
   case measure => simp [intOf]
  ·go_wp2_with fail
   refine (growI_any w (l1.length + l2.length) hm).mono ?_
   rintro e w1 ⟨a1, d1, rfl, hown, hb⟩
   go_wp2_with fail
   go_loopw [6, 27] (fun vv iv wk => Below w.heap.size w wk /\ ((∃ a c, iv = .int .i64 0 /\ vv = .slice a 0 c /\ wk.ownsRow w.heap.size 3 1 (.slice a 0 c) 0 []) \/ (∃ a c, iv = .int .i64 1 /\ vv = .slice a l1.length c /\ wk.ownsRow w.heap.size 3 1 (.slice a l1.length c) l1.length (l1.map (Value.int .i64))) \/ (∃ a c, iv = .int .i64 2 /\ vv = .slice a (l1.length + l2.length) c /\ wk.ownsRow w.heap.size 3 1 (.slice a (l1.length + l2.length) c) (l1.length + l2.length) ((l1 ++ l2).map (Value.int .i64))))) (fun _ iv _ => 2 - (intOf iv).toNat)
   case atStart => exact ⟨hb, Or.inl ⟨a1, d1, rfl, rfl, hown⟩⟩
   case round =>
    clear hown hb
    obtain ⟨hb, ⟨a, c, rfl, rfl, hown⟩ | ⟨a, c, rfl, rfl, hown⟩ | ⟨a, c, rfl, rfl, hown⟩⟩ := hrel
    ·have y0 := (hb.cell (p := ⟨B, 0, none⟩) hB).trans x0
     have hs := hb.size
     go_wp2_with (at_builtin; refine wpList_append_src _ rfl _ _ 81 rfl w.heap.size 3 i0 (.int .i64 0) 1 8 Tryz.underlying81 hi hz0 hz1 hz2 rfl (by decide) (.slice a 0 c) 0 [] rfl hown z1 l1.length c1 (l1.map (Value.int .i64)) rfl (by simp) (row_none H1.out) (row_adds (row_keep H1.out (fun k e => hb.block k (row_lt H1.out k e).2))) (int_one l1) ?_ ?_ hs ?_; (unfold maxLen; omega); omega; intro a2 d2 w2 hown2 hgrow2 _; rw [Nat.zero_add, List.nil_append] at hown2)
     have hb2 := hb.grown hgrow2 hs (fun k e => (row_lt hown k e.symm).1)
     clear hb hgrow2
     go_wp2_with fail
     go_roundw
     case rel => exact ⟨hb2, Or.inr (Or.inl ⟨a2, d2, by go_num, rfl, hown2⟩)⟩
     case measure => simp [intOf]
    ·have y0 := (hb.cell (p := ⟨B, 1, none⟩) hB).trans x1
     have hs := hb.size
     go_wp2_with (at_builtin; refine wpList_append_src _ rfl _ _ 81 rfl w.heap.size 3 i0 (.int .i64 0) 1 8 Tryz.underlying81 hi hz0 hz1 hz2 rfl (by decide) (.slice a l1.length c) l1.length (l1.map (Value.int .i64)) rfl hown z2 l2.length c2 (l2.map (Value.int .i64)) rfl (by simp) (row_none H2.out) (row_adds (row_keep H2.out (fun k e => hb.block k (row_lt H2.out k e).2))) (int_one l2) ?_ ?_ hs ?_; (unfold maxLen; omega); omega; intro a2 d2 w2 hown2 hgrow2 _; rw [<- List.map_append] at hown2)
     have hb2 := hb.grown hgrow2 hs (fun k e => (row_lt hown k e.symm).1)
     clear hb hgrow2
     go_wp2_with fail
     go_roundw
     case rel => exact ⟨hb2, Or.inr (Or.inr ⟨a2, d2, by go_num, rfl, hown2⟩)⟩
     case measure => simp [intOf]
    ·go_wp2_with fail
     go_ret
     exact ⟨a, c, rfl, hown, hb⟩
section
variable {c : Jc} {k : Jk} {F : Nat -> Prop} {s : Js} {w : World}
theorem mj_things {vt ve : Value} (h : (mjV c k vt ve).J F s w) : w.ownsRow 0 3 1 c.yv k.Y.length (k.Y.map (Value.int .i64)) /\ w.ownsRow 0 3 1 c.ov k.G.length (k.G.map (Value.int .i64)) := by
 obtain ⟨FW, own, h, _⟩ := h
 exact ⟨h.yr, h.gr⟩
theorem allJ_any (h : (mjO c k).J F s w) (hl : k.T.length <= 4000) :
  Calls Tryz.prog 201 #[.pointer (some ⟨c.pk, 0, none⟩)] w fun e w' => ∃ a d, e = .returned (.slice a k.T.length d) /\ w'.ownsRow w.heap.size 3 1 (.slice a k.T.length d) k.T.length (k.T.map (Value.int .i64)) /\ Below w.heap.size w w' := by
 have hlen : k.T.length = k.G.length + k.Y.length := by unfold Jk.T; rw [List.length_append]
 have ET : Hid (k.T.map (Value.int .i64) = (k.G ++ k.Y).map (Value.int .i64)) := rfl
 rw [hlen] at hl ⊢
 rw [ET.out]
 obtain ⟨vt, ve, h⟩ := h
 obtain ⟨_, d1, d2, _, _, _, _, _, lk⟩ := mj_cells h
 obtain ⟨yr, gr⟩ := mj_things h
 obtain ⟨ya, yc, ey⟩ := row_slice yr
 obtain ⟨ga, gc, eg⟩ := row_slice gr
 rw [ey] at d1 yr
 rw [eg] at d2 gr
 have hba := (Below.refl w.drew.heap.size w.drew).alloc (Nat.le_refl _) (.cells #[.slice ga k.G.length gc, .slice ya k.Y.length yc] 81)
 have hB0 : Below w.heap.size w (w.drew.alloc (.cells #[.slice ga k.G.length gc, .slice ya k.Y.length yc] 81)) := (Below.refl w.heap.size w).drew.trans (hba.mono (Nat.le_refl _))
 have hx := heap_alloc_new w.drew (.cells #[.slice ga k.G.length gc, .slice ya k.Y.length yc] 81)
 have P := concatI_any (w.drew.alloc (.cells #[.slice ga k.G.length gc, .slice ya k.Y.length yc] 81)) w.heap.size k.G k.Y ga ya gc yc (by simp only [World.cell?]; rw [show w.heap.size = w.drew.heap.size from rfl, hx]; rfl) (by simp only [World.cell?]; rw [show w.heap.size = w.drew.heap.size from rfl, hx]; rfl) (row_keep gr (fun b e => hB0.block b (row_lt gr b e).2)) (row_keep yr (fun b e => hB0.block b (row_lt yr b e).2)) (by omega)
 have HB0 : Hid (Below w.heap.size w (w.drew.alloc (.cells #[.slice ga k.G.length gc, .slice ya k.Y.length yc] 81))) := hB0
 clear h yr gr hba hx hB0 hlen ey eg
 go_enter Tryz.func201, Tryz.ntmps201
 go_wp2_with fail
 go_region_held3 (fun w' => w'.cell? ⟨c.pk, 1, none⟩ = some (.slice ya k.Y.length yc) /\ w'.cell? ⟨c.pk, 2, none⟩ = some (.slice ga k.G.length gc)) (go_keep)
  (first
   | (go_at_call 236; refine P.mono ?_; clear P; rintro e w3 ⟨a, d, rfl, hown, hb⟩; have hB3 := HB0.out.trans (hb.mono HB0.out.size); have y1 := (hB3.cell (p := ⟨c.pk, 1, none⟩) lk).trans d1; have y2 := (hB3.cell (p := ⟨c.pk, 2, none⟩) lk).trans d2; have HO : Hid (w3.ownsRow w.heap.size 3 1 (.slice a (k.G.length + k.Y.length) d) (k.G.length + k.Y.length) ((k.G ++ k.Y).map (Value.int .i64)) /\ Below w.heap.size w w3) := ⟨row_base hown (fun b e => Nat.le_trans HB0.out.size (row_lt hown b e).1), hB3⟩; clear hown hb hB3))
 clear y1 y2 d1 d2
 go_wp2_with fail
 go_ret
 exact ⟨a, d, rfl, HO.out.1, HO.out.2⟩
end
end Go.Proofs.YtnalfnlmaallmaaGreat
