/- Joined: Sd3, Sd4. -/
import Derived.Test.YtogknhogphkddaaGreatJ06
/- A Side among whatever looks at it: what its Settle hands over: guarded, comes: contracts. -/
namespace Go.Proofs.YtogknhogphkddaaGreat
open Go.RowKit W Kp Stl

structure SdOb (σ : Type) extends Ob σ where
  p : Nat
  vr : Value
  wt : σ → List En
  put : σ → List En → σ
  side : ∀ {F s w}, J F s w → ∃ ad cap, w.heap[p]? = some (.cells #[vr, .slice ad (wt s).length cap] 51 (0, 0)) ∧ Li w ad (wt s) cap ∧ F p ∧ (0 < (wt s).length → ∀ z, ad = some z → F z.block)
  set : ∀ {F s w}, J F s w → ∀ {w1 : World} {q : List En} {b1 cap1 : Nat}, Below w.heap.size w w1 → w1.ownsRow w.heap.size 100 2 (.slice (some ⟨b1, 0, none⟩) q.length cap1) q.length (ev q) →
    J (fun k => F k ∨ k = b1) (put s q) (w1.setCell ⟨p, 1, none⟩ (.slice (some ⟨b1, 0, none⟩) q.length cap1))
  wt_put : ∀ s q, wt (put s q) = q

theorem Li.keep {w w' : World} {ad : Option Addr} {l : List En} {cap : Nat} (h : Li w ad l cap) (hs : w.heap.size ≤ w'.heap.size) (hk : 0 < l.length → ∀ a, ad = some a → w'.heap[a.block]? = w.heap[a.block]?) : Li w' ad l cap := ⟨h.lp.keep hs hk, h.le, h.nil⟩
theorem Li.below {w w' : World} {ad : Option Addr} {l : List En} {cap : Nat} (h : Li w ad l cap) (hb : Below w.heap.size w w') : Li w' ad l cap := ⟨h.lp.below hb, h.le, h.nil⟩

def KeepsW {σ : Type} (o : SdOb σ) (D : Int → Prop) (f : Nat) (b c : Array Value) (kp : σ → Int → Int × σ) : Prop :=
  ∀ F t w (x : Int), D x → (o.wt (kp t x).2).length ≤ 90000 → o.J F t w → Calls Tryz.prog f (b.push (.int .i64 x) ++ c) w fun r w' => ∃ F', r = .returned (.int .i64 (kp t x).1) ∧ o.J F' (kp t x).2 w' ∧ Fr F w w' ∧ ∀ k, F' k → F k ∨ w.heap.size ≤ k

structure Fv where
  f : Nat
  b : Array Value
  c : Array Value
abbrev Fv.v (x : Fv) : Value := .func (.func x.f) x.b x.c

structure Bxs (w : World) (p bl bg bs : Nat) (fa fk fn : Fv) : Prop where
  l : w.heap[bl]? = some (.cells #[fa.v, fk.v, fn.v] 158 (0, 0))
  g : w.heap[bg]? = some (.cells #[.func (.func 99) #[] #[.pointer (some ⟨bl, 0, none⟩)]] 99 (0, 0))
  s : w.heap[bs]? = some (.cells #[.pointer (some ⟨p, 0, none⟩)] 48 (0, 0))

set_option maxRecDepth 100000 in
set_option maxHeartbeats 400000 in
theorem guarded_any {σ : Type} (o : Ob σ) (D : Int → Prop) (fa : Fv) (is : σ → Int → Bool) (he : Ent fa.f) (ha : Alives o D fa.f fa.b fa.c is) (F : Nat → Prop) (s : σ) (w : World) (bl : Nat) (e : En) (hD : D e.1) (hJ : o.J F s w) (hc : w.cell? ⟨bl, 0, none⟩ = some fa.v) :
    Calls Tryz.prog 99 #[en e, .pointer (some ⟨bl, 0, none⟩)] w fun r w' => r = .returned (.bool (is s e.1)) ∧ Below w.heap.size w w' := by
  obtain ⟨g, z⟩ := e
  obtain ⟨f, b, c⟩ := fa
  have HA : Hid (Alives o D f b c is) := ha
  have HJ : Hid (o.J F s w) := hJ
  have hlt := World.block_lt_of_cell? w _ hc
  have hcf : ∀ (args : Array Value) (w : World), (callFunc f args).run Tryz.prog w = .ok (.enter f args) w := he
  clear he ha hJ
  go_enter Tryz.func99, Tryz.ntmps99
  go_wp2_with fail
  have hb1 := (Below.refl w.heap.size w).alloc (Nat.le_refl _) (.cells #[.int .i64 g, .int .i64 z] 100)
  refine (HA.out F s _ g hD (o.below HJ.out hb1)).mono ?_
  rintro r w1 ⟨rfl, hb⟩
  go_wp2_with fail
  go_ret
  exact ⟨rfl, hb1.trans (hb.mono (by simp))⟩

set_option maxRecDepth 100000 in
set_option maxHeartbeats 400000 in
theorem lives_any {σ : Type} (o : Ob σ) (D : Int → Prop) (fa : Fv) (is : σ → Int → Bool) (he : Ent fa.f) (ha : Alives o D fa.f fa.b fa.c is) (F : Nat → Prop) (s : σ) (w : World) (bl : Nat) (e : En) (hD : D e.2) (hJ : o.J F s w) (hc : w.cell? ⟨bl, 0, none⟩ = some fa.v) :
    Calls Tryz.prog 104 #[en e, .pointer (some ⟨bl, 0, none⟩)] w fun r w' => r = .returned (.bool (is s e.2)) ∧ Below w.heap.size w w' := by
  obtain ⟨g, z⟩ := e
  obtain ⟨f, b, c⟩ := fa
  have HA : Hid (Alives o D f b c is) := ha
  have HJ : Hid (o.J F s w) := hJ
  have hlt := World.block_lt_of_cell? w _ hc
  have hcf : ∀ (args : Array Value) (w : World), (callFunc f args).run Tryz.prog w = .ok (.enter f args) w := he
  clear he ha hJ
  go_enter Tryz.func104, Tryz.ntmps104
  go_wp2_with fail
  have hb1 := (Below.refl w.heap.size w).alloc (Nat.le_refl _) (.cells #[.int .i64 g, .int .i64 z] 100)
  refine (HA.out F s _ z hD (o.below HJ.out hb1)).mono ?_
  rintro r w1 ⟨rfl, hb⟩
  go_wp2_with fail
  go_ret
  exact ⟨rfl, hb1.trans (hb.mono (by simp))⟩

def cm {σ : Type} (o : SdOb σ) (is : σ → Int → Bool) (kp : σ → Int → Int × σ) (s : σ) (e : En) : Bool × σ :=
  if is s e.1 then (true, o.put (kp s e.2).2 (o.wt (kp s e.2).2 ++ [(e.1, (kp s e.2).1)])) else (false, s)
theorem cm_no {σ : Type} {o : SdOb σ} {is : σ → Int → Bool} {kp : σ → Int → Int × σ} {s : σ} {e : En} (h : is s e.1 = false) : cm o is kp s e = (false, s) := by simp [cm, h]
theorem cm_yes {σ : Type} {o : SdOb σ} {is : σ → Int → Bool} {kp : σ → Int → Int × σ} {s : σ} {e : En} (h : is s e.1 = true) : cm o is kp s e = (true, o.put (kp s e.2).2 (o.wt (kp s e.2).2 ++ [(e.1, (kp s e.2).1)])) := by simp [cm, h]

set_option maxRecDepth 100000 in
set_option maxHeartbeats 1000000 in
theorem comes_any {σ : Type} (o : SdOb σ) (D : Int → Prop) (fa fk fn : Fv) (is : σ → Int → Bool) (kp : σ → Int → Int × σ) (he : Ent fa.f) (hek : Ent fk.f) (ha : Alives o.toOb D fa.f fa.b fa.c is) (hk : KeepsW o D fk.f fk.b fk.c kp)
    (F : Nat → Prop) (s : σ) (w : World) (bl bg bs : Nat) (e : En) (hD : D e.1 ∧ D e.2) (hn : (o.wt (kp s e.2).2).length ≤ 90000) (hJ : o.J F s w) (hB : Bxs w o.p bl bg bs fa fk fn) (hs : ¬ F bs) :
    Calls Tryz.prog 100 #[en e, .pointer (some ⟨bg, 0, none⟩), .pointer (some ⟨bl, 0, none⟩), .pointer (some ⟨bs, 0, none⟩)] w fun r w' => ∃ F', r = .returned (.bool (cm o is kp s e).1) ∧ o.J F' (cm o is kp s e).2 w' ∧ Fr F w w' ∧ ∀ k, F' k → F k ∨ w.heap.size ≤ k := by
  obtain ⟨g, z⟩ := e
  have HA : Hid (Alives o.toOb D fa.f fa.b fa.c is) := ha
  have HK : Hid (KeepsW o D fk.f fk.b fk.c kp) := hk
  have HN : Hid ((o.wt (kp s z).2).length ≤ 90000) := hn
  have HE : Hid (Ent fa.f) := he
  have HJ : Hid (o.J F s w) := hJ
  have c0 : w.cell? ⟨bl, 0, none⟩ = some fa.v := by simp [World.cell?, hB.l]
  have c1 : w.cell? ⟨bl, 1, none⟩ = some (.func (.func fk.f) fk.b fk.c) := by simp [World.cell?, hB.l]
  have c2 : w.cell? ⟨bg, 0, none⟩ = some (.func (.func 99) #[] #[.pointer (some ⟨bl, 0, none⟩)]) := by simp [World.cell?, hB.g]
  have c3 : w.cell? ⟨bs, 0, none⟩ = some (.pointer (some ⟨o.p, 0, none⟩)) := by simp [World.cell?, hB.s]
  have l1 : bl < w.heap.size := lt_of_some hB.l
  have l2 : bg < w.heap.size := lt_of_some hB.g
  have l3 : bs < w.heap.size := lt_of_some hB.s
  have hcf : ∀ (args : Array Value) (w : World), (callFunc fk.f args).run Tryz.prog w = .ok (.enter fk.f args) w := hek
  clear he ha hJ hk hek hn hB
  go_enter Tryz.func100, Tryz.ntmps100
  go_wp2_with fail
  have hb1 := (Below.refl w.heap.size w).alloc (Nat.le_refl _) (.cells #[.int .i64 g, .int .i64 z] 100)
  refine (guarded_any o.toOb D fa is HE.out HA.out F s _ bl (g, z) hD.1 (o.below HJ.out hb1) ((hb1.cell l1).trans c0)).mono ?_
  rintro r w1 ⟨rfl, hb⟩
  have hb2 := hb1.trans (hb.mono (by simp))
  have hl0 : w.heap.size < w1.heap.size := by have := hb.size; simp at this; omega
  have y0 : w1.cell? ⟨w.heap.size, 0, none⟩ = some (.int .i64 g) := (hb.cell (by simp)).trans (by simp)
  have y1 : w1.cell? ⟨w.heap.size, 1, none⟩ = some (.int .i64 z) := (hb.cell (by simp)).trans (by simp)
  have y2 : w1.cell? ⟨bl, 1, none⟩ = some (.func (.func fk.f) fk.b fk.c) := (hb2.cell l1).trans c1
  have y3 : w1.cell? ⟨bs, 0, none⟩ = some (.pointer (some ⟨o.p, 0, none⟩)) := (hb2.cell l3).trans c3
  have yf : w1.frozen? ⟨w.heap.size, 1, none⟩ = false := (hb.frozen (by simp)).trans (by simp)
  clear hb hb1
  cases hg : is s g
  · have HC : Hid (cm o is kp s (g, z) = (false, s)) := cm_no hg
    go_wp2_with fail
    go_ret
    rw [HC.out]
    exact ⟨F, rfl, o.below HJ.out hb2, Fr.of hb2, fun k h => Or.inl h⟩
  · have HC : Hid (cm o is kp s (g, z) = (true, o.put (kp s z).2 (o.wt (kp s z).2 ++ [(g, (kp s z).1)]))) := cm_yes hg
    go_wp2_with fail
    refine (HK.out F s _ z hD.2 HN.out (o.below HJ.out hb2)).mono ?_
    rintro r w3 ⟨F1, rfl, hJ1, hfr, hF1⟩
    generalize (kp s z).1 = y at HC ⊢
    generalize (kp s z).2 = s1 at HC hJ1 HN
    have hFw : ¬ F w.heap.size := fun h => by have := o.lt HJ.out _ h; omega
    have hF1w : ¬ F1 w.heap.size := fun h => (hF1 _ h).elim hFw (fun h => by omega)
    have hs3 := hfr.size
    have hb2s := hb2.size
    obtain ⟨ad, cap, hp, hLi, hFp, hFa⟩ := o.side hJ1
    have hpw : o.p ≠ w.heap.size := fun e => hF1w (by rw [← e]; exact hFp)
    have hlp : o.p < w3.heap.size := lt_of_some hp
    have hbp : bs ≠ o.p := fun e => (hF1 bs (by rw [e]; exact hFp)).elim hs (fun h => by omega)
    have hql := HN.out
    have kb := hfr.block _ hl0 hFw
    have ks := hfr.block bs (by omega) hs
    have z0 : w3.cell? ⟨w.heap.size, 0, none⟩ = some (.int .i64 g) := (World.cell?_of_block (a := ⟨w.heap.size, 0, none⟩) kb).trans y0
    have z1 : w3.cell? ⟨w.heap.size, 1, none⟩ = some (.int .i64 z) := (World.cell?_of_block (a := ⟨w.heap.size, 1, none⟩) kb).trans y1
    have zf : w3.frozen? ⟨w.heap.size, 1, none⟩ = false := (World.frozen?_of_block (a := ⟨w.heap.size, 1, none⟩) kb).trans yf
    have z3 : w3.cell? ⟨bs, 0, none⟩ = some (.pointer (some ⟨o.p, 0, none⟩)) := (World.cell?_of_block (a := ⟨bs, 0, none⟩) ks).trans y3
    have bw : bs ≠ w.heap.size := by omega
    have keep4 : ∀ k : Nat, k ≠ w.heap.size → (w3.setCell ⟨w.heap.size, 1, none⟩ (.int .i64 y)).heap[k]? = w3.heap[k]? := fun k hk => Below.heap_setCell _ _ _ _ hk
    have sz4 : (w3.setCell ⟨w.heap.size, 1, none⟩ (.int .i64 y)).heap.size = w3.heap.size := by simp [World.setCell]
    have d0 : (w3.setCell ⟨w.heap.size, 1, none⟩ (.int .i64 y)).cell? ⟨w.heap.size, 0, none⟩ = some (.int .i64 g) := (World.cell?_setCell_other w3 ⟨w.heap.size, 1, none⟩ ⟨w.heap.size, 0, none⟩ (.int .i64 y) (by simp)).trans z0
    have d1 : (w3.setCell ⟨w.heap.size, 1, none⟩ (.int .i64 y)).cell? ⟨w.heap.size, 1, none⟩ = some (.int .i64 y) := World.cell?_setCell_same _ _ _ z1
    have d3 : (w3.setCell ⟨w.heap.size, 1, none⟩ (.int .i64 y)).cell? ⟨bs, 0, none⟩ = some (.pointer (some ⟨o.p, 0, none⟩)) := (World.cell?_of_block (a := ⟨bs, 0, none⟩) (keep4 bs bw)).trans z3
    have d4 : (w3.setCell ⟨w.heap.size, 1, none⟩ (.int .i64 y)).cell? ⟨o.p, 1, none⟩ = some (.slice ad (o.wt s1).length cap) := (World.cell?_of_block (a := ⟨o.p, 1, none⟩) (keep4 o.p hpw)).trans (by simp [World.cell?, hp])
    have df : (w3.setCell ⟨w.heap.size, 1, none⟩ (.int .i64 y)).frozen? ⟨o.p, 1, none⟩ = false := (World.frozen?_of_block (a := ⟨o.p, 1, none⟩) (keep4 o.p hpw)).trans (by simp [World.frozen?, hp])
    have hJ4 : o.J F1 s1 (w3.setCell ⟨w.heap.size, 1, none⟩ (.int .i64 y)) := o.keep hJ1 (by rw [sz4]; exact Nat.le_refl _) (fun k hk => keep4 k (fun e => hF1w (by rw [← e]; exact hk)))
    have hLi4 : Li (w3.setCell ⟨w.heap.size, 1, none⟩ (.int .i64 y)) ad (o.wt s1) cap := hLi.keep (by rw [sz4]; exact Nat.le_refl _) (fun hq a e => keep4 _ (fun e' => hF1w (by rw [← e']; exact hFa hq a e)))
    have hfr4 : Fr F w (w3.setCell ⟨w.heap.size, 1, none⟩ (.int .i64 y)) := ((Fr.of (X := F) hb2).trans hfr (fun _ c => Or.inl c)).trans ((Fr.refl (fun k => k = w.heap.size) w3).set _ 1 _ rfl) (fun i c => Or.inr (by omega))
    have HF1 : Hid (∀ k, F1 k → F k ∨ w.heap.size ≤ k) := fun k h => (hF1 k h).imp id (fun h => by omega)
    have HFp : Hid (F1 o.p) := hFp
    have lo : bs < (w3.setCell ⟨w.heap.size, 1, none⟩ (.int .i64 y)).heap.size := by omega
    have lp : o.p < (w3.setCell ⟨w.heap.size, 1, none⟩ (.int .i64 y)).heap.size := by omega
    have lw : w.heap.size < (w3.setCell ⟨w.heap.size, 1, none⟩ (.int .i64 y)).heap.size := by omega
    clear hFw hF1w hp hLi hFp hFa kb ks z3 keep4 hfr hJ1 hF1 y0 y1 y2 y3 yf sz4
    go_wp2_with fail
    generalize w3.setCell ⟨w.heap.size, 1, none⟩ (.int .i64 y) = w4 at *
    clear z0 z1 zf
    go_region_with (go_at_call 66; refine (with_any _ ad (o.wt s1) cap g y (hLi4.below ((Below.refl _ _).drew)) (by omega)).mono ?_; rintro e w5 ⟨b1, cap1, rfl, hown, hb5⟩; have e0 := (hb5.cell (p := ⟨w.heap.size, 0, none⟩) lw).trans d0; have e1 := (hb5.cell (p := ⟨w.heap.size, 1, none⟩) lw).trans d1; have e3 := (hb5.cell (p := ⟨bs, 0, none⟩) lo).trans d3; have e4 := (hb5.cell (p := ⟨o.p, 1, none⟩) lp).trans d4; have e5 := (hb5.frozen (p := ⟨o.p, 1, none⟩) lp).trans df)
    all_goals
      go_wp2_with fail
      go_ret
      rw [HC.out]
      have hJ5 := o.set (q := o.wt s1 ++ [(g, y)]) (b1 := b1) (cap1 := cap1) (o.below hJ4 (Below.refl _ _).drew) hb5 (by simpa using hown)
      refine ⟨fun k => F1 k ∨ k = b1, rfl, by simpa using hJ5, (hfr4.drew.trans (Fr.of (X := F) hb5) (fun _ c => Or.inl c)).trans ((Fr.refl (fun k => k = o.p) w5).set o.p 1 _ rfl) (fun i c => by rw [c]; exact HF1.out _ HFp.out), fun k h => h.elim (HF1.out k) (fun h => Or.inr (by have := (row_lt hown b1 rfl).1; simp at this; omega))⟩

end Go.Proofs.YtogknhogphkddaaGreat

/- What Settle does of what it may do wholly: a contract, over whatever looks. -/
namespace Go.Proofs.YtogknhogphkddaaGreat
open Go.RowKit W Kp Stl

def boxed {σ : Type} (o : SdOb σ) (bl bg bs : Nat) (fa fk fn : Fv) : Ob σ where
  J F s w := ∃ F0, o.J F0 s w ∧ Bxs w o.p bl bg bs fa fk fn ∧ ¬ F0 bl ∧ ¬ F0 bg ∧ ¬ F0 bs ∧ ∀ k, F k ↔ (F0 k ∨ k = bl ∨ k = bg ∨ k = bs)
  lt := by
    rintro F t w ⟨F0, h0, hB, _, _, _, hF⟩ k hk
    rcases (hF k).1 hk with h | rfl | rfl | rfl
    · exact o.lt h0 k h
    · exact lt_of_some hB.l
    · exact lt_of_some hB.g
    · exact lt_of_some hB.s
  keep := by
    rintro F t w w' ⟨F0, h0, hB, h1, h2, h3, hF⟩ hs hk
    exact ⟨F0, o.keep h0 hs (fun k h => hk k ((hF k).2 (Or.inl h))), ⟨(hk bl ((hF bl).2 (by simp))).trans hB.l, (hk bg ((hF bg).2 (by simp))).trans hB.g, (hk bs ((hF bs).2 (by simp))).trans hB.s⟩, h1, h2, h3, hF⟩

theorem looks_comes {σ : Type} (o : SdOb σ) (bl bg bs : Nat) (D : Int → Prop) (fa fk fn : Fv) (is : σ → Int → Bool) (kp : σ → Int → Int × σ) (he : Ent fa.f) (hek : Ent fk.f) (ha : Alives o.toOb D fa.f fa.b fa.c is) (hk : KeepsW o D fk.f fk.b fk.c kp) :
    Looks (boxed o bl bg bs fa fk fn) (fun e => D e.1 ∧ D e.2) (fun s => ∀ x, (o.wt (kp s x).2).length ≤ 90000) 100 #[] #[.pointer (some ⟨bg, 0, none⟩), .pointer (some ⟨bl, 0, none⟩), .pointer (some ⟨bs, 0, none⟩)] (cm o is kp) := by
  intro F s w e hD hG hJ
  obtain ⟨F0, h0, hB, h1, h2, h3, hF⟩ := hJ
  refine (comes_any o D fa fk fn is kp he hek ha hk F0 s w bl bg bs e hD (hG e.2) h0 hB h3).mono ?_
  rintro r w' ⟨F1, rfl, hJ1, hfr, hF1⟩
  have q : ∀ k, k < w.heap.size → ¬ F0 k → ¬ F1 k := fun k hk hn h => (hF1 k h).elim hn (fun h => by omega)
  have lb := lt_of_some hB.l
  have lg := lt_of_some hB.g
  have ls := lt_of_some hB.s
  refine ⟨fun k => F1 k ∨ k = bl ∨ k = bg ∨ k = bs, rfl, ⟨F1, hJ1, ⟨(hfr.block _ lb h1).trans hB.l, (hfr.block _ lg h2).trans hB.g, (hfr.block _ ls h3).trans hB.s⟩, q _ lb h1, q _ lg h2, q _ ls h3, fun k => Iff.rfl⟩, hfr.mono (fun k h => (hF k).2 (Or.inl h)), fun k h => ?_⟩
  rcases h with h | h
  · exact (hF1 k h).imp (fun h => (hF k).2 (Or.inl h)) id
  · exact Or.inl ((hF k).2 (Or.inr h))

def trn {σ : Type} (lk : σ → En → Bool × σ) : Nat → σ → List En → σ × List En
  | 0, s, d => (s, d)
  | n + 1, s, d => if (pts lk s d).1.length = 0 then ((pts lk s d).2.2, (pts lk s d).2.1) else trn lk n (pts lk s d).2.2 (pts lk s d).2.1
theorem trn_stop {σ : Type} (lk : σ → En → Bool × σ) (n : Nat) (s : σ) (d : List En) (h : (pts lk s d).1.length = 0) : trn lk (n + 1) s d = ((pts lk s d).2.2, (pts lk s d).2.1) := by rw [trn, if_pos h]
theorem trn_go {σ : Type} (lk : σ → En → Bool × σ) (n : Nat) (s : σ) (d : List En) (h : ¬ (pts lk s d).1.length = 0) : trn lk (n + 1) s d = trn lk n (pts lk s d).2.2 (pts lk s d).2.1 := by rw [trn, if_neg h]
theorem pts_mem {τ : Type} (lk : τ → En → Bool × τ) (t : τ) (l : List En) (e : En) : (e ∈ (pts lk t l).1 ∨ e ∈ (pts lk t l).2.1) → e ∈ l := by
  have key : ∀ (l : List En) (s : List En × List En × τ), (e ∈ (l.foldl (pstep lk) s).1 ∨ e ∈ (l.foldl (pstep lk) s).2.1) → e ∈ s.1 ∨ e ∈ s.2.1 ∨ e ∈ l := by
    intro l
    induction l with
    | nil => intro s h; rcases h with h | h <;> simp at h <;> simp [h]
    | cons x r ih =>
      intro s h
      rw [List.foldl_cons] at h
      have := ih _ h
      unfold pstep at this
      split at this <;> simp only [List.mem_append, List.mem_cons] at this ⊢ <;> grind
  intro h
  have := key l ([], [], t) h
  simpa using this

abbrev comesV (bg bl bs : Nat) : Value := .func (.func 100) #[] #[.pointer (some ⟨bg, 0, none⟩), .pointer (some ⟨bl, 0, none⟩), .pointer (some ⟨bs, 0, none⟩)]

theorem pts_wait {σ : Type} (o : SdOb σ) (is : σ → Int → Bool) (kp : σ → Int → Int × σ) (hl : ∀ s x, (o.wt (kp s x).2).length = (o.wt s).length) (s : σ) (l : List En) : (o.wt (pts (cm o is kp) s l).2.2).length = (o.wt s).length + (pts (cm o is kp) s l).1.length := by
  have key : ∀ (l : List En) (t : List En × List En × σ), (o.wt (l.foldl (pstep (cm o is kp)) t).2.2).length + t.1.length = (o.wt t.2.2).length + (l.foldl (pstep (cm o is kp)) t).1.length := by
    intro l
    induction l with
    | nil => intro t; simp
    | cons e r ih =>
      intro t
      rw [List.foldl_cons]
      have h := ih (pstep (cm o is kp) t e)
      cases hc : is t.2.2 e.1
      · have e1 : pstep (cm o is kp) t e = (t.1, t.2.1 ++ [e], t.2.2) := by simp [pstep, cm, hc]
        rw [e1] at h ⊢
        exact h
      · have e1 : pstep (cm o is kp) t e = (t.1 ++ [e], t.2.1, o.put (kp t.2.2 e.2).2 (o.wt (kp t.2.2 e.2).2 ++ [(e.1, (kp t.2.2 e.2).1)])) := by simp [pstep, cm, hc]
        rw [e1] at h ⊢
        dsimp only at h
        rw [o.wt_put, List.length_append, List.length_append, hl] at h
        simp at h
        omega
  have := key l ([], [], s)
  simpa [pts] using this

def stS {σ : Type} (o : SdOb σ) (is : σ → Int → Bool) (kp : σ → Int → Int × σ) (s : σ) (r : List En) : σ := (trn (cm o is kp) ((r.filter (fun e => !is s e.2)).length + 1) s (r.filter (fun e => !is s e.2))).1
def stR {σ : Type} (o : SdOb σ) (is : σ → Int → Bool) (kp : σ → Int → Int × σ) (nw : σ → Int → Int) (s : σ) (r : List En) : List En := ((r.filter (fun e => is s e.2)).filter (fun e => is (stS o is kp s r) e.1)).map fun e => (nw (stS o is kp s r) e.1, nw (stS o is kp s r) e.2)
def stQ {σ : Type} (o : SdOb σ) (is : σ → Int → Bool) (kp : σ → Int → Int × σ) (nw : σ → Int → Int) (s : σ) (r : List En) : List En := ((o.wt (stS o is kp s r)).filter (fun e => is (stS o is kp s r) e.1)).map fun e => (nw (stS o is kp s r) e.1, nw (stS o is kp s r) e.2)

structure Lks {σ : Type} (o : SdOb σ) (D : Int → Prop) (fa fk fn : Fv) (is : σ → Int → Bool) (kp : σ → Int → Int × σ) (nw : σ → Int → Int) : Prop where
  ea : Ent fa.f
  ek : Ent fk.f
  en : Ent fn.f
  ha : Alives o.toOb D fa.f fa.b fa.c is
  hk : KeepsW o D fk.f fk.b fk.c kp
  ht : Tells o.toOb D fn.f fn.b fn.c nw
  hl : ∀ s x, (o.wt (kp s x).2).length = (o.wt s).length

end Go.Proofs.YtogknhogphkddaaGreat
