/- Joined: Sd3, Sd4, Wp, Gr1, Gp3, Gp4, Wp3, Gr5, Rq3. -/
import Derived.Test.YtjhnhbeimjnloaaJ02
import Derived.Test.YtjhnhbeimjnloaaJ01
import Derived.Test.YtjhnhbeimjnloaaJ00
/- A Side among whatever looks at it: what its Settle hands over: guarded, comes: contracts. -/
namespace Go.Proofs.Ytjhnhbeimjnloaa
open Go.RowKit W Kp Stl

structure SdOb (σ : Type) extends Ob σ where
  p : Nat
  vr : Value
  wt : σ → List En
  put : σ → List En → σ
  side : ∀ {F s w}, J F s w → ∃ ad cap, w.heap[p]? = some (.cells #[vr, .slice ad (wt s).length cap] 63 (0, 0)) ∧ Li w ad (wt s) cap ∧ F p ∧ (0 < (wt s).length → ∀ z, ad = some z → F z.block)
  set : ∀ {F s w}, J F s w → ∀ {w1 : World} {q : List En} {b1 cap1 : Nat}, Below w.heap.size w w1 → w1.ownsRow w.heap.size 96 2 (.slice (some ⟨b1, 0, none⟩) q.length cap1) q.length (ev q) →
    J (fun k => F k ∨ k = b1) (put s q) (w1.setCell ⟨p, 1, none⟩ (.slice (some ⟨b1, 0, none⟩) q.length cap1))
  wt_put : ∀ s q, wt (put s q) = q

theorem Li.keep {w w' : World} {ad : Option Addr} {l : List En} {cap : Nat} (h : Li w ad l cap) (hs : w.heap.size ≤ w'.heap.size) (hk : 0 < l.length → ∀ a, ad = some a → w'.heap[a.block]? = w.heap[a.block]?) : Li w' ad l cap := ⟨h.lp.keep hs hk, h.le, h.nil⟩
theorem Li.below {w w' : World} {ad : Option Addr} {l : List En} {cap : Nat} (h : Li w ad l cap) (hb : Below w.heap.size w w') : Li w' ad l cap := ⟨h.lp.below hb, h.le, h.nil⟩

def KeepsW {σ : Type} (o : SdOb σ) (D : Int → Prop) (f : Nat) (b c : Array Value) (kp : σ → Int → Int × σ) : Prop :=
  ∀ F t w (x : Int), D x → (o.wt (kp t x).2).length ≤ 90000 → o.J F t w → Calls Try.prog f (b.push (.int .i64 x) ++ c) w fun r w' => ∃ F', r = .returned (.int .i64 (kp t x).1) ∧ o.J F' (kp t x).2 w' ∧ Fr F w w' ∧ ∀ k, F' k → F k ∨ w.heap.size ≤ k

structure Fv where
  f : Nat
  b : Array Value
  c : Array Value
abbrev Fv.v (x : Fv) : Value := .func (.func x.f) x.b x.c

structure Bxs (w : World) (p bl bg bs : Nat) (fa fk fn : Fv) : Prop where
  l : w.heap[bl]? = some (.cells #[fa.v, fk.v, fn.v] 149 (0, 0))
  g : w.heap[bg]? = some (.cells #[.func (.func 93) #[] #[.pointer (some ⟨bl, 0, none⟩)]] 94 (0, 0))
  s : w.heap[bs]? = some (.cells #[.pointer (some ⟨p, 0, none⟩)] 60 (0, 0))

set_option maxRecDepth 100000 in
set_option maxHeartbeats 400000 in
theorem guarded_any {σ : Type} (o : Ob σ) (D : Int → Prop) (fa : Fv) (is : σ → Int → Bool) (he : Ent fa.f) (ha : Alives o D fa.f fa.b fa.c is) (F : Nat → Prop) (s : σ) (w : World) (bl : Nat) (e : En) (hD : D e.1) (hJ : o.J F s w) (hc : w.cell? ⟨bl, 0, none⟩ = some fa.v) :
    Calls Try.prog 93 #[en e, .pointer (some ⟨bl, 0, none⟩)] w fun r w' => r = .returned (.bool (is s e.1)) ∧ Below w.heap.size w w' := by
  obtain ⟨g, z⟩ := e
  obtain ⟨f, b, c⟩ := fa
  have HA : Hid (Alives o D f b c is) := ha
  have HJ : Hid (o.J F s w) := hJ
  have hlt := World.block_lt_of_cell? w _ hc
  have hcf : ∀ (args : Array Value) (w : World), (callFunc f args).run Try.prog w = .ok (.enter f args) w := he
  clear he ha hJ
  go_enter Try.func93, Try.ntmps93
  go_wp2_with fail
  have hb1 := (Below.refl w.heap.size w).alloc (Nat.le_refl _) (.cells #[.int .i64 g, .int .i64 z] 96)
  refine (HA.out F s _ g hD (o.below HJ.out hb1)).mono ?_
  rintro r w1 ⟨rfl, hb⟩
  go_wp2_with fail
  go_ret
  exact ⟨rfl, hb1.trans (hb.mono (by simp))⟩

set_option maxRecDepth 100000 in
set_option maxHeartbeats 400000 in
theorem lives_any {σ : Type} (o : Ob σ) (D : Int → Prop) (fa : Fv) (is : σ → Int → Bool) (he : Ent fa.f) (ha : Alives o D fa.f fa.b fa.c is) (F : Nat → Prop) (s : σ) (w : World) (bl : Nat) (e : En) (hD : D e.2) (hJ : o.J F s w) (hc : w.cell? ⟨bl, 0, none⟩ = some fa.v) :
    Calls Try.prog 98 #[en e, .pointer (some ⟨bl, 0, none⟩)] w fun r w' => r = .returned (.bool (is s e.2)) ∧ Below w.heap.size w w' := by
  obtain ⟨g, z⟩ := e
  obtain ⟨f, b, c⟩ := fa
  have HA : Hid (Alives o D f b c is) := ha
  have HJ : Hid (o.J F s w) := hJ
  have hlt := World.block_lt_of_cell? w _ hc
  have hcf : ∀ (args : Array Value) (w : World), (callFunc f args).run Try.prog w = .ok (.enter f args) w := he
  clear he ha hJ
  go_enter Try.func98, Try.ntmps98
  go_wp2_with fail
  have hb1 := (Below.refl w.heap.size w).alloc (Nat.le_refl _) (.cells #[.int .i64 g, .int .i64 z] 96)
  refine (HA.out F s _ z hD (o.below HJ.out hb1)).mono ?_
  rintro r w1 ⟨rfl, hb⟩
  go_wp2_with fail
  go_ret
  exact ⟨rfl, hb1.trans (hb.mono (by simp))⟩

def cm {σ : Type} (o : SdOb σ) (is : σ → Int → Bool) (kp : σ → Int → Int × σ) (s : σ) (e : En) : Bool × σ :=
  if is s e.1 then (true, o.put (kp s e.2).2 (o.wt (kp s e.2).2 ++ [(e.1, (kp s e.2).1)])) else (false, s)
theorem cm_no {σ : Type} {o : SdOb σ} {is : σ → Int → Bool} {kp : σ → Int → Int × σ} {s : σ} {e : En} (h : is s e.1 = false) : cm o is kp s e = (false, s) := by simp [cm, h]
theorem cm_yes {σ : Type} {o : SdOb σ} {is : σ → Int → Bool} {kp : σ → Int → Int × σ} {s : σ} {e : En} (h : is s e.1 = true) : cm o is kp s e = (true, o.put (kp s e.2).2 (o.wt (kp s e.2).2 ++ [(e.1, (kp s e.2).1)])) := by simp [cm, h]

set_option maxRecDepth 100000 in
set_option maxHeartbeats 1000000 in
theorem comes_any {σ : Type} (o : SdOb σ) (D : Int → Prop) (fa fk fn : Fv) (is : σ → Int → Bool) (kp : σ → Int → Int × σ) (he : Ent fa.f) (hek : Ent fk.f) (ha : Alives o.toOb D fa.f fa.b fa.c is) (hk : KeepsW o D fk.f fk.b fk.c kp)
    (F : Nat → Prop) (s : σ) (w : World) (bl bg bs : Nat) (e : En) (hD : D e.1 ∧ D e.2) (hn : (o.wt (kp s e.2).2).length ≤ 90000) (hJ : o.J F s w) (hB : Bxs w o.p bl bg bs fa fk fn) (hs : ¬ F bs) :
    Calls Try.prog 94 #[en e, .pointer (some ⟨bg, 0, none⟩), .pointer (some ⟨bl, 0, none⟩), .pointer (some ⟨bs, 0, none⟩)] w fun r w' => ∃ F', r = .returned (.bool (cm o is kp s e).1) ∧ o.J F' (cm o is kp s e).2 w' ∧ Fr F w w' ∧ ∀ k, F' k → F k ∨ w.heap.size ≤ k := by
  obtain ⟨g, z⟩ := e
  have HA : Hid (Alives o.toOb D fa.f fa.b fa.c is) := ha
  have HK : Hid (KeepsW o D fk.f fk.b fk.c kp) := hk
  have HN : Hid ((o.wt (kp s z).2).length ≤ 90000) := hn
  have HE : Hid (Ent fa.f) := he
  have HJ : Hid (o.J F s w) := hJ
  have c0 : w.cell? ⟨bl, 0, none⟩ = some fa.v := by simp [World.cell?, hB.l]
  have c1 : w.cell? ⟨bl, 1, none⟩ = some (.func (.func fk.f) fk.b fk.c) := by simp [World.cell?, hB.l]
  have c2 : w.cell? ⟨bg, 0, none⟩ = some (.func (.func 93) #[] #[.pointer (some ⟨bl, 0, none⟩)]) := by simp [World.cell?, hB.g]
  have c3 : w.cell? ⟨bs, 0, none⟩ = some (.pointer (some ⟨o.p, 0, none⟩)) := by simp [World.cell?, hB.s]
  have l1 : bl < w.heap.size := lt_of_some hB.l
  have l2 : bg < w.heap.size := lt_of_some hB.g
  have l3 : bs < w.heap.size := lt_of_some hB.s
  have hcf : ∀ (args : Array Value) (w : World), (callFunc fk.f args).run Try.prog w = .ok (.enter fk.f args) w := hek
  clear he ha hJ hk hek hn hB
  go_enter Try.func94, Try.ntmps94
  go_wp2_with fail
  have hb1 := (Below.refl w.heap.size w).alloc (Nat.le_refl _) (.cells #[.int .i64 g, .int .i64 z] 96)
  refine (guarded_any o.toOb D fa is HE.out HA.out F s _ bl (g, z) hD.1 (o.below HJ.out hb1) ((hb1.cell l1).trans c0)).mono ?_
  rintro r w1 ⟨rfl, hb⟩
  have hb2 := hb1.trans (hb.mono (by simp))
  have hl0 : w.heap.size < w1.heap.size := by have := hb.size; simp at this; omega
  have y0 : w1.cell? ⟨w.heap.size, 0, none⟩ = some (.int .i64 g) := (hb.cell (by simp)).trans (by simp)
  have y1 : w1.cell? ⟨w.heap.size, 1, none⟩ = some (.int .i64 z) := (hb.cell (by simp)).trans (by simp)
  have y2 : w1.cell? ⟨bl, 1, none⟩ = some (.func (.func fk.f) fk.b fk.c) := (hb2.cell l1).trans c1
  have y3 : w1.cell? ⟨bs, 0, none⟩ = some (.pointer (some ⟨o.p, 0, none⟩)) := (hb2.cell l3).trans c3
  have yf : w1.frozen? ⟨w.heap.size, 1, none⟩ = false := (hb.frozen (by simp)).trans (by simp)
  clear hb hb1
  cases hg : is s g
  · have HC : Hid (cm o is kp s (g, z) = (false, s)) := cm_no hg
    go_wp2_with fail
    go_ret
    rw [HC.out]
    exact ⟨F, rfl, o.below HJ.out hb2, Fr.of hb2, fun k h => Or.inl h⟩
  · have HC : Hid (cm o is kp s (g, z) = (true, o.put (kp s z).2 (o.wt (kp s z).2 ++ [(g, (kp s z).1)]))) := cm_yes hg
    go_wp2_with fail
    refine (HK.out F s _ z hD.2 HN.out (o.below HJ.out hb2)).mono ?_
    rintro r w3 ⟨F1, rfl, hJ1, hfr, hF1⟩
    generalize (kp s z).1 = y at HC ⊢
    generalize (kp s z).2 = s1 at HC hJ1 HN
    have hFw : ¬ F w.heap.size := fun h => by have := o.lt HJ.out _ h; omega
    have hF1w : ¬ F1 w.heap.size := fun h => (hF1 _ h).elim hFw (fun h => by omega)
    have hs3 := hfr.size
    have hb2s := hb2.size
    obtain ⟨ad, cap, hp, hLi, hFp, hFa⟩ := o.side hJ1
    have hpw : o.p ≠ w.heap.size := fun e => hF1w (by rw [← e]; exact hFp)
    have hlp : o.p < w3.heap.size := lt_of_some hp
    have hbp : bs ≠ o.p := fun e => (hF1 bs (by rw [e]; exact hFp)).elim hs (fun h => by omega)
    have hql := HN.out
    have kb := hfr.block _ hl0 hFw
    have ks := hfr.block bs (by omega) hs
    have z0 : w3.cell? ⟨w.heap.size, 0, none⟩ = some (.int .i64 g) := (World.cell?_of_block (a := ⟨w.heap.size, 0, none⟩) kb).trans y0
    have z1 : w3.cell? ⟨w.heap.size, 1, none⟩ = some (.int .i64 z) := (World.cell?_of_block (a := ⟨w.heap.size, 1, none⟩) kb).trans y1
    have zf : w3.frozen? ⟨w.heap.size, 1, none⟩ = false := (World.frozen?_of_block (a := ⟨w.heap.size, 1, none⟩) kb).trans yf
    have z3 : w3.cell? ⟨bs, 0, none⟩ = some (.pointer (some ⟨o.p, 0, none⟩)) := (World.cell?_of_block (a := ⟨bs, 0, none⟩) ks).trans y3
    have bw : bs ≠ w.heap.size := by omega
    have keep4 : ∀ k : Nat, k ≠ w.heap.size → (w3.setCell ⟨w.heap.size, 1, none⟩ (.int .i64 y)).heap[k]? = w3.heap[k]? := fun k hk => Below.heap_setCell _ _ _ _ hk
    have sz4 : (w3.setCell ⟨w.heap.size, 1, none⟩ (.int .i64 y)).heap.size = w3.heap.size := by simp [World.setCell]
    have d0 : (w3.setCell ⟨w.heap.size, 1, none⟩ (.int .i64 y)).cell? ⟨w.heap.size, 0, none⟩ = some (.int .i64 g) := (World.cell?_setCell_other w3 ⟨w.heap.size, 1, none⟩ ⟨w.heap.size, 0, none⟩ (.int .i64 y) (by simp)).trans z0
    have d1 : (w3.setCell ⟨w.heap.size, 1, none⟩ (.int .i64 y)).cell? ⟨w.heap.size, 1, none⟩ = some (.int .i64 y) := World.cell?_setCell_same _ _ _ z1
    have d3 : (w3.setCell ⟨w.heap.size, 1, none⟩ (.int .i64 y)).cell? ⟨bs, 0, none⟩ = some (.pointer (some ⟨o.p, 0, none⟩)) := (World.cell?_of_block (a := ⟨bs, 0, none⟩) (keep4 bs bw)).trans z3
    have d4 : (w3.setCell ⟨w.heap.size, 1, none⟩ (.int .i64 y)).cell? ⟨o.p, 1, none⟩ = some (.slice ad (o.wt s1).length cap) := (World.cell?_of_block (a := ⟨o.p, 1, none⟩) (keep4 o.p hpw)).trans (by simp [World.cell?, hp])
    have df : (w3.setCell ⟨w.heap.size, 1, none⟩ (.int .i64 y)).frozen? ⟨o.p, 1, none⟩ = false := (World.frozen?_of_block (a := ⟨o.p, 1, none⟩) (keep4 o.p hpw)).trans (by simp [World.frozen?, hp])
    have hJ4 : o.J F1 s1 (w3.setCell ⟨w.heap.size, 1, none⟩ (.int .i64 y)) := o.keep hJ1 (by rw [sz4]; exact Nat.le_refl _) (fun k hk => keep4 k (fun e => hF1w (by rw [← e]; exact hk)))
    have hLi4 : Li (w3.setCell ⟨w.heap.size, 1, none⟩ (.int .i64 y)) ad (o.wt s1) cap := hLi.keep (by rw [sz4]; exact Nat.le_refl _) (fun hq a e => keep4 _ (fun e' => hF1w (by rw [← e']; exact hFa hq a e)))
    have hfr4 : Fr F w (w3.setCell ⟨w.heap.size, 1, none⟩ (.int .i64 y)) := ((Fr.of (X := F) hb2).trans hfr (fun _ c => Or.inl c)).trans ((Fr.refl (fun k => k = w.heap.size) w3).set _ 1 _ rfl) (fun i c => Or.inr (by omega))
    have HF1 : Hid (∀ k, F1 k → F k ∨ w.heap.size ≤ k) := fun k h => (hF1 k h).imp id (fun h => by omega)
    have HFp : Hid (F1 o.p) := hFp
    have lo : bs < (w3.setCell ⟨w.heap.size, 1, none⟩ (.int .i64 y)).heap.size := by omega
    have lp : o.p < (w3.setCell ⟨w.heap.size, 1, none⟩ (.int .i64 y)).heap.size := by omega
    have lw : w.heap.size < (w3.setCell ⟨w.heap.size, 1, none⟩ (.int .i64 y)).heap.size := by omega
    clear hFw hF1w hp hLi hFp hFa kb ks z3 keep4 hfr hJ1 hF1 y0 y1 y2 y3 yf sz4
    go_wp2_with fail
    generalize w3.setCell ⟨w.heap.size, 1, none⟩ (.int .i64 y) = w4 at *
    clear z0 z1 zf
    go_region_with (go_at_call 61; refine (with_any _ ad (o.wt s1) cap g y (hLi4.below ((Below.refl _ _).drew)) (by omega)).mono ?_; rintro e w5 ⟨b1, cap1, rfl, hown, hb5⟩; have e0 := (hb5.cell (p := ⟨w.heap.size, 0, none⟩) lw).trans d0; have e1 := (hb5.cell (p := ⟨w.heap.size, 1, none⟩) lw).trans d1; have e3 := (hb5.cell (p := ⟨bs, 0, none⟩) lo).trans d3; have e4 := (hb5.cell (p := ⟨o.p, 1, none⟩) lp).trans d4; have e5 := (hb5.frozen (p := ⟨o.p, 1, none⟩) lp).trans df)
    all_goals
      go_wp2_with fail
      go_ret
      rw [HC.out]
      have hJ5 := o.set (q := o.wt s1 ++ [(g, y)]) (b1 := b1) (cap1 := cap1) (o.below hJ4 (Below.refl _ _).drew) hb5 (by simpa using hown)
      refine ⟨fun k => F1 k ∨ k = b1, rfl, by simpa using hJ5, (hfr4.drew.trans (Fr.of (X := F) hb5) (fun _ c => Or.inl c)).trans ((Fr.refl (fun k => k = o.p) w5).set o.p 1 _ rfl) (fun i c => by rw [c]; exact HF1.out _ HFp.out), fun k h => h.elim (HF1.out k) (fun h => Or.inr (by have := (row_lt hown b1 rfl).1; simp at this; omega))⟩

end Go.Proofs.Ytjhnhbeimjnloaa

/- What Settle does of what it may do wholly: a contract, over whatever looks. -/
namespace Go.Proofs.Ytjhnhbeimjnloaa
open Go.RowKit W Kp Stl

def boxed {σ : Type} (o : SdOb σ) (bl bg bs : Nat) (fa fk fn : Fv) : Ob σ where
  J F s w := ∃ F0, o.J F0 s w ∧ Bxs w o.p bl bg bs fa fk fn ∧ ¬ F0 bl ∧ ¬ F0 bg ∧ ¬ F0 bs ∧ ∀ k, F k ↔ (F0 k ∨ k = bl ∨ k = bg ∨ k = bs)
  lt := by
    rintro F t w ⟨F0, h0, hB, _, _, _, hF⟩ k hk
    rcases (hF k).1 hk with h | rfl | rfl | rfl
    · exact o.lt h0 k h
    · exact lt_of_some hB.l
    · exact lt_of_some hB.g
    · exact lt_of_some hB.s
  keep := by
    rintro F t w w' ⟨F0, h0, hB, h1, h2, h3, hF⟩ hs hk
    exact ⟨F0, o.keep h0 hs (fun k h => hk k ((hF k).2 (Or.inl h))), ⟨(hk bl ((hF bl).2 (by simp))).trans hB.l, (hk bg ((hF bg).2 (by simp))).trans hB.g, (hk bs ((hF bs).2 (by simp))).trans hB.s⟩, h1, h2, h3, hF⟩

theorem looks_comes {σ : Type} (o : SdOb σ) (bl bg bs : Nat) (D : Int → Prop) (fa fk fn : Fv) (is : σ → Int → Bool) (kp : σ → Int → Int × σ) (he : Ent fa.f) (hek : Ent fk.f) (ha : Alives o.toOb D fa.f fa.b fa.c is) (hk : KeepsW o D fk.f fk.b fk.c kp) :
    Looks (boxed o bl bg bs fa fk fn) (fun e => D e.1 ∧ D e.2) (fun s => ∀ x, (o.wt (kp s x).2).length ≤ 90000) 94 #[] #[.pointer (some ⟨bg, 0, none⟩), .pointer (some ⟨bl, 0, none⟩), .pointer (some ⟨bs, 0, none⟩)] (cm o is kp) := by
  intro F s w e hD hG hJ
  obtain ⟨F0, h0, hB, h1, h2, h3, hF⟩ := hJ
  refine (comes_any o D fa fk fn is kp he hek ha hk F0 s w bl bg bs e hD (hG e.2) h0 hB h3).mono ?_
  rintro r w' ⟨F1, rfl, hJ1, hfr, hF1⟩
  have q : ∀ k, k < w.heap.size → ¬ F0 k → ¬ F1 k := fun k hk hn h => (hF1 k h).elim hn (fun h => by omega)
  have lb := lt_of_some hB.l
  have lg := lt_of_some hB.g
  have ls := lt_of_some hB.s
  refine ⟨fun k => F1 k ∨ k = bl ∨ k = bg ∨ k = bs, rfl, ⟨F1, hJ1, ⟨(hfr.block _ lb h1).trans hB.l, (hfr.block _ lg h2).trans hB.g, (hfr.block _ ls h3).trans hB.s⟩, q _ lb h1, q _ lg h2, q _ ls h3, fun k => Iff.rfl⟩, hfr.mono (fun k h => (hF k).2 (Or.inl h)), fun k h => ?_⟩
  rcases h with h | h
  · exact (hF1 k h).imp (fun h => (hF k).2 (Or.inl h)) id
  · exact Or.inl ((hF k).2 (Or.inr h))

def trn {σ : Type} (lk : σ → En → Bool × σ) : Nat → σ → List En → σ × List En
  | 0, s, d => (s, d)
  | n + 1, s, d => if (pts lk s d).1.length = 0 then ((pts lk s d).2.2, (pts lk s d).2.1) else trn lk n (pts lk s d).2.2 (pts lk s d).2.1
theorem trn_stop {σ : Type} (lk : σ → En → Bool × σ) (n : Nat) (s : σ) (d : List En) (h : (pts lk s d).1.length = 0) : trn lk (n + 1) s d = ((pts lk s d).2.2, (pts lk s d).2.1) := by rw [trn, if_pos h]
theorem trn_go {σ : Type} (lk : σ → En → Bool × σ) (n : Nat) (s : σ) (d : List En) (h : ¬ (pts lk s d).1.length = 0) : trn lk (n + 1) s d = trn lk n (pts lk s d).2.2 (pts lk s d).2.1 := by rw [trn, if_neg h]
theorem pts_mem {τ : Type} (lk : τ → En → Bool × τ) (t : τ) (l : List En) (e : En) : (e ∈ (pts lk t l).1 ∨ e ∈ (pts lk t l).2.1) → e ∈ l := by
  have key : ∀ (l : List En) (s : List En × List En × τ), (e ∈ (l.foldl (pstep lk) s).1 ∨ e ∈ (l.foldl (pstep lk) s).2.1) → e ∈ s.1 ∨ e ∈ s.2.1 ∨ e ∈ l := by
    intro l
    induction l with
    | nil => intro s h; rcases h with h | h <;> simp at h <;> simp [h]
    | cons x r ih =>
      intro s h
      rw [List.foldl_cons] at h
      have := ih _ h
      unfold pstep at this
      split at this <;> simp only [List.mem_append, List.mem_cons] at this ⊢ <;> grind
  intro h
  have := key l ([], [], t) h
  simpa using this

abbrev comesV (bg bl bs : Nat) : Value := .func (.func 94) #[] #[.pointer (some ⟨bg, 0, none⟩), .pointer (some ⟨bl, 0, none⟩), .pointer (some ⟨bs, 0, none⟩)]

theorem pts_wait {σ : Type} (o : SdOb σ) (is : σ → Int → Bool) (kp : σ → Int → Int × σ) (hl : ∀ s x, (o.wt (kp s x).2).length = (o.wt s).length) (s : σ) (l : List En) : (o.wt (pts (cm o is kp) s l).2.2).length = (o.wt s).length + (pts (cm o is kp) s l).1.length := by
  have key : ∀ (l : List En) (t : List En × List En × σ), (o.wt (l.foldl (pstep (cm o is kp)) t).2.2).length + t.1.length = (o.wt t.2.2).length + (l.foldl (pstep (cm o is kp)) t).1.length := by
    intro l
    induction l with
    | nil => intro t; simp
    | cons e r ih =>
      intro t
      rw [List.foldl_cons]
      have h := ih (pstep (cm o is kp) t e)
      cases hc : is t.2.2 e.1
      · have e1 : pstep (cm o is kp) t e = (t.1, t.2.1 ++ [e], t.2.2) := by simp [pstep, cm, hc]
        rw [e1] at h ⊢
        exact h
      · have e1 : pstep (cm o is kp) t e = (t.1 ++ [e], t.2.1, o.put (kp t.2.2 e.2).2 (o.wt (kp t.2.2 e.2).2 ++ [(e.1, (kp t.2.2 e.2).1)])) := by simp [pstep, cm, hc]
        rw [e1] at h ⊢
        dsimp only at h
        rw [o.wt_put, List.length_append, List.length_append, hl] at h
        simp at h
        omega
  have := key l ([], [], s)
  simpa [pts] using this

def stS {σ : Type} (o : SdOb σ) (is : σ → Int → Bool) (kp : σ → Int → Int × σ) (s : σ) (r : List En) : σ := (trn (cm o is kp) ((r.filter (fun e => !is s e.2)).length + 1) s (r.filter (fun e => !is s e.2))).1
def stR {σ : Type} (o : SdOb σ) (is : σ → Int → Bool) (kp : σ → Int → Int × σ) (nw : σ → Int → Int) (s : σ) (r : List En) : List En := ((r.filter (fun e => is s e.2)).filter (fun e => is (stS o is kp s r) e.1)).map fun e => (nw (stS o is kp s r) e.1, nw (stS o is kp s r) e.2)
def stQ {σ : Type} (o : SdOb σ) (is : σ → Int → Bool) (kp : σ → Int → Int × σ) (nw : σ → Int → Int) (s : σ) (r : List En) : List En := ((o.wt (stS o is kp s r)).filter (fun e => is (stS o is kp s r) e.1)).map fun e => (nw (stS o is kp s r) e.1, nw (stS o is kp s r) e.2)

structure Lks {σ : Type} (o : SdOb σ) (D : Int → Prop) (fa fk fn : Fv) (is : σ → Int → Bool) (kp : σ → Int → Int × σ) (nw : σ → Int → Int) : Prop where
  ea : Ent fa.f
  ek : Ent fk.f
  en : Ent fn.f
  ha : Alives o.toOb D fa.f fa.b fa.c is
  hk : KeepsW o D fk.f fk.b fk.c kp
  ht : Tells o.toOb D fn.f fn.b fn.c nw
  hl : ∀ s x, (o.wt (kp s x).2).length = (o.wt s).length

end Go.Proofs.Ytjhnhbeimjnloaa

/- The document's world: lists. -/
namespace Go.Proofs.Ytjhnhbeimjnloaa
open Go.RowKit W Kp Stl

abbrev Tw1 := Int × List (Int × Int) × Bool × Bool
structure Wrs where
  T : List Tw1
  rs : List (Int × Int)
  rg : List En
  wt : List En
theorem ev_root : ∀ (l : List (Int × Int)) (i : Nat) (x : Int × Int), ev (l.set i x) = ((ev l).set (i * 2) (.int .i64 x.1)).set (i * 2 + 1) (.int .i64 x.2)
  | [], _, _ => rfl
  | e :: l, 0, x => by simp [ev]
  | e :: l, i + 1, x => by
    have ih := ev_root l i x
    have e1 : ev (e :: l) = .int .i64 e.1 :: .int .i64 e.2 :: ev l := by simp [ev]
    have e2 : ev ((e :: l).set (i + 1) x) = .int .i64 e.1 :: .int .i64 e.2 :: ev (l.set i x) := by simp [ev]
    rw [e1, e2, ih, show (i + 1) * 2 = i * 2 + 1 + 1 by omega]
    simp
def pqI (g : Int) (q : List En) : Nat := q.findIdx (fun e => e.1 == g)

end Go.Proofs.Ytjhnhbeimjnloaa

/- The document's world: what is kept alive is a least set: lists alone. -/
namespace Go.Proofs.Ytjhnhbeimjnloaa
open Go.RowKit W Kp Stl

def inS (L : List Bool) (v : Int × Int) : Bool := !(v.1 == 3) || L.getD v.2.toNat false
def adS (L : List Bool) (v : Int × Int) : List Bool := if inS L v = true then L else L.set v.2.toNat true
def t0 : Tw1 := (0, [], false, false)
def Kps (T : List Tw1) (wt : List En) (X : Nat → Prop) (i : Nat) (v : Int × Int) : Prop :=
  (((T.getD i t0).1 = 1 ∨ (T.getD i t0).1 = 2) ∧ v ∈ (T.getD i t0).2.1) ∨ ((T.getD i t0).1 = 3 ∧ v = (T.getD i t0).2.1.getD 1 (0, 0)) ∨
  ((T.getD i t0).1 = 4 ∧ (((T.getD i t0).2.1.getD 0 (0, 0)).1 = 3 → X ((T.getD i t0).2.1.getD 0 (0, 0)).2.toNat) ∧ v = (T.getD i t0).2.1.getD 1 (0, 0)) ∨
  ((T.getD i t0).1 = 5 ∧ ∃ e ∈ wt, e.1 = i ∧ v = (3, e.2))
theorem Kps.mono {T : List Tw1} {wt : List En} {X Y : Nat → Prop} (hXY : ∀ i, X i → Y i) {i : Nat} {v : Int × Int} (h : Kps T wt X i v) : Kps T wt Y i v := by
  rcases h with h | h | ⟨h1, h2, h3⟩ | h
  · exact Or.inl h
  · exact Or.inr (Or.inl h)
  · exact Or.inr (Or.inr (Or.inl ⟨h1, fun c => hXY _ (h2 c), h3⟩))
  · exact Or.inr (Or.inr (Or.inr h))
def Cls (T : List Tw1) (wt : List En) (X : Nat → Prop) : Prop := ∀ i, i < T.length → X i → ∀ v, Kps T wt X i v → v.1 = 3 → X v.2.toNat
def Ls_ (L : List Bool) : Nat → Prop := fun i => L.getD i false = true
structure Grn (T : List Tw1) (wt : List En) (is out : List Bool) : Prop where
  len : out.length = is.length
  up : ∀ i, Ls_ is i → Ls_ out i
  cl : Cls T wt (Ls_ out)
  lt : ∀ X, Cls T wt X → (∀ i, Ls_ is i → X i) → ∀ i, Ls_ out i → X i

theorem adS_len (L : List Bool) (v : Int × Int) : (adS L v).length = L.length := by
  unfold adS
  split
  · rfl
  · rw [List.length_set]
theorem inS_no {L : List Bool} {v : Int × Int} (h : inS L v = false) : v.1 = 3 ∧ L.getD v.2.toNat false = false := by
  unfold inS at h
  rw [Bool.or_eq_false_iff] at h
  exact ⟨by simpa using h.1, h.2⟩
theorem inS_yes {L : List Bool} {v : Int × Int} (h : inS L v = true) : v.1 = 3 → Ls_ L v.2.toNat := fun h3 => by
  unfold inS at h
  rw [h3] at h
  unfold Ls_
  simpa using h
theorem getD_setB (L : List Bool) (i j : Nat) (h : i < L.length) : (L.set i true).getD j false = if i = j then true else L.getD j false := by
  rw [List.getD_eq_getElem?_getD, List.getD_eq_getElem?_getD, List.getElem?_set]
  split
  · rename_i e
    subst e
    rfl
  · rfl
theorem Ls_.lt {L : List Bool} {i : Nat} (h : Ls_ L i) : i < L.length := by
  unfold Ls_ at h
  by_cases c : i < L.length
  · exact c
  · rw [List.getD_eq_getElem?_getD, List.getElem?_eq_none (by omega)] at h
    cases h
def cnt (L : List Bool) : Nat := (L.filter (fun b => !b)).length
theorem cnt_set : ∀ (L : List Bool) (i : Nat), L.getD i true = false → cnt (L.set i true) + 1 = cnt L
  | [], i, h => by simp at h
  | b :: L, 0, h => by
    have h : b = false := by simpa using h
    subst h
    simp [cnt]
  | b :: L, i + 1, h => by
    have h : L.getD i true = false := by simpa using h
    have ih := cnt_set L i h
    unfold cnt at ih ⊢
    rw [List.set_cons_succ]
    cases b
    · simp only [Bool.not_false, List.filter_cons_of_pos, List.length_cons]
      omega
    · rw [List.filter_cons_of_neg (by simp), List.filter_cons_of_neg (by simp)]
      exact ih
theorem adS_up (L : List Bool) (v : Int × Int) (i : Nat) (h : Ls_ L i) : Ls_ (adS L v) i := by
  unfold adS
  split
  · exact h
  · unfold Ls_ at h ⊢
    by_cases c : v.2.toNat < L.length
    · rw [getD_setB _ _ _ c]
      split
      · rfl
      · exact h
    · rw [List.set_eq_of_length_le (by omega)]
      exact h
theorem adS_of {L : List Bool} {v : Int × Int} {X : Nat → Prop} (h : ∀ i, Ls_ L i → X i) (hv : v.1 = 3 → X v.2.toNat) : ∀ i, Ls_ (adS L v) i → X i := fun i hi => by
  cases hs : inS L v
  · have h3 := (inS_no hs).1
    unfold adS at hi
    rw [if_neg (by rw [hs]; simp)] at hi
    unfold Ls_ at hi
    by_cases c : v.2.toNat < L.length
    · rw [getD_setB _ _ _ c] at hi
      split at hi
      · rename_i e
        rw [← e]
        exact hv h3
      · exact h i hi
    · rw [List.set_eq_of_length_le (by omega)] at hi
      exact h i hi
  · unfold adS at hi
    rw [if_pos hs] at hi
    exact h i hi
theorem adS_cnt {L : List Bool} {v : Int × Int} (hv : v.1 = 3 → v.2.toNat < L.length) (h : inS L v = false) : cnt (adS L v) < cnt L := by
  obtain ⟨h3, h2⟩ := inS_no h
  unfold adS
  rw [if_neg (by rw [h]; simp)]
  have c := hv h3
  have e : L.getD v.2.toNat true = false := by
    rw [List.getD_eq_getElem?_getD, List.getElem?_eq_getElem c] at h2 ⊢
    simpa using h2
  have := cnt_set L v.2.toNat e
  omega

end Go.Proofs.Ytjhnhbeimjnloaa

/- What is not dead. -/
namespace Go.Proofs.Ytjhnhbeimjnloaa
open Go.RowKit W Kp Stl

def Alv (T : List Tw1) (i : Nat) : Prop := i < T.length ∧ (T.getD i t0).2.2.2 = false
structure Wiv (T : List Tw1) (wt : List En) : Prop where
  fl : ∀ i, Alv T i → (T.getD i t0).1 = 3 ∨ (T.getD i t0).1 = 4 → (T.getD i t0).2.1.length = 2
  fv : ∀ i, Alv T i → ∀ v ∈ (T.getD i t0).2.1, v.1 = 3 → 0 ≤ v.2 ∧ Alv T v.2.toNat
  wv : ∀ e ∈ wt, 0 ≤ e.2 ∧ Alv T e.2.toNat
  tl : ∀ i, (T.getD i t0).2.1.length ≤ 12
theorem getD_in {α : Type} {l : List α} {i : Nat} {x : α} (h : i < l.length) : l.getD i x ∈ l := by
  rw [List.getD_eq_getElem?_getD, List.getElem?_eq_getElem h]
  exact List.getElem_mem h
theorem Wiv.kps {T : List Tw1} {wt : List En} (h : Wiv T wt) {X : Nat → Prop} {i : Nat} (hi : Alv T i) {v : Int × Int} (hv : Kps T wt X i v) (h3 : v.1 = 3) : 0 ≤ v.2 ∧ Alv T v.2.toNat := by
  rcases hv with ⟨_, hm⟩ | ⟨hk, e⟩ | ⟨hk, _, e⟩ | ⟨_, e0, he, _, e⟩
  · exact h.fv i hi v hm h3
  · exact h.fv i hi v (by rw [e]; exact getD_in (by rw [h.fl i hi (Or.inl hk)]; decide)) h3
  · exact h.fv i hi v (by rw [e]; exact getD_in (by rw [h.fl i hi (Or.inr hk)]; decide)) h3
  · rw [e]
    exact h.wv e0 he
theorem Wiv.cls {T : List Tw1} {wt : List En} (h : Wiv T wt) : Cls T wt (Alv T) := fun _ _ hX _ hv h3 => (h.kps hX hv h3).2
end Go.Proofs.Ytjhnhbeimjnloaa

/- What is alive of itself. -/
namespace Go.Proofs.Ytjhnhbeimjnloaa
open Go.RowKit W Kp Stl

def fr0 (mj : Bool) (t : Tw1) : Bool := t.2.2.1 && !t.2.2.2 && !mj
def frR (L : List Bool) (v : Int × Int) : List Bool := if v.1 = 3 then L.set v.2.toNat true else L
def frs (T : List Tw1) (rs : List (Int × Int)) (mj : Bool) : List Bool := rs.foldl frR (T.map (fr0 mj))
theorem frR_len (L : List Bool) (v : Int × Int) : (frR L v).length = L.length := by
  unfold frR
  split
  · rw [List.length_set]
  · rfl
theorem frs_len (T : List Tw1) (rs : List (Int × Int)) (mj : Bool) : (frs T rs mj).length = T.length := by
  have key : ∀ (rs : List (Int × Int)) (L : List Bool), (rs.foldl frR L).length = L.length := fun rs => by
    induction rs with
    | nil => intro L; rfl
    | cons v rs ih => intro L; rw [List.foldl_cons, ih, frR_len]
  unfold frs
  rw [key, List.length_map]
theorem frR_in {L : List Bool} {v : Int × Int} {i : Nat} : Ls_ (frR L v) i ↔ Ls_ L i ∨ (v.1 = 3 ∧ v.2.toNat = i ∧ i < L.length) := by
  unfold frR
  by_cases h3 : v.1 = 3
  · rw [if_pos h3]
    unfold Ls_
    by_cases hl : v.2.toNat < L.length
    · rw [getD_setB _ _ _ hl]
      constructor
      · intro h
        split at h
        · rename_i e
          exact Or.inr ⟨h3, e, by omega⟩
        · exact Or.inl h
      · rintro (h | ⟨_, e, _⟩)
        · split
          · rfl
          · exact h
        · rw [if_pos e]
    · rw [List.set_eq_of_length_le (by omega)]
      exact ⟨Or.inl, fun h => h.elim id (fun ⟨_, e, hl'⟩ => absurd hl' (by omega))⟩
  · rw [if_neg h3]
    exact ⟨Or.inl, fun h => h.elim id (fun ⟨e, _⟩ => absurd e h3)⟩
theorem fold_in : ∀ (rs : List (Int × Int)) (L : List Bool) (i : Nat), Ls_ (rs.foldl frR L) i ↔ Ls_ L i ∨ (i < L.length ∧ ∃ v ∈ rs, v.1 = 3 ∧ v.2.toNat = i)
  | [], L, i => by simp
  | v :: rs, L, i => by
    rw [List.foldl_cons, fold_in rs, frR_in, frR_len]
    constructor
    · rintro ((h | ⟨h1, h2, h3⟩) | ⟨h1, u, hu, h2⟩)
      · exact Or.inl h
      · exact Or.inr ⟨h3, v, by simp, h1, h2⟩
      · exact Or.inr ⟨h1, u, List.mem_cons_of_mem _ hu, h2⟩
    · rintro (h | ⟨h1, u, hu, h2, h3⟩)
      · exact Or.inl (Or.inl h)
      · rcases List.mem_cons.1 hu with e | e
        · rw [e] at h2 h3
          exact Or.inl (Or.inr ⟨h2, h3, h1⟩)
        · exact Or.inr ⟨h1, u, e, h2, h3⟩
theorem map_in (mj : Bool) (T : List Tw1) (i : Nat) : Ls_ (T.map (fr0 mj)) i ↔ i < T.length ∧ (T.getD i t0).2.2.1 = true ∧ (T.getD i t0).2.2.2 = false ∧ mj = false := by
  unfold Ls_
  by_cases h : i < T.length
  · rw [List.getD_eq_getElem?_getD, List.getElem?_map, List.getElem?_eq_getElem h, List.getD_eq_getElem?_getD, List.getElem?_eq_getElem h]
    simp [fr0, h, and_assoc]
  · rw [List.getD_eq_getElem?_getD, List.getElem?_eq_none (by rw [List.length_map]; omega)]
    simp [h]
theorem frs_in (T : List Tw1) (rs : List (Int × Int)) (mj : Bool) (i : Nat) : Ls_ (frs T rs mj) i ↔ i < T.length ∧ (((T.getD i t0).2.2.1 = true ∧ (T.getD i t0).2.2.2 = false ∧ mj = false) ∨ ∃ v ∈ rs, v.1 = 3 ∧ v.2.toNat = i) := by
  unfold frs
  rw [fold_in, map_in, List.length_map]
  constructor
  · rintro (⟨h1, h2⟩ | ⟨h1, h2⟩)
    · exact ⟨h1, Or.inl h2⟩
    · exact ⟨h1, Or.inr h2⟩
  · rintro ⟨h1, h2 | h2⟩
    · exact Or.inl ⟨h1, h2⟩
    · exact Or.inr ⟨h1, h2⟩

end Go.Proofs.Ytjhnhbeimjnloaa

/- How many words things have. -/
namespace Go.Proofs.Ytjhnhbeimjnloaa
open Go.RowKit W Kp Stl

def usP (p : Int × Int) (t : Tw1) : Int × Int := if t.2.2.2 = true then p else if t.2.2.1 = true then (p.1, p.2 + (1 + t.2.1.length)) else (p.1 + (1 + t.2.1.length), p.2)
def usd (l : List Tw1) : Int × Int := l.foldl usP (0, 0)
theorem usd_snoc (l : List Tw1) (t : Tw1) : usd (l ++ [t]) = usP (usd l) t := by simp [usd, List.foldl_append]
theorem usd_bd (l : List Tw1) (h : ∀ t ∈ l, t.2.1.length ≤ 12) : 0 ≤ (usd l).1 ∧ (usd l).1 ≤ 13 * l.length ∧ 0 ≤ (usd l).2 ∧ (usd l).2 ≤ 13 * l.length := by
  have key : ∀ (l : List Tw1) (p : Int × Int), (∀ t ∈ l, t.2.1.length ≤ 12) → p.1 ≤ (l.foldl usP p).1 ∧ (l.foldl usP p).1 ≤ p.1 + 13 * l.length ∧ p.2 ≤ (l.foldl usP p).2 ∧ (l.foldl usP p).2 ≤ p.2 + 13 * l.length := by
    intro l
    induction l with
    | nil => intro p _; simp
    | cons t l ih =>
      intro p hl
      have h1 := ih (usP p t) (fun x hx => hl x (List.mem_cons_of_mem _ hx))
      have h2 := hl t (by simp)
      rw [List.foldl_cons]
      have h3 : p.1 ≤ (usP p t).1 ∧ (usP p t).1 ≤ p.1 + 13 ∧ p.2 ≤ (usP p t).2 ∧ (usP p t).2 ≤ p.2 + 13 := by
        unfold usP
        split
        · omega
        · split
          · dsimp only; omega
          · dsimp only; omega
      simp only [List.length_cons]
      omega
  have := key l (0, 0) h
  unfold usd
  dsimp only at this
  omega

end Go.Proofs.Ytjhnhbeimjnloaa

/- The document's world: what a cut comes to: lists alone. g: what Grown answers, whatever it is that is the least set. -/
namespace Go.Proofs.Ytjhnhbeimjnloaa
open Go.RowKit W Kp Stl

section
variable {T : List Tw1} {wt : List En}

theorem Grn.uniq {is a b : List Bool} (h : Grn T wt is a) (h' : Grn T wt is b) : a = b := by
  refine List.ext_getElem (h.len.trans h'.len.symm) (fun i h1 h2 => ?_)
  have key : Ls_ a i ↔ Ls_ b i := ⟨fun q => h.lt _ h'.cl h'.up i q, fun q => h'.lt _ h.cl h.up i q⟩
  unfold Ls_ at key
  rw [List.getD_eq_getElem?_getD, List.getElem?_eq_getElem h1, List.getD_eq_getElem?_getD, List.getElem?_eq_getElem h2] at key
  have key : a[i] = true ↔ b[i] = true := key
  cases ha : a[i] <;> cases hb : b[i] <;> simp_all
end

def isd (L : List Bool) (x : Int) : Bool := L.getD x.toNat false
def kpg (g : List Bool → List Bool) (L : List Bool) (x : Int) : List Bool := g (L.set x.toNat true)
def cwn (T : List Tw1) (L : List Bool) : Nat → Int
  | 0 => 0
  | i + 1 => if L.getD i false = true then cwn T L i + (1 + (T.getD i t0).2.1.length) else cwn T L i
def cuT (L : List Bool) (i : Nat) (t : Tw1) : Tw1 :=
  if L.getD i false = true then
    (t.1, (if t.1 = 4 ∧ inS L (t.2.1.getD 0 (0, 0)) = false then [(2, 0), (2, 0)] else if t.1 = 3 ∧ inS L (t.2.1.getD 0 (0, 0)) = false then [(2, 0), t.2.1.getD 1 (0, 0)] else t.2.1), true, t.2.2.2)
  else (t.1, [], t.2.2.1, true)
def cuL (L : List Bool) (T : List Tw1) : Nat → List Tw1
  | 0 => T
  | i + 1 => (cuL L T i).set i (cuT L i (T.getD i t0))
def Wrs.c0 (g : List Bool → List Bool) (s : Wrs) (mj : Bool) : List Bool := g (frs s.T s.rs mj)
def Wrs.cR (g : List Bool → List Bool) (s : Wrs) (mj : Bool) : List Bool × List En × List En :=
  turns isd (kpg g) (s.rg.length + 1) (s.rg.filter (fun e => !isd (s.c0 g mj) e.2)) (s.c0 g mj) []
def Wrs.cF (g : List Bool → List Bool) (s : Wrs) (grow : Int) (mj : Bool) : Bool :=
  (!mj && decide (grow - (usd s.T).2 < (usd s.T).1)) || decide (grow < cwn s.T (s.cR g mj).1 s.T.length)
def Wrs.cut (g : List Bool → List Bool) (s : Wrs) (grow : Int) (mj : Bool) : Wrs :=
  if s.cF g grow mj = true then s else
    { T := cuL (s.cR g mj).1 s.T s.T.length, rs := s.rs, rg := s.rg.filter (fun e => isd (s.c0 g mj) e.2 && isd (s.cR g mj).1 e.1), wt := (s.wt ++ (s.cR g mj).2.1).filter (fun e => isd (s.cR g mj).1 e.1) }
def Wrs.ccd (g : List Bool → List Bool) (s : Wrs) (grow : Int) (mj : Bool) : Int := if s.cF g grow mj = true then 3 else 0

def Gok (T : List Tw1) (wt : List En) (g : List Bool → List Bool) : Prop := ∀ is : List Bool, is.length = T.length → (∀ k, Ls_ is k → Alv T k) → Grn T wt is (g is)

theorem cuL_len (L : List Bool) (T : List Tw1) : ∀ i, (cuL L T i).length = T.length
  | 0 => rfl
  | i + 1 => by
    rw [cuL, List.length_set]
    exact cuL_len L T i
theorem cuL_get (L : List Bool) (T : List Tw1) : ∀ (i j : Nat), i ≤ T.length → j < T.length → (cuL L T i).getD j t0 = if j < i then cuT L j (T.getD j t0) else T.getD j t0
  | 0, j, _, _ => by rw [if_neg (by omega)]; rfl
  | i + 1, j, hi, hj => by
    have ih := cuL_get L T i j (by omega) hj
    rw [cuL, List.getD_eq_getElem?_getD, List.getElem?_set]
    by_cases e : i = j
    · subst e
      rw [if_pos rfl, if_pos (by rw [cuL_len]; exact hj), if_pos (by omega)]
      rfl
    · rw [if_neg e, ← List.getD_eq_getElem?_getD, ih]
      by_cases c : j < i
      · rw [if_pos c, if_pos (by omega)]
      · rw [if_neg c, if_neg (by omega)]
theorem cwn_bd (T : List Tw1) (L : List Bool) (h : ∀ i, (T.getD i t0).2.1.length ≤ 12) : ∀ i, 0 ≤ cwn T L i ∧ cwn T L i ≤ 13 * i
  | 0 => by simp [cwn]
  | i + 1 => by
    have ih := cwn_bd T L h i
    have := h i
    unfold cwn
    split
    · omega
    · omega

section
variable {T : List Tw1} {wt : List En} {g : List Bool → List Bool}

structure Sok_ (T : List Tw1) (L : List Bool) : Prop where
  len : L.length = T.length
  al : ∀ k, Ls_ L k → Alv T k
theorem Gok.ok (hg : Gok T wt g) (hW : Wiv T wt) {L : List Bool} (h : Sok_ T L) : Sok_ T (g L) ∧ ∀ k, Ls_ L k → Ls_ (g L) k := by
  have hG := hg L h.len h.al
  exact ⟨⟨hG.len.trans h.len, fun k hk => hG.lt _ hW.cls h.al k hk⟩, hG.up⟩
theorem Sok_.put {L : List Bool} (h : Sok_ T L) {x : Nat} (hx : Alv T x) : Sok_ T (L.set x true) ∧ Ls_ (L.set x true) x ∧ ∀ k, Ls_ L k → Ls_ (L.set x true) k := by
  have hl : x < L.length := by rw [h.len]; exact hx.1
  refine ⟨⟨by rw [List.length_set]; exact h.len, fun k hk => ?_⟩, ?_, fun k hk => ?_⟩
  · unfold Ls_ at hk
    rw [getD_setB _ _ _ hl] at hk
    split at hk
    · rename_i e
      rw [← e]
      exact hx
    · exact h.al k hk
  · unfold Ls_
    rw [getD_setB _ _ _ hl, if_pos rfl]
  · unfold Ls_ at hk ⊢
    rw [getD_setB _ _ _ hl]
    split
    · rfl
    · exact hk
end

end Go.Proofs.Ytjhnhbeimjnloaa

/- Settle, and the rounds of the document's cut, side by side: lists alone. -/
namespace Go.Proofs.Ytjhnhbeimjnloaa
open Go.RowKit W Kp Stl

structure Sim {σ : Type} (lk : σ → En → Bool × σ) (g : List Bool → List Bool) (pe : En → En) (R : List En) (ρ : σ → List Bool → List En → Prop) : Prop where
  no : ∀ t L C e, ρ t L C → e ∈ R → isd L e.1 = false → lk t (pe e) = (false, t)
  yes : ∀ t L C e, ρ t L C → e ∈ R → isd L e.1 = true → (lk t (pe e)).1 = true ∧ ρ (lk t (pe e)).2 (kpg g L e.2) (C ++ [e])

section
variable {σ : Type} {lk : σ → En → Bool × σ} {g : List Bool → List Bool} {pe : En → En} {R : List En} {ρ : σ → List Bool → List En → Prop}

theorem Sim.pass (h : Sim lk g pe R ρ) : ∀ (l : List En) (t : σ) (L : List Bool) (C D A : List En), (∀ e ∈ l, e ∈ R) → ρ t L C →
    ρ ((l.map pe).foldl (pstep lk) (A, D.map pe, t)).2.2 (Stl.pass isd (kpg g) l L C D).1 (Stl.pass isd (kpg g) l L C D).2.1 ∧ ((l.map pe).foldl (pstep lk) (A, D.map pe, t)).2.1 = (Stl.pass isd (kpg g) l L C D).2.2.map pe ∧
    ((l.map pe).foldl (pstep lk) (A, D.map pe, t)).1.length + C.length = A.length + (Stl.pass isd (kpg g) l L C D).2.1.length
  | [], t, L, C, D, A, _, hr => ⟨hr, rfl, rfl⟩
  | e :: l, t, L, C, D, A, hl, hr => by
    have he := hl e (by simp)
    rw [List.map_cons, List.foldl_cons]
    cases c : isd L e.1
    · have e1 : pstep lk (A, D.map pe, t) (pe e) = (A, (D ++ [e]).map pe, t) := by
        unfold pstep
        rw [h.no t L C e hr he c, List.map_append]
        rfl
      rw [e1, Stl.pass, c, if_neg (by simp)]
      exact h.pass l t L C (D ++ [e]) A (fun x hx => hl x (List.mem_cons_of_mem _ hx)) hr
    · obtain ⟨y1, y2⟩ := h.yes t L C e hr he c
      have e1 : pstep lk (A, D.map pe, t) (pe e) = (A ++ [pe e], D.map pe, (lk t (pe e)).2) := by
        unfold pstep
        rw [if_pos y1]
      rw [e1, Stl.pass, c, if_pos rfl]
      obtain ⟨i1, i2, i3⟩ := h.pass l (lk t (pe e)).2 (kpg g L e.2) (C ++ [e]) D (A ++ [pe e]) (fun x hx => hl x (List.mem_cons_of_mem _ hx)) y2
      refine ⟨i1, i2, ?_⟩
      simp only [List.length_append, List.length_cons, List.length_nil] at i3
      omega
theorem pass_leftD {σ : Type} (is : σ → Int → Bool) (kp : σ → Int → σ) (e : En) : ∀ (l : List En) (s : σ) (C D : List En), e ∈ (Stl.pass is kp l s C D).2.2 → e ∈ D ∨ e ∈ l
  | [], _, _, _, h => Or.inl h
  | x :: l, s, C, D, h => by
    rw [Stl.pass] at h
    split at h
    · exact (pass_leftD is kp e l _ _ _ h).imp id (List.mem_cons_of_mem _)
    · rcases pass_leftD is kp e l _ _ _ h with d | d
      · rcases List.mem_append.1 d with d | d
        · exact Or.inl d
        · exact Or.inr (by rw [List.mem_singleton.1 d]; simp)
      · exact Or.inr (List.mem_cons_of_mem _ d)
theorem pass_left {σ : Type} (is : σ → Int → Bool) (kp : σ → Int → σ) (l : List En) (s : σ) (C : List En) (e : En) (h : e ∈ (Stl.pass is kp l s C []).2.2) : e ∈ l :=
  (pass_leftD is kp e l s C [] h).resolve_left (by simp)
theorem Sim.turns (h : Sim lk g pe R ρ) : ∀ (n : Nat) (D : List En) (t : σ) (L : List Bool) (C : List En), (∀ e ∈ D, e ∈ R) → ρ t L C →
    ρ (trn lk n t (D.map pe)).1 (Stl.turns isd (kpg g) n D L C).1 (Stl.turns isd (kpg g) n D L C).2.1 ∧ (trn lk n t (D.map pe)).2 = (Stl.turns isd (kpg g) n D L C).2.2.map pe
  | 0, D, t, L, C, _, hr => ⟨hr, rfl⟩
  | n + 1, D, t, L, C, hD, hr => by
    obtain ⟨p1, p2, p3⟩ := h.pass D t L C [] [] hD hr
    have p1 : ρ (pts lk t (D.map pe)).2.2 (Stl.pass isd (kpg g) D L C []).1 (Stl.pass isd (kpg g) D L C []).2.1 := p1
    have p2 : (pts lk t (D.map pe)).2.1 = (Stl.pass isd (kpg g) D L C []).2.2.map pe := p2
    have p3 : (pts lk t (D.map pe)).1.length + C.length = 0 + (Stl.pass isd (kpg g) D L C []).2.1.length := p3
    by_cases c : (pts lk t (D.map pe)).1.length = 0
    · rw [trn_stop _ _ _ _ c, turns_stop (by omega)]
      exact ⟨p1, p2⟩
    · rw [trn_go _ _ _ _ c, turns_go (by omega), p2]
      exact h.turns n _ _ _ _ (fun e he => hD e (pass_left _ _ D L C e he)) p1
end

theorem trn_more {σ : Type} (lk : σ → En → Bool × σ) : ∀ (n k : Nat) (t : σ) (d : List En), d.length < n → d.length < k → trn lk n t d = trn lk k t d
  | 0, _, _, _, h, _ => absurd h (by omega)
  | _ + 1, 0, _, _, _, h => absurd h (by omega)
  | n + 1, k + 1, t, d, h1, h2 => by
    have hl := pts_len lk t d
    by_cases c : (pts lk t d).1.length = 0
    · rw [trn_stop _ _ _ _ c, trn_stop _ _ _ _ c]
    · rw [trn_go _ _ _ _ c, trn_go _ _ _ _ c]
      exact trn_more lk n k _ _ (by omega) (by omega)
end Go.Proofs.Ytjhnhbeimjnloaa
