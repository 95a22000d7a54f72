/- SideSettles from the making of its set on: what Settle comes to is the document's answer. -/
import Derived.Test.YtjleaikdinepbaaSSR
namespace Go.Proofs.Ytjleaikdinepbaa.SSet
open Go.RowKit W Kp Stl

/-- A Side and lists beside it. -/
structure Bun (B : Nat) (w : World) (p : Nat) (a ap ar aq : Option Addr) (k kq cr cq : Nat) (r q : List En) : Prop where
  blk : w.heap[p]? = some (.cells #[.slice a r.length k, .slice ap q.length kq] 82 (0, 0))
  Rr : w.ownsRow B 97 2 (.slice ar r.length cr) r.length (ev r)
  Rq : w.ownsRow B 97 2 (.slice aq q.length cq) q.length (ev q)
  Sr : w.ownsRow B 84 2 (.slice a r.length k) r.length (ev r)
  Sq : w.ownsRow B 84 2 (.slice ap q.length kq) q.length (ev q)
theorem Bun.keep {B : Nat} {w w' : World} {p : Nat} {a ap ar aq : Option Addr} {k kq cr cq : Nat} {r q : List En} (h : Bun B w p a ap ar aq k kq cr cq r q)
    (hk : ∀ (x : Nat) (cs : Array Value) (T : TypeId), x < w.heap.size → w.heap[x]? = some (.cells cs T (0, 0)) → (T = 82 ∨ T = 97 ∨ T = 84) → w'.heap[x]? = w.heap[x]?) : Bun B w' p a ap ar aq k kq cr cq r q := by
  have hr : ∀ {e : TypeId} {v : Value} {n : Nat} {l : List Value}, w.ownsRow B e 2 v n l → (e = 82 ∨ e = 97 ∨ e = 84) → w'.ownsRow B e 2 v n l := fun ho he => row_keep ho (fun x hx => by
    obtain ⟨cur, hc⟩ := row_type ho x hx
    exact hk x cur _ (row_lt ho x hx).2 hc he)
  exact ⟨(hk p _ _ (lt_of_some h.blk) h.blk (by simp)).trans h.blk, hr h.Rr (by simp), hr h.Rq (by simp), hr h.Sr (by simp), hr h.Sq (by simp)⟩
/-- .. where but one block of another kind turns. -/
theorem Bun.fr {B : Nat} {w w' : World} {p : Nat} {a ap ar aq : Option Addr} {k kq cr cq : Nat} {r q : List En} {X : Nat → Prop} (h : Bun B w p a ap ar aq k kq cr cq r q) (hf : Fr X w w')
    (hX : ∀ (x : Nat), X x → ∃ (cs : Array Value) (T : TypeId), w.heap[x]? = some (.cells cs T (0, 0)) ∧ T ≠ 82 ∧ T ≠ 97 ∧ T ≠ 84) : Bun B w' p a ap ar aq k kq cr cq r q :=
  h.keep (fun x cs T hx hc hT => hf.block x hx (fun c => by
    obtain ⟨cs', T', h1, h2, h3, h4⟩ := hX x c
    rw [hc] at h1
    simp at h1
    rcases hT with e | e | e
    · exact h2 (h1.2 ▸ e)
    · exact h3 (h1.2 ▸ e)
    · exact h4 (h1.2 ▸ e)))

set_option maxRecDepth 100000 in
set_option maxHeartbeats 4000000 in
theorem tail_wp {s0 s1 s4 s5 s6 s7 s8 s12 s13 s15 s16 s17 s18 s19 s20 s21 s22 s23 s24 s25 s26 s27 s28 s29 s30 s31 s32 s33 s34 s35 s36 s37 s38 s39 s40 s41 s42 s43 s44 s45 s46 s47 s48 s49 s50 s51 s52 s53 s54 s55 s56 s57 s58 s59 s60 s61 s62 s63 s64 s65 s66 s67 s68 s69 s70 s71 s72 s73 s74 s75 s76 s77 s78 s79 s80 s81 s82 s83 s84 s85 s86 s87 s88 s89 s90 s91 s92 s93 s94 s95 s96 s97 s98 s99 s100 s101 s102 s103 s104 s105 s106 s107 s108 s109 s110 s111 s112 s113 s114 s115 s116 s117 s118 s119 s120 s121 s122 s123 s124 s125 s126 s127 s128 s129 s130 s131 s132 s133 s134 s135 s136 s137 s138 s139 s140 s141 s142 s143 s144 s145 s146 s147 s148 s149 s150 s151 s152 s153 s154 s155 s156 s157 s158 s159 s160 s161 s162 s163 s164 s165 s166 s167 s168 s169 s170 s171 s172 s173 s174 s175 s176 s177 s178 s179 s180 s181 s182 s183 s184 s185 s186 s187 s188 s189 s190 s191 s192 s193 s194 s195 s196 s197 s198 s199 s200 s201 s202 s203 s204 s205 s206 s207 s208 s209 s210 s211 s212 s213 s214 s215 s216 s217 : Value} {w w1 wt : World} {a2 a3 a ap ar aq : Option Addr} {c2 c3 c bw p k kq cr cq : Nat} {A : List Int} {L r q : List En} (hb1 : Below w.heap.size w w1) (hb : Below w1.heap.size w1 wt) (hN : Bun w1.heap.size wt p a ap ar aq k kq cr cq r q) (hdS : ∀ x, some x = (Value.slice ap q.length kq).ownBlock → some x ≠ (Value.slice a r.length k).ownBlock)
    (hw : wt.heap[c]? = some (.cells #[.slice none 0 0, .slice none 0 0] 100 (0, 0))) (hbw : wt.heap[bw]? = some (.cells #[.pointer (some ⟨c, 0, none⟩)] 98 (0, 0))) (hpB : w1.heap.size ≤ p) (hcB : w1.heap.size ≤ c) (hbB : w1.heap.size ≤ bw)
    (h2 : Lw w1 a2 A c2) (h3 : Li w1 a3 L c3) (S0 : Smw r) (S1 : Smw q) (g0 : r.length ≤ 60) (g1 : q.length ≤ 60) (g2 : A.length ≤ 100) (g3 : L.length ≤ 100)
    (K : Act → World → Prop) (hK : ∀ a w', Code.wp Try.prog restC (bodyPost Try.prog Try.f13 (fun e w' => e = .returned (.bool true) ∧ Below w.heap.size w w')) a w' → K a w') :
    Code.wp Try.prog r18C (Exit.then K (bodyPost Try.prog Try.f13 (fun e w' => e = .returned (.bool true) ∧ Below w.heap.size w w'))) ⟨#[s0, s1, .slice a2 A.length c2, .slice a3 L.length c3, s4, s5, s6, s7, s8, .pointer (some ⟨p, 0, none⟩), .slice ar r.length cr, .slice aq q.length cq, s12, s13, .pointer (some ⟨bw, 0, none⟩), s15, s16, s17, s18, s19, s20, s21, s22, s23, s24, s25, s26, s27, s28, s29, s30, s31, s32, s33, s34, s35, s36, s37, s38, s39, s40, s41, s42, s43, s44, s45, s46, s47, s48, s49, s50, s51, s52, s53, s54, s55, s56, s57, s58, s59, s60, s61, s62, s63, s64, s65, s66, s67, s68, s69, s70, s71, s72, s73, s74, s75, s76, s77, s78, s79, s80, s81, s82, s83, s84, s85, s86, s87, s88, s89, s90, s91, s92, s93, s94, s95, s96, s97, s98, s99, s100, s101, s102, s103, s104, s105, s106, s107, s108, s109, s110, s111, s112, s113, s114, s115, s116, s117, s118, s119, s120, s121, s122, s123, s124, s125, s126, s127, s128, s129, s130, s131, s132, s133, s134, s135, s136, s137, s138, s139, s140, s141, s142, s143, s144, s145, s146, s147, s148, s149, s150, s151, s152, s153, s154, s155, s156, s157, s158, s159, s160, s161, s162, s163, s164, s165, s166, s167, s168, s169, s170, s171, s172, s173, s174, s175, s176, s177, s178, s179, s180, s181, s182, s183, s184, s185, s186, s187, s188, s189, s190, s191, s192, s193, s194, s195, s196, s197, s198, s199, s200, s201, s202, s203, s204, s205, s206, s207, s208, s209, s210, s211, s212, s213, s214, s215, s216, s217], []⟩ wt := by
  generalize hC : restC = C at hK
  conv at hC => lhs; whnf
  subst hC
  obtain ⟨il, hil, hzl0, hzl1, hzl2⟩ := info_parts info64
  have H2 : Hid (Lw w1 a2 A c2) := h2
  have H3 : Hid (Li w1 a3 L c3) := h3
  have SR : Hid (Smw r) := S0
  have SQ : Hid (Smw q) := S1
  have DS : Hid (∀ x, some x = (Value.slice ap q.length kq).ownBlock → some x ≠ (Value.slice a r.length k).ownBlock) := hdS
  have hLw : Lw wt a2 A c2 := ⟨h2.ls.below hb, h2.le, h2.nil⟩
  clear h2 h3 S0 S1 hdS
  refine r18_wp hLw g2 hw hbw ?_
  intro v108 v109 v110 v111 v112 v113 v114 v115 v116 xa xc w2 t1 t2 t3
  have hN2 := hN.fr t3 (fun x e => ⟨#[.slice none 0 0, .slice none 0 0], 100, by have e : x = c := e; subst e; exact hw, by decide, by decide, by decide⟩)
  have hcb : bw ≠ c := fun e => by rw [e, hw] at hbw; simp at hbw
  have hbw2 := (t3.block bw (lt_of_some hbw) hcb).trans hbw
  have hb2 : Below w1.heap.size w1 w2 := hb.trans (t3.below hb.size (fun x e => by have e : x = c := e; omega))
  have hLi : Li w2 a3 L c3 := H3.out.below hb2
  have lc := lt_of_some hw
  clear hLw hw hbw hN hb
  go_upto_region 19 with fail
  refine r19_wp hLi g3 t1 hbw2 ?_
  intro v117 v118 v119 v120 v121 v122 v123 v124 v125 xb xd w3 u1 u2 u3
  have hN3 := hN2.fr u3 (fun x e => ⟨#[.slice xa A.length xc, .slice none 0 0], 100, by have e : x = c := e; subst e; exact t1, by decide, by decide, by decide⟩)
  have hbw3 := (u3.block bw (lt_of_some hbw2) hcb).trans hbw2
  have hb3 : Below w1.heap.size w1 w3 := hb2.trans (u3.below hb2.size (fun x e => by have e : x = c := e; omega))
  have t4 := row_fr t2 u3 (fun x e c' => by have := (row_lt t2 x e).1; have e2 : x = c := c'; omega)
  clear hLi
  have HWd : Hid (Wd w3 (fun x => x = c ∨ some x = (Value.slice xa A.length xc).ownBlock ∨ some x = (Value.slice xb L.length xd).ownBlock) c A L) :=
    ⟨⟨xa, xc, xb, xd, u1, row_base t4 (fun _ _ => Nat.zero_le _), row_base u2 (fun _ _ => Nat.zero_le _), fun x e => Or.inr (Or.inl e), fun x e => Or.inr (Or.inr e)⟩, Or.inl rfl, fun x e => by
      rcases e with e | e | e
      · rw [e]; exact lt_of_some u1
      · exact (row_lt t4 x e).2
      · exact (row_lt u2 x e).2⟩
  have HX : Hid (∀ x, (x = c ∨ some x = (Value.slice xa A.length xc).ownBlock ∨ some x = (Value.slice xb L.length xd).ownBlock) → w1.heap.size ≤ x ∧ ∃ (cs : Array Value) (T : TypeId), w3.heap[x]? = some (.cells cs T (0, 0)) ∧ (T = 100 ∨ T = 2 ∨ T = 137)) := fun x e => by
    rcases e with e | e | e
    · exact ⟨by omega, _, _, by rw [show x = c from e]; exact u1, by simp⟩
    · obtain ⟨cur, hc⟩ := row_type t4 x e
      have h9 := (row_lt t4 x e).1
      have h8 := t3.size
      have h7 := hb2.size
      exact ⟨by omega, _, _, hc, by simp⟩
    · obtain ⟨cur, hc⟩ := row_type u2 x e
      have h9 := (row_lt u2 x e).1
      have h7 := hb2.size
      exact ⟨by omega, _, _, hc, by simp⟩
  have HN3 : Hid (Bun w1.heap.size w3 p a ap ar aq k kq cr cq r q) := hN3
  have HB3 : Hid (w3.heap[bw]? = some (.cells #[.pointer (some ⟨c, 0, none⟩)] 98 (0, 0))) := hbw3
  have y0 : w3.cell? ⟨bw, 0, none⟩ = some (.pointer (some ⟨c, 0, none⟩)) := by simp [World.cell?, hbw3]
  have lb3 := lt_of_some hbw3
  have hs3 := hb3.size
  generalize Value.ownBlock (Value.slice xa A.length xc) = oa at HWd HX
  generalize Value.ownBlock (Value.slice xb L.length xd) = ob at HWd HX
  clear t1 t2 t3 u1 u2 u3 hN2 hN3 hbw2 hbw3 hb2 t4 lc hcb
  go_wp2_with (at_builtin; refine wpList_append_src _ rfl _ _ 54 rfl w3.heap.size 2 il (.int .i64 0) 1 8 Try.underlying54 hil hzl0 hzl1 hzl2 rfl (by decide) (.slice none 0 0) 0 [] rfl (World.ownsRow_nil _ _ _ _) a2 A.length c2 (A.map (Value.int .i64)) rfl (by simp) H2.out.nil (H2.out.ls.below hb3).cells (ints_oneC A) (by unfold maxLen; omega) (by omega) (Nat.le_refl _) ?_; intro oa' oc w4 hown4 hgrow4 _; rw [Nat.zero_add, List.nil_append] at hown4)
  have hb34 : Below w3.heap.size w3 w4 := (Below.refl _ _).grown hgrow4 (Nat.le_refl _) (fun x e => by simp [Value.ownBlock] at e)
  have hb4 : Below w1.heap.size w1 w4 := hb3.trans (hb34.mono hs3)
  have hN4 := HN3.out.keep (fun x _ _ hx _ _ => hb34.block x hx)
  have P := settled_any (w := w4) ar aq a3 oa' r q A L cr cq oc c3 g0 g1 g2 g3 (row_pairs hN4.Rr) (row_pairs hN4.Rq) (H3.out.lp.below hb4) (row_base hown4 (fun _ _ => Nat.zero_le _)) (fun _ z e => row_ty hN4.Rr hown4 (by decide) z.block (by rw [e]; rfl)) (fun _ z e => row_ty hN4.Rq hown4 (by decide) z.block (by rw [e]; rfl)) (fun hp z e e' => by
    obtain ⟨b, o, e2, hlt, _⟩ := H3.out.lp hp
    rw [e] at e2
    cases e2
    have h9 := (row_lt hown4 _ e').1
    dsimp only at h9
    omega)
  obtain ⟨X, HXr⟩ : ∃ X, Hid (X = r.filter (fun e => A.contains e.2 && (tf L A r).1.contains e.1)) := ⟨_, rfl⟩
  obtain ⟨Y, HYq⟩ : ∃ Y, Hid (Y = q.filter (fun e => (tf L A r).1.contains e.1) ++ (tf L A r).2.1.filter (fun e => (tf L A r).1.contains e.1)) := ⟨_, rfl⟩
  rw [← HXr.out, ← HYq.out] at P
  have hown4b := hown4
  refine P.mono ?_
  clear P
  rintro e w5 ⟨v1, v2, v3, rfl, hV1, hV2, hfr5⟩
  obtain ⟨e1, f1, rfl⟩ := row_slice hV1
  obtain ⟨e2, f2, rfl⟩ := row_slice hV2
  have ty5 : ∀ x, some x = (Value.slice oa' A.length oc).ownBlock → w3.heap.size ≤ x := fun x e => (row_lt hown4 x e).1
  have hN5 := hN4.fr hfr5 (fun x e => by
    obtain ⟨cur, hc⟩ := row_type hown4 x e
    exact ⟨cur, _, hc, by decide, by decide, by decide⟩)
  have hb5 : Below w1.heap.size w1 w5 := hb4.trans (hfr5.below hb4.size (fun x e => Nat.le_trans hs3 (ty5 x e)))
  have k5 : ∀ x, x < w3.heap.size → w5.heap[x]? = w3.heap[x]? := fun x hx => (hfr5.block x (Nat.lt_of_lt_of_le hx hb34.size) (fun e => by have := ty5 x e; omega)).trans (hb34.block x hx)
  have hsz5 : w3.heap.size ≤ w5.heap.size := Nat.le_trans hb34.size hfr5.size
  have hbw5 := (k5 bw lb3).trans HB3.out
  have y5 : w5.cell? ⟨bw, 0, none⟩ = some (.pointer (some ⟨c, 0, none⟩)) := by simp [World.cell?, hbw5]
  have hWd5 := HWd.out.keep hsz5 (fun x hx => k5 x (HWd.out.lt x hx))
  have HX5 : ∀ x, (x = c ∨ some x = oa ∨ some x = ob) → w1.heap.size ≤ x ∧ ∃ (cs : Array Value) (T : TypeId), w5.heap[x]? = some (.cells cs T (0, 0)) ∧ (T = 100 ∨ T = 2 ∨ T = 137) := fun x hx => by
    obtain ⟨h9, cs, T, hc, hT⟩ := HX.out x hx
    exact ⟨h9, cs, T, (k5 x (HWd.out.lt x hx)).trans hc, hT⟩
  have n1 : ¬ (bw = c ∨ some bw = oa ∨ some bw = ob) := fun h => by
    obtain ⟨_, cs, T, hc, hT⟩ := HX5 bw h
    rw [hbw5] at hc
    simp at hc
    rcases hT with e | e | e <;> (rw [e] at hc; exact absurd hc.2 (by decide))
  have n2 : ¬ ((p = c ∨ some p = oa ∨ some p = ob) ∨ p = bw) := fun h => by
    rcases h with h | h
    · obtain ⟨_, cs, T, hc, hT⟩ := HX5 p h
      rw [hN5.blk] at hc
      simp at hc
      rcases hT with e | e | e <;> (rw [e] at hc; exact absurd hc.2 (by decide))
    · have hc := hN5.blk
      rw [h, hbw5] at hc
      simp at hc
  have n3 : ∀ x, some x = (Value.slice ap q.length kq).ownBlock → ¬ ((x = c ∨ some x = oa ∨ some x = ob) ∨ x = bw) := fun x e h => by
    obtain ⟨cur, hcx⟩ := row_type hN5.Sq x e
    rcases h with h | h
    · obtain ⟨_, cs, T, hc, hT⟩ := HX5 x h
      rw [hcx] at hc
      simp at hc
      rcases hT with e | e | e <;> (rw [e] at hc; exact absurd hc.2 (by decide))
    · rw [h, hbw5] at hcx
      simp at hcx
  have m1 := mu_len L A
  have m2 := out_len (words2 r q) A
  rw [words2_len] at m2
  have P2 := settle_any (mkSd (wdOb c bw L (words2 r q)) p (.slice a r.length k)) (fun x => x ∈ words2 r q) ⟨74, #[], #[.pointer (some ⟨bw, 0, none⟩)]⟩ ⟨78, #[.pointer (some ⟨c, 0, none⟩)], #[]⟩ ⟨73, #[], #[]⟩ sIs (sKp L) sNw
    (lks_mk (wdOb c bw L (words2 r q)) p (.slice a r.length k) (fun x => x ∈ words2 r q) ⟨74, #[], #[.pointer (some ⟨bw, 0, none⟩)]⟩ ⟨78, #[.pointer (some ⟨c, 0, none⟩)], #[]⟩ ⟨73, #[], #[]⟩ isW (fun A x => (w1k x, dfs L (L.length + 1) A x)) (fun _ x => nwW x) ent_living ent_keep ent_now (alives_living _) (keeps_wd (by omega)) (fun _ _ w x _ _ => now_any w x))
    r a k rfl (by omega) (fun e he => ⟨(words2_mem (Or.inl he)).1, (words2_mem (Or.inl he)).2.1⟩) (fun x => ((x = c ∨ some x = oa ∨ some x = ob) ∨ x = bw) ∨ x = p ∨ some x = (Value.slice ap q.length kq).ownBlock) (A, q) w5 (st_W SR.out) (show q.length + r.length ≤ 90000 by omega)
    ⟨fun x => (x = c ∨ some x = oa ∨ some x = ob) ∨ x = bw, ap, kq, ⟨_, hWd5, hbw5, n1, fun _ => Iff.rfl, by show A.length + mu L A + out (words2 r q) A ≤ 20000; omega⟩, hN5.blk, row_base hN5.Sq (fun _ _ => Nat.zero_le _), fun x h => Or.inl h, Or.inr (Or.inl rfl), n2, fun x e => ⟨Or.inr (Or.inr e), n3 x e⟩, fun x h => by
      rcases h with (h | h) | h | h
      · exact hWd5.lt x h
      · rw [h]; exact lt_of_some hbw5
      · rw [h]; exact lt_of_some hN5.blk
      · exact (row_lt hN5.Sq x h).2⟩ (row_pairs hN5.Sr)
  rw [st_R SR.out, st_Q SR.out SQ.out, ← HXr.out, ← HYq.out] at P2
  go_wp2_with fail
  refine P2.mono ?_
  clear P2
  rintro e w6 ⟨a1', d1, a2', d2, F1, wm, rfl, _, _, _, hp6, hR6, hQ6, hfr6, _⟩
  have hX6 : ∀ x, ((x = c ∨ some x = oa ∨ some x = ob) ∨ x = bw) ∨ x = p ∨ some x = (Value.slice ap q.length kq).ownBlock → w1.heap.size ≤ x ∧ ∃ (cs : Array Value) (T : TypeId), w5.heap[x]? = some (.cells cs T (0, 0)) ∧ T ≠ 97 := fun x h => by
    rcases h with (h | h) | h | h
    · obtain ⟨h9, cs, T, hc, hT⟩ := HX5 x h
      exact ⟨h9, cs, T, hc, by rcases hT with e | e | e <;> (rw [e]; decide)⟩
    · exact ⟨by omega, _, _, by rw [show x = bw from h]; exact hbw5, by decide⟩
    · exact ⟨by omega, _, _, by rw [show x = p from h]; exact hN5.blk, by decide⟩
    · obtain ⟨cur, hc⟩ := row_type hN5.Sq x h
      exact ⟨(row_lt hN5.Sq x h).1, cur, _, hc, by decide⟩
  have hb6 : Below w1.heap.size w1 w6 := hb5.trans (hfr6.below hb5.size (fun x h => (hX6 x h).1))
  have keepR : ∀ {b n : Nat} {v : Value} {l : List Value}, w5.ownsRow b 97 2 v n l → w6.ownsRow b 97 2 v n l := fun ho => row_fr ho hfr6 (fun x hx h => by
    obtain ⟨_, cs, T, hc, hT⟩ := hX6 x h
    obtain ⟨cur, hc2⟩ := row_type ho x hx
    rw [hc] at hc2
    simp at hc2
    exact hT hc2.2)
  have hV6 := keepR hV1
  have hU6 := keepR hV2
  have hp7 : w6.heap[p]? = some (.cells #[.slice a1' X.length d1, .slice a2' Y.length d2] 82 (0, 0)) := by have h9 : w6.heap[p]? = _ := hp6; simpa using h9
  have hLX : Lp w6 a1' (X.map up) := row_pairs hR6
  have hLY : Lp w6 a2' (Y.map up) := row_pairs hQ6
  have HLX : Hid (Lp w6 a1' (X.map up)) := hLX
  have HLY : Hid (Lp w6 a2' (Y.map up)) := hLY
  have HVX : Hid (Lp w6 e1 X) := row_pairs hV6
  have HVY : Hid (Lp w6 e2 Y) := row_pairs hU6
  have HSX : Hid (Smw X) := by rw [HXr.out]; exact fun e he => SR.out e (List.mem_filter.1 he).1
  have HSY : Hid (Smw Y) := by
    rw [HYq.out]
    intro e he
    rcases List.mem_append.1 he with he | he
    · exact SQ.out e (List.mem_filter.1 he).1
    · have h9 := (List.mem_filter.1 he).1
      rw [show (tf L A r).2.1 = (tD L (L.length + 1) A r).2.1 by rw [(tD_tf L A r).2]] at h9
      exact tD_small SR.out e h9
  have lX : X.length ≤ 60 := by rw [HXr.out]; exact Nat.le_trans (List.length_filter_le _ _) g0
  have lY : Y.length ≤ 1000 := by
    rw [HYq.out, List.length_append]
    have h1 := List.length_filter_le (fun e : En => (tf L A r).1.contains e.1) q
    have h2 := List.length_filter_le (fun e : En => (tf L A r).1.contains e.1) (tf L A r).2.1
    have h3 := turns_len (is := isL) (kp := kpL L) (r.length + 1) (r.filter (fun e => !A.contains e.2)) A []
    have h4 := List.length_filter_le (fun e : En => !A.contains e.2) r
    have h5 : (tf L A r).2.1.length + (tf L A r).2.2.length = ([] : List En).length + (r.filter (fun e => !A.contains e.2)).length := h3
    rw [List.length_nil, Nat.zero_add] at h5
    omega
  have x0 : w6.cell? ⟨p, 0, none⟩ = some (.slice a1' X.length d1) := by simp [World.cell?, hp7]
  have x1 : w6.cell? ⟨p, 1, none⟩ = some (.slice a2' Y.length d2) := by simp [World.cell?, hp7]
  have lp6 := lt_of_some hp7
  have hbw6 : Below w.heap.size w w6 := hb1.trans (hb6.mono hb1.size)
  clear hp6 hp7 hR6 hQ6 hfr6 hX6 keepR hV6 hU6 hLX hLY hV1 hV2 n1 n2 n3 hWd5 HX5 hbw5 hN5 hN4 hb5 hb4 hb34 hfr5 ty5 k5 hown4 hown4b hgrow4 y5 m1 m2 hsz5 HWd HX HN3 HB3 y0 lb3 hs3 hb3 hb6 HXr HYq SR SQ
  go_wp2_with fail
  go_loopw [21] (fun iv wk => ∃ j : Nat, j ≤ X.length ∧ iv = .int .i64 j ∧ Below w6.heap.size w6 wk) (fun iv _ => X.length - (intOf iv).toNat)
  case atStart => exact ⟨0, Nat.zero_le _, rfl, Below.refl _ _⟩
  case round =>
    obtain ⟨j, hj, rfl, hb⟩ := hrel
    by_cases hlt : j < X.length
    · obtain ⟨b0, o0, eb, hb0, hc⟩ := HLX.out (by rw [List.length_map]; omega)
      obtain ⟨b2, o2, eb2, hb2, hc2⟩ := HVX.out (by omega)
      obtain ⟨q1, q2⟩ := hc j (by rw [List.length_map]; exact hlt)
      obtain ⟨q3, q4⟩ := hc2 j hlt
      have eu : (X.map up).getD j (0, 0) = up (X.getD j (0, 0)) := by simp [List.getElem?_eq_getElem hlt]
      rw [eu] at q1 q2
      have hs := HSX.out (X.getD j (0, 0)) (by rw [List.getD_eq_getElem?_getD, List.getElem?_eq_getElem hlt]; exact List.getElem_mem hlt)
      unfold up at q1 q2
      dsimp only at q1 q2
      generalize (X.getD j (0, 0)).1 = x at q1 q3 hs
      generalize (X.getD j (0, 0)).2 = y at q2 q4 hs
      have z1 := (hb.cell (p := ⟨b0, o0 + j * 2, none⟩) hb0).trans q1
      have z2 := (hb.cell (p := ⟨b0, o0 + j * 2 + 1, none⟩) hb0).trans q2
      have z3 := (hb.cell (p := ⟨b2, o2 + j * 2, none⟩) hb2).trans q3
      have z4 := (hb.cell (p := ⟨b2, o2 + j * 2 + 1, none⟩) hb2).trans q4
      have z5 := (hb.cell (p := ⟨p, 0, none⟩) lp6).trans x0
      have wx : IntKind.i64.wrap (x + 1000) = x + 1000 := by rw [IntKind.wrap_i64]; omega
      have wy : IntKind.i64.wrap (y + 1000) = y + 1000 := by rw [IntKind.wrap_i64]; omega
      have j0 : (0 : Int) ≤ (j : Int) := by omega
      have j1 : (j : Int) < (X.length : Int) := by omega
      subst eb
      subst eb2
      clear hc hc2 eu q1 q2 q3 q4
      go_wp2_with fail
      go_region_held3 (fun w' => w'.cell? ⟨p, 0, none⟩ = some (.slice (some ⟨b0, o0, none⟩) X.length d1) ∧ w'.cell? ⟨b0, o0 + j * 2, none⟩ = some (.int .i64 (x + 1000)) ∧ w'.cell? ⟨b0, o0 + j * 2 + 1, none⟩ = some (.int .i64 (y + 1000)) ∧ w'.cell? ⟨b2, o2 + j * 2, none⟩ = some (.int .i64 x) ∧ w'.cell? ⟨b2, o2 + j * 2 + 1, none⟩ = some (.int .i64 y)) (go_keep) (fail)
      have hbn := hb.drew
      clear z1 z2 z3 z4 z5 hb
      go_wp2_with fail
      go_roundw
      case rel => exact ⟨j + 1, by omega, by go_num, hbn⟩
      case measure => simp [intOf]; omega
    · obtain rfl : j = X.length := by omega
      go_wp2_with fail
      go_loopw [22] (fun iv wk => ∃ j : Nat, j ≤ Y.length ∧ iv = .int .i64 j ∧ Below w6.heap.size w6 wk) (fun iv _ => Y.length - (intOf iv).toNat)
      case atStart => exact ⟨0, Nat.zero_le _, rfl, hb⟩
      case round =>
        clear hb
        obtain ⟨j, hj, rfl, hb⟩ := hrel
        by_cases hlt : j < Y.length
        · obtain ⟨b0, o0, eb, hb0, hc⟩ := HLY.out (by rw [List.length_map]; omega)
          obtain ⟨b2, o2, eb2, hb2, hc2⟩ := HVY.out (by omega)
          obtain ⟨q1, q2⟩ := hc j (by rw [List.length_map]; exact hlt)
          obtain ⟨q3, q4⟩ := hc2 j hlt
          have eu : (Y.map up).getD j (0, 0) = up (Y.getD j (0, 0)) := by simp [List.getElem?_eq_getElem hlt]
          rw [eu] at q1 q2
          have hs := HSY.out (Y.getD j (0, 0)) (by rw [List.getD_eq_getElem?_getD, List.getElem?_eq_getElem hlt]; exact List.getElem_mem hlt)
          unfold up at q1 q2
          dsimp only at q1 q2
          generalize (Y.getD j (0, 0)).1 = x at q1 q3 hs
          generalize (Y.getD j (0, 0)).2 = y at q2 q4 hs
          have z1 := (hb.cell (p := ⟨b0, o0 + j * 2, none⟩) hb0).trans q1
          have z2 := (hb.cell (p := ⟨b0, o0 + j * 2 + 1, none⟩) hb0).trans q2
          have z3 := (hb.cell (p := ⟨b2, o2 + j * 2, none⟩) hb2).trans q3
          have z4 := (hb.cell (p := ⟨b2, o2 + j * 2 + 1, none⟩) hb2).trans q4
          have z5 := (hb.cell (p := ⟨p, 1, none⟩) lp6).trans x1
          have wx : IntKind.i64.wrap (x + 1000) = x + 1000 := by rw [IntKind.wrap_i64]; omega
          have wy : IntKind.i64.wrap (y + 1000) = y + 1000 := by rw [IntKind.wrap_i64]; omega
          have j0 : (0 : Int) ≤ (j : Int) := by omega
          have j1 : (j : Int) < (Y.length : Int) := by omega
          subst eb
          subst eb2
          clear hc hc2 eu q1 q2 q3 q4
          go_wp2_with fail
          go_region_held3 (fun w' => w'.cell? ⟨p, 1, none⟩ = some (.slice (some ⟨b0, o0, none⟩) Y.length d2) ∧ w'.cell? ⟨b0, o0 + j * 2, none⟩ = some (.int .i64 (x + 1000)) ∧ w'.cell? ⟨b0, o0 + j * 2 + 1, none⟩ = some (.int .i64 (y + 1000)) ∧ w'.cell? ⟨b2, o2 + j * 2, none⟩ = some (.int .i64 x) ∧ w'.cell? ⟨b2, o2 + j * 2 + 1, none⟩ = some (.int .i64 y)) (go_keep) (fail)
          have hbn := hb.drew
          clear z1 z2 z3 z4 z5 hb
          go_wp2_with fail
          go_roundw
          case rel => exact ⟨j + 1, by omega, by go_num, hbn⟩
          case measure => simp [intOf]; omega
        · obtain rfl : j = Y.length := by omega
          go_wp2_with fail
          go_ret
          exact ⟨rfl, hbw6.trans (hb.mono hbw6.size)⟩

end Go.Proofs.Ytjleaikdinepbaa.SSet
