/- Joined: Hp3, Ms4, OpenZ, HRm, HRmP. -/
import Derived.Test.YtalgochmjddodaaGreatJ36
import Derived.Test.YtalgochmjddodaaGreatJ28
import Derived.Test.YtalgochmjddodaaGreatJ38
import Derived.Test.YtalgochmjddodaaGreatJ04
import Derived.Lib.SmallJoins
import Derived.Test.YtalgochmjddodaaGreatRows
import Derived.ProofKit
import Derived.OpenShut
import Derived.ShutString
import Derived.ChangeOld
import Derived.Below
namespace Go.Proofs.YtalgochmjddodaaGreat
open Go.RowKit W Kp Stl
section
variable {a : Wc} {S : Ww} {Y G : List Int}
theorem kx_12 (h : KInv a S.s Y G) (hk : K12 a S.s Y G) (hb : Wbd a S.s) (x : Int) : S.kx a x ≠ 5 := fun e => by
 unfold Ww.kx at e
 by_cases ht : tB a.N S.s.y S.s.g S.s.ws x = true
 ·rw [if_pos ht] at e
  have := hk _ (tB_mem (O := a.O) h.inv.full hb.n1 hb.y1 hb.o1 hb.g1 ht).2
  omega
 ·rw [if_neg ht] at e
  omega
theorem So0.kx (h : So0 a S) (hb : Wbd a S.s) (x : Int) : S.kx a x ≠ 5 := by
 obtain ⟨Y, G, h1, h2⟩ := h.k
 exact kx_12 h1 h2 hb x
theorem So0.reg (h : So0 a S) (hb : Wbd a S.s) (t g : Int) : (S.reg a t g).2 = S := by
 unfold Ww.reg
 split
 ·rw [if_neg (h.kx hb g)]
 ·rfl
theorem So0.pop (h : So0 a S) (hb : Wbd a S.s) (x : Int) : (S.pop a x).2.2 = S := by
 unfold Ww.pop
 rw [if_neg (h.kx hb x)]
theorem So0.set (h : So0 a S) (hb : Wbd a S.s) (A B : Nat) (I : Int) : So0 a (S.set a (S.s.rs.getD A 0) I (S.s.rs.getD B 0)) := by
 obtain ⟨Y, G, h1, h2⟩ := h.k
 refine ⟨⟨Y, G, ⟨?_, CdI.set h1.inv h1.cd hb.l1 hb.n1 hb.y1 hb.o1 hb.g1 _ _ _⟩, K12.set h1 h2 hb _ _ _ _ _⟩, h.r, h.q⟩
 show WInv a.N S.s.y S.s.g (stW a.N S.s.y S.s.g S.s.ws (S.s.rs.getD A 0) I (S.s.rs.getD B 0)) Y G S.s.rs
 by_cases hfc : fcC a.N S.s.y S.s.g S.s.ws (S.s.rs.getD A 0) I = 0
 ·obtain ⟨t1, t2, t3, t4⟩ := fcC_zero hfc
  obtain ⟨_, hv⟩ := (tB_iff (O := a.O) h1.inv.full hb.n1 hb.y1 hb.o1 hb.g1).1 t1
  rw [h1.inv.full.stands hb.y1 hv] at t4
  have hi := field_i h1.inv.full hv t3 t4
  unfold stW
  rw [if_pos hfc, if_pos hi]
  exact h1.inv.set hb.l1 hb.y1 hb.g1 hv t3 t4 (fun d => h1.any B d)
 ·rw [(fc_no2 (M := S.s.M) (c := nC a.O) hfc).1]
  exact h1.inv
theorem So0.st (h : So0 a S) (hb : Wbd a S.s) {R : Nat} {x : Int} (hx : Vok a S x) : So0 a (S.st R x) := by
 obtain ⟨Y, G, h1, h2⟩ := h.k
 exact ⟨⟨Y, G, h1.root R x (fun ha => ((tB_iff (O := a.O) h1.inv.full hb.n1 hb.y1 hb.o1 hb.g1).1 (hx ha)).2), h2⟩, h.r, h.q⟩
theorem So0.room (h : So0 a S) (hb : Wbd a S.s) (m : Int) : So0 a (S.room a m).2 := by
 unfold Ww.room
 split
 ·exact h
 ·split
  ·exact h.cut hb
  ·exact (great_strong h hb).2.1
theorem So0.put (h : So0 a S) (hb : Wbd a S.s) {kd : Int} {rl : List Nat} (hk : hc kd rl.length = 0) (h12 : kd = 1 \/ kd = 2) (hr : S.s.y + 1 + rl.length <= a.N) : So0 a (S.put a kd rl) := by
 obtain ⟨Y, G, h1, h2⟩ := h.k
 have p := putI h1 hb hk hr rl.length (Nat.le_refl _)
 refine ⟨⟨_, _, p.k, fun v hv => ?_⟩, h.r, h.q⟩
 show pk (ld a.N (S.s.y + 1 + rl.length) S.s.g (putF S.s.rs S.s.y (mkW a.N S.s.y kd rl.length S.s.ws) rl rl.length) v) = 1 \/ pk (ld a.N (S.s.y + 1 + rl.length) S.s.g (putF S.s.rs S.s.y (mkW a.N S.s.y kd rl.length S.s.ws) rl rl.length) v) = 2
 have hv2 : (v ∈ Y \/ v ∈ G) \/ v = S.s.y := by
  rcases hv with d | d
  ·rcases List.mem_append.1 d with d | d
   ·exact Or.inl (Or.inl d)
   ·exact Or.inr (by simpa using d)
  ·exact Or.inl (Or.inr d)
 rcases hv2 with d | d
 ·rw [p.h v d]
  exact h2 v d
 ·rw [d, p.p, (parts_head kd rl.length hk).1]
  exact h12
theorem So0.grow {j : Nat} (h : So0 a S) (ok : Hok a S j) (hb : Wbd a S.s) {kd : Int} {rl : List Nat} (hk : hc kd rl.length = 0) (h12 : kd = 1 \/ kd = 2) : So0 a (S.grow a kd rl).2.2 := by
 obtain ⟨h1, h2, h3, h4⟩ := ok.room hb (1 + rl.length)
 have hl := hc_bd kd rl.length hk
 unfold Ww.grow
 split
 ·rename_i c
  exact (h.room hb _).put h2 hk h12 (by have := h3 c (by omega); omega)
 ·exact h.room hb _
theorem So0.rt {j : Nat} (h : So0 a S) (ok : Hok a S j) (hb : Wbd a S.s) {k n : Int} (A B : Nat) (I : Int) (hk : ckN k n = 0) (k6 : k ≠ 6) (k7 : k ≠ 7) (k8 : k ≠ 8) : So0 a (S.rt a k A B I n).2.2 := by
 unfold Ww.rt
 split
 ·exact h
 rename_i e1
 split
 ·exact h
 split
 ·exact h.grow ok hb rfl (Or.inl rfl)
 split
 ·rename_i e5
  refine h.grow ok hb ?_ (Or.inr rfl)
  unfold ckN at hk
  rw [if_neg e1, if_pos e5] at hk
  have := hc_bd 2 n hk
  rw [List.length_replicate, show ((n.toNat : Nat) : Int) = n by omega]
  exact hk
 split
 ·rw [h.pop hb]
  exact h
 split
 ·exact h
 split
 ·unfold Ww.len
  split <;> exact h
 split <;> exact h
theorem So0.hd {j : Nat} (h : So0 a S) (ok : Hok a S j) (hb : Wbd a S.s) (k R A B I n : Int) (k6 : k ≠ 6) (k7 : k ≠ 7) (k8 : k ≠ 8) : So0 a (S.hd a k R A B I n).2 := by
 unfold Ww.hd
 split
 ·rename_i hc
  split
  ·rw [h.reg hb]
   exact h
  ·split
   ·exact h.set hb A.toNat B.toNat I
   ·split
    ·exact h.cut hb
    ·split
     ·exact (great_strong h hb).2.1
     ·obtain ⟨r1, r2, r3, r4⟩ := ok.rt hb A.toNat B.toNat I (ck_N hc)
      have r5 := h.rt ok hb A.toNat B.toNat I (ck_N hc) k6 k7 k8
      split
      ·rename_i c
       exact r5.st r2 (r3 c)
      ·exact r5
 ·exact h
theorem So0.full (h : So0 a S) (hb : Wbd a S.s) (m : Int) : ((S.room a m).1 = 0 /\ ¬ ((a.N : Int) - S.s.y < m /\ (a.O : Int) - S.s.g < S.s.y /\ (a.O : Int) < szV (vwL a.N S.s.y S.s.g S.s.ws S.q S.s.rs).2.2)) \/ ((S.room a m).1 = 3 /\ (a.N : Int) - S.s.y < m /\ (a.O : Int) - S.s.g < S.s.y /\ (a.O : Int) < szV (vwL a.N S.s.y S.s.g S.s.ws S.q S.s.rs).2.2) := by
 unfold Ww.room
 split
 ·exact Or.inl ⟨rfl, by omega⟩
 ·split
  ·rename_i c
   refine Or.inl ⟨?_, by omega⟩
   unfold Ww.code Ww.full
   have hg := hb.g1
   rw [decide_eq_false (by omega)]
   rfl
  ·obtain ⟨_, _, _, _, _, g⟩ := great_strong h hb
   rcases g with ⟨g1, _, _, g4⟩ | ⟨g1, _, _, g4⟩
   ·exact Or.inl ⟨g1, by omega⟩
   ·exact Or.inr ⟨g1, by omega, by omega, by omega⟩
theorem grow_code (a : Wc) (S : Ww) (kd : Int) (rl : List Nat) : (S.grow a kd rl).2.1 = (S.room a (1 + rl.length)).1 := by
 unfold Ww.grow
 split
 ·rename_i c
  exact c.symm
 ·rfl
theorem hd_code {k R A B n : Int} (I : Int) (hck : ckC k R A B n = 0) (hk : k = 4 \/ k = 5) : (S.hd a k R A B I n).1 = (S.room a (if k = 5 then 1 + n else 3)).1 := by
 unfold Ww.hd
 rw [if_pos hck, if_neg (by omega), if_neg (by omega), if_neg (by omega), if_neg (by omega)]
 have key : (S.rt a k A.toNat B.toNat I n).2.1 = (S.room a (if k = 5 then 1 + n else 3)).1 := by
  unfold Ww.rt
  rw [if_neg (by omega), if_neg (by omega)]
  rcases hk with rfl | rfl
  ·rw [if_pos rfl, if_neg (by omega), grow_code]
   rfl
  ·rw [if_neg (by omega), if_pos rfl, if_pos rfl, grow_code, List.length_replicate]
   have hn : hc 2 n = 0 := ck_N hck
   have := hc_bd 2 n hn
   rw [show ((n.toNat : Nat) : Int) = n by omega]
 split
 ·rename_i c
  rw [<- key]
  exact c.symm
 ·exact key
end
end Go.Proofs.YtalgochmjddodaaGreat

namespace Go.Proofs.YtalgochmjddodaaGreat
set_option maxRecDepth 100000
set_option maxHeartbeats 1000000
open Go.RowKit W Kp Stl
theorem szV_snoc (ns : List (Int × List (Int × Int))) (i : Nat) (h : i < ns.length) : szV (ns.take (i + 1)) = szV (ns.take i) + (1 + if (ns.getD i (0, [])).1 = 5 then 0 else (ns.getD i (0, [])).2.length) := by
 have e : ns.getD i (0, []) = ns[i] := by rw [List.getD_eq_getElem?_getD, List.getElem?_eq_getElem h]; rfl
 rw [List.take_succ_eq_append_getElem h, e]
 unfold szV
 rw [List.map_append, List.sum_append]
 simp only [List.map_cons, List.map_nil, List.sum_cons, List.sum_nil, Nat.add_zero]
theorem szV_le : ∀ ns : List (Int × List (Int × Int)), (∀ nd ∈ ns, nd.2.length <= 1000) -> szV ns <= ns.length * 1001
 | [], _ => Nat.le_refl _
 | nd :: ns, h => by
  have h1 := szV_le ns (fun x hx => h x (List.mem_cons_of_mem _ hx))
  have h2 := h nd (by simp)
  have e : szV (nd :: ns) = (1 + if nd.1 = 5 then 0 else nd.2.length) + szV ns := by simp [szV]
  rw [e, List.length_cons]
  split <;> omega
theorem size_any {ns : List (Int × List (Int × Int))} (r na : Option Addr) (rl rc nc : Nat) (w : World) (hl : ns.length <= 100000) (hf : ∀ nd ∈ ns, nd.2.length <= 1000) (h : Ln w na ns) :
  Calls Tryz.prog 26 #[.agg #[.slice r rl rc, .slice na ns.length nc]] w fun e w' => e = .returned (.int .i64 (szV ns)) /\ Below w.heap.size w w' := by
 have hb0 := (Below.refl w.heap.size w).alloc (Nat.le_refl _) (.cells #[.slice r rl rc, .slice na ns.length nc] 52)
 have hx0 := heap_alloc_new w (.cells #[.slice r rl rc, .slice na ns.length nc] 52)
 have HL : Hid (Ln (w.alloc (.cells #[.slice r rl rc, .slice na ns.length nc] 52)) na ns) := h.below hb0
 have HF : Hid (∀ nd ∈ ns, nd.2.length <= 1000) := hf
 clear h hf
 go_enter Tryz.func26, Tryz.ntmps26
 go_wp2_with fail
 have HB0 : Hid (Below w.heap.size w (w.alloc (.cells #[.slice r rl rc, .slice na ns.length nc] 52))) := hb0
 clear hb0
 generalize w.alloc (.cells #[.slice r rl rc, .slice na ns.length nc] 52) = w1 at *
 obtain ⟨B, hB⟩ : ∃ B, w.heap.size = B := ⟨_, rfl⟩
 rw [hB] at hx0 ⊢
 have z1 : w1.cell? ⟨B, 1, none⟩ = some (.slice na ns.length nc) := by simp [World.cell?, hx0]
 clear hx0
 go_loopw [3, 4] (fun nv iv wr => ∃ i : Nat, i <= ns.length /\ iv = .int .i64 i /\ nv = .int .i64 (szV (ns.take i)) /\ wr = w1) (fun _ iv _ => ns.length - (intOf iv).toNat)
 case atStart => exact ⟨0, Nat.zero_le _, rfl, rfl, rfl⟩
 case round =>
  obtain ⟨i, hi, rfl, rfl, rfl⟩ := hrel
  by_cases hlt : i < ns.length
  ·obtain ⟨b, oo, fa, fc, e, lb, x1, x2, _⟩ := HL.out.at hlt
   subst e
   have hs := szV_snoc ns i hlt
   have hle := szV_le (ns.take i) (fun nd hnd => HF.out nd (List.mem_of_mem_take hnd))
   rw [List.length_take] at hle
   have hfl : (ns.getD i (0, [])).2.length <= 1000 := HF.out _ (by rw [List.getD_eq_getElem?_getD, List.getElem?_eq_getElem hlt]; exact List.getElem_mem hlt)
   have hle2 : szV (ns.take i) <= 200000000 := by omega
   have i0 : (0 : Int) <= (i : Int) := by omega
   have i1 : (i : Int) < (ns.length : Int) := by omega
   generalize szV (ns.take i) = z at *
   generalize (ns.getD i (0, [])).1 = kk at *
   generalize (ns.getD i (0, [])).2.length = ff at *
   clear hle
   by_cases h5 : kk = 5
   ·subst h5
    rw [if_pos rfl] at hs
    have HZ : Hid (szV (ns.take (i + 1)) = z + (1 + 0)) := hs
    clear hs
    go_wp2_with fail
    go_roundw
    case rel => exact ⟨i + 1, by omega, by go_num, by rw [HZ.out]; go_num, trivial⟩
    case measure => simp [intOf]; omega
   ·rw [if_neg h5] at hs
    have HZ : Hid (szV (ns.take (i + 1)) = z + (1 + ff)) := hs
    clear hs
    go_wp2_with fail
    go_roundw
    case rel => exact ⟨i + 1, by omega, by go_num, by rw [HZ.out]; go_num, trivial⟩
    case measure => simp [intOf]; omega
  ·obtain rfl : i = ns.length := by omega
   rw [List.take_length]
   go_wp2_with fail
   go_ret
   exact ⟨rfl, HB0.out⟩
end Go.Proofs.YtalgochmjddodaaGreat

namespace Go.Proofs.YtalgochmjddodaaGreat
set_option maxRecDepth 100000
open Go.ChangeShapes Go.WideShapes Go.ChangeAt Go.RowKit Go.Joins Go.Deep W Stl
theorem cellsStepZ : Tryz.prog.cellsOf 65 = 6 := by kernel_rfl
theorem cellsIZ : Tryz.prog.cellsOf 3 = 1 := by kernel_rfl
theorem cellsLZ : Tryz.prog.cellsOf 2 = 1 := by kernel_rfl
structure S6 where
  k : Int
  R : Int
  A : Int
  B : Int
  I : Int
  n : Int
def s60 : S6 := ⟨0, 0, 0, 0, 0, 0⟩
def K64 (a : Int) : Prop := -9223372036854775808 <= a /\ a <= 9223372036854775807
structure C6 (w : World) (b o : Nat) (s : S6) : Prop where
  c0 : w.cell? ⟨b, o, none⟩ = some (.int .i64 s.k)
  c1 : w.cell? ⟨b, o + 1, none⟩ = some (.int .i64 s.R)
  c2 : w.cell? ⟨b, o + 2, none⟩ = some (.int .i64 s.A)
  c3 : w.cell? ⟨b, o + 3, none⟩ = some (.int .i64 s.B)
  c4 : w.cell? ⟨b, o + 4, none⟩ = some (.int .i64 s.I)
  c5 : w.cell? ⟨b, o + 5, none⟩ = some (.int .i64 s.n)
theorem C6.below {w w' : World} {b o B : Nat} {s : S6} (h : C6 w b o s) (hb : Below B w w') (hB : b < B) : C6 w' b o s :=
 ⟨(hb.cell (p := ⟨b, o, none⟩) hB).trans h.c0, (hb.cell (p := ⟨b, o + 1, none⟩) hB).trans h.c1, (hb.cell (p := ⟨b, o + 2, none⟩) hB).trans h.c2, (hb.cell (p := ⟨b, o + 3, none⟩) hB).trans h.c3, (hb.cell (p := ⟨b, o + 4, none⟩) hB).trans h.c4, (hb.cell (p := ⟨b, o + 5, none⟩) hB).trans h.c5⟩
def L6 (w : World) (ad : Option Addr) (l : List S6) : Prop :=
 0 < l.length -> ∃ b o, ad = some ⟨b, o, none⟩ /\ b < w.heap.size /\ ∀ i, i < l.length -> C6 w b (o + i * 6) (l.getD i s60) /\ K64 (l.getD i s60).k /\ K64 (l.getD i s60).R /\ K64 (l.getD i s60).A /\ K64 (l.getD i s60).B /\ K64 (l.getD i s60).I /\ K64 (l.getD i s60).n
theorem list6z {α : Type} {cs : List α} (h : cs.length = 6) : ∃ c0 c1 c2 c3 c4 c5, cs = [c0, c1, c2, c3, c4, c5] := by
 match cs, h with
 | [c0, c1, c2, c3, c4, c5], _ => exact ⟨c0, c1, c2, c3, c4, c5, rfl⟩
theorem kbnd {a : Int} (h : (Lit.int .i64 a).wf = true) : K64 a := by
 have : IntKind.i64.min <= a /\ a <= 9223372036854775807 := by simpa [Lit.wf] using h
 exact ⟨this.1, this.2⟩
theorem open_step6 {H : Type} {enc : TypeId × Value -> H} {W : World} {sp : Nat -> Bool} {held : Bool} {fuel : Nat} {cs : List Value} {x : DataW H × List MemPlace}
  (hf : DataW.trod enc Tryz.prog W 0 sp held fuel 65 cs = some x) : ∃ s : S6, cs = [.int .i64 s.k, .int .i64 s.R, .int .i64 s.A, .int .i64 s.B, .int .i64 s.I, .int .i64 s.n] /\ K64 s.k /\ K64 s.R /\ K64 s.A /\ K64 s.B /\ K64 s.I /\ K64 s.n := by
 obtain ⟨xs, m, _, hx, hl, hlen, hg⟩ := DataW.trod_struct Tryz.underlying65 hf
 rw [cellsStepZ] at hl
 obtain ⟨c0, c1, c2, c3, c4, c5, rfl⟩ := list6z hl
 match xs, hlen with
 | [y0, y1, y2, y3, y4, y5], _ =>
  have t0 := hg 0 _ rfl
  have t1 := hg 1 _ rfl
  have t2 := hg 2 _ rfl
  have t3 := hg 3 _ rfl
  have t4 := hg 4 _ rfl
  have t5 := hg 5 _ rfl
  simp [cellsIZ, cellsLZ] at t0 t1 t2 t3 t4 t5
  obtain ⟨k, e0, _, w0⟩ := DataW.trod_int Tryz.underlying3 t0
  obtain ⟨R, e1, _, w1⟩ := DataW.trod_int Tryz.underlying3 t1
  obtain ⟨A, e2, _, w2⟩ := DataW.trod_int Tryz.underlying3 t2
  obtain ⟨B, e3, _, w3⟩ := DataW.trod_int Tryz.underlying3 t3
  obtain ⟨I, e4, _, w4⟩ := DataW.trod_int Tryz.underlying3 t4
  obtain ⟨n, e5, _, w5⟩ := DataW.trod_int Tryz.underlying2 t5
  simp at e0 e1 e2 e3 e4 e5
  exact ⟨⟨k, R, A, B, I, n⟩, by rw [e0, e1, e2, e3, e4, e5], kbnd w0, kbnd w1, kbnd w2, kbnd w3, kbnd w4, kbnd w5⟩
theorem open_heaps {H : Type} {enc : TypeId × Value -> H} {W : World} {sp : Nat -> Bool} {held : Bool} {fuel len cap : Nat} {ad : Option Addr} {x : DataW H × List MemPlace}
  (hf : DataW.trod enc Tryz.prog W 0 sp held fuel 58 [.slice ad len cap] = some x) : ∃ l : List S6, l.length = len /\ L6 W ad l := by
 rcases open_slice Tryz.underlying58 hf with ⟨hcs, _⟩ | ⟨z, l, c, m, n, D, Pl, hcs, hb, hl, hm, hmm, _, hall⟩
 ·simp at hcs
  obtain ⟨rfl, rfl, rfl⟩ := hcs
  exact ⟨[], rfl, fun h => by simp at h⟩
 ·simp at hcs
  obtain ⟨rfl, rfl, rfl⟩ := hcs
  have hlm : len <= m := by rw [hmm]; split <;> omega
  have key : ∀ i, i < len -> ∃ s : S6, (W.cell? (z.add (i * 6)) = some (.int .i64 s.k) /\ W.cell? (z.add (i * 6 + 1)) = some (.int .i64 s.R) /\ W.cell? (z.add (i * 6 + 2)) = some (.int .i64 s.A) /\ W.cell? (z.add (i * 6 + 3)) = some (.int .i64 s.B) /\ W.cell? (z.add (i * 6 + 4)) = some (.int .i64 s.I) /\ W.cell? (z.add (i * 6 + 5)) = some (.int .i64 s.n)) /\ K64 s.k /\ K64 s.R /\ K64 s.A /\ K64 s.B /\ K64 s.I /\ K64 s.n := by
   intro i hi
   obtain ⟨cs', h1, h2⟩ := hall i (by omega)
   rw [cellsStepZ] at h1
   obtain ⟨_, _, hcell⟩ := World.cells?_some h1
   obtain ⟨s, rfl, hb⟩ := open_step6 h2
   refine ⟨s, ⟨?_, ?_, ?_, ?_, ?_, ?_⟩, hb⟩
   ·have := hcell 0 (by omega); rw [add_add] at this; simpa using this
   ·have := hcell 1 (by omega); rw [add_add] at this; simpa using this
   ·have := hcell 2 (by omega); rw [add_add] at this; simpa using this
   ·have := hcell 3 (by omega); rw [add_add] at this; simpa using this
   ·have := hcell 4 (by omega); rw [add_add] at this; simpa using this
   ·have := hcell 5 (by omega); rw [add_add] at this; simpa using this
  have : Inhabited S6 := ⟨s60⟩
  obtain ⟨S, hS⟩ := choose_lt key
  refine ⟨(List.range len).map S, by simp, fun hp => ?_⟩
  simp only [List.length_map, List.length_range] at hp ⊢
  obtain ⟨b, o, spot⟩ := z
  have h0 := (hS 0 hp).1.1
  have hspot : spot = none := by simpa [Addr.add] using World.cell?_spot h0
  subst hspot
  refine ⟨b, o, rfl, World.block_lt_of_cell? W (⟨b, o, none⟩ : Addr) (by simpa [Addr.add] using h0), fun i hi => ?_⟩
  obtain ⟨⟨k0, k1, k2, k3, k4, k5⟩, k6⟩ := hS i hi
  have ea : ∀ j, (⟨b, o, none⟩ : Addr).add j = ⟨b, o + j, none⟩ := fun j => by simp [Addr.add]
  rw [ea] at k0 k1 k2 k3 k4 k5
  have eg : ((List.range len).map S).getD i s60 = S i := by simp [hi]
  rw [eg]
  exact ⟨⟨k0, by rw [Nat.add_assoc]; exact k1, by rw [Nat.add_assoc]; exact k2, by rw [Nat.add_assoc]; exact k3, by rw [Nat.add_assoc]; exact k4, by rw [Nat.add_assoc]; exact k5⟩, k6⟩
end Go.Proofs.YtalgochmjddodaaGreat

namespace Go.Proofs.YtalgochmjddodaaGreat.HRm
set_option maxRecDepth 100000
set_option maxHeartbeats 8000000
open Go.RowKit W Kp Stl
theorem walk (n o : Int) (a : Option Addr) (cc : Nat) (l : List S6) (w : World) (hl : L6 w a l) :
  Calls Tryz.prog 8 #[.int .i64 n, .int .i64 o, .slice a l.length cc] w fun e w' => e = .returned (.bool true) /\ Below w.heap.size w w' := by
 have HL : Hid (L6 w a l) := hl
 clear hl
 by_cases hlen : 250 < l.length
 ·go_enter Tryz.func8, Tryz.ntmps8
  go_wp2_with fail
  refine (heapBegun_any w).mono ?_
  rintro e w1 ⟨rfl, hb1⟩
  have h2 : (250 : Int) < (l.length : Int) := by omega
  go_wp2_with fail
  go_ret
  exact ⟨rfl, hb1⟩
 ·have h2 : ¬ ((250 : Int) < (l.length : Int)) := by omega
  by_cases hno : n < 16 \/ 256 < n \/ o < 0 \/ 1024 < o
  ·have HNO : Hid (n < 16 \/ 256 < n \/ o < 0 \/ 1024 < o) := hno
   clear hno
   go_enter Tryz.func8, Tryz.ntmps8
   go_wp2_with fail
   refine (heapBegun_any w).mono ?_
   rintro e w1 ⟨rfl, hb1⟩
   go_wp2_with fail
   refine (newH_no n o w1 HNO.out).mono ?_
   rintro e w2 ⟨rfl, hb2⟩
   have hB2 := hb1.trans (hb2.mono hb1.size)
   have hba := (Below.refl w2.heap.size w2).alloc (Nat.le_refl _) (.cells #[.int .i64 1, .int .i64 (-1)] 28)
   have hB3 := hB2.trans (hba.mono hB2.size)
   clear hb1 hb2 hB2 hba
   go_wp2_with fail
   go_ret
   exact ⟨rfl, hB3⟩
  ·have hn0 : 16 <= n /\ n <= 256 /\ 0 <= o /\ o <= 1024 := by omega
   obtain ⟨n, rfl⟩ := Int.eq_ofNat_of_zero_le (show 0 <= n by omega)
   obtain ⟨o, rfl⟩ := Int.eq_ofNat_of_zero_le (show 0 <= o by omega)
   go_enter Tryz.func8, Tryz.ntmps8
   go_wp2_with fail
   refine (heapBegun_any w).mono ?_
   rintro e w1 ⟨rfl, hb1⟩
   go_wp2_with fail
   refine (newH_yes n o w1 (by omega) (by omega) (by omega)).mono ?_
   rintro e w2 ⟨c, hp, F1, rfl, j1, ⟨k1, k2⟩, g1, b1⟩
   have hba := (Below.refl w2.heap.size w2).alloc (Nat.le_refl _) (.cells #[.int .i64 0, .int .i64 0] 28)
   have H2 : Hid ((heO c hp).J F1 (bo0 n o).1 (w2.alloc (.cells #[.int .i64 0, .int .i64 0] 28)) /\ Hok c (bo0 n o).1 0 /\ So0 c (bo0 n o).1 /\ ∀ b, F1 b -> w1.heap.size <= b) := ⟨(heO c hp).below j1 hba, Hok.start c n o, So0.start c n o, g1⟩
   have HNO : Hid (c.N = n /\ c.O = o /\ n <= 256 /\ o <= 1024) := ⟨k1, k2, by omega, by omega⟩
   have HB2 : Hid (Below w1.heap.size w1 (w2.alloc (.cells #[.int .i64 0, .int .i64 0] 28))) := b1.trans (hba.mono b1.size)
   clear j1 k1 k2 g1 b1 hno hn0 hba
   go_wp2_with fail
   generalize w2.alloc (.cells #[.int .i64 0, .int .i64 0] 28) = w3 at *
   go_loopw [9] (fun iv wr => ∃ (j : Nat) (S : Ww) (F : Nat -> Prop), j <= l.length /\ iv = .int .i64 j /\ Hid ((heO c hp).J F S wr /\ Hok c S j /\ So0 c S /\ ∀ b, F b -> w1.heap.size <= b) /\ Hid (Below w1.heap.size w1 wr)) (fun iv _ => l.length - (intOf iv).toNat)
   case atStart => exact ⟨0, (bo0 n o).1, F1, Nat.zero_le _, rfl, H2, HB2⟩
   case round =>
    clear H2 HB2
    obtain ⟨j, S, F, hj, rfl, H, HB⟩ := hrel
    by_cases hlt : j < l.length
    ·obtain ⟨b0, p0, e0, l0, hc⟩ := HL.out (by omega)
     obtain ⟨hc6, _, _, _, _, _, hn64⟩ := hc j hlt
     subst e0
     clear hc
     have hbw := hb1.trans (HB.out.mono hb1.size)
     obtain ⟨y0, y1, y2, y3, y4, y5⟩ := hc6.below hbw l0
     have j0 : (0 : Int) <= (j : Int) := by omega
     have j1 : (j : Int) < (l.length : Int) := by omega
     generalize l.getD j s60 = st at *
     obtain ⟨sk, sR, sA, sB, sI, sn⟩ := st
     dsimp only at *
     have hba := (Below.refl wr.heap.size wr).alloc (Nat.le_refl _) (hsC sk sR sA sB sI sn)
     have H4 : Hid ((heO c hp).J F S (wr.alloc (hsC sk sR sA sB sI sn)) /\ Hok c S j /\ So0 c S /\ ∀ b, F b -> w1.heap.size <= b) := ⟨(heO c hp).below H.out.1 hba, H.out.2⟩
     have HB4 : Hid (Below w1.heap.size w1 (wr.alloc (hsC sk sR sA sB sI sn))) := HB.out.trans (hba.mono HB.out.size)
     have HX4 : Hid ((wr.alloc (hsC sk sR sA sB sI sn)).heap[wr.heap.size]? = some (hsC sk sR sA sB sI sn) /\ ∀ b, F b -> b < wr.heap.size) := ⟨heap_alloc_new wr _, (heO c hp).lt H.out.1⟩
     clear H HB hba hc6 hbw
     go_upto_region 12 with fail
     generalize wr.alloc (hsC sk sR sA sB sI sn) = w4 at *
     generalize wr.heap.size = xb at *
     obtain ⟨z0, z1, z2, z3, z4, z5⟩ := hs_cells HX4.out.1
     clear y0 y1 y2 y3 y4 y5
     by_cases hk : sk = 6 \/ sk = 7 \/ sk = 8
     ·have HM : Hid ((heO c hp).J F S w4 /\ Hok c S (j + 1) /\ So0 c S /\ ∀ b, F b -> w1.heap.size <= b) := ⟨H4.out.1, H4.out.2.1.mono (by omega), H4.out.2.2⟩
      as_aux_lemma =>
      rcases hk with rfl | rfl | rfl
      all_goals
       go_wp2_with fail
       go_roundw
       case rel => exact ⟨j + 1, S, F, by omega, by go_num, HM, HB4⟩
       case measure => simp [intOf]; omega
     ·have k6 : sk ≠ 6 := fun e => hk (Or.inl e)
      have k7 : sk ≠ 7 := fun e => hk (Or.inr (Or.inl e))
      have k8 : sk ≠ 8 := fun e => hk (Or.inr (Or.inr e))
      have k6b : (sk == 6) = false := by simpa using k6
      have k7b : (sk == 7) = false := by simpa using k7
      have k8b : (sk == 8) = false := by simpa using k8
      have hwb := he_wbd H4.out.1
      have hrq := H4.out.2.1.rq
      have ok5 := (H4.out.2.1.hd hwb sk sR sA sB sI sn).1
      have so5 := H4.out.2.2.1.hd H4.out.2.1 hwb sk sR sA sB sI sn k6 k7 k8
      have HOK : Hid (Hok c (S.hd c sk sR sA sB sI sn).2 (j + 1) /\ So0 c (S.hd c sk sR sA sB sI sn).2) := ⟨ok5, so5⟩
      have HFL : Hid (ckC sk sR sA sB sn = 0 -> sk = 4 \/ sk = 5 -> ((S.hd c sk sR sA sB sI sn).1 = 0 /\ ¬ ((c.N : Int) - S.s.y < (if sk = 5 then 1 + sn else 3) /\ (c.O : Int) - S.s.g < S.s.y /\ (c.O : Int) < szV (vwL c.N S.s.y S.s.g S.s.ws S.q S.s.rs).2.2)) \/ ((S.hd c sk sR sA sB sI sn).1 = 3 /\ (c.N : Int) - S.s.y < (if sk = 5 then 1 + sn else 3) /\ (c.O : Int) - S.s.g < S.s.y /\ (c.O : Int) < szV (vwL c.N S.s.y S.s.g S.s.ws S.q S.s.rs).2.2)) := fun h1 h2 => by
       rw [hd_code sI h1 h2]
       exact H4.out.2.2.1.full hwb _
      have HDO : Hid (∀ w', (heO c hp).J F S w' -> Calls Tryz.prog 30 #[.pointer (some ⟨hp, 0, none⟩), hsV sk sR sA sB sI sn] w' fun e w'' => ∃ F', e = .returned (.int .i64 (S.hd c sk sR sA sB sI sn).1) /\ (heO c hp).J F' (S.hd c sk sR sA sB sI sn).2 w'' /\ Tn F w' F' w'') := fun w' hJ => doH_any hJ H4.out.2.1 (by omega) sk sR sA sB sI sn
      have HVW : Hid (∀ w', (heO c hp).J F S w' -> Calls Tryz.prog 23 #[.pointer (some ⟨c.pw, 0, none⟩)] w' fun e w'' => ∃ r2 d2 na nc, e = .returned (.agg #[.slice r2 12 d2, .slice na (vwL c.N S.s.y S.s.g S.s.ws S.q S.s.rs).2.2.length nc]) /\ LpN w'' w'.heap.size r2 (vwL c.N S.s.y S.s.g S.s.ws S.q S.s.rs).1 /\ LnN w'' w'.heap.size na (vwL c.N S.s.y S.s.g S.s.ws S.q S.s.rs).2.2 /\ Below w'.heap.size w' w'') := fun w' hJ => viewH_new hJ (by omega)
      have HVB : Hid ((vwL c.N S.s.y S.s.g S.s.ws S.q S.s.rs).2.2.length <= 4000 /\ ∀ nd ∈ (vwL c.N S.s.y S.s.g S.s.ws S.q S.s.rs).2.2, nd.2.length <= S.q.length + 12) := (view_bd c.N S.s.y S.s.g S.s.ws S.q S.s.rs).2
      have HZ : Hid (szV (vwL c.N S.s.y S.s.g S.s.ws S.q S.s.rs).2.2 <= S.s.y + S.s.g) := by
       obtain ⟨Y, G, kv⟩ := H4.out.2.1.kv
       exact view_size (O := c.O) kv.inv.full hwb.n1 hwb.y1 hwb.o1 hwb.g1 _ _
      have HBD : Hid (S.s.y <= 256 /\ S.s.g <= 1024) := by
       have h1 := hwb.y1
       have h2 := hwb.n1
       have h3 := hwb.g1
       have h4 := hwb.o1
       exact ⟨by omega, by omega⟩
      generalize vwL c.N S.s.y S.s.g S.s.ws S.q S.s.rs = R at *
      generalize S.hd c sk sR sA sB sI sn = D at *
      obtain ⟨cd, S2⟩ := D
      dsimp only at *
      generalize hcc : ckC sk sR sA sB sn = cc at *
      obtain ⟨h0, c0, _⟩ := he_lk H4.out.1
      have PU := usedH_any H4.out.1
      clear ok5 so5 hwb hk
      as_aux_lemma =>
      go_wp2_with fail
      refine PU.mono ?_
      clear PU
      rintro e w5 ⟨rfl, hb5⟩
      have HJ5 : Hid ((heO c hp).J F S w5 /\ Below w1.heap.size w1 w5 /\ w5.heap[xb]? = some (hsC sk sR sA sB sI sn)) := ⟨(heO c hp).below H4.out.1 hb5, HB4.out.trans (hb5.mono HB4.out.size), (hb5.block xb (lt_of_some HX4.out.1)).trans HX4.out.1⟩
      obtain ⟨h0, c0, _⟩ := he_lk HJ5.out.1
      have PV := HVW.out w5 HJ5.out.1
      clear hb5 z0 z1 z2 z3 z4 z5
      go_wp2_with fail
      refine PV.mono ?_
      clear PV HVW
      rintro e w6 ⟨r2, d2, na, nc, rfl, _, hn6, hb6⟩
      have HJ6 : Hid ((heO c hp).J F S w6 /\ Below w1.heap.size w1 w6 /\ w6.heap[xb]? = some (hsC sk sR sA sB sI sn)) := ⟨(heO c hp).below HJ5.out.1 hb6, HJ5.out.2.1.trans (hb6.mono HJ5.out.2.1.size), (hb6.block xb (lt_of_some HJ5.out.2.2)).trans HJ5.out.2.2⟩
      have PZ := size_any r2 na 12 d2 nc w6 (by have := HVB.out.1; omega) (fun nd hnd => by have := HVB.out.2 nd hnd; omega) hn6.ln
      clear hb6 hn6 HJ5 h0 c0
      go_wp2_with fail
      refine PZ.mono ?_
      clear PZ
      rintro e w7 ⟨rfl, hb7⟩
      have HJ7 : Hid ((heO c hp).J F S w7 /\ Below w1.heap.size w1 w7 /\ w7.heap[xb]? = some (hsC sk sR sA sB sI sn)) := ⟨(heO c hp).below HJ6.out.1 hb7, HJ6.out.2.1.trans (hb7.mono HJ6.out.2.1.size), (hb7.block xb (lt_of_some HJ6.out.2.2)).trans HJ6.out.2.2⟩
      obtain ⟨z0, z1, z2, z3, z4, z5⟩ := hs_cells HJ7.out.2.2
      have PD := HDO.out w7 HJ7.out.1
      clear hb7 HJ6 HDO
      go_wp2_with fail
      refine PD.mono ?_
      clear PD
      rintro e w8 ⟨F8, rfl, j8, t8⟩
      have HJ8 : Hid ((heO c hp).J F8 S2 w8 /\ Below w1.heap.size w1 w8 /\ w8.heap[xb]? = some (hsC sk sR sA sB sI sn) /\ ∀ b, F8 b -> w1.heap.size <= b) := ⟨j8, HJ7.out.2.1.trans (t8.fr.below HJ7.out.2.1.size H4.out.2.2.2), (t8.fr.block xb (lt_of_some HJ7.out.2.2) (fun d => by have := HX4.out.2 xb d; omega)).trans HJ7.out.2.2, fun b d => (t8.sub b d).elim (H4.out.2.2.2 b) (fun e => Nat.le_trans HJ7.out.2.1.size e)⟩
      obtain ⟨z0, z1, z2, z3, z4, z5⟩ := hs_cells HJ8.out.2.2.1
      have PS := stepF_any sk sR sA sB sI sn w8
      rw [hcc] at PS
      clear j8 t8 HJ7
      have HEND : Hid (∀ w', Below w8.heap.size w8 w' -> ∃ (S3 : Ww) (F3 : Nat -> Prop), Hid ((heO c hp).J F3 S3 w' /\ Hok c S3 (j + 1) /\ So0 c S3 /\ ∀ b, F3 b -> w1.heap.size <= b) /\ Hid (Below w1.heap.size w1 w')) := fun w' hb => ⟨S2, F8, ⟨(heO c hp).below HJ8.out.1 hb, HOK.out.1, HOK.out.2, HJ8.out.2.2.2⟩, HJ8.out.2.1.trans (hb.mono HJ8.out.2.1.size)⟩
      by_cases hcc0 : cc = 0
      ·subst hcc0
       by_cases h45 : sk = 4 \/ sk = 5
       ·have hfl := HFL.out rfl h45
        have hyb := HBD.out.1
        have hgb := HBD.out.2
        have hzb := HZ.out
        have hn4 := HNO.out.2.2.1
        have ho4 := HNO.out.2.2.2
        rw [HNO.out.1, HNO.out.2.1] at hfl
        have hsn : sk = 5 -> 0 <= sn /\ sn <= 12 := fun e => by
         subst e
         have h1 := ck_N hcc
         have h1 : hc 2 sn = 0 := h1
         have := hc_bd 2 sn h1
         omega
        generalize szV R.2.2 = z at *
        generalize S.s.y = y at *
        generalize S.s.g = g at *
        have HC8 : Hid (w8.heap[xb]? = some (hsC sk sR sA sB sI sn)) := HJ8.out.2.2.1
        have hx8 := lt_of_some HC8.out
        clear HFL HNO HBD HZ HVB hcc HX4 HB4 HOK HJ8 H4 hrq
        rcases h45 with rfl | rfl
        ·rw [if_neg (by decide)] at hfl
         clear hsn
         as_aux_lemma =>
         rcases hfl with ⟨rfl, hf⟩ | ⟨rfl, f1, f2, f3⟩
         ·by_cases f1 : (n : Int) - y < 3
          ·by_cases f2 : (o : Int) - g < y
           ·have f3 : ¬ (o : Int) < (z : Int) := fun f3 => hf ⟨f1, f2, f3⟩
            clear hf
            go_wp2_with fail
            refine PS.mono ?_
            clear PS
            rintro e w9 ⟨rfl, hb9⟩
            obtain ⟨S3, F3, g1, g2⟩ := HEND.out w9 hb9
            obtain ⟨y0, y1, y2, y3, y4, y5⟩ := hs_cells ((hb9.block xb hx8).trans HC8.out)
            clear hb9 z0 z1 z2 z3 z4 z5
            go_wp2_with fail
            go_roundw
            case rel => exact ⟨j + 1, S3, F3, by omega, by go_num, g1, g2⟩
            case measure => simp [intOf]; omega
           ·clear hf
            go_wp2_with fail
            refine PS.mono ?_
            clear PS
            rintro e w9 ⟨rfl, hb9⟩
            obtain ⟨S3, F3, g1, g2⟩ := HEND.out w9 hb9
            obtain ⟨y0, y1, y2, y3, y4, y5⟩ := hs_cells ((hb9.block xb hx8).trans HC8.out)
            clear hb9 z0 z1 z2 z3 z4 z5
            go_wp2_with fail
            go_roundw
            case rel => exact ⟨j + 1, S3, F3, by omega, by go_num, g1, g2⟩
            case measure => simp [intOf]; omega
          ·clear hf
           go_wp2_with fail
           refine PS.mono ?_
           clear PS
           rintro e w9 ⟨rfl, hb9⟩
           obtain ⟨S3, F3, g1, g2⟩ := HEND.out w9 hb9
           obtain ⟨y0, y1, y2, y3, y4, y5⟩ := hs_cells ((hb9.block xb hx8).trans HC8.out)
           clear hb9 z0 z1 z2 z3 z4 z5
           go_wp2_with fail
           go_roundw
           case rel => exact ⟨j + 1, S3, F3, by omega, by go_num, g1, g2⟩
           case measure => simp [intOf]; omega
         ·skip
          go_wp2_with fail
          refine PS.mono ?_
          clear PS
          rintro e w9 ⟨rfl, hb9⟩
          obtain ⟨S3, F3, g1, g2⟩ := HEND.out w9 hb9
          obtain ⟨y0, y1, y2, y3, y4, y5⟩ := hs_cells ((hb9.block xb hx8).trans HC8.out)
          clear hb9 z0 z1 z2 z3 z4 z5
          go_wp2_with fail
          go_roundw
          case rel => exact ⟨j + 1, S3, F3, by omega, by go_num, g1, g2⟩
          case measure => simp [intOf]; omega
        ·rw [if_pos rfl] at hfl
         obtain ⟨sn0, sn1⟩ := hsn rfl
         clear hsn
         as_aux_lemma =>
         rcases hfl with ⟨rfl, hf⟩ | ⟨rfl, f1, f2, f3⟩
         ·by_cases f1 : (n : Int) - y < 1 + sn
          ·by_cases f2 : (o : Int) - g < y
           ·have f3 : ¬ (o : Int) < (z : Int) := fun f3 => hf ⟨f1, f2, f3⟩
            clear hf
            go_wp2_with fail
            refine PS.mono ?_
            clear PS
            rintro e w9 ⟨rfl, hb9⟩
            obtain ⟨S3, F3, g1, g2⟩ := HEND.out w9 hb9
            obtain ⟨y0, y1, y2, y3, y4, y5⟩ := hs_cells ((hb9.block xb hx8).trans HC8.out)
            clear hb9 z0 z1 z2 z3 z4 z5
            go_wp2_with fail
            go_roundw
            case rel => exact ⟨j + 1, S3, F3, by omega, by go_num, g1, g2⟩
            case measure => simp [intOf]; omega
           ·clear hf
            go_wp2_with fail
            refine PS.mono ?_
            clear PS
            rintro e w9 ⟨rfl, hb9⟩
            obtain ⟨S3, F3, g1, g2⟩ := HEND.out w9 hb9
            obtain ⟨y0, y1, y2, y3, y4, y5⟩ := hs_cells ((hb9.block xb hx8).trans HC8.out)
            clear hb9 z0 z1 z2 z3 z4 z5
            go_wp2_with fail
            go_roundw
            case rel => exact ⟨j + 1, S3, F3, by omega, by go_num, g1, g2⟩
            case measure => simp [intOf]; omega
          ·clear hf
           go_wp2_with fail
           refine PS.mono ?_
           clear PS
           rintro e w9 ⟨rfl, hb9⟩
           obtain ⟨S3, F3, g1, g2⟩ := HEND.out w9 hb9
           obtain ⟨y0, y1, y2, y3, y4, y5⟩ := hs_cells ((hb9.block xb hx8).trans HC8.out)
           clear hb9 z0 z1 z2 z3 z4 z5
           go_wp2_with fail
           go_roundw
           case rel => exact ⟨j + 1, S3, F3, by omega, by go_num, g1, g2⟩
           case measure => simp [intOf]; omega
         ·skip
          go_wp2_with fail
          refine PS.mono ?_
          clear PS
          rintro e w9 ⟨rfl, hb9⟩
          obtain ⟨S3, F3, g1, g2⟩ := HEND.out w9 hb9
          obtain ⟨y0, y1, y2, y3, y4, y5⟩ := hs_cells ((hb9.block xb hx8).trans HC8.out)
          clear hb9 z0 z1 z2 z3 z4 z5
          go_wp2_with fail
          go_roundw
          case rel => exact ⟨j + 1, S3, F3, by omega, by go_num, g1, g2⟩
          case measure => simp [intOf]; omega
       ·have k4b : (sk == 4) = false := by simp; omega
        have k5b : (sk == 5) = false := by simp; omega
        have k4c : (sk != 4) = true := by simp; omega
        have k5c : (sk != 5) = true := by simp; omega
        as_aux_lemma =>
        go_wp2_with fail
        refine PS.mono ?_
        clear PS
        rintro e w9 ⟨rfl, hb9⟩
        obtain ⟨S3, F3, g1, g2⟩ := HEND.out w9 hb9
        obtain ⟨y0, y1, y2, y3, y4, y5⟩ := hs_cells ((hb9.block xb (lt_of_some HJ8.out.2.2.1)).trans HJ8.out.2.2.1)
        clear hb9 z0 z1 z2 z3 z4 z5
        go_wp2_with fail
        go_roundw
        case rel => exact ⟨j + 1, S3, F3, by omega, by go_num, g1, g2⟩
        case measure => simp [intOf]; omega
      ·have ccb : (cc == 0) = false := by simpa using hcc0
       have ccc : (cc != 0) = true := by simpa using hcc0
       as_aux_lemma =>
       go_wp2_with fail
       refine PS.mono ?_
       clear PS
       rintro e w9 ⟨rfl, hb9⟩
       obtain ⟨S3, F3, g1, g2⟩ := HEND.out w9 hb9
       obtain ⟨y0, y1, y2, y3, y4, y5⟩ := hs_cells ((hb9.block xb (lt_of_some HJ8.out.2.2.1)).trans HJ8.out.2.2.1)
       clear hb9 z0 z1 z2 z3 z4 z5
       go_wp2_with fail
       go_roundw
       case rel => exact ⟨j + 1, S3, F3, by omega, by go_num, g1, g2⟩
       case measure => simp [intOf]; omega
    ·obtain rfl : j = l.length := by omega
     have hfin : Below w.heap.size w wr := hb1.trans (HB.out.mono hb1.size)
     go_wp2_with fail
     go_ret
     exact ⟨rfl, hfin⟩
end Go.Proofs.YtalgochmjddodaaGreat.HRm

/- HeapRooms: at whatever two numbers and whatever list of steps it returns true, in whatever memory, without conditions; nothing that was in memory turns. -/
namespace Go.Proofs.YtalgochmjddodaaGreat.HRm
open Go.ChangeShapes Go.WideShapes Go.ChangeAt Go.RowKit Go.Joins W

theorem own : ownKnob Tryz.prog.godebug = none := by kernel_rfl
theorem laidOut : laidOutB Tryz.prog = true := by kernel_rfl

set_option maxRecDepth 100000 in
theorem lifted (os : Os) (started : os.Started) (H : Type) (enc : TypeId × Value → H) :
    ReturnsInHanded {} Tryz.checked os 8 .any (Rows.heapRoomsSpec.pre6 enc Tryz.prog Tryz.f8 Rows.heapRoomsRow.domain false) (Rows.heapRoomsSpec.post enc Tryz.prog Tryz.f8 false true false false) := by
  refine returnsInHanded_of_change (C := Tryz.checked) own started (by kernel_rfl) Tryz.func8
    (ChangeSpec.witness6 (enc := enc) (C := Tryz.checked) false ⟨#[], #[.int .i64 0, .int .i64 0, .slice none 0 0], []⟩ 8 (by kernel_rfl) (by kernel_rfl) (by kernel_rfl) (by kernel_rfl)) ?_
  intro W base args ds gs before hval0 hW hcnd _
  have hval : ∀ (j : Nat) t v, Tryz.f8.params[j]? = some t → args[j]? = some v → Value.okWide Tryz.prog W .any base t v := hval0
  have hW' := hW
  obtain ⟨p, q, hA0, hV, rfl, hfz, hnd⟩ := hW
  have hA : DataW.TrodAll enc Tryz.prog W 0 (fun _ => true) true Tryz.f8.params.toList args.toList ds p := hA0
  rw [Tryz.params8] at hA hval
  obtain ⟨v0, vs0, d0, ds0, p0, q0, hargs, rfl, rfl, h0, r0⟩ := trodAll_cons hA
  obtain ⟨v1, vs1, d1, ds1, p1, q1, rfl, rfl, rfl, h1, r1⟩ := trodAll_cons r0
  obtain ⟨v2, vs2, d2, ds2, p2, q2, rfl, rfl, rfl, h2, r2⟩ := trodAll_cons r1
  obtain ⟨rfl, rfl, rfl⟩ := trodAll_nil r2
  obtain rfl : args = #[v0, v1, v2] := by cases args; simp_all
  obtain ⟨rfl, rfl⟩ := trodVars_none hV
  obtain ⟨a0, rfl, rfl, rfl, w0⟩ := open_int Tryz.underlying3 (hval 0 3 v0 rfl rfl) h0
  obtain ⟨a1, rfl, rfl, rfl, w1⟩ := open_int Tryz.underlying3 (hval 1 3 v1 rfl rfl) h1
  obtain ⟨a2, len2, cap2, rfl⟩ := okWide_slice Tryz.underlying58 (hval 2 58 v2 rfl rfl)
  have k2 := h2
  have lt2 : ∀ x ∈ p2, x.block < W.heap.size := by obtain ⟨m, hm⟩ := k2; exact DataW.trod_lt m _ _ _ hm
  obtain ⟨fuel2, hf2⟩ := h2
  obtain ⟨S2, rfl, st2⟩ := open_heaps hf2
  clear hA0 hval0
  refine (walk a0 a1 a2 cap2 S2 W st2).mono fun e W' ⟨he, bel⟩ => ?_
  subst he
  exact ⟨_, rfl, _, _, _, [], _, [], hW', trodAll_mk1 (shut_bool Tryz.underlying4 _), (trodAll_cons_mk (shut_int Tryz.underlying3 w0) (trodAll_cons_mk (shut_int Tryz.underlying3 w1) (trodAll_cons_mk (Below.trod laidOut (by kernel_rfl) (of_decide_eq_true (by kernel_rfl)) k2 bel lt2) trodAll_mk0))), rfl, bel.frame _, fun h => by cases h⟩

theorem over : Rows.heapRoomsRow.holds Tryz.pinned (OpenSpec.ofChange Rows.heapRoomsSpec) :=
  OpenClaim.holds_of_wide 8 Tryz.f8 rfl rfl rfl rfl rfl rfl rfl ⟨rfl, rfl, rfl, rfl, rfl⟩ rfl rfl rfl rfl rfl (by kernel_rfl) Tryz.func8 (by kernel_rfl)
    (of_decide_eq_true (by kernel_rfl)) (by unfold Func.isWrapper; first | (rw [if_pos (by decide +kernel)]; kernel_rfl) | (rw [if_neg (by decide +kernel)]; exact ⟨rfl, rfl⟩))
    (fun os started H enc _ => lifted os started H enc)

/-- THE STATEMENT. -/
theorem proved : Rows.HeapRoomsSaid :=
  over
#print axioms proved
end Go.Proofs.YtalgochmjddodaaGreat.HRm
