
import Derived.Test.YtalgochmjddodaaGreatJ33
import Derived.Test.YtalgochmjddodaaGreatJ34
namespace Go.Proofs.YtalgochmjddodaaGreat
set_option maxRecDepth 100000
set_option maxHeartbeats 2000000
open Go.RowKit W Kp Stl
theorem ck_use {k R A B n : Int} (h : ckC k R A B n = 0) : ¬ ((decide (usK k = 1 \/ usK k = 3 \/ usK k = 7) && !rtB R) || (decide (usK k = 3 \/ usK k = 6 \/ usK k = 7) && !rtB A) || (decide (usK k = 6 \/ usK k = 7) && !rtB B)) = true := fun c => by
 unfold ckC at h
 rw [if_pos c] at h
 split at h <;> omega
theorem pop_rs (a : Wc) (S : Ww) (x : Int) : (S.pop a x).2.2.s.rs = S.s.rs := by
 unfold Ww.pop
 split
 ·split <;> rfl
 ·rfl
theorem reg_rs (a : Wc) (S : Ww) (t g : Int) : (S.reg a t g).2.s.rs = S.s.rs := by
 unfold Ww.reg
 split
 ·split
  ·split <;> rfl
  ·rfl
 ·rfl
theorem rtB_bd {r : Int} (h : rtB r = true) : 0 <= r /\ r < 12 := by
 unfold rtB at h
 simpa using h
theorem ck_R {k R A B n : Int} (h : ckC k R A B n = 0) (hu : usK k = 1 \/ usK k = 3 \/ usK k = 7) : 0 <= R /\ R < 12 := by
 have h1 := ck_use h
 refine rtB_bd ?_
 cases c : rtB R
 ·exact absurd (by rw [c, decide_eq_true hu]; rfl) h1
 ·rfl
theorem ck_A {k R A B n : Int} (h : ckC k R A B n = 0) (hu : usK k = 3 \/ usK k = 6 \/ usK k = 7) : 0 <= A /\ A < 12 := by
 have h1 := ck_use h
 refine rtB_bd ?_
 cases c : rtB A
 ·exact absurd (by rw [c, decide_eq_true hu]; simp) h1
 ·rfl
theorem ck_B {k R A B n : Int} (h : ckC k R A B n = 0) (hu : usK k = 6 \/ usK k = 7) : 0 <= B /\ B < 12 := by
 have h1 := ck_use h
 refine rtB_bd ?_
 cases c : rtB B
 ·exact absurd (by rw [c, decide_eq_true hu]; simp) h1
 ·rfl
section
variable {a : Wc} {hp : Nat} {F : Nat -> Prop} {S : Ww} {w : World}
theorem rootH_pr (h : (heO a hp).J F S w) (R I n : Int) (A B : Nat) (hA : A < 12) (hB : B < 12) (hq : S.q.length + S.r.length <= 90000) (hsl : S.jfull a = false -> ∃ G, SlG (S.k5 a) (S.j5 a) G /\ G 0 (S.k5 a, 0)) (room : (S.room a 3).1 = 0 -> (S.room a 3).2.s.y + 3 <= a.N) :
  Calls Tryz.prog 87 #[.pointer (some ⟨hp, 0, none⟩), hsV 4 R A B I n] w fun e w' => ∃ F', e = .returned (.tuple #[.int .i64 (S.grow a 1 [A, B]).1, .int .i64 (S.grow a 1 [A, B]).2.1]) /\ (heO a hp).J F' (S.grow a 1 [A, B]).2.2 w' /\ Tn F w F' w' := by
 have hb0 := (Below.refl w.heap.size w).alloc (Nat.le_refl _) (hsC 4 R A B I n)
 have hb1 := hb0.alloc (by simp) (.cells #[.int .i64 (A : Int), .int .i64 (B : Int)] 3)
 have hx1 := heap_alloc_new (w.alloc (hsC 4 R A B I n)) (.cells #[.int .i64 (A : Int), .int .i64 (B : Int)] 3)
 have evb : (w.alloc (hsC 4 R A B I n)).heap.size = w.heap.size + 1 := by simp
 rw [evb] at hx1
 have J1 := (heO a hp).below h hb1
 have hlF := (heO a hp).lt h
 have P := growH_all J1 1 [A, B] (some ⟨w.heap.size + 1, 0, none⟩) 2 hq hsl rfl (fun _ => ⟨w.heap.size + 1, rfl, fun d => by have := hlF _ d; omega, lt_of_some hx1, fun i hi => by
  have hi : i < 2 := hi
  rcases (show i = 0 \/ i = 1 by omega) with rfl | rfl <;> simp only [World.cell?, hx1] <;> rfl⟩) (fun i hi => by
  have hi : i < 2 := hi
  rcases (show i = 0 \/ i = 1 by omega) with rfl | rfl
  ·exact hA
  ·exact hB) room
 have HB : Hid (Below w.heap.size w ((w.alloc (hsC 4 R A B I n)).alloc (.cells #[.int .i64 (A : Int), .int .i64 (B : Int)] 3))) := hb1
 generalize S.grow a 1 [A, B] = g at *
 obtain ⟨v, cd, S2⟩ := g
 dsimp only at P ⊢
 clear h hb0 hb1 hx1 evb J1 hlF hsl room
 go_enter Tryz.func87, Tryz.ntmps87
 go_wp2_with fail
 refine P.mono ?_
 clear P
 rintro e w2 ⟨F2, rfl, J2, T2⟩
 have HF : Hid ((heO a hp).J F2 S2 w2 /\ Tn F w F2 w2) := ⟨J2, (Tn.of HB.out).trans T2⟩
 clear J2 T2
 go_wp2_with fail
 go_ret2
 exact ⟨F2, rfl, HF.out.1, HF.out.2⟩
theorem rootH_wk (h : (heO a hp).J F S w) (R I n : Int) (A B : Nat) (hA : A < 12) (hB : B < 12) (hq : S.q.length + S.r.length <= 90000) (hsl : S.jfull a = false -> ∃ G, SlG (S.k5 a) (S.j5 a) G /\ G 0 (S.k5 a, 0)) (room : (S.room a 3).1 = 0 -> (S.room a 3).2.s.y + 3 <= a.N) :
  Calls Tryz.prog 87 #[.pointer (some ⟨hp, 0, none⟩), hsV 6 R A B I n] w fun e w' => ∃ F', e = .returned (.tuple #[.int .i64 (S.grow a 3 [A, B]).1, .int .i64 (S.grow a 3 [A, B]).2.1]) /\ (heO a hp).J F' (S.grow a 3 [A, B]).2.2 w' /\ Tn F w F' w' := by
 have hb0 := (Below.refl w.heap.size w).alloc (Nat.le_refl _) (hsC 6 R A B I n)
 have hb1 := hb0.alloc (by simp) (.cells #[.int .i64 (A : Int), .int .i64 (B : Int)] 3)
 have hx1 := heap_alloc_new (w.alloc (hsC 6 R A B I n)) (.cells #[.int .i64 (A : Int), .int .i64 (B : Int)] 3)
 have evb : (w.alloc (hsC 6 R A B I n)).heap.size = w.heap.size + 1 := by simp
 rw [evb] at hx1
 have J1 := (heO a hp).below h hb1
 have hlF := (heO a hp).lt h
 have P := growH_all J1 3 [A, B] (some ⟨w.heap.size + 1, 0, none⟩) 2 hq hsl rfl (fun _ => ⟨w.heap.size + 1, rfl, fun d => by have := hlF _ d; omega, lt_of_some hx1, fun i hi => by
  have hi : i < 2 := hi
  rcases (show i = 0 \/ i = 1 by omega) with rfl | rfl <;> simp only [World.cell?, hx1] <;> rfl⟩) (fun i hi => by
  have hi : i < 2 := hi
  rcases (show i = 0 \/ i = 1 by omega) with rfl | rfl
  ·exact hA
  ·exact hB) room
 have HB : Hid (Below w.heap.size w ((w.alloc (hsC 6 R A B I n)).alloc (.cells #[.int .i64 (A : Int), .int .i64 (B : Int)] 3))) := hb1
 generalize S.grow a 3 [A, B] = g at *
 obtain ⟨v, cd, S2⟩ := g
 dsimp only at P ⊢
 clear h hb0 hb1 hx1 evb J1 hlF hsl room
 go_enter Tryz.func87, Tryz.ntmps87
 go_wp2_with fail
 refine P.mono ?_
 clear P
 rintro e w2 ⟨F2, rfl, J2, T2⟩
 have HF : Hid ((heO a hp).J F2 S2 w2 /\ Tn F w F2 w2) := ⟨J2, (Tn.of HB.out).trans T2⟩
 clear J2 T2
 go_wp2_with fail
 go_ret2
 exact ⟨F2, rfl, HF.out.1, HF.out.2⟩
theorem rootH_ep (h : (heO a hp).J F S w) (R I n : Int) (A B : Nat) (hA : A < 12) (hB : B < 12) (hq : S.q.length + S.r.length <= 90000) (hsl : S.jfull a = false -> ∃ G, SlG (S.k5 a) (S.j5 a) G /\ G 0 (S.k5 a, 0)) (room : (S.room a 3).1 = 0 -> (S.room a 3).2.s.y + 3 <= a.N) :
  Calls Tryz.prog 87 #[.pointer (some ⟨hp, 0, none⟩), hsV 7 R A B I n] w fun e w' => ∃ F', e = .returned (.tuple #[.int .i64 (S.grow a 4 [A, B]).1, .int .i64 (S.grow a 4 [A, B]).2.1]) /\ (heO a hp).J F' (S.grow a 4 [A, B]).2.2 w' /\ Tn F w F' w' := by
 have hb0 := (Below.refl w.heap.size w).alloc (Nat.le_refl _) (hsC 7 R A B I n)
 have hb1 := hb0.alloc (by simp) (.cells #[.int .i64 (A : Int), .int .i64 (B : Int)] 3)
 have hx1 := heap_alloc_new (w.alloc (hsC 7 R A B I n)) (.cells #[.int .i64 (A : Int), .int .i64 (B : Int)] 3)
 have evb : (w.alloc (hsC 7 R A B I n)).heap.size = w.heap.size + 1 := by simp
 rw [evb] at hx1
 have J1 := (heO a hp).below h hb1
 have hlF := (heO a hp).lt h
 have P := growH_all J1 4 [A, B] (some ⟨w.heap.size + 1, 0, none⟩) 2 hq hsl rfl (fun _ => ⟨w.heap.size + 1, rfl, fun d => by have := hlF _ d; omega, lt_of_some hx1, fun i hi => by
  have hi : i < 2 := hi
  rcases (show i = 0 \/ i = 1 by omega) with rfl | rfl <;> simp only [World.cell?, hx1] <;> rfl⟩) (fun i hi => by
  have hi : i < 2 := hi
  rcases (show i = 0 \/ i = 1 by omega) with rfl | rfl
  ·exact hA
  ·exact hB) room
 have HB : Hid (Below w.heap.size w ((w.alloc (hsC 7 R A B I n)).alloc (.cells #[.int .i64 (A : Int), .int .i64 (B : Int)] 3))) := hb1
 generalize S.grow a 4 [A, B] = g at *
 obtain ⟨v, cd, S2⟩ := g
 dsimp only at P ⊢
 clear h hb0 hb1 hx1 evb J1 hlF hsl room
 go_enter Tryz.func87, Tryz.ntmps87
 go_wp2_with fail
 refine P.mono ?_
 clear P
 rintro e w2 ⟨F2, rfl, J2, T2⟩
 have HF : Hid ((heO a hp).J F2 S2 w2 /\ Tn F w F2 w2) := ⟨J2, (Tn.of HB.out).trans T2⟩
 clear J2 T2
 go_wp2_with fail
 go_ret2
 exact ⟨F2, rfl, HF.out.1, HF.out.2⟩
theorem rootH_gd (h : (heO a hp).J F S w) (R A B I n : Int) (hq : S.q.length + S.r.length <= 90000) (hsl : S.jfull a = false -> ∃ G, SlG (S.k5 a) (S.j5 a) G /\ G 0 (S.k5 a, 0)) (room : (S.room a 1).1 = 0 -> (S.room a 1).2.s.y + 1 <= a.N) :
  Calls Tryz.prog 87 #[.pointer (some ⟨hp, 0, none⟩), hsV 8 R A B I n] w fun e w' => ∃ F', e = .returned (.tuple #[.int .i64 (S.grow a 5 []).1, .int .i64 (S.grow a 5 []).2.1]) /\ (heO a hp).J F' (S.grow a 5 []).2.2 w' /\ Tn F w F' w' := by
 have hb0 := (Below.refl w.heap.size w).alloc (Nat.le_refl _) (hsC 8 R A B I n)
 have P := growH_all ((heO a hp).below h hb0) 5 [] none 0 hq hsl rfl (fun d => absurd d (by simp)) (fun i hi => absurd hi (by simp)) room
 have HB : Hid (Below w.heap.size w (w.alloc (hsC 8 R A B I n))) := hb0
 generalize S.grow a 5 [] = g at *
 obtain ⟨v, cd, S2⟩ := g
 dsimp only at P ⊢
 clear h hb0 hsl room
 go_enter Tryz.func87, Tryz.ntmps87
 go_wp2_with fail
 refine P.mono ?_
 clear P
 rintro e w2 ⟨F2, rfl, J2, T2⟩
 have HF : Hid ((heO a hp).J F2 S2 w2 /\ Tn F w F2 w2) := ⟨J2, (Tn.of HB.out).trans T2⟩
 clear J2 T2
 go_wp2_with fail
 go_ret2
 exact ⟨F2, rfl, HF.out.1, HF.out.2⟩
theorem rootH_vec (h : (heO a hp).J F S w) (R B I : Int) (A n : Nat) (hA : A < 12) (hn : n <= 12) (hq : S.q.length + S.r.length <= 90000) (hsl : S.jfull a = false -> ∃ G, SlG (S.k5 a) (S.j5 a) G /\ G 0 (S.k5 a, 0)) (room : (S.room a (1 + n)).1 = 0 -> (S.room a (1 + n)).2.s.y + 1 + n <= a.N) :
  Calls Tryz.prog 87 #[.pointer (some ⟨hp, 0, none⟩), hsV 5 R A B I n] w fun e w' => ∃ F', e = .returned (.tuple #[.int .i64 (S.grow a 2 (List.replicate n A)).1, .int .i64 (S.grow a 2 (List.replicate n A)).2.1]) /\ (heO a hp).J F' (S.grow a 2 (List.replicate n A)).2.2 w' /\ Tn F w F' w' := by
 have hb0 := (Below.refl w.heap.size w).alloc (Nat.le_refl _) (hsC 5 R A B I n)
 have hb1 := hb0.alloc (by simp) (.cells #[.int .i64 (A : Int)] 3)
 have hx1 := heap_alloc_new (w.alloc (hsC 5 R A B I n)) (.cells #[.int .i64 (A : Int)] 3)
 have evb : (w.alloc (hsC 5 R A B I n)).heap.size = w.heap.size + 1 := by simp
 rw [evb] at hx1
 have hl : (List.replicate n A).length = n := List.length_replicate
 have hk : hc 2 (List.replicate n A).length = 0 := by
  rw [hl]
  rcases (show n = 0 \/ n = 1 \/ n = 2 \/ n = 3 \/ n = 4 \/ n = 5 \/ n = 6 \/ n = 7 \/ n = 8 \/ n = 9 \/ n = 10 \/ n = 11 \/ n = 12 by omega) with e | e | e | e | e | e | e | e | e | e | e | e | e <;> (rw [e]; rfl)
 have J1 := (heO a hp).below h hb1
 have hlF := (heO a hp).lt h
 have hcell : ((w.alloc (hsC 5 R A B I n)).alloc (.cells #[.int .i64 (A : Int)] 3)).cell? ⟨w.heap.size + 1, 0, none⟩ = some (.int .i64 (A : Int)) := by simp only [World.cell?, hx1]; rfl
 have P1 : Calls Tryz.prog 174 #[.slice (some ⟨w.heap.size + 1, 0, none⟩) 1 1, .int .i64 n] ((w.alloc (hsC 5 R A B I n)).alloc (.cells #[.int .i64 (A : Int)] 3)) fun e w' => ∃ nb, e = .returned (.slice (some ⟨nb, 0, none⟩) n n) /\ (0 < n -> w.heap.size + 2 <= nb /\ w'.heap[nb]? = some (.cells ((List.replicate n (A : Int)).map (Value.int .i64)).toArray 3 (0, 0))) /\ Below w.heap.size w w' := by
  by_cases h0 : 0 < n
  ·refine (repeatI_any _ (w.heap.size + 1) n A h0 hn hcell).mono ?_
   rintro e w' ⟨nb, rfl, g1, g2, g3⟩
   simp at g1
   exact ⟨nb, rfl, fun _ => ⟨by omega, g2⟩, hb1.trans (g3.mono (by simp; omega))⟩
  ·obtain rfl : n = 0 := by omega
   refine (repeatI_none _ (w.heap.size + 1) A).mono ?_
   rintro e w' ⟨nb, rfl, g3⟩
   exact ⟨nb, rfl, fun d => absurd d (by omega), hb1.trans (g3.mono (by simp; omega))⟩
 have P2 : ∀ w2 nb, Below w.heap.size w w2 -> (0 < n -> w.heap.size + 2 <= nb /\ w2.heap[nb]? = some (.cells ((List.replicate n (A : Int)).map (Value.int .i64)).toArray 3 (0, 0))) -> Calls Tryz.prog 173 #[.pointer (some ⟨hp, 0, none⟩), .int .i64 2, .slice (some ⟨nb, 0, none⟩) n n] w2 fun e w' => ∃ F', e = .returned (.tuple #[.int .i64 (S.grow a 2 (List.replicate n A)).1, .int .i64 (S.grow a 2 (List.replicate n A)).2.1]) /\ (heO a hp).J F' (S.grow a 2 (List.replicate n A)).2.2 w' /\ Tn F w F' w' := fun w2 nb hb hr => by
  have P := growH_all ((heO a hp).below h hb) 2 (List.replicate n A) (some ⟨nb, 0, none⟩) n hq hsl hk (fun d => by
   rw [hl] at d
   obtain ⟨g1, g2⟩ := hr d
   refine ⟨nb, rfl, fun d => by have := hlF _ d; omega, lt_of_some g2, fun i hi => ?_⟩
   rw [hl] at hi
   have e : (List.replicate n A).getD i 0 = A := by
    rw [List.getD_eq_getElem?_getD, List.getElem?_replicate_of_lt hi]
    rfl
   rw [e]
   simp [World.cell?, g2, hi]) (fun i hi => by
   rw [hl] at hi
   rw [List.getD_eq_getElem?_getD, List.getElem?_replicate_of_lt hi]
   exact hA) (by rw [hl]; exact room)
  rw [hl] at P
  refine P.mono ?_
  rintro e w' ⟨F', rfl, j, t⟩
  exact ⟨F', rfl, j, (Tn.of hb).trans t⟩
 have HP2 : Hid (∀ w2 nb, Below w.heap.size w w2 -> (0 < n -> w.heap.size + 2 <= nb /\ w2.heap[nb]? = some (.cells ((List.replicate n (A : Int)).map (Value.int .i64)).toArray 3 (0, 0))) -> Calls Tryz.prog 173 #[.pointer (some ⟨hp, 0, none⟩), .int .i64 2, .slice (some ⟨nb, 0, none⟩) n n] w2 fun e w' => ∃ F', e = .returned (.tuple #[.int .i64 (S.grow a 2 (List.replicate n A)).1, .int .i64 (S.grow a 2 (List.replicate n A)).2.1]) /\ (heO a hp).J F' (S.grow a 2 (List.replicate n A)).2.2 w' /\ Tn F w F' w') := P2
 generalize S.grow a 2 (List.replicate n A) = g at *
 obtain ⟨v, cd, S2⟩ := g
 dsimp only at *
 have n0 : (0 : Int) <= (n : Int) := by omega
 have n1 : (n : Int) <= 12 := by omega
 clear h hb0 hb1 hx1 evb J1 hlF hsl room P2 hl hk hcell
 go_enter Tryz.func87, Tryz.ntmps87
 go_wp2_with fail
 refine P1.mono ?_
 clear P1
 rintro e w2 ⟨nb, rfl, hr, hb⟩
 have P := HP2.out w2 nb hb hr
 clear hr hb HP2
 go_wp2_with fail
 refine P.mono ?_
 clear P
 rintro e w3 ⟨F2, rfl, J2, T2⟩
 have HF : Hid ((heO a hp).J F2 S2 w3 /\ Tn F w F2 w3) := ⟨J2, T2⟩
 clear J2 T2
 go_wp2_with fail
 go_ret2
 exact ⟨F2, rfl, HF.out.1, HF.out.2⟩
theorem rootH_mv (h : (heO a hp).J F S w) (R B I n : Int) (A : Nat) (hA : A < 12) :
  Calls Tryz.prog 87 #[.pointer (some ⟨hp, 0, none⟩), hsV 3 R A B I n] w fun e w' => e = .returned (.tuple #[.int .i64 (S.s.rs.getD A 0), .int .i64 0]) /\ Below w.heap.size w w' := by
 have hb0 := (Below.refl w.heap.size w).alloc (Nat.le_refl _) (hsC 3 R A B I n)
 have hx0 := heap_alloc_new w (.cells #[.int .i64 3, .int .i64 R, .int .i64 (A : Int), .int .i64 B, .int .i64 I, .int .i64 n] 65)
 have J0 := (heO a hp).below h hb0
 obtain ⟨h0, c0, c3, rt, _⟩ := he_lk J0
 obtain ⟨r1, _⟩ := rt A hA
 have J1 := (heO a hp).below J0 (Below.refl _ (w.alloc (hsC 3 R A B I n))).drew
 skip
 obtain ⟨q0, q1, q2, q3, q4, q5⟩ := hs_cells hx0
 have hb2 : Below w.heap.size w (w.alloc (hsC 3 R A B I n)).drew := hb0.trans ((Below.refl _ (w.alloc (hsC 3 R A B I n))).drew.mono hb0.size)
 have i0 : (0 : Int) <= (A : Int) := by omega
 have i1 : (A : Int) < 12 := by omega
 have lx : w.heap.size < (w.alloc (hsC 3 R A B I n)).heap.size := lt_of_some hx0
 have fx : ¬ F w.heap.size := fun d => by have := (heO a hp).lt h _ d; omega
 have HJ : Hid ((heO a hp).J F S (w.alloc (hsC 3 R A B I n)).drew /\ Below w.heap.size w (w.alloc (hsC 3 R A B I n)).drew /\ (w.alloc (hsC 3 R A B I n)).drew.heap[w.heap.size]? = some (hsC 3 R A B I n) /\ ¬ F w.heap.size) := ⟨J1, hb2, hx0, fx⟩
 have HB0 : Hid (Below w.heap.size w (w.alloc (hsC 3 R A B I n))) := hb0
 clear h J0 J1 rt hb0 hb2 hx0 fx
 have HX : Hid (S.s.rs.getD A 0 = S.s.rs.getD A 0) := rfl
 generalize S.s.rs.getD A 0 = x at *
 go_enter Tryz.func87, Tryz.ntmps87
 go_upto_region 6 with fail
 go_quiet (fail)
 go_wp2_with fail
 go_ret2
 exact ⟨rfl, below_drewN HB0.out _⟩
theorem rootH_pop (h : (heO a hp).J F S w) (R B I n : Int) (A : Nat) (hA : A < 12) (hq : S.q.length <= 90000) :
  Calls Tryz.prog 87 #[.pointer (some ⟨hp, 0, none⟩), hsV 10 R A B I n] w fun e w' => ∃ F', e = .returned (.tuple #[.int .i64 (S.pop a (S.s.rs.getD A 0)).1, .int .i64 (S.pop a (S.s.rs.getD A 0)).2.1]) /\ (heO a hp).J F' (S.pop a (S.s.rs.getD A 0)).2.2 w' /\ Tn F w F' w' := by
 have hb0 := (Below.refl w.heap.size w).alloc (Nat.le_refl _) (hsC 10 R A B I n)
 have hx0 := heap_alloc_new w (.cells #[.int .i64 10, .int .i64 R, .int .i64 (A : Int), .int .i64 B, .int .i64 I, .int .i64 n] 65)
 have J0 := (heO a hp).below h hb0
 obtain ⟨h0, c0, c3, rt, _⟩ := he_lk J0
 obtain ⟨r1, _⟩ := rt A hA
 have J1 := (heO a hp).below J0 (Below.refl _ (w.alloc (hsC 10 R A B I n))).drew
 have PG := popH_any J1 (S.s.rs.getD A 0) hq
 obtain ⟨q0, q1, q2, q3, q4, q5⟩ := hs_cells hx0
 have hb2 : Below w.heap.size w (w.alloc (hsC 10 R A B I n)).drew := hb0.trans ((Below.refl _ (w.alloc (hsC 10 R A B I n))).drew.mono hb0.size)
 have i0 : (0 : Int) <= (A : Int) := by omega
 have i1 : (A : Int) < 12 := by omega
 have lx : w.heap.size < (w.alloc (hsC 10 R A B I n)).heap.size := lt_of_some hx0
 have fx : ¬ F w.heap.size := fun d => by have := (heO a hp).lt h _ d; omega
 have HJ : Hid ((heO a hp).J F S (w.alloc (hsC 10 R A B I n)).drew /\ Below w.heap.size w (w.alloc (hsC 10 R A B I n)).drew /\ (w.alloc (hsC 10 R A B I n)).drew.heap[w.heap.size]? = some (hsC 10 R A B I n) /\ ¬ F w.heap.size) := ⟨J1, hb2, hx0, fx⟩
 have HB0 : Hid (Below w.heap.size w (w.alloc (hsC 10 R A B I n))) := hb0
 clear h J0 J1 rt hb0 hb2 hx0 fx
 have HX : Hid (S.s.rs.getD A 0 = S.s.rs.getD A 0) := rfl
 have HRS : Hid ((S.pop a (S.s.rs.getD A 0)).2.2.s.rs = S.s.rs) := pop_rs a S (S.s.rs.getD A 0)
 generalize S.pop a (S.s.rs.getD A 0) = g at *
 obtain ⟨v, cd, S2⟩ := g
 dsimp only at *
 go_enter Tryz.func87, Tryz.ntmps87
 go_upto_region 18 with fail
 generalize w.alloc (hsC 10 R A B I n) = w0 at *
 generalize hxb : w.heap.size = xb at *
 have HR : Hid (∀ F' w' S', (heO a hp).J F' S' w' -> Tn F w0.drew F' w' -> S'.s.rs = S.s.rs -> (w'.cell? ⟨hp, 0, none⟩ = some (.pointer (some ⟨a.pw, 0, none⟩)) /\ w'.cell? ⟨a.pw, 3, none⟩ = some (.slice (some ⟨a.nb, 0, none⟩) 12 12) /\ w'.cell? ⟨a.nb, A, none⟩ = some (.int .i64 (S.s.rs.getD A 0))) /\ w'.cell? ⟨xb, 2, none⟩ = some (.int .i64 (A : Int))) := fun F' w' S' j t es => by
  obtain ⟨g0, _, g3, grt, _⟩ := he_lk j
  rw [es] at grt
  exact ⟨⟨g0, g3, (grt A hA).1⟩, (World.cell?_of_block (a := ⟨xb, 2, none⟩) (t.fr.block xb lx HJ.out.2.2.2)).trans q2⟩
 generalize S.s.rs.getD A 0 = x at *
 go_region_held3 (fun w' => w'.cell? ⟨hp, 0, none⟩ = some (.pointer (some ⟨a.pw, 0, none⟩)) /\ w'.cell? ⟨a.pw, 3, none⟩ = some (.slice (some ⟨a.nb, 0, none⟩) 12 12) /\ w'.cell? ⟨a.nb, A, none⟩ = some (.int .i64 x) /\ w'.cell? ⟨xb, 2, none⟩ = some (.int .i64 (A : Int))) (go_keep)
  (first
   | (go_at_call 175; refine PG.mono ?_; clear PG; rintro e w2 ⟨F2, rfl, j2, t2⟩; obtain ⟨⟨g0, g3, gr⟩, gx2⟩ := HR.out F2 w2 _ j2 t2 HRS.out; have HF : Hid ((heO a hp).J F2 S2 w2 /\ Tn F w F2 w2) := ⟨j2, (Tn.of (by rw [hxb]; exact HJ.out.2.1)).trans t2⟩; clear j2 t2))
 go_wp2_with fail
 go_ret2
 exact ⟨F2, rfl, HF.out.1, HF.out.2⟩
theorem rootH_len (h : (heO a hp).J F S w) (R B I n : Int) (A : Nat) (hA : A < 12) :
  Calls Tryz.prog 87 #[.pointer (some ⟨hp, 0, none⟩), hsV 13 R A B I n] w fun e w' => e = .returned (.tuple #[.int .i64 (S.len a (S.s.rs.getD A 0)).1, .int .i64 (S.len a (S.s.rs.getD A 0)).2.1]) /\ Below w.heap.size w w' := by
 have hb0 := (Below.refl w.heap.size w).alloc (Nat.le_refl _) (hsC 13 R A B I n)
 have hx0 := heap_alloc_new w (.cells #[.int .i64 13, .int .i64 R, .int .i64 (A : Int), .int .i64 B, .int .i64 I, .int .i64 n] 65)
 have J0 := (heO a hp).below h hb0
 obtain ⟨h0, c0, c3, rt, _⟩ := he_lk J0
 obtain ⟨r1, _⟩ := rt A hA
 have J1 := (heO a hp).below J0 (Below.refl _ (w.alloc (hsC 13 R A B I n))).drew
 have PG := lengthH_any J1 (S.s.rs.getD A 0)
 obtain ⟨q0, q1, q2, q3, q4, q5⟩ := hs_cells hx0
 have hb2 : Below w.heap.size w (w.alloc (hsC 13 R A B I n)).drew := hb0.trans ((Below.refl _ (w.alloc (hsC 13 R A B I n))).drew.mono hb0.size)
 have i0 : (0 : Int) <= (A : Int) := by omega
 have i1 : (A : Int) < 12 := by omega
 have lx : w.heap.size < (w.alloc (hsC 13 R A B I n)).heap.size := lt_of_some hx0
 have fx : ¬ F w.heap.size := fun d => by have := (heO a hp).lt h _ d; omega
 have HJ : Hid ((heO a hp).J F S (w.alloc (hsC 13 R A B I n)).drew /\ Below w.heap.size w (w.alloc (hsC 13 R A B I n)).drew /\ (w.alloc (hsC 13 R A B I n)).drew.heap[w.heap.size]? = some (hsC 13 R A B I n) /\ ¬ F w.heap.size) := ⟨J1, hb2, hx0, fx⟩
 have HB0 : Hid (Below w.heap.size w (w.alloc (hsC 13 R A B I n))) := hb0
 clear h J0 J1 rt hb0 hb2 hx0 fx
 have HX : Hid (S.s.rs.getD A 0 = S.s.rs.getD A 0) := rfl
 generalize (S.len a (S.s.rs.getD A 0)).1 = v at *
 generalize (S.len a (S.s.rs.getD A 0)).2.1 = cd at *
 go_enter Tryz.func87, Tryz.ntmps87
 go_upto_region 22 with fail
 generalize w.alloc (hsC 13 R A B I n) = w0 at *
 generalize hxb : w.heap.size = xb at *
 have HR : Hid (∀ w', Below w0.drew.heap.size w0.drew w' -> (w'.cell? ⟨hp, 0, none⟩ = some (.pointer (some ⟨a.pw, 0, none⟩)) /\ w'.cell? ⟨a.pw, 3, none⟩ = some (.slice (some ⟨a.nb, 0, none⟩) 12 12) /\ w'.cell? ⟨a.nb, A, none⟩ = some (.int .i64 (S.s.rs.getD A 0))) /\ w'.cell? ⟨xb, 2, none⟩ = some (.int .i64 (A : Int))) := fun w' hb => by
  obtain ⟨g0, _, g3, grt, _⟩ := he_lk ((heO a hp).below HJ.out.1 hb)
  exact ⟨⟨g0, g3, (grt A hA).1⟩, (hb.cell (p := ⟨xb, 2, none⟩) lx).trans q2⟩
 generalize S.s.rs.getD A 0 = x at *
 go_region_held3 (fun w' => w'.cell? ⟨hp, 0, none⟩ = some (.pointer (some ⟨a.pw, 0, none⟩)) /\ w'.cell? ⟨a.pw, 3, none⟩ = some (.slice (some ⟨a.nb, 0, none⟩) 12 12) /\ w'.cell? ⟨a.nb, A, none⟩ = some (.int .i64 x) /\ w'.cell? ⟨xb, 2, none⟩ = some (.int .i64 (A : Int))) (go_keep)
  (first
   | (go_at_call 176; refine PG.mono ?_; clear PG; rintro e w2 ⟨rfl, hb2⟩; obtain ⟨⟨g0, g3, gr⟩, gx2⟩ := HR.out w2 hb2; have HB2 : Hid (Below xb w w2) := HJ.out.2.1.trans (hb2.mono (by have := HJ.out.2.1.size; omega)); clear hb2))
 go_wp2_with fail
 go_ret2
 exact ⟨rfl, by rw [hxb]; exact HB2.out⟩
theorem rootH_gt (h : (heO a hp).J F S w) (R B I n : Int) (A : Nat) (hA : A < 12) :
  Calls Tryz.prog 87 #[.pointer (some ⟨hp, 0, none⟩), hsV 11 R A B I n] w fun e w' => e = .returned (.tuple #[.int .i64 (if fcC a.N S.s.y S.s.g S.s.ws (S.s.rs.getD A 0) I = 0 then ld a.N S.s.y S.s.g S.s.ws (aV (S.s.rs.getD A 0) + 1 + I) else 0), .int .i64 (fcC a.N S.s.y S.s.g S.s.ws (S.s.rs.getD A 0) I)]) /\ Below w.heap.size w w' := by
 have hb0 := (Below.refl w.heap.size w).alloc (Nat.le_refl _) (hsC 11 R A B I n)
 have hx0 := heap_alloc_new w (.cells #[.int .i64 11, .int .i64 R, .int .i64 (A : Int), .int .i64 B, .int .i64 I, .int .i64 n] 65)
 have J0 := (heO a hp).below h hb0
 obtain ⟨h0, c0, c3, rt, _⟩ := he_lk J0
 obtain ⟨r1, _⟩ := rt A hA
 have J1 := (heO a hp).below J0 (Below.refl _ (w.alloc (hsC 11 R A B I n))).drew
 have PG := get_any (S.s.rs.getD A 0) I (w.alloc (hsC 11 R A B I n)).drew (he_lk J1).c0 (he_at J1).1
 obtain ⟨q0, q1, q2, q3, q4, q5⟩ := hs_cells hx0
 have hb2 : Below w.heap.size w (w.alloc (hsC 11 R A B I n)).drew := hb0.trans ((Below.refl _ (w.alloc (hsC 11 R A B I n))).drew.mono hb0.size)
 have i0 : (0 : Int) <= (A : Int) := by omega
 have i1 : (A : Int) < 12 := by omega
 have lx : w.heap.size < (w.alloc (hsC 11 R A B I n)).heap.size := lt_of_some hx0
 have fx : ¬ F w.heap.size := fun d => by have := (heO a hp).lt h _ d; omega
 have HJ : Hid ((heO a hp).J F S (w.alloc (hsC 11 R A B I n)).drew /\ Below w.heap.size w (w.alloc (hsC 11 R A B I n)).drew /\ (w.alloc (hsC 11 R A B I n)).drew.heap[w.heap.size]? = some (hsC 11 R A B I n) /\ ¬ F w.heap.size) := ⟨J1, hb2, hx0, fx⟩
 have HB0 : Hid (Below w.heap.size w (w.alloc (hsC 11 R A B I n))) := hb0
 clear h J0 J1 rt hb0 hb2 hx0 fx
 have HX : Hid (S.s.rs.getD A 0 = S.s.rs.getD A 0) := rfl
 generalize (if fcC a.N S.s.y S.s.g S.s.ws (S.s.rs.getD A 0) I = 0 then ld a.N S.s.y S.s.g S.s.ws (aV (S.s.rs.getD A 0) + 1 + I) else 0) = v at *
 generalize fcC a.N S.s.y S.s.g S.s.ws (S.s.rs.getD A 0) I = cd at *
 go_enter Tryz.func87, Tryz.ntmps87
 go_upto_region 20 with fail
 generalize w.alloc (hsC 11 R A B I n) = w0 at *
 generalize hxb : w.heap.size = xb at *
 have HR : Hid (∀ w', Below w0.drew.heap.size w0.drew w' -> (w'.cell? ⟨hp, 0, none⟩ = some (.pointer (some ⟨a.pw, 0, none⟩)) /\ w'.cell? ⟨a.pw, 3, none⟩ = some (.slice (some ⟨a.nb, 0, none⟩) 12 12) /\ w'.cell? ⟨a.nb, A, none⟩ = some (.int .i64 (S.s.rs.getD A 0))) /\ w'.cell? ⟨xb, 2, none⟩ = some (.int .i64 (A : Int)) /\ w'.cell? ⟨xb, 4, none⟩ = some (.int .i64 I)) := fun w' hb => by
  obtain ⟨g0, _, g3, grt, _⟩ := he_lk ((heO a hp).below HJ.out.1 hb)
  exact ⟨⟨g0, g3, (grt A hA).1⟩, (hb.cell (p := ⟨xb, 2, none⟩) lx).trans q2, (hb.cell (p := ⟨xb, 4, none⟩) lx).trans q4⟩
 generalize S.s.rs.getD A 0 = x at *
 go_region_held3 (fun w' => w'.cell? ⟨hp, 0, none⟩ = some (.pointer (some ⟨a.pw, 0, none⟩)) /\ w'.cell? ⟨a.pw, 3, none⟩ = some (.slice (some ⟨a.nb, 0, none⟩) 12 12) /\ w'.cell? ⟨a.nb, A, none⟩ = some (.int .i64 x) /\ w'.cell? ⟨xb, 2, none⟩ = some (.int .i64 (A : Int)) /\ w'.cell? ⟨xb, 4, none⟩ = some (.int .i64 I)) (go_keep)
  (first
   | (go_at_call 52; refine PG.mono ?_; clear PG; rintro e w2 ⟨rfl, hb2⟩; obtain ⟨⟨g0, g3, gr⟩, gx2, gx4⟩ := HR.out w2 hb2; have HB2 : Hid (Below xb w w2) := HJ.out.2.1.trans (hb2.mono (by have := HJ.out.2.1.size; omega)); clear hb2))
 go_wp2_with fail
 go_ret2
 exact ⟨rfl, by rw [hxb]; exact HB2.out⟩
theorem rootH_sm (h : (heO a hp).J F S w) (R I n : Int) (A B : Nat) (hA : A < 12) (hB : B < 12) :
  Calls Tryz.prog 87 #[.pointer (some ⟨hp, 0, none⟩), hsV 14 R A B I n] w fun e w' => e = .returned (.tuple #[.int .i64 (if S.s.rs.getD A 0 = S.s.rs.getD B 0 then ew 1 1 else ew 1 0), .int .i64 0]) /\ Below w.heap.size w w' := by
 have hb0 := (Below.refl w.heap.size w).alloc (Nat.le_refl _) (hsC 14 R A B I n)
 have hx0 := heap_alloc_new w (.cells #[.int .i64 14, .int .i64 R, .int .i64 (A : Int), .int .i64 (B : Int), .int .i64 I, .int .i64 n] 65)
 have J0 := (heO a hp).below h hb0
 obtain ⟨h0, c0, c3, rt, _⟩ := he_lk J0
 obtain ⟨r1, _⟩ := rt A hA
 obtain ⟨r2, _⟩ := rt B hB
 obtain ⟨q0, q1, q2, q3, q4, q5⟩ := hs_cells hx0
 have hb2 : Below w.heap.size w (w.alloc (hsC 14 R A B I n)).drew := hb0.trans ((Below.refl _ (w.alloc (hsC 14 R A B I n))).drew.mono hb0.size)
 have i0 : (0 : Int) <= (A : Int) := by omega
 have i1 : (A : Int) < 12 := by omega
 have i2 : (0 : Int) <= (B : Int) := by omega
 have i3 : (B : Int) < 12 := by omega
 have PG := same_any (S.s.rs.getD A 0) (S.s.rs.getD B 0) (w.alloc (hsC 14 R A B I n)).drew
 have lx : w.heap.size < (w.alloc (hsC 14 R A B I n)).heap.size := lt_of_some hx0
 have HJ : Hid ((heO a hp).J F S (w.alloc (hsC 14 R A B I n)).drew /\ Below w.heap.size w (w.alloc (hsC 14 R A B I n)).drew /\ (w.alloc (hsC 14 R A B I n)).drew.heap[w.heap.size]? = some (hsC 14 R A B I n)) := ⟨(heO a hp).below J0 (Below.refl _ (w.alloc (hsC 14 R A B I n))).drew, hb2, hx0⟩
 clear h J0 rt hb0 hb2 hx0
 have HX : Hid (S.s.rs.getD A 0 = S.s.rs.getD A 0) := rfl
 generalize (if S.s.rs.getD A 0 = S.s.rs.getD B 0 then ew 1 1 else ew 1 0) = v at *
 go_enter Tryz.func87, Tryz.ntmps87
 go_upto_region 24 with fail
 generalize w.alloc (hsC 14 R A B I n) = w0 at *
 generalize hxb : w.heap.size = xb at *
 have HR : Hid (∀ w', Below w0.drew.heap.size w0.drew w' -> (w'.cell? ⟨hp, 0, none⟩ = some (.pointer (some ⟨a.pw, 0, none⟩)) /\ w'.cell? ⟨a.pw, 3, none⟩ = some (.slice (some ⟨a.nb, 0, none⟩) 12 12) /\ w'.cell? ⟨a.nb, A, none⟩ = some (.int .i64 (S.s.rs.getD A 0)) /\ w'.cell? ⟨a.nb, B, none⟩ = some (.int .i64 (S.s.rs.getD B 0))) /\ w'.cell? ⟨xb, 2, none⟩ = some (.int .i64 (A : Int)) /\ w'.cell? ⟨xb, 3, none⟩ = some (.int .i64 (B : Int))) := fun w' hb => by
  obtain ⟨g0, _, g3, grt, _⟩ := he_lk ((heO a hp).below HJ.out.1 hb)
  exact ⟨⟨g0, g3, (grt A hA).1, (grt B hB).1⟩, (hb.cell (p := ⟨xb, 2, none⟩) lx).trans q2, (hb.cell (p := ⟨xb, 3, none⟩) lx).trans q3⟩
 generalize S.s.rs.getD A 0 = x at *
 generalize S.s.rs.getD B 0 = y at *
 go_region_held3 (fun w' => w'.cell? ⟨hp, 0, none⟩ = some (.pointer (some ⟨a.pw, 0, none⟩)) /\ w'.cell? ⟨a.pw, 3, none⟩ = some (.slice (some ⟨a.nb, 0, none⟩) 12 12) /\ w'.cell? ⟨a.nb, A, none⟩ = some (.int .i64 x) /\ w'.cell? ⟨a.nb, B, none⟩ = some (.int .i64 y) /\ w'.cell? ⟨xb, 2, none⟩ = some (.int .i64 (A : Int)) /\ w'.cell? ⟨xb, 3, none⟩ = some (.int .i64 (B : Int))) (go_keep)
  (first
   | (go_at_call 177; refine PG.mono ?_; clear PG; rintro e w2 ⟨rfl, hb2⟩; obtain ⟨⟨g0, g3, gr, gs⟩, gx2, gx3⟩ := HR.out w2 hb2; have HB2 : Hid (Below xb w w2) := HJ.out.2.1.trans (hb2.mono (by have := HJ.out.2.1.size; omega)); clear hb2))
 go_wp2_with fail
 go_ret2
 exact ⟨rfl, by rw [hxb]; exact HB2.out⟩
theorem rootH_nil (R A B I n : Int) (w : World) (hp : Nat) :
  Calls Tryz.prog 87 #[.pointer (some ⟨hp, 0, none⟩), hsV 2 R A B I n] w fun e w' => e = .returned (.tuple #[.int .i64 2, .int .i64 0]) /\ Below w.heap.size w w' := by
 have hb0 := (Below.refl w.heap.size w).alloc (Nat.le_refl _) (hsC 2 R A B I n)
 go_enter Tryz.func87, Tryz.ntmps87
 go_wp2_with fail
 refine (nil_any _).mono ?_
 rintro e w1 ⟨rfl, hw⟩
 have hw := hw.symm
 subst hw
 go_wp2_with fail
 go_ret2
 exact ⟨rfl, hb0⟩
theorem rootH_any (h : (heO a hp).J F S w) {j : Nat} (ok : Hok a S j) (hb : Wbd a S.s) (k R A B I n : Int) (hk : ckC k R A B n = 0) (k9 : k ≠ 9) (k12 : k ≠ 12) (k15 : k ≠ 15) (k16 : k ≠ 16) :
  Calls Tryz.prog 87 #[.pointer (some ⟨hp, 0, none⟩), hsV k R A B I n] w fun e w' => ∃ F', e = .returned (.tuple #[.int .i64 (S.rt a k A.toNat B.toNat I n).1, .int .i64 (S.rt a k A.toNat B.toNat I n).2.1]) /\ (heO a hp).J F' (S.rt a k A.toNat B.toNat I n).2.2 w' /\ Tn F w F' w' := by
 have hq : S.q.length + S.r.length <= 90000 := by have := ok.rq; omega
 have hsl := ok.slg hb
 have low : ∀ {Q : Int × Int × Ww}, (Calls Tryz.prog 87 #[.pointer (some ⟨hp, 0, none⟩), hsV k R A B I n] w fun e w' => e = .returned (.tuple #[.int .i64 Q.1, .int .i64 Q.2.1]) /\ Below w.heap.size w w') -> Q.2.2 = S -> Calls Tryz.prog 87 #[.pointer (some ⟨hp, 0, none⟩), hsV k R A B I n] w fun e w' => ∃ F', e = .returned (.tuple #[.int .i64 Q.1, .int .i64 Q.2.1]) /\ (heO a hp).J F' Q.2.2 w' /\ Tn F w F' w' := fun {Q} P e => by
  refine P.mono ?_
  rintro e' w' ⟨rfl, hb⟩
  rw [e]
  exact ⟨F, rfl, (heO a hp).below h hb, Tn.of hb⟩
 have cA : (usK k = 3 \/ usK k = 6 \/ usK k = 7) -> ∃ A0 : Nat, A = A0 /\ A0 < 12 := fun hu => by
  have := ck_A hk hu
  exact ⟨A.toNat, by omega, by omega⟩
 have cB : (usK k = 6 \/ usK k = 7) -> ∃ B0 : Nat, B = B0 /\ B0 < 12 := fun hu => by
  have := ck_B hk hu
  exact ⟨B.toNat, by omega, by omega⟩
 have rm : ∀ m : Nat, m <= 12 -> (S.room a (1 + m)).1 = 0 -> (S.room a (1 + m)).2.s.y + 1 + m <= a.N := fun m hm e => by
  have := (ok.room hb (1 + m)).2.2.1 e (by omega)
  omega
 unfold Ww.rt
 by_cases e1 : k = 1
 ·rw [if_pos e1]
  subst e1
  exact low (rootH_int R A B I n w hp) rfl
 rw [if_neg e1]
 by_cases e3 : k = 3
 ·rw [if_pos e3]
  subst e3
  obtain ⟨A0, rfl, hA⟩ := cA (by decide)
  rw [Int.toNat_natCast]
  exact low (rootH_mv h R B I n A0 hA) rfl
 rw [if_neg e3]
 by_cases e4 : k = 4
 ·rw [if_pos e4]
  subst e4
  obtain ⟨A0, rfl, hA⟩ := cA (by decide)
  obtain ⟨B0, rfl, hB⟩ := cB (by decide)
  rw [Int.toNat_natCast, Int.toNat_natCast]
  exact rootH_pr h R I n A0 B0 hA hB hq hsl (rm 2 (by omega))
 rw [if_neg e4]
 by_cases e5 : k = 5
 ·rw [if_pos e5]
  subst e5
  obtain ⟨A0, rfl, hA⟩ := cA (by decide)
  have hn : hc 2 n = 0 := ck_N hk
  have hn := hc_bd 2 n hn
  obtain ⟨n, rfl⟩ := Int.eq_ofNat_of_zero_le (show 0 <= n by omega)
  rw [Int.toNat_natCast]
  exact rootH_vec h R B I A0 n hA (by omega) hq hsl (rm n (by omega))
 rw [if_neg e5]
 by_cases e6 : k = 6
 ·rw [if_pos e6]
  subst e6
  obtain ⟨A0, rfl, hA⟩ := cA (by decide)
  obtain ⟨B0, rfl, hB⟩ := cB (by decide)
  rw [Int.toNat_natCast, Int.toNat_natCast]
  exact rootH_wk h R I n A0 B0 hA hB hq hsl (rm 2 (by omega))
 rw [if_neg e6]
 by_cases e7 : k = 7
 ·rw [if_pos e7]
  subst e7
  obtain ⟨A0, rfl, hA⟩ := cA (by decide)
  obtain ⟨B0, rfl, hB⟩ := cB (by decide)
  rw [Int.toNat_natCast, Int.toNat_natCast]
  exact rootH_ep h R I n A0 B0 hA hB hq hsl (rm 2 (by omega))
 rw [if_neg e7]
 by_cases e8 : k = 8
 ·rw [if_pos e8]
  subst e8
  exact rootH_gd h R A B I n hq hsl (rm 0 (by omega))
 rw [if_neg e8]
 by_cases e10 : k = 10
 ·rw [if_pos e10]
  subst e10
  obtain ⟨A0, rfl, hA⟩ := cA (by decide)
  rw [Int.toNat_natCast]
  exact rootH_pop h R B I n A0 hA (by omega)
 rw [if_neg e10]
 by_cases e11 : k = 11
 ·rw [if_pos e11]
  subst e11
  obtain ⟨A0, rfl, hA⟩ := cA (by decide)
  rw [Int.toNat_natCast]
  exact low (rootH_gt h R B I n A0 hA) rfl
 rw [if_neg e11]
 by_cases e13 : k = 13
 ·rw [if_pos e13]
  subst e13
  obtain ⟨A0, rfl, hA⟩ := cA (by decide)
  rw [Int.toNat_natCast]
  exact low (rootH_len h R B I n A0 hA) (by unfold Ww.len; split <;> rfl)
 rw [if_neg e13]
 by_cases e14 : k = 14
 ·rw [if_pos e14]
  subst e14
  obtain ⟨A0, rfl, hA⟩ := cA (by decide)
  obtain ⟨B0, rfl, hB⟩ := cB (by decide)
  rw [Int.toNat_natCast, Int.toNat_natCast]
  exact low (rootH_sm h R I n A0 B0 hA hB) rfl
 rw [if_neg e14]
 have e2 : k = 2 := by
  rcases kind_all k with d | d | d | d | d | d | d | d | d | d | d | d | d | d | d | d | d
  all_goals
   first
    | exact d
    | exact absurd d e1
    | exact absurd d e3
    | exact absurd d e4
    | exact absurd d e5
    | exact absurd d e6
    | exact absurd d e7
    | exact absurd d e8
    | exact absurd d k9
    | exact absurd d e10
    | exact absurd d e11
    | exact absurd d k12
    | exact absurd d e13
    | exact absurd d e14
    | exact absurd d k15
    | exact absurd d k16
    | (have hu := usK_no d; unfold ckC at hk; rw [if_pos hu] at hk; omega)
 subst e2
 exact low (rootH_nil R A B I n w hp) rfl
end
end Go.Proofs.YtalgochmjddodaaGreat
