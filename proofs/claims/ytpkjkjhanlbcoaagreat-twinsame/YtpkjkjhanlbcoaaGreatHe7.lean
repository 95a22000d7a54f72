import Derived.Test.YtpkjkjhanlbcoaaGreatJ28
namespace Go.Proofs.YtpkjkjhanlbcoaaGreat
set_option maxRecDepth 100000
set_option maxHeartbeats 2000000
open Tryz
open Go.RowKit W Kp cf
theorem qT {P:Prop}(h:P:=by
 go_enter func57,ntmps57;go_wp2_with fail;refine P.mono ?_;rintro e w2 ⟨F2,rfl,qU,T2⟩
 have HF:=dq qU ((b8.of HB.out).trans T2)
 go_wp2_with fail;go_ret2;exact⟨F2,rfl,HF.out.1,HF.out.2⟩):P:=h
theorem G0 (a:Wc)(S:cq)(x:Int):(S.pop a x).2.2.s.rs=S.s.rs:=by
 unfold cq.pop;split
 ·split<;>rfl
 ·rfl
theorem G1 (a:Wc)(S:cq)(t g:Int):(S.reg a t g).2.s.rs=S.s.rs:=by
 unfold cq.reg;split
 ·split
  ·split<;>rfl
  ·rfl
 ·rfl
section
variable {a:Wc}{hp:Nat}{F:Nat->Prop}{S:cq}{w:ax}
theorem G5 (h:(cw a hp).J F S w)(R I n:Int)(A B:Nat)(f:A<12)(hB:B<12)(hq:S.q.length+S.r.length<=90000)(j:S.fM a=false->∃G,iD (S.k5 a) (S.dC a) G/\G 0 (S.k5 a,0))(room:(S.room a 3).1=0->(S.room a 3).2.s.y+3<=a.N):
 Calls prog 57 #[aj hp,dK 4 R A B I n] w fun e w'=>∃c,e=.returned (.tuple #[ah (S.bZ a 1 [A,B]).1,ah (S.bZ a 1 [A,B]).2.1])/\(cw a hp).J c (S.bZ a 1 [A,B]).2.2 w'/\b8 F w c w':=by
 have d:=(au w (cz 4 R A B I n)).alloc Z (.cells #[.int .i64 (A:Int),.int .i64 (B:Int)] 3)
 have b:=aN (w.alloc (cz 4 R A B I n)) (.cells #[.int .i64 (A:Int),.int .i64 (B:Int)] 3)
 have k:(w.alloc (cz 4 R A B I n)).heap.size=w.heap.size+1:=Z;rw[k] at b;have P:=pB ((cw a hp).below h d) 1 [A,B] (ak (w.heap.size+1)) 2 hq j rfl (fun _=>⟨w.heap.size+1,rfl,fun l=>by have:=(cw a hp).lt h _ l;omega,lt_of_some b,fun i hi=>by
  have hi:i<2:=hi;rcases(show i=0\/i=1 by omega) with rfl|rfl<;>simp only [World.cell?,b]<;>rfl⟩) (fun i hi=>by
  have hi:i<2:=hi;rcases(show i=0\/i=1 by omega) with rfl|rfl
  ·exact f
  ·exact hB) room
 have HB:=hide d;generalize S.bZ a 1 [A,B]=g at*;obtain⟨v,cd,m⟩:=g;exact qT
theorem G6 (h:(cw a hp).J F S w)(R I n:Int)(A B:Nat)(f:A<12)(hB:B<12)(hq:S.q.length+S.r.length<=90000)(j:S.fM a=false->∃G,iD (S.k5 a) (S.dC a) G/\G 0 (S.k5 a,0))(room:(S.room a 3).1=0->(S.room a 3).2.s.y+3<=a.N):
 Calls prog 57 #[aj hp,dK 6 R A B I n] w fun e w'=>∃c,e=.returned (.tuple #[ah (S.bZ a 3 [A,B]).1,ah (S.bZ a 3 [A,B]).2.1])/\(cw a hp).J c (S.bZ a 3 [A,B]).2.2 w'/\b8 F w c w':=by
 have d:=(au w (cz 6 R A B I n)).alloc Z (.cells #[.int .i64 (A:Int),.int .i64 (B:Int)] 3)
 have b:=aN (w.alloc (cz 6 R A B I n)) (.cells #[.int .i64 (A:Int),.int .i64 (B:Int)] 3)
 have k:(w.alloc (cz 6 R A B I n)).heap.size=w.heap.size+1:=Z;rw[k] at b;have P:=pB ((cw a hp).below h d) 3 [A,B] (ak (w.heap.size+1)) 2 hq j rfl (fun _=>⟨w.heap.size+1,rfl,fun l=>by have:=(cw a hp).lt h _ l;omega,lt_of_some b,fun i hi=>by
  have hi:i<2:=hi;rcases(show i=0\/i=1 by omega) with rfl|rfl<;>simp only [World.cell?,b]<;>rfl⟩) (fun i hi=>by
  have hi:i<2:=hi;rcases(show i=0\/i=1 by omega) with rfl|rfl
  ·exact f
  ·exact hB) room
 have HB:=hide d;generalize S.bZ a 3 [A,B]=g at*;obtain⟨v,cd,m⟩:=g;exact qT
theorem G7 (h:(cw a hp).J F S w)(R I n:Int)(A B:Nat)(f:A<12)(hB:B<12)(hq:S.q.length+S.r.length<=90000)(j:S.fM a=false->∃G,iD (S.k5 a) (S.dC a) G/\G 0 (S.k5 a,0))(room:(S.room a 3).1=0->(S.room a 3).2.s.y+3<=a.N):
 Calls prog 57 #[aj hp,dK 7 R A B I n] w fun e w'=>∃c,e=.returned (.tuple #[ah (S.bZ a 4 [A,B]).1,ah (S.bZ a 4 [A,B]).2.1])/\(cw a hp).J c (S.bZ a 4 [A,B]).2.2 w'/\b8 F w c w':=by
 have d:=(au w (cz 7 R A B I n)).alloc Z (.cells #[.int .i64 (A:Int),.int .i64 (B:Int)] 3)
 have b:=aN (w.alloc (cz 7 R A B I n)) (.cells #[.int .i64 (A:Int),.int .i64 (B:Int)] 3)
 have k:(w.alloc (cz 7 R A B I n)).heap.size=w.heap.size+1:=Z;rw[k] at b;have P:=pB ((cw a hp).below h d) 4 [A,B] (ak (w.heap.size+1)) 2 hq j rfl (fun _=>⟨w.heap.size+1,rfl,fun l=>by have:=(cw a hp).lt h _ l;omega,lt_of_some b,fun i hi=>by
  have hi:i<2:=hi;rcases(show i=0\/i=1 by omega) with rfl|rfl<;>simp only [World.cell?,b]<;>rfl⟩) (fun i hi=>by
  have hi:i<2:=hi;rcases(show i=0\/i=1 by omega) with rfl|rfl
  ·exact f
  ·exact hB) room
 have HB:=hide d;generalize S.bZ a 4 [A,B]=g at*;obtain⟨v,cd,m⟩:=g;exact qT
theorem G8 (h:(cw a hp).J F S w)(R A B I n:Int)(hq:S.q.length+S.r.length<=90000)(d:S.fM a=false->∃G,iD (S.k5 a) (S.dC a) G/\G 0 (S.k5 a,0))(room:(S.room a 1).1=0->(S.room a 1).2.s.y+1<=a.N):
 Calls prog 57 #[aj hp,dK 8 R A B I n] w fun e w'=>∃b,e=.returned (.tuple #[ah (S.bZ a 5 []).1,ah (S.bZ a 5 []).2.1])/\(cw a hp).J b (S.bZ a 5 []).2.2 w'/\b8 F w b w':=by
 have c:=au w (cz 8 R A B I n)
 have P:=pB ((cw a hp).below h c) 5 [] none 0 hq d rfl (fun f=>absurd f Z) (fun i hi=>absurd hi Z) room;have HB:=hide c;exact qT
theorem G9 (h:(cw a hp).J F S w)(R B I:Int)(A n:Nat)(m:A<12)(hn:n<=12)(hq:S.q.length+S.r.length<=90000)(o:S.fM a=false->∃G,iD (S.k5 a) (S.dC a) G/\G 0 (S.k5 a,0))(room:(S.room a (1+n)).1=0->(S.room a (1+n)).2.s.y+1+n<=a.N):
 Calls prog 57 #[aj hp,dK 5 R A B I n] w fun e w'=>∃b,e=.returned (.tuple #[ah (S.bZ a 2 (List.replicate n A)).1,ah (S.bZ a 2 (List.replicate n A)).2.1])/\(cw a hp).J b (S.bZ a 2 (List.replicate n A)).2.2 w'/\b8 F w b w':=by
 have f:=(au w (cz 5 R A B I n)).alloc Z (.cells #[.int .i64 (A:Int)] 3)
 have k:=aN (w.alloc (cz 5 R A B I n)) (.cells #[.int .i64 (A:Int)] 3)
 have p:(w.alloc (cz 5 R A B I n)).heap.size=w.heap.size+1:=Z;rw[p] at k;have hl:(List.replicate n A).length=n:=List.length_replicate;have hk:hc 2 (List.replicate n A).length=0:=by rw[hl];rcases(show n=0\/n=1\/n=2\/n=3\/n=4\/n=5\/n=6\/n=7\/n=8\/n=9\/n=10\/n=11\/n=12 by omega) with e|e|e|e|e|e|e|e|e|e|e|e|e<;>(rw[e];rfl)
 have H:=(cw a hp).below h f;have q:((w.alloc (cz 5 R A B I n)).alloc (.cells #[.int .i64 (A:Int)] 3)).cell? (aq (w.heap.size+1) 0)=some (ah (A:Int)):=by simp only [World.cell?,k];rfl
 have s:Calls prog 124 #[.slice (ak (w.heap.size+1)) 1 1,ah n] ((w.alloc (cz 5 R A B I n)).alloc (.cells #[.int .i64 (A:Int)] 3)) fun e w'=>∃nb,e=.returned (.slice (ak nb) n n)/\(0<n->w.heap.size+2<=nb/\w'.heap[nb]?=some (.cells ((List.replicate n (A:Int)).map (Value.int .i64)).toArray 3 (0,0)))/\aw w w':=by
  by_cases h0:0<n
  ·refine(GT _ (w.heap.size+1) n A h0 hn q).mono ?_;rintro e w' ⟨nb,rfl,g1,g2,g3⟩
   simp at g1;exact⟨nb,rfl,fun _=>⟨V,g2⟩,f.trans (g3.mono (by simp;omega))⟩
  ·obtain rfl:n=0:=V;refine(GU _ (w.heap.size+1) A).mono ?_;rintro e w' ⟨nb,rfl,g3⟩
   exact⟨nb,rfl,fun c=>absurd c V,f.trans (g3.mono (by simp;omega))⟩
 have u:∀d nb,aw w d->(0<n->w.heap.size+2<=nb/\d.heap[nb]?=some (.cells ((List.replicate n (A:Int)).map (Value.int .i64)).toArray 3 (0,0)))->Calls prog 123 #[aj hp,ah 2,.slice (ak nb) n n] d fun e w'=>∃b,e=.returned (.tuple #[ah (S.bZ a 2 (List.replicate n A)).1,ah (S.bZ a 2 (List.replicate n A)).2.1])/\(cw a hp).J b (S.bZ a 2 (List.replicate n A)).2.2 w'/\b8 F w b w':=fun d nb hb hr=>by
  have P:=pB ((cw a hp).below h hb) 2 (List.replicate n A) (ak nb) n hq o hk (fun c=>by
   rw[hl] at c;obtain⟨g1,g2⟩:=hr c;refine⟨nb,rfl,fun c=>by have:=(cw a hp).lt h _ c;omega,lt_of_some g2,fun i hi=>?_⟩
   rw[hl] at hi;have e:(List.replicate n A).getD i 0=A:=by rw[aE,List.getElem?_replicate_of_lt hi];rfl
   rw[e];simp[World.cell?,g2,hi]) (fun i hi=>by
   rw[hl] at hi;rw[aE,List.getElem?_replicate_of_lt hi];exact m) (by rw[hl];exact room)
  rw[hl] at P;refine P.mono ?_;rintro e w' ⟨b,rfl,j,t⟩
  exact⟨b,rfl,j,(b8.of hb).trans t⟩
 have x:=hide u;generalize S.bZ a 2 (List.replicate n A)=g at*;obtain⟨v,cd,J⟩:=g;go_enter func57,ntmps57;go_wp2_with fail;refine s.mono ?_;rintro e d ⟨nb,rfl,hr,hb⟩
 have P:=x.out d nb hb hr;go_wp2_with fail;refine P.mono ?_;rintro e K ⟨C,rfl,D,E⟩
 have l:=dq D E;go_wp2_with fail;go_ret2;exact⟨C,rfl,l.out.1,l.out.2⟩
theorem G_ (h:(cw a hp).J F S w)(R B I n:Int)(A:Nat)(f:A<12):
 Calls prog 57 #[aj hp,dK 3 R A B I n] w fun e w'=>e=.returned (.tuple #[ah (S.s.rs.getD A 0),ah 0])/\aw w w':=by
 have b:=au w (cz 3 R A B I n)
 have c:=aN w (.cells #[.int .i64 3,.int .i64 R,.int .i64 (A:Int),.int .i64 B,.int .i64 I,.int .i64 n] 44)
 have d:=(cw a hp).below h b;obtain⟨h0,c0,c3,rt,_⟩:=em d;obtain⟨r1,_⟩:=rt A f;skip;obtain⟨q0,q1,j,q3,k,l⟩:=eu c;have fx:¬F w.heap.size:=fun g=>by have:=(cw a hp).lt h _ g;omega
 have i:=hide b;clear h d rt b c fx;generalize S.s.rs.getD A 0=x at*;go_enter func57,ntmps57
 go_upto_region 6 with fail
 go_quiet (fail)
 go_wp2_with fail;go_ret2;exact⟨rfl,below_drewN i.out _⟩
theorem Ha (h:(cw a hp).J F S w)(R B I n:Int)(A:Nat)(q:A<12)(hq:S.q.length<=90000):
 Calls prog 57 #[aj hp,dK 10 R A B I n] w fun e w'=>∃b,e=.returned (.tuple #[ah (S.pop a (S.s.rs.getD A 0)).1,ah (S.pop a (S.s.rs.getD A 0)).2.1])/\(cw a hp).J b (S.pop a (S.s.rs.getD A 0)).2.2 w'/\b8 F w b w':=by
 have c:=au w (cz 10 R A B I n)
 have d:=aN w (.cells #[.int .i64 10,.int .i64 R,.int .i64 (A:Int),.int .i64 B,.int .i64 I,.int .i64 n] 44)
 have k:=(cw a hp).below h c;obtain⟨h0,c0,c3,rt,_⟩:=em k;obtain⟨r1,_⟩:=rt A q;have l:=(cw a hp).below k (aH _ (w.alloc (cz 10 R A B I n))).drew;have s:=GJ l (S.s.rs.getD A 0) hq;obtain⟨q0,q1,G,q3,P,Q⟩:=eu d;have u:aw w (w.alloc (cz 10 R A B I n)).drew:=c.trans ((aH _ (w.alloc (cz 10 R A B I n))).drew.mono c.size)
 have U:(0:Int)<=(A:Int):=V;have W:(A:Int)<12:=V;have H:w.heap.size<(w.alloc (cz 10 R A B I n)).heap.size:=lt_of_some d;have fx:¬F w.heap.size:=fun J=>by have:=(cw a hp).lt h _ J;omega
 have C:ay ((cw a hp).J F S (w.alloc (cz 10 R A B I n)).drew/\aw w (w.alloc (cz 10 R A B I n)).drew/\(w.alloc (cz 10 R A B I n)).drew.heap[w.heap.size]?=some (cz 10 R A B I n)/\¬F w.heap.size):=⟨l,u,d,fx⟩
 have X:ay (aw w (w.alloc (cz 10 R A B I n))):=c;clear h k l rt c u d fx;have Y:ay (S.s.rs.getD A 0=S.s.rs.getD A 0):=rfl;have K:ay ((S.pop a (S.s.rs.getD A 0)).2.2.s.rs=S.s.rs):=G0 a S (S.s.rs.getD A 0)
 generalize S.pop a (S.s.rs.getD A 0)=g at*;obtain⟨v,cd,L⟩:=g;dsimp only at*;go_enter func57,ntmps57
 go_upto_region 18 with fail
 generalize w.alloc (cz 10 R A B I n)=w0 at*;generalize M:w.heap.size=f at*;have N:ay (∀b w' m,(cw a hp).J b m w'->b8 F w0.drew b w'->m.s.rs=S.s.rs->(w'.cell? ⟨hp,0,none⟩=some (.pointer (some ⟨a.pw,0,none⟩))/\w'.cell? ⟨a.pw,3,none⟩=some (.slice (some ⟨a.nb,0,none⟩) 12 12)/\w'.cell? ⟨a.nb,A,none⟩=some (.int .i64 (S.s.rs.getD A 0)))/\w'.cell? ⟨f,2,none⟩=some (.int .i64 (A:Int))):=fun b w' m j t O=>by obtain⟨g0,_,g3,D,_⟩:=em j;rw[O] at D;exact⟨⟨g0,g3,(D A q).1⟩,(aP (a:=⟨f,2,none⟩) (t.fr.block f H C.out.2.2.2)).trans G⟩
 generalize S.s.rs.getD A 0=x at*
 go_region_held3 (fun w'=>w'.cell? (aq hp 0)=some (aj a.pw)/\w'.cell? (aq a.pw 3)=some (.slice (ak a.nb) 12 12)/\w'.cell? (aq a.nb A)=some (ah x)/\w'.cell? (aq f 2)=some (ah (A:Int))) (go_keep)
  (first
    |(go_at_call 125;refine s.mono ?_;clear s;rintro e o ⟨i,rfl,j2,p⟩;obtain⟨⟨g0,g3,gr⟩,ab⟩:=N.out i o _ j2 p K.out;have E:ay ((cw a hp).J i L o/\b8 F w i o):=⟨j2,(b8.of (by rw[M];exact C.out.2.1)).trans p⟩;clear j2 p))
 go_wp2_with fail;go_ret2;exact⟨i,rfl,E.out.1,E.out.2⟩
theorem Hb (h:(cw a hp).J F S w)(R B I n:Int)(A:Nat)(k:A<12):
 Calls prog 57 #[aj hp,dK 13 R A B I n] w fun e w'=>e=.returned (.tuple #[ah (S.len a (S.s.rs.getD A 0)).1,ah (S.len a (S.s.rs.getD A 0)).2.1])/\aw w w':=by
 have c:=au w (cz 13 R A B I n)
 have d:=aN w (.cells #[.int .i64 13,.int .i64 R,.int .i64 (A:Int),.int .i64 B,.int .i64 I,.int .i64 n] 44)
 have g:=(cw a hp).below h c;obtain⟨h0,c0,c3,rt,_⟩:=em g;obtain⟨r1,_⟩:=rt A k;have i:=(cw a hp).below g (aH _ (w.alloc (cz 13 R A B I n))).drew;have l:=GI i (S.s.rs.getD A 0)
 obtain⟨q0,q1,o,q3,E,G⟩:=eu d;have b:aw w (w.alloc (cz 13 R A B I n)).drew:=c.trans ((aH _ (w.alloc (cz 13 R A B I n))).drew.mono c.size)
 have H:(0:Int)<=(A:Int):=V;have J:(A:Int)<12:=V;have q:w.heap.size<(w.alloc (cz 13 R A B I n)).heap.size:=lt_of_some d;have fx:¬F w.heap.size:=fun s=>by have:=(cw a hp).lt h _ s;omega
 have j:ay ((cw a hp).J F S (w.alloc (cz 13 R A B I n)).drew/\aw w (w.alloc (cz 13 R A B I n)).drew/\(w.alloc (cz 13 R A B I n)).drew.heap[w.heap.size]?=some (cz 13 R A B I n)/\¬F w.heap.size):=⟨i,b,d,fx⟩
 have K:ay (aw w (w.alloc (cz 13 R A B I n))):=c;clear h g i rt c b d fx;have L:ay (S.s.rs.getD A 0=S.s.rs.getD A 0):=rfl;generalize (S.len a (S.s.rs.getD A 0)).1=v at*;generalize (S.len a (S.s.rs.getD A 0)).2.1=cd at*;go_enter func57,ntmps57
 go_upto_region 22 with fail
 generalize w.alloc (cz 13 R A B I n)=w0 at*;generalize t:w.heap.size=f at*;have u:ay (∀w',aw w0.drew w'->(w'.cell? ⟨hp,0,none⟩=some (.pointer (some ⟨a.pw,0,none⟩))/\w'.cell? ⟨a.pw,3,none⟩=some (.slice (some ⟨a.nb,0,none⟩) 12 12)/\w'.cell? ⟨a.nb,A,none⟩=some (.int .i64 (S.s.rs.getD A 0)))/\w'.cell? ⟨f,2,none⟩=some (.int .i64 (A:Int))):=fun w' hb=>by
  obtain⟨g0,_,g3,C,_⟩:=em ((cw a hp).below j.out.1 hb)
  exact⟨⟨g0,g3,(C A k).1⟩,(hb.cell (p:=aq f 2) q).trans o⟩
 generalize S.s.rs.getD A 0=x at*
 go_region_held3 (fun w'=>w'.cell? (aq hp 0)=some (aj a.pw)/\w'.cell? (aq a.pw 3)=some (.slice (ak a.nb) 12 12)/\w'.cell? (aq a.nb A)=some (ah x)/\w'.cell? (aq f 2)=some (ah (A:Int))) (go_keep)
  (first
    |(go_at_call 126;refine l.mono ?_;clear l;rintro e m ⟨rfl,b⟩;obtain⟨⟨g0,g3,gr⟩,M⟩:=u.out m b;have D:ay (Below f w m):=j.out.2.1.trans (b.mono (by have:=j.out.2.1.size;omega));clear b))
 go_wp2_with fail;go_ret2;exact⟨rfl,by rw[t];exact D.out⟩
theorem Hc (h:(cw a hp).J F S w)(R B I n:Int)(A:Nat)(k:A<12):
 Calls prog 57 #[aj hp,dK 11 R A B I n] w fun e w'=>e=.returned (.tuple #[ah (if ej a.N S.s.y S.s.g S.s.ws (S.s.rs.getD A 0) I=0 then ld a.N S.s.y S.s.g S.s.ws (cg (S.s.rs.getD A 0)+1+I) else 0),ah (ej a.N S.s.y S.s.g S.s.ws (S.s.rs.getD A 0) I)])/\aw w w':=by
 have d:=au w (cz 11 R A B I n)
 have f:=aN w (.cells #[.int .i64 11,.int .i64 R,.int .i64 (A:Int),.int .i64 B,.int .i64 I,.int .i64 n] 44)
 have i:=(cw a hp).below h d;obtain⟨h0,c0,c3,rt,_⟩:=em i;obtain⟨r1,_⟩:=rt A k;have g:=(cw a hp).below i (aH _ (w.alloc (cz 11 R A B I n))).drew;have l:=CV (S.s.rs.getD A 0) I (w.alloc (cz 11 R A B I n)).drew (em g).c0 (lx g).1;obtain⟨q0,q1,q,q3,s,G⟩:=eu f;have c:aw w (w.alloc (cz 11 R A B I n)).drew:=d.trans ((aH _ (w.alloc (cz 11 R A B I n))).drew.mono d.size)
 have H:(0:Int)<=(A:Int):=V;have J:(A:Int)<12:=V;have m:w.heap.size<(w.alloc (cz 11 R A B I n)).heap.size:=lt_of_some f;have fx:¬F w.heap.size:=fun t=>by have:=(cw a hp).lt h _ t;omega
 have j:ay ((cw a hp).J F S (w.alloc (cz 11 R A B I n)).drew/\aw w (w.alloc (cz 11 R A B I n)).drew/\(w.alloc (cz 11 R A B I n)).drew.heap[w.heap.size]?=some (cz 11 R A B I n)/\¬F w.heap.size):=⟨g,c,f,fx⟩
 have K:ay (aw w (w.alloc (cz 11 R A B I n))):=d;clear h i g rt d c f fx;have L:ay (S.s.rs.getD A 0=S.s.rs.getD A 0):=rfl;generalize (if ej a.N S.s.y S.s.g S.s.ws (S.s.rs.getD A 0) I=0 then ld a.N S.s.y S.s.g S.s.ws (cg (S.s.rs.getD A 0)+1+I) else 0)=v at*;generalize ej a.N S.s.y S.s.g S.s.ws (S.s.rs.getD A 0) I=cd at*;go_enter func57,ntmps57
 go_upto_region 20 with fail
 generalize w.alloc (cz 11 R A B I n)=w0 at*;generalize u:w.heap.size=b at*;have C:ay (∀w',aw w0.drew w'->(w'.cell? ⟨hp,0,none⟩=some (.pointer (some ⟨a.pw,0,none⟩))/\w'.cell? ⟨a.pw,3,none⟩=some (.slice (some ⟨a.nb,0,none⟩) 12 12)/\w'.cell? ⟨a.nb,A,none⟩=some (.int .i64 (S.s.rs.getD A 0)))/\w'.cell? ⟨b,2,none⟩=some (.int .i64 (A:Int))/\w'.cell? ⟨b,4,none⟩=some (.int .i64 I)):=fun w' hb=>by
  obtain⟨g0,_,g3,D,_⟩:=em ((cw a hp).below j.out.1 hb)
  exact⟨⟨g0,g3,(D A k).1⟩,(hb.cell (p:=aq b 2) m).trans q,(hb.cell (p:=aq b 4) m).trans s⟩
 generalize S.s.rs.getD A 0=x at*
 go_region_held3 (fun w'=>w'.cell? (aq hp 0)=some (aj a.pw)/\w'.cell? (aq a.pw 3)=some (.slice (ak a.nb) 12 12)/\w'.cell? (aq a.nb A)=some (ah x)/\w'.cell? (aq b 2)=some (ah (A:Int))/\w'.cell? (aq b 4)=some (ah I)) (go_keep)
  (first
    |(go_at_call 45;refine l.mono ?_;clear l;rintro e o ⟨rfl,c⟩;obtain⟨⟨g0,g3,gr⟩,M,N⟩:=C.out o c;have E:ay (Below b w o):=j.out.2.1.trans (c.mono (by have:=j.out.2.1.size;omega));clear c))
 go_wp2_with fail;go_ret2;exact⟨rfl,by rw[u];exact E.out⟩
theorem Hd (h:(cw a hp).J F S w)(R I n:Int)(A B:Nat)(j:A<12)(hB:B<12):
 Calls prog 57 #[aj hp,dK 14 R A B I n] w fun e w'=>e=.returned (.tuple #[ah (if S.s.rs.getD A 0=S.s.rs.getD B 0 then ew 1 1 else ew 1 0),ah 0])/\aw w w':=by
 have d:=au w (cz 14 R A B I n)
 have f:=aN w (.cells #[.int .i64 14,.int .i64 R,.int .i64 (A:Int),.int .i64 (B:Int),.int .i64 I,.int .i64 n] 44)
 have g:=(cw a hp).below h d;obtain⟨h0,c0,c3,rt,_⟩:=em g;obtain⟨r1,_⟩:=rt A j;obtain⟨C,_⟩:=rt B hB;obtain⟨q0,q1,q,q3,D,E⟩:=eu f;have c:aw w (w.alloc (cz 14 R A B I n)).drew:=d.trans ((aH _ (w.alloc (cz 14 R A B I n))).drew.mono d.size)
 have G:(0:Int)<=(A:Int):=V;have H:(A:Int)<12:=V;have J:(0:Int)<=(B:Int):=V;have K:(B:Int)<12:=V;have k:=GH (S.s.rs.getD A 0) (S.s.rs.getD B 0) (w.alloc (cz 14 R A B I n)).drew;have l:w.heap.size<(w.alloc (cz 14 R A B I n)).heap.size:=lt_of_some f;have i:ay ((cw a hp).J F S (w.alloc (cz 14 R A B I n)).drew/\aw w (w.alloc (cz 14 R A B I n)).drew/\(w.alloc (cz 14 R A B I n)).drew.heap[w.heap.size]?=some (cz 14 R A B I n)):=⟨(cw a hp).below g (aH _ (w.alloc (cz 14 R A B I n))).drew,c,f⟩
 clear h g rt d c f;have L:ay (S.s.rs.getD A 0=S.s.rs.getD A 0):=rfl;generalize (if S.s.rs.getD A 0=S.s.rs.getD B 0 then ew 1 1 else ew 1 0)=v at*;go_enter func57,ntmps57
 go_upto_region 24 with fail
 generalize w.alloc (cz 14 R A B I n)=w0 at*;generalize s:w.heap.size=b at*;have t:ay (∀w',aw w0.drew w'->(w'.cell? ⟨hp,0,none⟩=some (.pointer (some ⟨a.pw,0,none⟩))/\w'.cell? ⟨a.pw,3,none⟩=some (.slice (some ⟨a.nb,0,none⟩) 12 12)/\w'.cell? ⟨a.nb,A,none⟩=some (.int .i64 (S.s.rs.getD A 0))/\w'.cell? ⟨a.nb,B,none⟩=some (.int .i64 (S.s.rs.getD B 0)))/\w'.cell? ⟨b,2,none⟩=some (.int .i64 (A:Int))/\w'.cell? ⟨b,3,none⟩=some (.int .i64 (B:Int))):=fun w' hb=>by
  obtain⟨g0,_,g3,m,_⟩:=em ((cw a hp).below i.out.1 hb)
  exact⟨⟨g0,g3,(m A j).1,(m B hB).1⟩,(hb.cell (p:=aq b 2) l).trans q,(hb.cell (p:=aq b 3) l).trans q3⟩
 generalize S.s.rs.getD A 0=x at*;generalize S.s.rs.getD B 0=y at*
 go_region_held3 (fun w'=>w'.cell? (aq hp 0)=some (aj a.pw)/\w'.cell? (aq a.pw 3)=some (.slice (ak a.nb) 12 12)/\w'.cell? (aq a.nb A)=some (ah x)/\w'.cell? (aq a.nb B)=some (ah y)/\w'.cell? (aq b 2)=some (ah (A:Int))/\w'.cell? (aq b 3)=some (ah (B:Int))) (go_keep)
  (first
    |(go_at_call 127;refine k.mono ?_;clear k;rintro e o ⟨rfl,c⟩;obtain⟨⟨g0,g3,gr,M⟩,N,O⟩:=t.out o c;have u:ay (Below b w o):=i.out.2.1.trans (c.mono (by have:=i.out.2.1.size;omega));clear c))
 go_wp2_with fail;go_ret2;exact⟨rfl,by rw[s];exact u.out⟩
theorem He (R A B I n:Int)(w:ax)(hp:Nat):
 Calls prog 57 #[aj hp,dK 2 R A B I n] w fun e w'=>e=.returned (.tuple #[ah 2,ah 0])/\aw w w':=by
 have b:=au w (cz 2 R A B I n)
 go_enter func57,ntmps57;go_wp2_with fail;refine(r4 _).mono ?_;rintro e w1 ⟨rfl,hw⟩
 have hw:=hw.symm;subst hw;go_wp2_with fail;go_ret2;exact⟨rfl,b⟩
theorem Hf (h:(cw a hp).J F S w){j:Nat}(ok:dV a S j)(hb:cI a S.s)(k R A B I n:Int)(hk:dJ k R A B n=0)(H:k≠9)(J:k≠12)(K:k≠15)(L:k≠16):
 Calls prog 57 #[aj hp,dK k R A B I n] w fun e w'=>∃i,e=.returned (.tuple #[ah (S.rt a k A.toNat B.toNat I n).1,ah (S.rt a k A.toNat B.toNat I n).2.1])/\(cw a hp).J i (S.rt a k A.toNat B.toNat I n).2.2 w'/\b8 F w i w':=by
 have hq:S.q.length+S.r.length<=90000:=by have:=ok.kQ;omega
 have l:=ok.qI hb;have low:∀{Q:Int×Int×cq},(Calls prog 57 #[aj hp,dK k R A B I n] w fun e w'=>e=.returned (.tuple #[ah Q.1,ah Q.2.1])/\aw w w')->Q.2.2=S->Calls prog 57 #[aj hp,dK k R A B I n] w fun e w'=>∃i,e=.returned (.tuple #[ah Q.1,ah Q.2.1])/\(cw a hp).J i Q.2.2 w'/\b8 F w i w':=fun {Q} P e=>by
  refine P.mono ?_;rintro N w' ⟨rfl,hb⟩
  rw[e];exact⟨F,rfl,(cw a hp).below h hb,b8.of hb⟩
 have g:(c8 k=3\/c8 k=6\/c8 k=7)->∃c:Nat,A=c/\c<12:=fun o=>by have:=lv hk o;exact⟨A.toNat,V,V⟩
 have fZ:(c8 k=6\/c8 k=7)->∃f:Nat,B=f/\f<12:=fun o=>by have:=l4 hk o;exact⟨B.toNat,V,V⟩
 have rm:∀m:Nat,m<=12->(S.room a (1+m)).1=0->(S.room a (1+m)).2.s.y+1+m<=a.N:=fun m hm e=>by have:=(ok.room hb (1+m)).2.2.1 e V;omega
 unfold cq.rt;by_cases p:k=1
 ·rw[aI p];subst p;exact low (EW R A B I n w hp) rfl
 rw[aG p];by_cases q:k=3
 ·rw[aI q];subst q;obtain⟨c,rfl,d⟩:=g aa;rw[Int.toNat_natCast];exact low (G_ h R B I n c d) rfl
 rw[aG q];by_cases s:k=4
 ·rw[aI s];subst s;obtain⟨c,rfl,d⟩:=g aa;obtain⟨f,rfl,hB⟩:=fZ aa;rw[Int.toNat_natCast,Int.toNat_natCast];exact G5 h R I n c f d hB hq l (rm 2 V)
 rw[aG s];by_cases t:k=5
 ·rw[aI t];subst t;obtain⟨c,rfl,d⟩:=g aa;have hn:hc 2 n=0:=zM hk;have hn:=iU 2 n hn;obtain⟨n,rfl⟩:=Int.eq_ofNat_of_zero_le (show 0<=n by omega)
  rw[Int.toNat_natCast];exact G9 h R B I c n d V hq l (rm n V)
 rw[aG t];by_cases u:k=6
 ·rw[aI u];subst u;obtain⟨c,rfl,d⟩:=g aa;obtain⟨f,rfl,hB⟩:=fZ aa;rw[Int.toNat_natCast,Int.toNat_natCast];exact G6 h R I n c f d hB hq l (rm 2 V)
 rw[aG u];by_cases v:k=7
 ·rw[aI v];subst v;obtain⟨c,rfl,d⟩:=g aa;obtain⟨f,rfl,hB⟩:=fZ aa;rw[Int.toNat_natCast,Int.toNat_natCast];exact G7 h R I n c f d hB hq l (rm 2 V)
 rw[aG v];by_cases x:k=8
 ·rw[aI x];subst x;exact G8 h R A B I n hq l (rm 0 V)
 rw[aG x];by_cases C:k=10
 ·rw[aI C];subst C;obtain⟨c,rfl,d⟩:=g aa;rw[Int.toNat_natCast];exact Ha h R B I n c d V
 rw[aG C];by_cases D:k=11
 ·rw[aI D];subst D;obtain⟨c,rfl,d⟩:=g aa;rw[Int.toNat_natCast];exact low (Hc h R B I n c d) rfl
 rw[aG D];by_cases E:k=13
 ·rw[aI E];subst E;obtain⟨c,rfl,d⟩:=g aa;rw[Int.toNat_natCast];exact low (Hb h R B I n c d) (by unfold cq.len;split<;>rfl)
 rw[aG E];by_cases G:k=14
 ·rw[aI G];subst G;obtain⟨c,rfl,d⟩:=g aa;obtain⟨f,rfl,hB⟩:=fZ aa;rw[Int.toNat_natCast,Int.toNat_natCast];exact low (Hd h R I n c f d hB) rfl
 rw[aG G];have M:k=2:=by
  rcases o4 k with b|b|b|b|b|b|b|b|b|b|b|b|b|b|b|b|b
  all_goals
   first
    |exact b
    |exact absurd b p
    |exact absurd b q
    |exact absurd b s
    |exact absurd b t
    |exact absurd b u
    |exact absurd b v
    |exact absurd b x
    |exact absurd b H
    |exact absurd b C
    |exact absurd b D
    |exact absurd b J
    |exact absurd b E
    |exact absurd b G
    |exact absurd b K
    |exact absurd b L
    |(have o:=o5 b;unfold dJ at hk;rw[aI o] at hk;omega)
 subst M;exact low (He R A B I n w hp) rfl
end
end Go.Proofs.YtpkjkjhanlbcoaaGreat
