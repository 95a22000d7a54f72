import Derived.Test.YtjpjpjemibgjpaaGreatJ25
namespace Go.Proofs.YtjpjpjemibgjpaaGreat
set_option maxRecDepth 100000
set_option maxHeartbeats 4000000
open Tryz
open Go.RowKit W Kp cg
theorem Bb {P:Prop}(h:P:=by
 generalize hxb:w.heap.size=xb at*;refine PC.mono ?_;clear PC;rintro e w1 ⟨rfl,hb1⟩
 have hbt:Below w.heap.size w w1:=by rw[hxb];exact HJ.o.2.1.trans (hb1.mono (by have:=lt_of_some HJ.o.2.2;omega))
 obtain⟨q0,q1,q2,q3,q4,q5⟩:=fT ((hb1.block xb (lt_of_some HJ.o.2.2)).trans HJ.o.2.2)
 have J1:=(cq a hp).below HJ.o.1 hbt;obtain⟨h0,_⟩:=eC J1;have P:=Bd.o F w1 J1;have HT:av (b_ F w F w1):=b_.of hbt;clear hb1 hbt J1 q1 q2 q3 q4 q5;go_wp2_with fail;refine P.mono ?_;clear P;rintro e w2 ⟨F2,rfl,rC,T2⟩
 have HF:av ((cq a hp).J F2 S2 w2/\b_ F w F2 w2):=⟨rC,HT.o.trans T2⟩
 clear rC T2;go_wp2_with fail;go_ret;exact⟨F2,rfl,HF.o.1,HF.o.2⟩):P:=h
theorem rD {P:Prop}(h:P:=by
 go_enter func40,ntmps40;go_wp2_with fail;refine P.mono ?_;rintro e w2 ⟨F2,rfl,rC,T2⟩
 have HF:=dC rC ((b_.of HB.o).trans T2)
 go_wp2_with fail;go_ret2;exact⟨F2,rfl,HF.o.1,HF.o.2⟩):P:=h
theorem Be {P:Prop}(h:P:=by
 have hr:=hM.rt;refine⟨fun _=>⟨a.nb,0,rfl,lt_of_some hr,fun i hi=>?_⟩,fun _=>⟨a.nb,0,_,rfl,hr⟩⟩
 rw[bF];exact(Bf i (by rw[<-rl];exact hi)).1):P:=h
theorem IZ (a:Wc)(S:ck)(x:Int):(S.pop a x).2.2.s.rs=S.s.rs:=by
 unfold ck.pop;split
 ·split<;>rfl
 ·rfl
theorem I0 (a:Wc)(S:ck)(t g:Int):(S.reg a t g).2.s.rs=S.s.rs:=by
 unfold ck.reg;split
 ·split
  ·split<;>rfl
  ·rfl
 ·rfl
section
variable {a:Wc}{hp:Nat}{F:Nat->Prop}{S:ck}{w:au}
theorem I1 (h:(cq a hp).J F S w)(R I n:Int)(A B:Nat)(f:A<12)(hB:B<12)(hq:S.q.length+S.r.length<=90000)(j:S.fD a=false->∃G,il (S.k5 a) (S.dG a) G/\G 0 (S.k5 a,0))(room:(S.room a 3).1=0->(S.room a 3).2.s.y+3<=a.N):
 Calls prog 40 #[aj hp,eU 4 R A B I n] w fun e w'=>∃c,e=.returned (.tuple #[ah (S.bY a 1 [A,B]).1,ah (S.bY a 1 [A,B]).2.1])/\(cq a hp).J c (S.bY a 1 [A,B]).2.2 w'/\b_ F w c w':=by
 have d:=(an w (cE 4 R A B I n)).alloc Z (.cells #[.int .i64 (A:Int),.int .i64 (B:Int)] 3)
 have b:=aL (w.alloc (cE 4 R A B I n)) (.cells #[.int .i64 (A:Int),.int .i64 (B:Int)] 3)
 have k:(w.alloc (cE 4 R A B I n)).heap.size=w.heap.size+1:=Z;rw[k] at b;have P:=pH ((cq a hp).below h d) 1 [A,B] (ak (w.heap.size+1)) 2 hq j rfl (fun _=>⟨w.heap.size+1,rfl,fun l=>by have:=(cq a hp).lt h _ l;omega,lt_of_some b,fun i hi=>by
  have hi:i<2:=hi;rcases(show i=0\/i=1 by omega) with rfl|rfl<;>simp only [World.cell?,b]<;>rfl⟩) (fun i hi=>by
  have hi:i<2:=hi;rcases(show i=0\/i=1 by omega) with rfl|rfl
  ·exact f
  ·exact hB) room
 have HB:=hide d;generalize S.bY a 1 [A,B]=g at*;obtain⟨v,cd,m⟩:=g;exact rD
theorem I2 (h:(cq a hp).J F S w)(R I n:Int)(A B:Nat)(f:A<12)(hB:B<12)(hq:S.q.length+S.r.length<=90000)(j:S.fD a=false->∃G,il (S.k5 a) (S.dG a) G/\G 0 (S.k5 a,0))(room:(S.room a 3).1=0->(S.room a 3).2.s.y+3<=a.N):
 Calls prog 40 #[aj hp,eU 6 R A B I n] w fun e w'=>∃c,e=.returned (.tuple #[ah (S.bY a 3 [A,B]).1,ah (S.bY a 3 [A,B]).2.1])/\(cq a hp).J c (S.bY a 3 [A,B]).2.2 w'/\b_ F w c w':=by
 have d:=(an w (cE 6 R A B I n)).alloc Z (.cells #[.int .i64 (A:Int),.int .i64 (B:Int)] 3)
 have b:=aL (w.alloc (cE 6 R A B I n)) (.cells #[.int .i64 (A:Int),.int .i64 (B:Int)] 3)
 have k:(w.alloc (cE 6 R A B I n)).heap.size=w.heap.size+1:=Z;rw[k] at b;have P:=pH ((cq a hp).below h d) 3 [A,B] (ak (w.heap.size+1)) 2 hq j rfl (fun _=>⟨w.heap.size+1,rfl,fun l=>by have:=(cq a hp).lt h _ l;omega,lt_of_some b,fun i hi=>by
  have hi:i<2:=hi;rcases(show i=0\/i=1 by omega) with rfl|rfl<;>simp only [World.cell?,b]<;>rfl⟩) (fun i hi=>by
  have hi:i<2:=hi;rcases(show i=0\/i=1 by omega) with rfl|rfl
  ·exact f
  ·exact hB) room
 have HB:=hide d;generalize S.bY a 3 [A,B]=g at*;obtain⟨v,cd,m⟩:=g;exact rD
theorem I3 (h:(cq a hp).J F S w)(R I n:Int)(A B:Nat)(f:A<12)(hB:B<12)(hq:S.q.length+S.r.length<=90000)(j:S.fD a=false->∃G,il (S.k5 a) (S.dG a) G/\G 0 (S.k5 a,0))(room:(S.room a 3).1=0->(S.room a 3).2.s.y+3<=a.N):
 Calls prog 40 #[aj hp,eU 7 R A B I n] w fun e w'=>∃c,e=.returned (.tuple #[ah (S.bY a 4 [A,B]).1,ah (S.bY a 4 [A,B]).2.1])/\(cq a hp).J c (S.bY a 4 [A,B]).2.2 w'/\b_ F w c w':=by
 have d:=(an w (cE 7 R A B I n)).alloc Z (.cells #[.int .i64 (A:Int),.int .i64 (B:Int)] 3)
 have b:=aL (w.alloc (cE 7 R A B I n)) (.cells #[.int .i64 (A:Int),.int .i64 (B:Int)] 3)
 have k:(w.alloc (cE 7 R A B I n)).heap.size=w.heap.size+1:=Z;rw[k] at b;have P:=pH ((cq a hp).below h d) 4 [A,B] (ak (w.heap.size+1)) 2 hq j rfl (fun _=>⟨w.heap.size+1,rfl,fun l=>by have:=(cq a hp).lt h _ l;omega,lt_of_some b,fun i hi=>by
  have hi:i<2:=hi;rcases(show i=0\/i=1 by omega) with rfl|rfl<;>simp only [World.cell?,b]<;>rfl⟩) (fun i hi=>by
  have hi:i<2:=hi;rcases(show i=0\/i=1 by omega) with rfl|rfl
  ·exact f
  ·exact hB) room
 have HB:=hide d;generalize S.bY a 4 [A,B]=g at*;obtain⟨v,cd,m⟩:=g;exact rD
theorem I4 (h:(cq a hp).J F S w)(R A B I n:Int)(hq:S.q.length+S.r.length<=90000)(d:S.fD a=false->∃G,il (S.k5 a) (S.dG a) G/\G 0 (S.k5 a,0))(room:(S.room a 1).1=0->(S.room a 1).2.s.y+1<=a.N):
 Calls prog 40 #[aj hp,eU 8 R A B I n] w fun e w'=>∃b,e=.returned (.tuple #[ah (S.bY a 5 []).1,ah (S.bY a 5 []).2.1])/\(cq a hp).J b (S.bY a 5 []).2.2 w'/\b_ F w b w':=by
 have c:=an w (cE 8 R A B I n)
 have P:=pH ((cq a hp).below h c) 5 [] none 0 hq d rfl (fun f=>absurd f Z) (fun i hi=>absurd hi Z) room;have HB:=hide c;exact rD
theorem I5 (h:(cq a hp).J F S w)(R B I:Int)(A n:Nat)(p:A<12)(q:n<=12)(hq:S.q.length+S.r.length<=90000)(s:S.fD a=false->∃G,il (S.k5 a) (S.dG a) G/\G 0 (S.k5 a,0))(room:(S.room a (1+n)).1=0->(S.room a (1+n)).2.s.y+1+n<=a.N):
 Calls prog 40 #[aj hp,eU 5 R A B I n] w fun e w'=>∃b,e=.returned (.tuple #[ah (S.bY a 2 (List.replicate n A)).1,ah (S.bY a 2 (List.replicate n A)).2.1])/\(cq a hp).J b (S.bY a 2 (List.replicate n A)).2.2 w'/\b_ F w b w':=by
 have k:=(an w (cE 5 R A B I n)).alloc Z (.cells #[.int .i64 (A:Int)] 3)
 have m:=aL (w.alloc (cE 5 R A B I n)) (.cells #[.int .i64 (A:Int)] 3)
 have u:(w.alloc (cE 5 R A B I n)).heap.size=w.heap.size+1:=Z;rw[u] at m;have hl:(List.replicate n A).length=n:=bw;have hk:hc 2 (List.replicate n A).length=0:=by rw[hl];rcases(show n=0\/n=1\/n=2\/n=3\/n=4\/n=5\/n=6\/n=7\/n=8\/n=9\/n=10\/n=11\/n=12 by omega) with e|e|e|e|e|e|e|e|e|e|e|e|e<;>(rw[e];rfl)
 have L:=(cq a hp).below h k;have x:((w.alloc (cE 5 R A B I n)).alloc (.cells #[.int .i64 (A:Int)] 3)).cell? (am (w.heap.size+1) 0)=some (ah (A:Int)):=by simp only [World.cell?,m];rfl
 have C:Calls prog 99 #[.slice (ak (w.heap.size+1)) 1 1,ah n] ((w.alloc (cE 5 R A B I n)).alloc (.cells #[.int .i64 (A:Int)] 3)) fun e w'=>∃nb,e=.returned (.slice (ak nb) n n)/\(0<n->w.heap.size+2<=nb/\w'.heap[nb]?=some (.cells ((List.replicate n (A:Int)).map (Value.int .i64)).toArray 3 (0,0)))/\Below w.heap.size w w':=by
  by_cases h0:0<n
  ·refine(IX _ (w.heap.size+1) n A h0 q x).mono ?_;rintro e w' ⟨nb,rfl,g1,g2,g3⟩
   simp at g1;exact⟨nb,rfl,fun _=>⟨V,g2⟩,k.trans (g3.mono (by simp;omega))⟩
  ·obtain rfl:n=0:=V;refine(IY _ (w.heap.size+1) A).mono ?_;rintro e w' ⟨nb,rfl,g3⟩
   exact⟨nb,rfl,fun c=>absurd c V,k.trans (g3.mono (by simp;omega))⟩
 have D:∀d nb,Below w.heap.size w d->(0<n->w.heap.size+2<=nb/\d.heap[nb]?=some (.cells ((List.replicate n (A:Int)).map (Value.int .i64)).toArray 3 (0,0)))->Calls prog 98 #[aj hp,ah 2,.slice (ak nb) n n] d fun e w'=>∃b,e=.returned (.tuple #[ah (S.bY a 2 (List.replicate n A)).1,ah (S.bY a 2 (List.replicate n A)).2.1])/\(cq a hp).J b (S.bY a 2 (List.replicate n A)).2.2 w'/\b_ F w b w':=fun d nb f l=>by
  have P:=pH ((cq a hp).below h f) 2 (List.replicate n A) (ak nb) n hq s hk (fun c=>by
   rw[hl] at c;obtain⟨g1,g2⟩:=l c;refine⟨nb,rfl,fun c=>by have:=(cq a hp).lt h _ c;omega,lt_of_some g2,fun i hi=>?_⟩
   rw[hl] at hi;have e:(List.replicate n A).getD i 0=A:=by rw[aC,List.getElem?_replicate_of_lt hi];rfl
   rw[e];simp[World.cell?,g2,hi]) (fun i hi=>by
   rw[hl] at hi;rw[aC,List.getElem?_replicate_of_lt hi];exact p) (by rw[hl];exact room)
  rw[hl] at P;refine P.mono ?_;rintro e w' ⟨b,rfl,j,t⟩
  exact⟨b,rfl,j,(b_.of f).trans t⟩
 have E:=hide D;generalize S.bY a 2 (List.replicate n A)=g at*;obtain⟨v,cd,M⟩:=g;go_enter func40,ntmps40;go_wp2_with fail;refine C.mono ?_;rintro e d ⟨nb,rfl,l,f⟩
 have P:=E.o d nb f l;go_wp2_with fail;refine P.mono ?_;rintro e w3 ⟨H,rfl,J,K⟩
 have o:=dC J K;go_wp2_with fail;go_ret2;exact⟨H,rfl,o.o.1,o.o.2⟩
theorem I6 (h:(cq a hp).J F S w)(R B I n:Int)(A:Nat)(f:A<12):
 Calls prog 40 #[aj hp,eU 3 R A B I n] w fun e w'=>e=.returned (.tuple #[ah (S.s.rs.getD A 0),ah 0])/\Below w.heap.size w w':=by
 have b:=an w (cE 3 R A B I n)
 have c:=aL w (.cells #[.int .i64 3,.int .i64 R,.int .i64 (A:Int),.int .i64 B,.int .i64 I,.int .i64 n] 44)
 have d:=(cq a hp).below h b;obtain⟨h0,c0,c3,rt,_⟩:=eC d;obtain⟨r1,_⟩:=rt A f;skip;obtain⟨q0,q1,j,q3,k,l⟩:=fT c;have fx:¬F w.heap.size:=fun g=>by have:=(cq a hp).lt h _ g;omega
 have i:=hide b;clear h d rt b c fx;generalize S.s.rs.getD A 0=x at*;go_enter func40,ntmps40
 go_upto_region 6 with fail
 go_quiet (fail)
 go_wp2_with fail;go_ret2;exact⟨rfl,below_drewN i.o _⟩
theorem I7 (h:(cq a hp).J F S w)(R B I n:Int)(A:Nat)(q:A<12)(hq:S.q.length<=90000):
 Calls prog 40 #[aj hp,eU 10 R A B I n] w fun e w'=>∃b,e=.returned (.tuple #[ah (S.pop a (S.s.rs.getD A 0)).1,ah (S.pop a (S.s.rs.getD A 0)).2.1])/\(cq a hp).J b (S.pop a (S.s.rs.getD A 0)).2.2 w'/\b_ F w b w':=by
 have c:=an w (cE 10 R A B I n)
 have d:=aL w (.cells #[.int .i64 10,.int .i64 R,.int .i64 (A:Int),.int .i64 B,.int .i64 I,.int .i64 n] 44)
 have k:=(cq a hp).below h c;obtain⟨h0,c0,c3,rt,_⟩:=eC k;obtain⟨r1,_⟩:=rt A q;have l:=(cq a hp).below k (aD _ (w.alloc (cE 10 R A B I n))).drew;have s:=II l (S.s.rs.getD A 0) hq;obtain⟨q0,q1,G,q3,P,Q⟩:=fT d;have u:Below w.heap.size w (w.alloc (cE 10 R A B I n)).drew:=c.trans ((aD _ (w.alloc (cE 10 R A B I n))).drew.mono c.size)
 have U:(0:Int)<=(A:Int):=V;have W:(A:Int)<12:=V;have H:w.heap.size<(w.alloc (cE 10 R A B I n)).heap.size:=lt_of_some d;have fx:¬F w.heap.size:=fun J=>by have:=(cq a hp).lt h _ J;omega
 have C:av ((cq a hp).J F S (w.alloc (cE 10 R A B I n)).drew/\Below w.heap.size w (w.alloc (cE 10 R A B I n)).drew/\(w.alloc (cE 10 R A B I n)).drew.heap[w.heap.size]?=some (cE 10 R A B I n)/\¬F w.heap.size):=⟨l,u,d,fx⟩
 have X:av (Below w.heap.size w (w.alloc (cE 10 R A B I n))):=c;clear h k l rt c u d fx;have Y:av (S.s.rs.getD A 0=S.s.rs.getD A 0):=rfl;have K:av ((S.pop a (S.s.rs.getD A 0)).2.2.s.rs=S.s.rs):=IZ a S (S.s.rs.getD A 0)
 generalize S.pop a (S.s.rs.getD A 0)=g at*;obtain⟨v,cd,L⟩:=g;dsimp only at*;go_enter func40,ntmps40
 go_upto_region 18 with fail
 generalize w.alloc (cE 10 R A B I n)=w0 at*;generalize M:w.heap.size=f at*;have N:av (∀b w' m,(cq a hp).J b m w'->b_ F w0.drew b w'->m.s.rs=S.s.rs->(w'.cell? ⟨hp,0,none⟩=some (.pointer (some ⟨a.pw,0,none⟩))/\w'.cell? ⟨a.pw,3,none⟩=some (.slice (some ⟨a.nb,0,none⟩) 12 12)/\w'.cell? ⟨a.nb,A,none⟩=some (.int .i64 (S.s.rs.getD A 0)))/\w'.cell? ⟨f,2,none⟩=some (.int .i64 (A:Int))):=fun b w' m j t O=>by obtain⟨g0,_,g3,D,_⟩:=eC j;rw[O] at D;exact⟨⟨g0,g3,(D A q).1⟩,(aU (a:=⟨f,2,none⟩) (t.fr.block f H C.o.2.2.2)).trans G⟩
 generalize S.s.rs.getD A 0=x at*
 go_region_held3 (fun w'=>w'.cell? (am hp 0)=some (aj a.pw)/\w'.cell? (am a.pw 3)=some (.slice (ak a.nb) 12 12)/\w'.cell? (am a.nb A)=some (ah x)/\w'.cell? (am f 2)=some (ah (A:Int))) (go_keep)
  (first
    |(go_at_call 100;refine s.mono ?_;clear s;rintro e o ⟨i,rfl,j2,p⟩;obtain⟨⟨g0,g3,gr⟩,ab⟩:=N.o i o _ j2 p K.o;have E:av ((cq a hp).J i L o/\b_ F w i o):=⟨j2,(b_.of (by rw[M];exact C.o.2.1)).trans p⟩;clear j2 p))
 go_wp2_with fail;go_ret2;exact⟨i,rfl,E.o.1,E.o.2⟩
theorem I8 (h:(cq a hp).J F S w)(R B I n:Int)(A:Nat)(k:A<12):
 Calls prog 40 #[aj hp,eU 13 R A B I n] w fun e w'=>e=.returned (.tuple #[ah (S.len a (S.s.rs.getD A 0)).1,ah (S.len a (S.s.rs.getD A 0)).2.1])/\Below w.heap.size w w':=by
 have c:=an w (cE 13 R A B I n)
 have d:=aL w (.cells #[.int .i64 13,.int .i64 R,.int .i64 (A:Int),.int .i64 B,.int .i64 I,.int .i64 n] 44)
 have g:=(cq a hp).below h c;obtain⟨h0,c0,c3,rt,_⟩:=eC g;obtain⟨r1,_⟩:=rt A k;have i:=(cq a hp).below g (aD _ (w.alloc (cE 13 R A B I n))).drew;have l:=IH i (S.s.rs.getD A 0)
 obtain⟨q0,q1,q,q3,G,H⟩:=fT d;have b:Below w.heap.size w (w.alloc (cE 13 R A B I n)).drew:=c.trans ((aD _ (w.alloc (cE 13 R A B I n))).drew.mono c.size)
 have J:(0:Int)<=(A:Int):=V;have K:(A:Int)<12:=V;have s:w.heap.size<(w.alloc (cE 13 R A B I n)).heap.size:=lt_of_some d;have fx:¬F w.heap.size:=fun t=>by have:=(cq a hp).lt h _ t;omega
 have j:av ((cq a hp).J F S (w.alloc (cE 13 R A B I n)).drew/\Below w.heap.size w (w.alloc (cE 13 R A B I n)).drew/\(w.alloc (cE 13 R A B I n)).drew.heap[w.heap.size]?=some (cE 13 R A B I n)/\¬F w.heap.size):=⟨i,b,d,fx⟩
 have L:av (Below w.heap.size w (w.alloc (cE 13 R A B I n))):=c;clear h g i rt c b d fx;have M:av (S.s.rs.getD A 0=S.s.rs.getD A 0):=rfl;generalize (S.len a (S.s.rs.getD A 0)).1=v at*;generalize (S.len a (S.s.rs.getD A 0)).2.1=cd at*;go_enter func40,ntmps40
 go_upto_region 22 with fail
 generalize w.alloc (cE 13 R A B I n)=w0 at*;generalize u:w.heap.size=f at*;have C:av (∀w',Below w0.drew.heap.size w0.drew w'->(w'.cell? ⟨hp,0,none⟩=some (.pointer (some ⟨a.pw,0,none⟩))/\w'.cell? ⟨a.pw,3,none⟩=some (.slice (some ⟨a.nb,0,none⟩) 12 12)/\w'.cell? ⟨a.nb,A,none⟩=some (.int .i64 (S.s.rs.getD A 0)))/\w'.cell? ⟨f,2,none⟩=some (.int .i64 (A:Int))):=fun w' m=>by
  obtain⟨g0,_,g3,D,_⟩:=eC ((cq a hp).below j.o.1 m)
  exact⟨⟨g0,g3,(D A k).1⟩,(m.cell (p:=am f 2) s).trans q⟩
 generalize S.s.rs.getD A 0=x at*
 go_region_held3 (fun w'=>w'.cell? (am hp 0)=some (aj a.pw)/\w'.cell? (am a.pw 3)=some (.slice (ak a.nb) 12 12)/\w'.cell? (am a.nb A)=some (ah x)/\w'.cell? (am f 2)=some (ah (A:Int))) (go_keep)
  (first
    |(go_at_call 101;refine l.mono ?_;clear l;rintro e o ⟨rfl,b⟩;obtain⟨⟨g0,g3,gr⟩,N⟩:=C.o o b;have E:av (Below f w o):=j.o.2.1.trans (b.mono (by have:=j.o.2.1.size;omega));clear b))
 go_wp2_with fail;go_ret2;exact⟨rfl,by rw[u];exact E.o⟩
theorem I9 (h:(cq a hp).J F S w)(R B I n:Int)(A:Nat)(hA:A<12):
 Calls prog 40 #[aj hp,eU 11 R A B I n] w fun e w'=>e=.returned (.tuple #[ah (if dT a.N S.s.y S.s.g S.s.ws (S.s.rs.getD A 0) I=0 then ld a.N S.s.y S.s.g S.s.ws (cf (S.s.rs.getD A 0)+1+I) else 0),ah (dT a.N S.s.y S.s.g S.s.ws (S.s.rs.getD A 0) I)])/\Below w.heap.size w w':=by
 have b:=an w (cE 11 R A B I n)
 have c:=aL w (.cells #[.int .i64 11,.int .i64 R,.int .i64 (A:Int),.int .i64 B,.int .i64 I,.int .i64 n] 44)
 have f:=(cq a hp).below h b;obtain⟨h0,c0,c3,rt,_⟩:=eC f;obtain⟨r1,_⟩:=rt A hA;have d:=(cq a hp).below f (aD _ (w.alloc (cE 11 R A B I n))).drew;have uL:=wF (S.s.rs.getD A 0) I (w.alloc (cE 11 R A B I n)).drew (eC d).c0 (jo d).1;obtain⟨q0,q1,q2,q3,q4,i⟩:=fT c;have hb2:Below w.heap.size w (w.alloc (cE 11 R A B I n)).drew:=b.trans ((aD _ (w.alloc (cE 11 R A B I n))).drew.mono b.size)
 have j:(0:Int)<=(A:Int):=V;have k:(A:Int)<12:=V;have lx:w.heap.size<(w.alloc (cE 11 R A B I n)).heap.size:=lt_of_some c;have fx:¬F w.heap.size:=fun g=>by have:=(cq a hp).lt h _ g;omega
 have HJ:av ((cq a hp).J F S (w.alloc (cE 11 R A B I n)).drew/\Below w.heap.size w (w.alloc (cE 11 R A B I n)).drew/\(w.alloc (cE 11 R A B I n)).drew.heap[w.heap.size]?=some (cE 11 R A B I n)/\¬F w.heap.size):=⟨d,hb2,c,fx⟩
 have l:av (Below w.heap.size w (w.alloc (cE 11 R A B I n))):=b;clear h f d rt b hb2 c fx;have m:av (S.s.rs.getD A 0=S.s.rs.getD A 0):=rfl;generalize (if dT a.N S.s.y S.s.g S.s.ws (S.s.rs.getD A 0) I=0 then ld a.N S.s.y S.s.g S.s.ws (cf (S.s.rs.getD A 0)+1+I) else 0)=v at*;generalize dT a.N S.s.y S.s.g S.s.ws (S.s.rs.getD A 0) I=cd at*;go_enter func40,ntmps40
 go_upto_region 20 with fail
 generalize w.alloc (cE 11 R A B I n)=w0 at*;exact AY
theorem I_ (h:(cq a hp).J F S w)(R I n:Int)(A B:Nat)(k:A<12)(hB:B<12):
 Calls prog 40 #[aj hp,eU 14 R A B I n] w fun e w'=>e=.returned (.tuple #[ah (if S.s.rs.getD A 0=S.s.rs.getD B 0 then ew 1 1 else ew 1 0),ah 0])/\Below w.heap.size w w':=by
 have d:=an w (cE 14 R A B I n)
 have f:=aL w (.cells #[.int .i64 14,.int .i64 R,.int .i64 (A:Int),.int .i64 (B:Int),.int .i64 I,.int .i64 n] 44)
 have g:=(cq a hp).below h d;obtain⟨h0,c0,c3,rt,_⟩:=eC g;obtain⟨r1,_⟩:=rt A k;obtain⟨D,_⟩:=rt B hB;obtain⟨q0,q1,s,q3,E,G⟩:=fT f;have c:Below w.heap.size w (w.alloc (cE 14 R A B I n)).drew:=d.trans ((aD _ (w.alloc (cE 14 R A B I n))).drew.mono d.size)
 have H:(0:Int)<=(A:Int):=V;have J:(A:Int)<12:=V;have K:(0:Int)<=(B:Int):=V;have L:(B:Int)<12:=V;have l:=IG (S.s.rs.getD A 0) (S.s.rs.getD B 0) (w.alloc (cE 14 R A B I n)).drew;have m:w.heap.size<(w.alloc (cE 14 R A B I n)).heap.size:=lt_of_some f;have i:av ((cq a hp).J F S (w.alloc (cE 14 R A B I n)).drew/\Below w.heap.size w (w.alloc (cE 14 R A B I n)).drew/\(w.alloc (cE 14 R A B I n)).drew.heap[w.heap.size]?=some (cE 14 R A B I n)):=⟨(cq a hp).below g (aD _ (w.alloc (cE 14 R A B I n))).drew,c,f⟩
 clear h g rt d c f;have M:av (S.s.rs.getD A 0=S.s.rs.getD A 0):=rfl;generalize (if S.s.rs.getD A 0=S.s.rs.getD B 0 then ew 1 1 else ew 1 0)=v at*;go_enter func40,ntmps40
 go_upto_region 24 with fail
 generalize w.alloc (cE 14 R A B I n)=w0 at*;generalize t:w.heap.size=b at*;have u:av (∀w',Below w0.drew.heap.size w0.drew w'->(w'.cell? ⟨hp,0,none⟩=some (.pointer (some ⟨a.pw,0,none⟩))/\w'.cell? ⟨a.pw,3,none⟩=some (.slice (some ⟨a.nb,0,none⟩) 12 12)/\w'.cell? ⟨a.nb,A,none⟩=some (.int .i64 (S.s.rs.getD A 0))/\w'.cell? ⟨a.nb,B,none⟩=some (.int .i64 (S.s.rs.getD B 0)))/\w'.cell? ⟨b,2,none⟩=some (.int .i64 (A:Int))/\w'.cell? ⟨b,3,none⟩=some (.int .i64 (B:Int))):=fun w' j=>by
  obtain⟨g0,_,g3,o,_⟩:=eC ((cq a hp).below i.o.1 j)
  exact⟨⟨g0,g3,(o A k).1,(o B hB).1⟩,(j.cell (p:=am b 2) m).trans s,(j.cell (p:=am b 3) m).trans q3⟩
 generalize S.s.rs.getD A 0=x at*;generalize S.s.rs.getD B 0=y at*
 go_region_held3 (fun w'=>w'.cell? (am hp 0)=some (aj a.pw)/\w'.cell? (am a.pw 3)=some (.slice (ak a.nb) 12 12)/\w'.cell? (am a.nb A)=some (ah x)/\w'.cell? (am a.nb B)=some (ah y)/\w'.cell? (am b 2)=some (ah (A:Int))/\w'.cell? (am b 3)=some (ah (B:Int))) (go_keep)
  (first
    |(go_at_call 102;refine l.mono ?_;clear l;rintro e q ⟨rfl,c⟩;obtain⟨⟨g0,g3,gr,N⟩,O,P⟩:=u.o q c;have C:av (Below b w q):=i.o.2.1.trans (c.mono (by have:=i.o.2.1.size;omega));clear c))
 go_wp2_with fail;go_ret2;exact⟨rfl,by rw[t];exact C.o⟩
theorem Ja (R A B I n:Int)(w:au)(hp:Nat):
 Calls prog 40 #[aj hp,eU 2 R A B I n] w fun e w'=>e=.returned (.tuple #[ah 2,ah 0])/\Below w.heap.size w w':=by
 have b:=an w (cE 2 R A B I n)
 go_enter func40,ntmps40;go_wp2_with fail;refine(rU _).mono ?_;rintro e w1 ⟨rfl,hw⟩
 have hw:=hw.symm;subst hw;go_wp2_with fail;go_ret2;exact⟨rfl,b⟩
theorem Jb (h:(cq a hp).J F S w){j:Nat}(ok:dV a S j)(i:cI a S.s)(k R A B I n:Int)(hk:dF k R A B n=0)(K:k≠9)(L:k≠12)(M:k≠15)(N:k≠16):
 Calls prog 40 #[aj hp,eU k R A B I n] w fun e w'=>∃l,e=.returned (.tuple #[ah (S.rt a k A.toNat B.toNat I n).1,ah (S.rt a k A.toNat B.toNat I n).2.1])/\(cq a hp).J l (S.rt a k A.toNat B.toNat I n).2.2 w'/\b_ F w l w':=by
 have hq:S.q.length+S.r.length<=90000:=by have:=ok.ez;omega
 have o:=ok.qW i;have low:∀{Q:Int×Int×ck},(Calls prog 40 #[aj hp,eU k R A B I n] w fun e w'=>e=.returned (.tuple #[ah Q.1,ah Q.2.1])/\Below w.heap.size w w')->Q.2.2=S->Calls prog 40 #[aj hp,eU k R A B I n] w fun e w'=>∃l,e=.returned (.tuple #[ah Q.1,ah Q.2.1])/\(cq a hp).J l Q.2.2 w'/\b_ F w l w':=fun {Q} P e=>by
  refine P.mono ?_;rintro U w' ⟨rfl,i⟩
  rw[e];exact⟨F,rfl,(cq a hp).below h i,b_.of i⟩
 have g:(cP k=3\/cP k=6\/cP k=7)->∃c:Nat,A=c/\c<12:=fun p=>by have:=nD hk p;exact⟨A.toNat,V,V⟩
 have fQ:(cP k=6\/cP k=7)->∃f:Nat,B=f/\f<12:=fun p=>by have:=nE hk p;exact⟨B.toNat,V,V⟩
 have rm:∀m:Nat,m<=12->(S.room a (1+m)).1=0->(S.room a (1+m)).2.s.y+1+m<=a.N:=fun m hm e=>by have:=(ok.room i (1+m)).2.2.1 e V;omega
 unfold ck.rt;by_cases q:k=1
 ·rw[aH q];subst q;exact low (AR R A B I n w hp) rfl
 rw[aE q];by_cases s:k=3
 ·rw[aH s];subst s;obtain⟨c,rfl,d⟩:=g aa;rw[Int.toNat_natCast];exact low (I6 h R B I n c d) rfl
 rw[aE s];by_cases t:k=4
 ·rw[aH t];subst t;obtain⟨c,rfl,d⟩:=g aa;obtain⟨f,rfl,hB⟩:=fQ aa;rw[Int.toNat_natCast,Int.toNat_natCast];exact I1 h R I n c f d hB hq o (rm 2 V)
 rw[aE t];by_cases u:k=5
 ·rw[aH u];subst u;obtain⟨c,rfl,d⟩:=g aa;have J:hc 2 n=0:=AX hk;have J:=iE 2 n J;obtain⟨n,rfl⟩:=Int.eq_ofNat_of_zero_le (show 0<=n by omega)
  rw[Int.toNat_natCast];exact I5 h R B I c n d V hq o (rm n V)
 rw[aE u];by_cases v:k=6
 ·rw[aH v];subst v;obtain⟨c,rfl,d⟩:=g aa;obtain⟨f,rfl,hB⟩:=fQ aa;rw[Int.toNat_natCast,Int.toNat_natCast];exact I2 h R I n c f d hB hq o (rm 2 V)
 rw[aE v];by_cases x:k=7
 ·rw[aH x];subst x;obtain⟨c,rfl,d⟩:=g aa;obtain⟨f,rfl,hB⟩:=fQ aa;rw[Int.toNat_natCast,Int.toNat_natCast];exact I3 h R I n c f d hB hq o (rm 2 V)
 rw[aE x];by_cases C:k=8
 ·rw[aH C];subst C;exact I4 h R A B I n hq o (rm 0 V)
 rw[aE C];by_cases D:k=10
 ·rw[aH D];subst D;obtain⟨c,rfl,d⟩:=g aa;rw[Int.toNat_natCast];exact I7 h R B I n c d V
 rw[aE D];by_cases E:k=11
 ·rw[aH E];subst E;obtain⟨c,rfl,d⟩:=g aa;rw[Int.toNat_natCast];exact low (I9 h R B I n c d) rfl
 rw[aE E];by_cases G:k=13
 ·rw[aH G];subst G;obtain⟨c,rfl,d⟩:=g aa;rw[Int.toNat_natCast];exact low (I8 h R B I n c d) (by unfold ck.len;split<;>rfl)
 rw[aE G];by_cases H:k=14
 ·rw[aH H];subst H;obtain⟨c,rfl,d⟩:=g aa;obtain⟨f,rfl,hB⟩:=fQ aa;rw[Int.toNat_natCast,Int.toNat_natCast];exact low (I_ h R I n c f d hB) rfl
 rw[aE H];have O:k=2:=by
  rcases oD k with b|b|b|b|b|b|b|b|b|b|b|b|b|b|b|b|b
  all_goals
   first
    |exact b
    |exact absurd b q
    |exact absurd b s
    |exact absurd b t
    |exact absurd b u
    |exact absurd b v
    |exact absurd b x
    |exact absurd b C
    |exact absurd b K
    |exact absurd b D
    |exact absurd b E
    |exact absurd b L
    |exact absurd b G
    |exact absurd b H
    |exact absurd b M
    |exact absurd b N
    |(have p:=oE b;unfold dF at hk;rw[aH p] at hk;omega)
 subst O;exact low (Ja R A B I n w hp) rfl
end
section
variable {a:Wc}{hp:Nat}{F:Nat->Prop}{S:ck}{w:au}
theorem rE (h:(cq a hp).J F S w):cI a S.s:=by obtain⟨c,b,_⟩:=jN h;obtain⟨d,g1,_⟩:=lW b;obtain⟨_,_,_,_,_,rl,_⟩:=jh g1;have ha:=(jZ g1).1;exact⟨ha.hN,ha.hN',ha.hO,ha.hy,ha.hg,ha.hl,rl⟩
theorem Jd (h:(cq a hp).J F S w)(x i z:Int)(hM:S.s.M.length<=100000):
 Calls prog 27 #[aj a.pw,ah x,ah i,ah z] w fun e w'=>∃b,e=.returned (ah (dT a.N S.s.y S.s.g S.s.ws x i))/\(cq a hp).J b (S.set a x i z) w'/\b_ F w b w':=by
 obtain⟨l,c,_,d⟩:=jN h;obtain⟨m,g1,g2⟩:=lW c;refine(G6 g1 x i z hM).mono ?_;rintro e w' ⟨rfl,f,g⟩
 obtain⟨n,j2,j⟩:=g2 _ _ _ f g;obtain⟨k,cy,t3⟩:=d _ _ _ j2 j;exact⟨k,rfl,cy,t3⟩
theorem Je {k R A B n:Int}(hc:dF k R A B n=0)(c:k≠9)(d:k≠12)(e:k≠15)(f:k≠16):cP k=1\/cP k=3\/cP k=7:=by
 rcases oD k with b|b|b|b|b|b|b|b|b|b|b|b|b|b|b|b|b
 case' inr.inr.inr.inr.inr.inr.inr.inr.inr.inr.inr.inr.inr.inr.inr.inr=>
  have:=oE b;unfold dF at hc;rw[aH this] at hc;omega
 all_goals
  first
   |(subst b;decide)
   |(exfalso;omega)
theorem Jf (k R A B I n:Int)(hc:dF k R A B n≠0):
 Calls prog 13 #[aj hp,eU k R A B I n] w fun e w'=>e=.returned (ah (dF k R A B n))/\Below w.heap.size w w':=by
 have b:=an w (cE k R A B I n)
 have c:=lr k R A B I n (w.alloc (cE k R A B I n))
 have d:av (Below w.heap.size w (w.alloc (cE k R A B I n))):=b;have cb:(dF k R A B n==0)=false:=by simpa using hc
 generalize dF k R A B n=cd at*;clear b hc;go_enter func13,ntmps13;go_wp2_with fail;refine c.mono ?_;clear c;rintro e w1 ⟨rfl,f⟩
 have g:=d.o.trans (f.mono d.o.size)
 clear f;go_wp2_with fail;go_ret;exact⟨rfl,g⟩
theorem Jg (h:(cq a hp).J F S w)(R A B I n:Int)(hc:dF 15 R A B n=0)(hq:S.q.length+S.r.length<=90000):
 Calls prog 13 #[aj hp,eU 15 R A B I n] w fun e w'=>∃b,e=.returned (ah (S.code a))/\(cq a hp).J b (S.cut a) w'/\b_ F w b w':=by
 have c:=an w (cE 15 R A B I n)
 have d:=aL w (.cells #[.int .i64 15,.int .i64 R,.int .i64 A,.int .i64 B,.int .i64 I,.int .i64 n] 44)
 have PC:=lr 15 R A B I n (w.alloc (cE 15 R A B I n))
 rw[hc] at PC;have HJ:av ((cq a hp).J F S w/\Below w.heap.size w (w.alloc (cE 15 R A B I n))/\(w.alloc (cE 15 R A B I n)).heap[w.heap.size]?=some (cE 15 R A B I n)):=⟨h,c,d⟩
 have Bd:av (∀b w',(cq a hp).J b S w'->Calls prog 33 #[aj a.pw] w' fun e f=>∃F2,e=.returned (ah (S.code a))/\(cq a hp).J F2 (S.cut a) f/\b_ b w' F2 f):=fun b w' g=>A4 g hq;generalize S.cut a=S2 at*;generalize S.code a=cd at*;clear h c hc d;go_enter func13,ntmps13;go_wp2_with fail;generalize w.alloc (cE 15 R A B I n)=w0 at*;exact Bb
theorem Jh (h:(cq a hp).J F S w)(R A B I n:Int)(hc:dF 16 R A B n=0)(hq:S.q.length+S.r.length<=90000)(c:S.fD a=false->∃G,il (S.k5 a) (S.dG a) G/\G 0 (S.k5 a,0)):
 Calls prog 13 #[aj hp,eU 16 R A B I n] w fun e w'=>∃b,e=.returned (ah (S.hQ a))/\(cq a hp).J b (S.dA a) w'/\b_ F w b w':=by
 have d:=an w (cE 16 R A B I n)
 have f:=aL w (.cells #[.int .i64 16,.int .i64 R,.int .i64 A,.int .i64 B,.int .i64 I,.int .i64 n] 44)
 have PC:=lr 16 R A B I n (w.alloc (cE 16 R A B I n))
 rw[hc] at PC;have HJ:av ((cq a hp).J F S w/\Below w.heap.size w (w.alloc (cE 16 R A B I n))/\(w.alloc (cE 16 R A B I n)).heap[w.heap.size]?=some (cE 16 R A B I n)):=⟨h,d,f⟩
 have Bd:av (∀b w',(cq a hp).J b S w'->Calls prog 20 #[aj a.pw] w' fun e g=>∃F2,e=.returned (ah (S.hQ a))/\(cq a hp).J F2 (S.dA a) g/\b_ b w' F2 g):=fun b w' i=>A6 i hq c;generalize S.dA a=S2 at*;generalize S.hQ a=cd at*;clear h d hc f c;go_enter func13,ntmps13;go_wp2_with fail;generalize w.alloc (cE 16 R A B I n)=w0 at*;exact Bb
theorem Ji (h:(cq a hp).J F S w)(R I n:Int)(A B:Nat)(v:A<12)(hB:B<12)(hc:dF 9 R A B n=0)(K:S.r.length<=90000)(hq:S.q.length<=90000):
 Calls prog 13 #[aj hp,eU 9 R A B I n] w fun e w'=>∃b,e=.returned (ah (S.reg a (S.s.rs.getD A 0) (S.s.rs.getD B 0)).1)/\(cq a hp).J b (S.reg a (S.s.rs.getD A 0) (S.s.rs.getD B 0)).2 w'/\b_ F w b w':=by
 have C:=an w (cE 9 R A B I n)
 have D:=aL w (.cells #[.int .i64 9,.int .i64 R,.int .i64 (A:Int),.int .i64 (B:Int),.int .i64 I,.int .i64 n] 44)
 have i:=lr 9 R A B I n (w.alloc (cE 9 R A B I n))
 rw[hc] at i;have d:av ((cq a hp).J F S w/\Below w.heap.size w (w.alloc (cE 9 R A B I n))/\(w.alloc (cE 9 R A B I n)).heap[w.heap.size]?=some (cE 9 R A B I n)/\¬F w.heap.size):=⟨h,C,D,fun L=>by have:=(cq a hp).lt h _ L;omega⟩
 have ad:(0:Int)<=(A:Int):=V;have ag:(A:Int)<12:=V;have ai:(0:Int)<=(B:Int):=V;have al:(B:Int)<12:=V;have M:av (∀b w',(cq a hp).J b S w'->Calls prog 39 #[aj hp,ah (S.s.rs.getD A 0),ah (S.s.rs.getD B 0)] w' fun e E=>∃f,e=.returned (ah (S.reg a (S.s.rs.getD A 0) (S.s.rs.getD B 0)).1)/\(cq a hp).J f (S.reg a (S.s.rs.getD A 0) (S.s.rs.getD B 0)).2 E/\b_ b w' f E):=fun b w' N=>IJ N _ _ K hq;have O:av ((S.reg a (S.s.rs.getD A 0) (S.s.rs.getD B 0)).2.s.rs=S.s.rs):=I0 a S _ _;generalize S.reg a (S.s.rs.getD A 0) (S.s.rs.getD B 0)=g at*;obtain⟨cd,Q⟩:=g;dsimp only at*;clear h C hc D;go_enter func13,ntmps13;go_wp2_with fail;generalize w.alloc (cE 9 R A B I n)=w0 at*;generalize U:w.heap.size=c at*;refine i.mono ?_;clear i;rintro e w1 ⟨rfl,k⟩
 have l:Below w.heap.size w w1:=by rw[U];exact d.o.2.1.trans (k.mono (by have:=lt_of_some d.o.2.2.1;omega))
 have m:=(k.block c (lt_of_some d.o.2.2.1)).trans d.o.2.2.1;obtain⟨q0,q1,W,q3,ap,ar⟩:=fT m;have o:=(cq a hp).below d.o.1 l;obtain⟨h0,c0,c3,rt,_⟩:=eC o;obtain⟨r1,_⟩:=rt A v;obtain⟨ax,_⟩:=rt B hB;have G:=(cq a hp).below o (aD _ w1).drew;have P:=M.o F w1.drew G;have X:av (b_ F w F w1.drew):=(b_.of l).below (aD _ w1).drew;have H:=lt_of_some m;have Y:av (∀b w' p,(cq a hp).J b p w'->b_ F w1.drew b w'->p.s.rs=S.s.rs->(w'.cell? (am hp 0)=some (aj a.pw)/\w'.cell? (am a.pw 3)=some (.slice (ak a.nb) 12 12)/\w'.cell? (am a.nb A)=some (ah (S.s.rs.getD A 0))/\w'.cell? (am a.nb B)=some (ah (S.s.rs.getD B 0)))/\w'.cell? (am c 2)=some (ah (A:Int))/\w'.cell? (am c 3)=some (ah (B:Int))):=fun b w' p j t ab=>by obtain⟨g0,_,g3,q,_⟩:=eC j;rw[ab] at q;exact⟨⟨g0,g3,(q A v).1,(q B hB).1⟩,(aU (a:=⟨c,2,none⟩) (t.fr.block c H d.o.2.2.2)).trans W,(aU (a:=⟨c,3,none⟩) (t.fr.block c H d.o.2.2.2)).trans q3⟩
 clear k l o G rt m;have aB:av (S.s.rs.getD A 0=S.s.rs.getD A 0):=rfl;generalize S.s.rs.getD A 0=x at*;generalize S.s.rs.getD B 0=y at*;go_wp2_with fail
 go_region_held3 (fun w'=>w'.cell? (am hp 0)=some (aj a.pw)/\w'.cell? (am a.pw 3)=some (.slice (ak a.nb) 12 12)/\w'.cell? (am a.nb A)=some (ah x)/\w'.cell? (am a.nb B)=some (ah y)/\w'.cell? (am c 2)=some (ah (A:Int))/\w'.cell? (am c 3)=some (ah (B:Int))) (go_keep)
  (first
    |(go_at_call 39;refine P.mono ?_;clear P;rintro e s ⟨f,rfl,j2,u⟩;obtain⟨⟨g0,g3,gr,aF⟩,aR,aT⟩:=Y.o f s _ j2 u O.o;have J:av ((cq a hp).J f Q s/\b_ F w f s):=⟨j2,X.o.trans u⟩;clear j2 u))
 go_wp2_with fail;go_ret;exact⟨f,rfl,J.o.1,J.o.2⟩
theorem Jj (h:(cq a hp).J F S w)(R I n:Int)(A B:Nat)(v:A<12)(hB:B<12)(hc:dF 12 R A B n=0)(hM:S.s.M.length<=100000):
 Calls prog 13 #[aj hp,eU 12 R A B I n] w fun e w'=>∃c,e=.returned (ah (dT a.N S.s.y S.s.g S.s.ws (S.s.rs.getD A 0) I))/\(cq a hp).J c (S.set a (S.s.rs.getD A 0) I (S.s.rs.getD B 0)) w'/\b_ F w c w':=by
 have C:=an w (cE 12 R A B I n)
 have D:=aL w (.cells #[.int .i64 12,.int .i64 R,.int .i64 (A:Int),.int .i64 (B:Int),.int .i64 I,.int .i64 n] 44)
 have g:=lr 12 R A B I n (w.alloc (cE 12 R A B I n))
 rw[hc] at g;have d:av ((cq a hp).J F S w/\Below w.heap.size w (w.alloc (cE 12 R A B I n))/\(w.alloc (cE 12 R A B I n)).heap[w.heap.size]?=some (cE 12 R A B I n)/\¬F w.heap.size):=⟨h,C,D,fun J=>by have:=(cq a hp).lt h _ J;omega⟩
 have ab:(0:Int)<=(A:Int):=V;have ad:(A:Int)<12:=V;have ag:(0:Int)<=(B:Int):=V;have ai:(B:Int)<12:=V;have K:av (∀c w',(cq a hp).J c S w'->Calls prog 27 #[aj a.pw,ah (S.s.rs.getD A 0),ah I,ah (S.s.rs.getD B 0)] w' fun e E=>∃f,e=.returned (ah (dT a.N S.s.y S.s.g S.s.ws (S.s.rs.getD A 0) I))/\(cq a hp).J f (S.set a (S.s.rs.getD A 0) I (S.s.rs.getD B 0)) E/\b_ c w' f E):=fun c w' L=>Jd L _ _ _ hM;have M:av ((S.set a (S.s.rs.getD A 0) I (S.s.rs.getD B 0)).s.rs=S.s.rs):=rfl;generalize S.set a (S.s.rs.getD A 0) I (S.s.rs.getD B 0)=N at*;generalize dT a.N S.s.y S.s.g S.s.ws (S.s.rs.getD A 0) I=cd at*;clear h C hc D;go_enter func13,ntmps13;go_wp2_with fail;generalize w.alloc (cE 12 R A B I n)=w0 at*;generalize O:w.heap.size=b at*;refine g.mono ?_;clear g;rintro e w1 ⟨rfl,i⟩
 have k:Below w.heap.size w w1:=by rw[O];exact d.o.2.1.trans (i.mono (by have:=lt_of_some d.o.2.2.1;omega))
 have l:=(i.block b (lt_of_some d.o.2.2.1)).trans d.o.2.2.1;obtain⟨q0,q1,Q,q3,U,al⟩:=fT l;have m:=(cq a hp).below d.o.1 k;obtain⟨h0,c0,c3,rt,_⟩:=eC m;obtain⟨r1,_⟩:=rt A v;obtain⟨ap,_⟩:=rt B hB;have G:=(cq a hp).below m (aD _ w1).drew;have P:=K.o F w1.drew G;have W:av (b_ F w F w1.drew):=(b_.of k).below (aD _ w1).drew;have o:=lt_of_some l;have X:av (∀c w' p,(cq a hp).J c p w'->b_ F w1.drew c w'->p.s.rs=S.s.rs->(w'.cell? (am hp 0)=some (aj a.pw)/\w'.cell? (am a.pw 3)=some (.slice (ak a.nb) 12 12)/\w'.cell? (am a.nb A)=some (ah (S.s.rs.getD A 0))/\w'.cell? (am a.nb B)=some (ah (S.s.rs.getD B 0)))/\w'.cell? (am b 2)=some (ah (A:Int))/\w'.cell? (am b 3)=some (ah (B:Int))/\w'.cell? (am b 4)=some (ah I)):=fun c w' p j t Y=>by obtain⟨g0,_,g3,q,_⟩:=eC j;rw[Y] at q;exact⟨⟨g0,g3,(q A v).1,(q B hB).1⟩,(aU (a:=⟨b,2,none⟩) (t.fr.block b o d.o.2.2.2)).trans Q,(aU (a:=⟨b,3,none⟩) (t.fr.block b o d.o.2.2.2)).trans q3,(aU (a:=⟨b,4,none⟩) (t.fr.block b o d.o.2.2.2)).trans U⟩
 clear i k m G rt l;have ar:av (S.s.rs.getD A 0=S.s.rs.getD A 0):=rfl;generalize S.s.rs.getD A 0=x at*;generalize S.s.rs.getD B 0=y at*;go_wp2_with fail
 go_region_held3 (fun w'=>w'.cell? (am hp 0)=some (aj a.pw)/\w'.cell? (am a.pw 3)=some (.slice (ak a.nb) 12 12)/\w'.cell? (am a.nb A)=some (ah x)/\w'.cell? (am a.nb B)=some (ah y)/\w'.cell? (am b 2)=some (ah (A:Int))/\w'.cell? (am b 3)=some (ah (B:Int))/\w'.cell? (am b 4)=some (ah I)) (go_keep)
  (first
    |(go_at_call 27;refine P.mono ?_;clear P;rintro e s ⟨f,rfl,j2,u⟩;obtain⟨⟨g0,g3,gr,ax⟩,aB,aF,aR⟩:=X.o f s _ j2 u M.o;have H:av ((cq a hp).J f N s/\b_ F w f s):=⟨j2,W.o.trans u⟩;clear j2 u))
 go_wp2_with fail;go_ret;exact⟨f,rfl,H.o.1,H.o.2⟩
theorem Jm (h:(cq a hp).J F S w)(k R A B I n:Int)(hc:dF k R A B n=0)(k1:k≠9)(u:k≠12)(x:k≠15)(C:k≠16)(v cd:Int)(h0:cd≠0)(f:ck)
 (m:∀b w',(cq a hp).J b S w'->Calls prog 40 #[aj hp,eU k R A B I n] w' fun e d=>∃F2,e=.returned (.tuple #[ah v,ah cd])/\(cq a hp).J F2 f d/\b_ b w' F2 d):
 Calls prog 13 #[aj hp,eU k R A B I n] w fun e w'=>∃b,e=.returned (ah cd)/\(cq a hp).J b f w'/\b_ F w b w':=by
 have i:=an w (cE k R A B I n)
 have o:=aL w (.cells #[.int .i64 k,.int .i64 R,.int .i64 A,.int .i64 B,.int .i64 I,.int .i64 n] 44)
 have j:=lr k R A B I n (w.alloc (cE k R A B I n))
 rw[hc] at j;have c:av ((cq a hp).J F S (w.alloc (cE k R A B I n))/\Below w.heap.size w (w.alloc (cE k R A B I n))/\(w.alloc (cE k R A B I n)).heap[w.heap.size]?=some (cE k R A B I n)):=⟨(cq a hp).below h i,i,o⟩
 have p:av (∀b w',(cq a hp).J b S w'->Calls prog 40 #[aj hp,eU k R A B I n] w' fun e d=>∃F2,e=.returned (.tuple #[ah v,ah cd])/\(cq a hp).J F2 f d/\b_ b w' F2 d):=m;have J:(k==9)=false:=by simpa using k1
 have K:(k==12)=false:=by simpa using u
 have L:(k==15)=false:=by simpa using x
 have M:(k==16)=false:=by simpa using C
 have N:(cd==0)=false:=by simpa using h0
 clear h i o m hc;go_enter func13,ntmps13;go_wp2_with fail;generalize w.alloc (cE k R A B I n)=w0 at*;generalize D:w.heap.size=q at*;refine j.mono ?_;clear j;rintro e w1 ⟨rfl,g⟩
 have l:av ((cq a hp).J F S w1/\Below q w w1):=⟨(cq a hp).below c.o.1 g,c.o.2.1.trans (g.mono (by have:=lt_of_some c.o.2.2;omega))⟩
 obtain⟨q0,q1,E,q3,G,H⟩:=fT ((g.block q (lt_of_some c.o.2.2)).trans c.o.2.2)
 clear c g;go_wp2_with fail;refine(p.o F w1 l.o.1).mono ?_;clear p;rintro e s ⟨F2,rfl,j2,t⟩
 have HF:av ((cq a hp).J F2 f s/\b_ F w F2 s):=⟨j2,(b_.of (by rw[D];exact l.o.2)).trans t⟩
 clear j2 t l q0 q1 E q3 G H;exact pG
theorem Jn (h:(cq a hp).J F S w){j:Nat}(ok:dV a S j)(C:j<=100000)(k R A B I n:Int):
 Calls prog 13 #[aj hp,eU k R A B I n] w fun e w'=>∃i,e=.returned (ah (S.hd a k R A B I n).1)/\(cq a hp).J i (S.hd a k R A B I n).2 w'/\b_ F w i w':=by
 have l:=rE h;have D:=ok.ez;have hm:=ok.m;have hq:S.q.length+S.r.length<=90000:=V;unfold ck.hd;by_cases hc:dF k R A B n=0
 ·rw[aH hc];by_cases b:k=9
  ·rw[aH b];subst b;have m:=nD hc aa;have o:=nE hc aa;obtain⟨A,rfl⟩:=Int.eq_ofNat_of_zero_le m.1;obtain⟨B,rfl⟩:=Int.eq_ofNat_of_zero_le o.1;rw[Int.toNat_natCast,Int.toNat_natCast];exact Ji h R I n A B V V hc V V
  rw[aE b];by_cases d:k=12
  ·rw[aH d];subst d;have m:=nD hc aa;have o:=nE hc aa;obtain⟨A,rfl⟩:=Int.eq_ofNat_of_zero_le m.1;obtain⟨B,rfl⟩:=Int.eq_ofNat_of_zero_le o.1;rw[Int.toNat_natCast,Int.toNat_natCast];exact Jj h R I n A B V V hc V
  rw[aE d];by_cases f:k=15
  ·rw[aH f];subst f;exact Jg h R A B I n hc hq
  rw[aE f];by_cases e16:k=16
  ·rw[aH e16];subst e16;exact Jh h R A B I n hc hq (ok.qW l)
  rw[aE e16];have u:=xB hc (Je hc b d f e16)
  obtain⟨R,rfl⟩:=Int.eq_ofNat_of_zero_le u.1;rw[Int.toNat_natCast];have p:∀i w',(cq a hp).J i S w'->Calls prog 40 #[aj hp,eU k R A B I n] w' fun e q=>∃s,e=.returned (.tuple #[ah (S.rt a k A.toNat B.toNat I n).1,ah (S.rt a k A.toNat B.toNat I n).2.1])/\(cq a hp).J s (S.rt a k A.toNat B.toNat I n).2.2 q/\b_ i w' s q:=fun i w' x=>Jb x ok l k R A B I n hc b d f e16;generalize S.rt a k A.toNat B.toNat I n=g at*;obtain⟨v,cd,t⟩:=g;dsimp only at*;by_cases c:cd=0
  ·rw[aH c];subst c;exact A7 h k R A B I n V hc b d f e16 v t p
  ·rw[aE c];exact Jm h k R A B I n hc b d f e16 v cd c t p
 ·rw[aE hc];refine(Jf (hp:=hp) (w:=w) k R A B I n hc).mono ?_;rintro e w' ⟨rfl,l⟩
  exact⟨F,rfl,(cq a hp).below h l,b_.of l⟩
end
section
variable {a:Wc}{hp:Nat}{F:Nat->Prop}{S:ck}{w:au}
theorem Jp (c:(fq a).J F S w)(hq:S.q.length<=90000):
 Calls prog 18 #[aj a.pw] w fun e w'=>∃d b f g nc,e=.returned (.agg #[.slice d 12 b,.slice f g nc])/\cY w' d (fe a.N S.s.y S.s.g S.s.ws S.q S.s.rs).1/\Ln w' f (fe a.N S.s.y S.s.g S.s.ws S.q S.s.rs).2.2/\g=(fe a.N S.s.y S.s.g S.s.ws S.q S.s.rs).2.2.length/\Below w.heap.size w w':=by
 obtain⟨k,g1,_⟩:=lW c;obtain⟨c0,_,c2,c3,_,rl,_,Bf⟩:=jh g1;obtain⟨l,ar,m,⟨n,o,p,⟨own,cM,hM,hO⟩,b,j,q,_⟩,r0,r1,s⟩:=c;have hl:Lq w (ak a.nb) S.s.rs:=by exact Be
 have P:=G4 ⟨c0,c2,(jZ g1).1,b,gh j,hq⟩ (by rw[rl];exact c3) hl (by rw[rl];decide)
 rw[rl] at P;exact P
theorem Jq (h:(cq a hp).J F S w)(hq:S.q.length<=90000):
 Calls prog 18 #[aj a.pw] w fun e w'=>∃b f c d nc,e=.returned (.agg #[.slice b 12 f,.slice c d nc])/\cY w' b (fe a.N S.s.y S.s.g S.s.ws S.q S.s.rs).1/\Ln w' c (fe a.N S.s.y S.s.g S.s.ws S.q S.s.rs).2.2/\d=(fe a.N S.s.y S.s.g S.s.ws S.q S.s.rs).2.2.length/\Below w.heap.size w w':=by
 obtain⟨i,g,_⟩:=jN h;exact Jp g hq
end
def oc:ck:=⟨{(iM 16 8).1.s with rs:=(iM 16 8).1.s.rs.set 0 (ew 1 7)},[],[]⟩
def uP:ck:=⟨{oc.s with y:=oc.s.y+3,ws:=gg oc.s.rs oc.s.y (eM 16 oc.s.y 1 2 oc.s.ws) [0,0] 2},[],[]⟩
def kP:ck:=⟨{uP.s with rs:=uP.s.rs.set 1 (ew 3 0)},[],[]⟩
theorem Jr:dT 16 kP.s.y kP.s.g kP.s.ws (kP.s.rs.getD 1 0) 2=1:=by decide+kernel
theorem Jt:(fe 16 kP.s.y kP.s.g kP.s.ws kP.q kP.s.rs).2.2=[(1,[(1,7),(1,7)])]:=by decide+kernel
theorem Ju:vc 1 7=0:=aa
theorem Jv (x y:Value)(w:au):Sem.run prog (Instr.field 60 (.agg #[x,y]) 1) w=.ok y w:=by unfold Instr.field;simp[go_sem];rfl
theorem uQ (w:au):Calls prog 10 #[] w fun e w'=>e=.returned (.bool true)/\Below w.heap.size w w':=by
 go_enter func10,ntmps10;go_wp2_with fail;refine(AQ 16 8 w V V V).mono ?_;rintro e w1 ⟨a,hp,X,rfl,G,⟨k1,Y⟩,g1,b1⟩
 have q:=an w1 (.cells #[.int .i64 0,.int .i64 0] 28)
 have H:=Io ((cq a hp).below G q) 0 V 7 Ju;have d:=ir g1 (b1.trans (q.mono b1.size)) k1;go_wp2_with fail;generalize w1.alloc (.cells #[.int .i64 0,.int .i64 0] 28)=ab at*;refine H.mono ?_;rintro e w3 ⟨s,rfl,cy,t3⟩
 have f:av ((∀b,s b->w.heap.size<=b)/\Below w.heap.size w w3):=⟨fun b c=>(t3.sub b c).elim (d.o.1 b) (fun c=>aP d.o.2.1.size c),d.o.2.1.trans (t3.fr.below d.o.2.1.size d.o.1)⟩
 have k:=d.o.2.2;have I:Calls prog 13 #[aj hp,.agg #[ah 4,ah 1,ah 0,ah 0,ah 0,ah 0]] w3 fun e w'=>∃g,e=.returned (ah 0)/\(cq a hp).J g kP w'/\b_ s w3 g w':=by
  refine A7 cy 4 1 0 0 0 0 V (IP 1 0 0 V V V) V V V V (ew 3 0) uP (fun g w' l=>?_)
  have P:=IS l 1 0 0 V V (by rw[k];decide)
  rw[k] at P;exact P
 have t:=hide k;go_wp2_with fail;refine I.mono ?_;rintro e j ⟨J,rfl,cz,u⟩
 have v:av ((∀b,J b->w.heap.size<=b)/\Below w.heap.size w j):=⟨fun b c=>(u.sub b c).elim (f.o.1 b) (fun c=>aP f.o.2.size c),f.o.2.trans (u.fr.below f.o.2.size f.o.1)⟩
 have K:Calls prog 13 #[aj hp,.agg #[ah 11,ah 2,ah 1,ah 0,ah 2,ah 0]] j fun e w'=>e=.returned (ah 1)/\Below j.heap.size j w':=by
  refine IR cz 11 2 1 0 2 0 (IN 2 1 V V) V V V V 0 1 V (fun g w' l=>?_)
  have P:=IQ l 2 2 1 V;rw[t.o,Jr,aE V] at P;exact P
 have L:=hide cz;go_wp2_with fail;refine K.mono ?_;rintro e ad ⟨rfl,x⟩
 have A:=(cq a hp).below L.o x;have P:=Jq A aa;rw[t.o,Jt] at P;obtain⟨h0,_⟩:=eC A;have m:=hide (v.o.2.trans (x.mono v.o.2.size))
 go_wp2_with fail;refine P.mono ?_;clear P;rintro e M ⟨N,O,ag,ai,nc,rfl,_,B,rfl,C⟩
 obtain⟨b,o,al,fc,Q,lb,R,n,p⟩:=B.at (i:=0) aa;subst Q;have n:=n;have p:=p;obtain⟨b2,D,S,ap,E⟩:=p aa;subst S;have U:=(E 0 aa).2;rw[show o+0*2+1=o+1 by omega] at n;rw[show D+0*2+1=D+1 by omega] at U;have W:=hide (m.o.trans (C.mono m.o.size))
 have ar:=Jv (.slice N 12 O) (.slice (some ⟨b,o,none⟩) 1 nc)
 have F:=wX 9 M;rw[show cP 9=6 from rfl] at F;clear B C E m R;go_wp2_with fail;refine F.mono ?_;rintro e ax ⟨rfl,rfl⟩
 go_wp2_with fail;go_ret;exact⟨rfl,W.o⟩
section
variable {w:au}{pw p q N O y g:Nat}{ws:List Int}{sd:Nat}{v0:Value}{a1:Option Addr}{k1:Nat}{Q:List bZ}{l:List Int}{ra:Option Addr}{rc:Nat}
theorem Jw (hq:lD w pw p q N O y g ws sd v0 a1 k1 Q)(c3:w.cell? (am pw 3)=some (.slice ra l.length rc))(hl:Lq w ra l)(hm:l.length<=100000):
 Calls prog 18 #[aj pw] w fun e w'=>∃J al f K nc,e=.returned (.agg #[.slice J l.length al,.slice f K nc])/\nh w' w.heap.size J (fe N y g ws Q l).1/\lz w' w.heap.size f (fe N y g ws Q l).2.2/\K=(fe N y g ws Q l).2.2.length/\Below w.heap.size w w':=by
 have j:=an w (.cells #[.slice none 0 0,.slice none 0 0] 60)
 have M:=aL w (.cells #[.slice none 0 0,.slice none 0 0] 60)
 have E:=hq.low j;have ap:=hl.kf (Kf.of (B:=0) j)
 have S:=aK w _ c3;have U:=(j.cell (p:=am pw 3) S).trans c3;have ar:w.heap.size<(w.alloc (.cells #[.slice none 0 0,.slice none 0 0] 60)).heap.size:=Z;have P:=wU E.c0 E.ar;have bp:=hq.ar.hN';have br:=hq.ar.hy;have bs:=hq.ar.hO;have bt:=hq.ar.hg;have ax:∀a∈dS N y g ws++dw N y g ws,0<=a/\a<2000:=fun a ha=>by
  rcases List.mem_append.1 ha with ha|ha
  ·have:=mz a ha;omega
  ·have:=oA a ha;omega
 have aB:(dS N y g ws++dw N y g ws).length<=100000:=by exact zx
 have aF:av (∀(o co:Nat)(w1:au),Wk (w.alloc (.cells #[.slice none 0 0,.slice none 0 0] 60)) w1 o co pw (dS N y g ws++dw N y g ws) ([],[]) (.slice none 0 0) []->Calls prog 48 #[aj o,.slice ra l.length rc] w1 fun e w'=>∃aR F a2 c2,e=.returned (.slice a2 l.length c2)/\w'.ownsRow w1.heap.size 77 2 (.slice a2 l.length c2) l.length (ev (fe N y g ws Q l).1)/\Wk (w.alloc (.cells #[.slice none 0 0,.slice none 0 0] 60)) w' o co pw (dS N y g ws++dw N y g ws) (fe N y g ws Q l).2 aR F/\e9 (w.alloc (.cells #[.slice none 0 0,.slice none 0 0] 60)) w1 [] w' F/\(∀k,fA F k->some k≠(Value.slice a2 l.length c2).ownBlock)):=
  fun o co w1 h1=>sw (sx E ax aB _) (jb _) h1 (eX.start _) Z l ra rc (ap.kf (Kf.of (B:=0) h1.dt)) hm
 have W:av ((fe N y g ws Q l).1.length=l.length):=kh _ _ _ _;generalize fe N y g ws Q l=R at*;obtain⟨bx,s⟩:=R;generalize dS N y g ws++dw N y g ws=T at*;go_enter func18,ntmps18;go_wp2_with fail;refine P.mono ?_;rintro e w1 ⟨o,co,rfl,h1⟩
 have aT:=(h1.dt.cell (p:=am pw 3) (aM S j.size)).trans U;have G:=hide h1;go_wp2_with fail;refine(aF.o o co w1 G.o).mono ?_;rintro e w2 ⟨bY,m,a2,c2,rfl,t,d,X,_⟩
 obtain⟨f,nc,aV⟩:=dQ d.row;subst aV;have bZ:=d.cells.2.2.1;have Y:=j.trans (d.dt.mono j.size)
 have n:=(d.dt.block _ ar).trans M;have y0:w2.cell? (am w.heap.size 0)=some (.slice none 0 0):=ay n
 have y1:w2.cell? (am w.heap.size 1)=some (.slice none 0 0):=ay n
 have b0:w2.frozen? (am w.heap.size 0)=false:=az n
 have b1:w2.frozen? (am w.heap.size 1)=false:=az n
 have l2:=lt_of_some n;have a0:=dC d t;have a3:=hide d.len;have bb:=hide Y;have ab:=hide n;have ad:w.heap.size<=w1.heap.size:=by
  have:=G.o.dt.size;simp at this
  omega
 have bd:av (∀k,fA m k->w.heap.size<=k):=fun k hk=>(X.2 k hk).elim (fun⟨x,C,_⟩=>by cases C) (fun be=>aP ad be)
 clear d t X Y n j M aT U G;go_wp2_with fail;obtain⟨u,hW0⟩:∃u,u=(w2.setCell ⟨w.heap.size,0,none⟩ (.slice a2 l.length c2)).setCell ⟨w.heap.size,1,none⟩ (.slice f m.length nc):=⟨_,rfl⟩
 rw[<-hW0];have g0:u.cell? (am w.heap.size 0)=some (.slice a2 l.length c2):=by exact kV
 have g1:u.cell? (am w.heap.size 1)=some (.slice f m.length nc):=by exact zw
 have A:Fr (fun k=>k=w.heap.size) w2 u:=by rw[hW0];exact((Fr.refl (fun k=>k=w.heap.size) w2).set w.heap.size 0 _ rfl).set w.heap.size 1 _ rfl
 obtain⟨d,t⟩:=a0.o;have ag:∀{H:Option Addr}{L:List (Int×Int)},f7 w2 H L->cY u H L:=fun {H L} h=>h.1.keep A.size (fun hp b e=>by
  obtain⟨bg,b2,b3,bi,I⟩:=h.2 hp;rw[bi] at e;cases e;refine A.block _ (lt_of_some I) (fun c=>?_)
  have c:bg=w.heap.size:=c;rw[c,ab.o] at I;simp at I)
 refine bv (v:=.agg #[.slice a2 l.length c2,.slice f m.length nc]) (by simp[results,results18,go_sem,g0,g1]) rfl ⟨a2,c2,f,m.length,nc,rfl,⟨ag (f7.of (by rw[W.o];exact t)),fun hp=>?_⟩,⟨m,d.nd,fun x C=>ag (d.fl x C),bd.o,fun hp=>?_⟩,a3.o,bb.o.trans (A.below (Nat.le_of_lt l2) (fun k e=>Nat.le_of_eq (Eq.symm e)))⟩
 ·obtain⟨b,bl,e⟩:=dW t (by rw[<-W.o];exact hp)
  cases e;exact⟨b,0,rfl,aP ad (ce t b rfl).1⟩
 obtain⟨b,bl,e⟩:=dW d.row hp;cases e;have bn:=(ce d.row b rfl).1;simp at bn;obtain⟨b4,D⟩:=dZ d.row b rfl;have ai:b≠w.heap.size:=fun c=>by rw[c,ab.o] at D;simp at D
 refine⟨b,0,rfl,V,aM (lt_of_some D) A.size,fun i x C=>?_⟩
 obtain⟨n1,bo⟩:=ng m i x C;rw[bF];exact⟨(aU (a:=⟨b,i*2,none⟩) (A.block b (lt_of_some D) ai)).trans (e8 d.row n1).1,(aU (a:=⟨b,i*2+1,none⟩) (A.block b (lt_of_some D) ai)).trans (e8 d.row bo).1⟩
end
theorem Jx (n o:Int)(w:au)(h:n<16\/256<n\/o<0\/1024<o):
 Calls prog 11 #[ah n,ah o] w fun e w'=>e=.returned (.tuple #[.pointer none,.agg #[ah 1,ah (-1)]])/\Below w.heap.size w w':=by
 have g:=aL w (.cells #[.int .i64 0,.int .i64 0] 28)
 have P:=Hf n o (w.alloc (.cells #[.int .i64 0,.int .i64 0] 28)) h;go_enter func11,ntmps11;go_wp2_with fail;refine P.mono ?_;rintro e w1 ⟨rfl,d⟩
 have c:=(d.block w.heap.size Z).trans g;have hB1:=(an w (.cells #[.int .i64 0,.int .i64 0] 28)).trans (d.mono Z)
 have i:=d.size;simp at i;have y0:w1.cell? (am w.heap.size 0)=some (ah 0):=ay c
 have y1:w1.cell? (am w.heap.size 1)=some (ah 0):=ay c
 have m:w1.frozen? (am w.heap.size 0)=false:=az c
 have q:w1.frozen? (am w.heap.size 1)=false:=az c
 have l1:w.heap.size<w1.heap.size:=V;clear d g c;go_wp2_with fail
 go_region_law (fail)
 all_goals
  obtain⟨b,hW0⟩:∃b,b=(w1.setCell ⟨w.heap.size,0,none⟩ (.int .i64 1)).setCell ⟨w.heap.size,1,none⟩ (.int .i64 (-1)):=⟨_,rfl⟩
  rw[<-hW0];have s:b.heap.size=w1.heap.size:=by rw[hW0];simp[World.setCell]
  have g0:b.cell? (am w.heap.size 0)=some (ah 1):=by exact kV
  have g1:b.cell? (am w.heap.size 1)=some (ah (-1)):=by exact sr
  have j:Below w.heap.size w b:=by exact zv
  have f:=(an b (.cells #[.int .i64 1,.int .i64 (-1)] 28)).drew;have r0:=(f.cell (p:=am w.heap.size 0) (by show w.heap.size<_;omega)).trans g0;have r1:=(f.cell (p:=am w.heap.size 1) (by show w.heap.size<_;omega)).trans g1;have l:=j.trans (f.mono V)
  generalize (b.alloc (.cells #[.int .i64 1,.int .i64 (-1)] 28)).drew=t at*;go_wp2_with fail;refine bv (v:=.tuple #[.pointer none,.agg #[.int .i64 1,.int .i64 (-1)]]) (by simp[results,results11,go_sem,r0,r1]) rfl ⟨rfl,l⟩
section
variable {a:Wc}{hp:Nat}{F:Nat->Prop}{S:ck}{w:au}
theorem Jy (h:(cq a hp).J F S w)(hq:S.q.length<=90000):
 Calls prog 18 #[aj a.pw] w fun e w'=>∃c b d nc,e=.returned (.agg #[.slice c 12 b,.slice d (fe a.N S.s.y S.s.g S.s.ws S.q S.s.rs).2.2.length nc])/\nh w' w.heap.size c (fe a.N S.s.y S.s.g S.s.ws S.q S.s.rs).1/\lz w' w.heap.size d (fe a.N S.s.y S.s.g S.s.ws S.q S.s.rs).2.2/\Below w.heap.size w w':=by
 obtain⟨l,f,_⟩:=jN h;obtain⟨m,g1,_⟩:=lW f;obtain⟨c0,_,c2,c3,_,rl,_,Bf⟩:=jh g1;obtain⟨n,ar,o,⟨p,q,s,⟨own,cM,hM,hO⟩,b,g,t,_⟩,r0,r1,u⟩:=f;have hl:Lq w (ak a.nb) S.s.rs:=by exact Be
 have P:=Jw ⟨c0,c2,(jZ g1).1,b,gh g,hq⟩ (by rw[rl];exact c3) hl (by rw[rl];decide)
 rw[rl] at P;refine P.mono ?_;rintro e w' ⟨c,b,d,v,nc,rfl,q1,j,rfl,k⟩
 exact⟨c,b,d,nc,rfl,q1,j,k⟩
theorem Jz (h:(cq a hp).J F S w):Calls prog 15 #[aj a.p] w fun e w'=>e=.returned (.tuple #[ah S.s.y,ah S.s.g])/\Below w.heap.size w w':=
 kl w (jo h).1
end
section
variable {a:Wc}{S:ck}{Y G:List Int}
end
section
variable {a:Wc}{S:ck}{W:cj}{m:Nat->Int}{Y G:List Int}
theorem dM.vq {T:List cG}{v:Int×Int}(b:dM T v)(e:T.length<=10000):eV T v:=by
 refine⟨?_,b.t⟩
 by_cases c:v.1=3
 ·obtain⟨h0,d⟩:=b.t c;have:=d.1;rw[c];exact l_ _ h0 V
 ·exact b.o c
abbrev rF (W:cj)(x:Int):Prop:=0<=x/\cH W.T x.toNat
abbrev rG (m:Nat->Int)(x:Int):Int:=m x.toNat
theorem cw.uR (h:cw a S W m Y G)(d:cI a S.s)(e:W.T.length<=10000){v:Int×Int}(c:dM W.T v):ll (rF W) (rG m) (dI v) (wv m v):=by
 obtain⟨f,g⟩:=mM (c.vq e)
 obtain⟨_,i,j⟩:=h.dec d c;unfold ll;rw[f,g,i,j];by_cases b:v.1=3
 ·rw[aH b];exact aJ ⟨b,b,c.t b,rfl⟩
 ·rw[aE b];exact aI ⟨b,rfl,rfl⟩
theorem cw.bi (h:cw a S W m Y G)(d:cI a S.s)(j:W.T.length<=10000):py (rF W) (rG m) (tI W.T.length) (fI W.T) (fJ W.T W.wt) (Y++G) (fun v=>pk (ld a.N S.s.y S.s.g S.s.ws v)) (eN a.N S.s.y S.s.g S.s.ws S.q):=by
 refine⟨fun x b=>oU.2 ⟨b.1,by have:=b.2.1;have:=b.1;omega⟩,fun x b=>List.mem_append.2 (h.mem b.2),fun x y b hy e=>?_,fun x b=>?_,fun x b=>?_⟩
 ·have:=h.inj _ _ b.2 hy.2 e;have:=b.1;have:=hy.1;omega
 ·exact(h.parts b.2).1
 ·obtain⟨s,hi⟩:=b;obtain⟨i,rfl⟩:=Int.eq_ofNat_of_zero_le s;rw[Int.toNat_natCast] at hi;obtain⟨n,t,_⟩:=h.parts hi;have o:=h.mem hi;show i7 _ _ (eN a.N S.s.y S.s.g S.s.ws S.q (m ((i:Int)).toNat))
  unfold fJ;rw[Int.toNat_natCast];by_cases f:(W.T.getD i t0).1=5
  ·have hl:(W.T.getD i t0).2.1=[]:=by have g:=(h.hd i hi).1;rw[f] at g;simp[hc] at g;exact g
   rw[aH f,hl,List.map_nil,List.nil_append];unfold eN;rw[aH (by rw[n];exact f)];unfold g7;rw[h.wt,kY (we m) (fun e=>e.1==ew 3 (m i)) (fun e=>e.1==(i:Int)) W.wt (fun e he=>?_),List.map_map]
   ·have key:∀l:List bZ,(∀e∈l,im W.T e)->i7 (ll (rF W) (rG m)) (l.map (fun e=>ew 3 e.2)) (l.map ((·.2)∘we m)):=by
     intro l
     induction l with
     |nil=>intro _;trivial
     |cons e l u=>
      intro hl;have he:=hl e Z;refine⟨?_,u (fun x b=>hl x (aO _ b))⟩
      have:=h.uR d j (v:=(3,e.2)) ⟨fun _=>⟨he.h0,he.h⟩,fun c=>absurd rfl c⟩
      exact this
    exact key _ (fun e he=>h.dz e (List.mem_filter.1 he).1)
   ·have he:=h.dz e he;show(ew 3 _==ew 3 (m i))=(e.1==(i:Int))
    by_cases p:e.1=(i:Int)
    ·rw[p,Int.toNat_natCast];simp
    ·have n1:ew 3 (m e.1.toNat)≠ew 3 (m i):=fun c=>by have c1:=(h.word d he.g).2.2;rw[c,(h.word d hi).2.2] at c1;have:=h.inj _ _ hi he.g c1;have:=he.g0;omega
     rw[beq_false_of_ne n1,beq_false_of_ne p]
  ·rw[aE f,List.append_nil];have q:pk (ld a.N S.s.y S.s.g S.s.ws (m i))≠5:=by rw[n];exact f
   have l1:=zE h.kv.inv.full d.y1 S.q o q;rw[t] at l1;have l1:(eN a.N S.s.y S.s.g S.s.ws S.q (m i)).length=(W.T.getD i t0).2.1.length:=V;refine i7.of (by rw[aQ];exact l1.symm) (fun k hk=>?_)
   rw[aQ] at hk;rw[(Hz h.kv.inv.full d.y1 S.q o q).1 k V,jK dI _ k (0,0) 0 hk,h.fd i hi k hk];exact h.uR d j (h.fv i hi _ (getD_in hk))
theorem cw.view (h:cw a S W m Y G)(b:cI a S.s)(c:W.T.length<=10000):(fe a.N S.s.y S.s.g S.s.ws S.q S.s.rs).1=(eR.e_ W.T W.wt W.rs).1/\(fe a.N S.s.y S.s.g S.s.ws S.q S.s.rs).2.2=(eR.e_ W.T W.wt W.rs).2.2:=by
 obtain⟨d,e⟩:=h.kv.inv.full.lists b.n1 b.y1 b.o1 b.g1;have hl:i7 (ll (rF W) (rG m)) (W.rs.map dI) S.s.rs:=by
  rw[h.rs];refine i7.of Z (fun i hi=>?_)
  rw[aQ] at hi;rw[jK dI _ i (0,0) 0 hi,jK (wv m) _ i (0,0) 0 hi];exact h.uR b c (h.rv _ (getD_in hi))
 unfold fe eR.e_;rw[d,e];obtain⟨b1,b2,_⟩:=Hw (h.bi b c) hl (by rw[jU];exact aA _) bW
 exact⟨b1.symm,b2⟩
end
open Go.ChangeShapes Go.WideShapes Go.ChangeAt Go.RowKit Go.Joins Go.Deep W cg
theorem JA:prog.cellsOf 44=6:=ae
theorem JB:prog.cellsOf 3=1:=ae
theorem JC:prog.cellsOf 2=1:=ae
structure S6 where
 k:Int
 R:Int
 A:Int
 B:Int
 I:Int
 n:Int
def iH:S6:=⟨0,0,0,0,0,0⟩
def h_ (a:Int):Prop:=-9223372036854775808<=a/\a<=9223372036854775807
structure C6 (w:au)(b o:Nat)(s:S6):Prop where
 c0:w.cell? (am b o)=some (ah s.k)
 c1:w.cell? (am b (o+1))=some (ah s.R)
 c2:w.cell? (am b (o+2))=some (ah s.A)
 c3:w.cell? (am b (o+3))=some (ah s.B)
 c4:w.cell? (am b (o+4))=some (ah s.I)
 c5:w.cell? (am b (o+5))=some (ah s.n)
theorem C6.below {w w':au}{b o B:Nat}{s:S6}(h:C6 w b o s)(c:Below B w w')(hB:b<B):C6 w' b o s:=
 ⟨(c.cell hB).trans h.c0,(c.cell hB).trans h.c1,(c.cell hB).trans h.c2,(c.cell hB).trans h.c3,(c.cell hB).trans h.c4,(c.cell hB).trans h.c5⟩
def uS (w:au)(c:Option Addr)(l:List S6):Prop:=
 0<l.length->∃b o,c=some ⟨b,o,none⟩/\b<w.heap.size/\∀i,i<l.length->C6 w b (o+i*6) (l.getD i iH)/\h_ (l.getD i iH).k/\h_ (l.getD i iH).R/\h_ (l.getD i iH).A/\h_ (l.getD i iH).B/\h_ (l.getD i iH).I/\h_ (l.getD i iH).n
theorem JD {c:Type}{b:List c}(h:b.length=6):∃c0 c1 c2 c3 c4 c5,b=[c0,c1,c2,c3,c4,c5]:=by
 match b,h with
 |[c0,c1,c2,c3,c4,c5],_=>exact⟨c0,c1,c2,c3,c4,c5,rfl⟩
theorem od {a:Int}(h:(Lit.int .i64 a).wf=true):h_ a:=by
 have:IntKind.i64.min<=a/\a<=9223372036854775807:=by simpa[Lit.wf] using h
 exact⟨this.1,this.2⟩
theorem JE {H:Type}{enc:TypeId×Value->H}{W:au}{sp:Nat->Bool}{q:Bool}{t:Nat}{b:List Value}{x:DataW H×List MemPlace}
 (u:DataW.trod enc prog W 0 sp q t 44 b=some x):∃s:S6,b=[.int .i64 s.k,.int .i64 s.R,.int .i64 s.A,.int .i64 s.B,.int .i64 s.I,.int .i64 s.n]/\h_ s.k/\h_ s.R/\h_ s.A/\h_ s.B/\h_ s.I/\h_ s.n:=by
 obtain⟨xs,m,_,E,hl,v,hg⟩:=DataW.trod_struct underlying44 u;obtain⟨c0,c1,c2,c3,c4,c5,rfl⟩:=JD hl
 match xs,v with
 |[F,y1,G,J,K,L],_=>
  have t0:=hg 0 _ rfl;have c:=hg 1 _ rfl;have d:=hg 2 _ rfl;have t3:=hg 3 _ rfl;have e:=hg 4 _ rfl;have f:=hg 5 _ rfl;simp[JB,JC] at t0 c d t3 e f;obtain⟨k,g,_,w0⟩:=DataW.trod_int underlying3 t0;obtain⟨R,i,_,w1⟩:=DataW.trod_int underlying3 c;obtain⟨A,j,_,w⟩:=DataW.trod_int underlying3 d;obtain⟨B,l,_,w3⟩:=DataW.trod_int underlying3 t3;obtain⟨I,o,_,C⟩:=DataW.trod_int underlying3 e;obtain⟨n,p,_,D⟩:=DataW.trod_int underlying2 f;simp at g i j l o p;exact⟨⟨k,R,A,B,I,n⟩,by rw[g,i,j,l,o,p],od w0,od w1,od w,od w3,od C,od D⟩
theorem JF {H:Type}{enc:TypeId×Value->H}{W:au}{sp:Nat->Bool}{v:Bool}{w len A:Nat}{f:Option Addr}{x:DataW H×List MemPlace}
 (B:DataW.trod enc prog W 0 sp v w 36 [.slice f len A]=some x):∃l:List S6,l.length=len/\uS W f l:=by
 rcases open_slice underlying36 B with⟨e,_⟩|⟨z,l,c,m,n,D,K,e,g,hl,hm,C,_,E⟩
 ·simp at e;obtain⟨rfl,rfl,rfl⟩:=e;exact⟨[],rfl,fun h=>by simp at h⟩
 ·obtain⟨rfl,rfl,rfl⟩:=e;have L:len<=m:=by rw[C];split<;>omega
  have key:∀i,i<len->∃s:S6,(W.cell? (z.add (i*6))=some (ah s.k)/\W.cell? (z.add (i*6+1))=some (ah s.R)/\W.cell? (z.add (i*6+2))=some (ah s.A)/\W.cell? (z.add (i*6+3))=some (ah s.B)/\W.cell? (z.add (i*6+4))=some (ah s.I)/\W.cell? (z.add (i*6+5))=some (ah s.n))/\h_ s.k/\h_ s.R/\h_ s.A/\h_ s.B/\h_ s.I/\h_ s.n:=by
   intro i hi;obtain⟨M,k,F⟩:=E i V;rw[JA] at k;obtain⟨_,_,d⟩:=World.cells?_some k;obtain⟨s,rfl,g⟩:=JE F;refine⟨s,⟨?_,?_,?_,?_,?_,?_⟩,g⟩
   ·have:=d 0 V;rw[add_add] at this;simpa using this
   ·have:=d 1 V;rw[add_add] at this;simpa using this
   ·have:=d 2 V;rw[add_add] at this;simpa using this
   ·have:=d 3 V;rw[add_add] at this;simpa using this
   ·have:=d 4 V;rw[add_add] at this;simpa using this
   ·have:=d 5 V;rw[add_add] at this;simpa using this
  have:Inhabited S6:=⟨iH⟩
  obtain⟨S,p⟩:=choose_lt key;refine⟨(List.range len).map S,Z,fun hp=>?_⟩
  simp only [List.length_map,List.length_range] at hp⊢;obtain⟨b,o,G⟩:=z;have h0:=(p 0 hp).1.1;have I:G=none:=by simpa[Addr.add] using World.cell?_spot h0
  subst I;refine⟨b,o,rfl,aK W (⟨b,o,none⟩:Addr) (by simpa[Addr.add] using h0),fun i hi=>?_⟩
  obtain⟨⟨k0,k1,q,t,u,k5⟩,k6⟩:=p i hi;have ea:∀j,(⟨b,o,none⟩:Addr).add j=⟨b,o+j,none⟩:=fun j=>by simp[Addr.add]
  rw[ea] at k0 k1 q t u k5;have J:((List.range len).map S).getD i iH=S i:=by simp[hi]
  rw[J];exact⟨⟨k0,by exact k1,by exact q,by exact t,by exact u,by exact k5⟩,k6⟩
end Go.Proofs.YtjpjpjemibgjpaaGreat
