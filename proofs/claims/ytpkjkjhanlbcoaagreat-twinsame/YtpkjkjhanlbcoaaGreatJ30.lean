import Derived.Test.YtpkjkjhanlbcoaaGreatHe7
namespace Go.Proofs.YtpkjkjhanlbcoaaGreat
set_option maxRecDepth 100000
set_option maxHeartbeats 2000000
open Tryz
open Go.RowKit W Kp cf
theorem zN {P:Prop}(h:P:=by
 generalize hxb:w.heap.size=xb at*;refine PC.mono ?_;clear PC;rintro e w1 ⟨rfl,hb1⟩
 have hbt:aw w w1:=by rw[hxb];exact HJ.out.2.1.trans (hb1.mono (by have:=lt_of_some HJ.out.2.2;omega))
 obtain⟨q0,q1,q2,q3,q4,q5⟩:=eu ((hb1.block xb (lt_of_some HJ.out.2.2)).trans HJ.out.2.2)
 have J1:=(cw a hp).below HJ.out.1 hbt;obtain⟨h0,_⟩:=em J1;have P:=zO.out F w1 J1;have HT:ay (b8 F w F w1):=b8.of hbt;clear hb1 hbt J1 q1 q2 q3 q4 q5;go_wp2_with fail;refine P.mono ?_;clear P;rintro e w2 ⟨F2,rfl,qU,T2⟩
 have HF:ay ((cw a hp).J F2 S2 w2/\b8 F w F2 w2):=⟨qU,HT.out.trans T2⟩
 clear qU T2;go_wp2_with fail;go_ret;exact⟨F2,rfl,HF.out.1,HF.out.2⟩):P:=h
theorem zP {P:Prop}(h:P:=by rw[hW0];exact bf _ _ _ ((a5 w2 ⟨w.heap.size,0,none⟩ ⟨w.heap.size,1,none⟩ _ Z).trans y1)):P:=h
theorem zQ {P:Prop}(h:P:=by
 rw[aE,aE,List.getElem?_set];split
 ·rename_i e;subst e;rfl
 ·rfl):P:=h
section
variable {a:Wc}{hp:Nat}{F:Nat->Prop}{S:cq}{w:ax}
theorem pC (h:(cw a hp).J F S w):cI a S.s:=by obtain⟨c,b,_⟩:=kj h;obtain⟨d,g1,_⟩:=m2 b;obtain⟨_,_,_,_,_,rl,_⟩:=jO g1;have ha:=(kI g1).1;exact⟨ha.hN,ha.hN',ha.hO,ha.hy,ha.hg,ha.hl,rl⟩
theorem Hg (h:(cw a hp).J F S w)(x i z:Int)(hM:S.s.M.length<=100000):
 Calls prog 44 #[aj a.pw,ah x,ah i,ah z] w fun e w'=>∃b,e=.returned (ah (ej a.N S.s.y S.s.g S.s.ws x i))/\(cw a hp).J b (S.set a x i z) w'/\b8 F w b w':=by
 obtain⟨l,c,_,d⟩:=kj h;obtain⟨m,g1,g2⟩:=m2 c;refine(Ej g1 x i z hM).mono ?_;rintro e w' ⟨rfl,f,g⟩
 obtain⟨n,j2,j⟩:=g2 _ _ _ f g;obtain⟨k,cA,t3⟩:=d _ _ _ j2 j;exact⟨k,rfl,cA,t3⟩
theorem Hh {k R A B n:Int}(hc:dJ k R A B n=0)(c:k≠9)(d:k≠12)(e:k≠15)(f:k≠16):c8 k=1\/c8 k=3\/c8 k=7:=by
 rcases o4 k with b|b|b|b|b|b|b|b|b|b|b|b|b|b|b|b|b
 case' inr.inr.inr.inr.inr.inr.inr.inr.inr.inr.inr.inr.inr.inr.inr.inr=>
  have:=o5 b;unfold dJ at hc;rw[aI this] at hc;omega
 all_goals
  first
   |(subst b;decide)
   |(exfalso;omega)
theorem Hi (k R A B I n:Int)(hc:dJ k R A B n≠0):
 Calls prog 20 #[aj hp,dK k R A B I n] w fun e w'=>e=.returned (ah (dJ k R A B n))/\aw w w':=by
 have b:=au w (cz k R A B I n)
 have c:=jx k R A B I n (w.alloc (cz k R A B I n))
 have d:ay (aw w (w.alloc (cz k R A B I n))):=b;have cb:(dJ k R A B n==0)=false:=by simpa using hc
 generalize dJ k R A B n=cd at*;clear b hc;go_enter func20,ntmps20;go_wp2_with fail;refine c.mono ?_;clear c;rintro e w1 ⟨rfl,f⟩
 have g:=d.out.trans (f.mono d.out.size)
 clear f;go_wp2_with fail;go_ret;exact⟨rfl,g⟩
theorem Hj (h:(cw a hp).J F S w)(R A B I n:Int)(hc:dJ 15 R A B n=0)(hq:S.q.length+S.r.length<=90000):
 Calls prog 20 #[aj hp,dK 15 R A B I n] w fun e w'=>∃b,e=.returned (ah (S.code a))/\(cw a hp).J b (S.cut a) w'/\b8 F w b w':=by
 have c:=au w (cz 15 R A B I n)
 have d:=aN w (.cells #[.int .i64 15,.int .i64 R,.int .i64 A,.int .i64 B,.int .i64 I,.int .i64 n] 44)
 have PC:=jx 15 R A B I n (w.alloc (cz 15 R A B I n))
 rw[hc] at PC;have HJ:ay ((cw a hp).J F S w/\aw w (w.alloc (cz 15 R A B I n))/\(w.alloc (cz 15 R A B I n)).heap[w.heap.size]?=some (cz 15 R A B I n)):=⟨h,c,d⟩
 have zO:ay (∀b w',(cw a hp).J b S w'->Calls prog 50 #[aj a.pw] w' fun e f=>∃F2,e=.returned (ah (S.code a))/\(cw a hp).J F2 (S.cut a) f/\b8 b w' F2 f):=fun b w' g=>zC g hq;generalize S.cut a=S2 at*;generalize S.code a=cd at*;clear h c hc d;go_enter func20,ntmps20;go_wp2_with fail;generalize w.alloc (cz 15 R A B I n)=w0 at*;exact zN
theorem Hk (h:(cw a hp).J F S w)(R A B I n:Int)(hc:dJ 16 R A B n=0)(hq:S.q.length+S.r.length<=90000)(c:S.fM a=false->∃G,iD (S.k5 a) (S.dC a) G/\G 0 (S.k5 a,0)):
 Calls prog 20 #[aj hp,dK 16 R A B I n] w fun e w'=>∃b,e=.returned (ah (S.ig a))/\(cw a hp).J b (S.dy a) w'/\b8 F w b w':=by
 have d:=au w (cz 16 R A B I n)
 have f:=aN w (.cells #[.int .i64 16,.int .i64 R,.int .i64 A,.int .i64 B,.int .i64 I,.int .i64 n] 44)
 have PC:=jx 16 R A B I n (w.alloc (cz 16 R A B I n))
 rw[hc] at PC;have HJ:ay ((cw a hp).J F S w/\aw w (w.alloc (cz 16 R A B I n))/\(w.alloc (cz 16 R A B I n)).heap[w.heap.size]?=some (cz 16 R A B I n)):=⟨h,d,f⟩
 have zO:ay (∀b w',(cw a hp).J b S w'->Calls prog 37 #[aj a.pw] w' fun e g=>∃F2,e=.returned (ah (S.ig a))/\(cw a hp).J F2 (S.dy a) g/\b8 b w' F2 g):=fun b w' i=>zD i hq c;generalize S.dy a=S2 at*;generalize S.ig a=cd at*;clear h d hc f c;go_enter func20,ntmps20;go_wp2_with fail;generalize w.alloc (cz 16 R A B I n)=w0 at*;exact zN
theorem Hl (h:(cw a hp).J F S w)(R I n:Int)(A B:Nat)(v:A<12)(hB:B<12)(hc:dJ 9 R A B n=0)(hr:S.r.length<=90000)(hq:S.q.length<=90000):
 Calls prog 20 #[aj hp,dK 9 R A B I n] w fun e w'=>∃b,e=.returned (ah (S.reg a (S.s.rs.getD A 0) (S.s.rs.getD B 0)).1)/\(cw a hp).J b (S.reg a (S.s.rs.getD A 0) (S.s.rs.getD B 0)).2 w'/\b8 F w b w':=by
 have C:=au w (cz 9 R A B I n)
 have D:=aN w (.cells #[.int .i64 9,.int .i64 R,.int .i64 (A:Int),.int .i64 (B:Int),.int .i64 I,.int .i64 n] 44)
 have i:=jx 9 R A B I n (w.alloc (cz 9 R A B I n))
 rw[hc] at i;have d:ay ((cw a hp).J F S w/\aw w (w.alloc (cz 9 R A B I n))/\(w.alloc (cz 9 R A B I n)).heap[w.heap.size]?=some (cz 9 R A B I n)/\¬F w.heap.size):=⟨h,C,D,fun K=>by have:=(cw a hp).lt h _ K;omega⟩
 have ab:(0:Int)<=(A:Int):=V;have ad:(A:Int)<12:=V;have ag:(0:Int)<=(B:Int):=V;have ai:(B:Int)<12:=V;have L:ay (∀b w',(cw a hp).J b S w'->Calls prog 56 #[aj hp,ah (S.s.rs.getD A 0),ah (S.s.rs.getD B 0)] w' fun e E=>∃f,e=.returned (ah (S.reg a (S.s.rs.getD A 0) (S.s.rs.getD B 0)).1)/\(cw a hp).J f (S.reg a (S.s.rs.getD A 0) (S.s.rs.getD B 0)).2 E/\b8 b w' f E):=fun b w' M=>GK M _ _ hr hq;have N:ay ((S.reg a (S.s.rs.getD A 0) (S.s.rs.getD B 0)).2.s.rs=S.s.rs):=G1 a S _ _;generalize S.reg a (S.s.rs.getD A 0) (S.s.rs.getD B 0)=g at*;obtain⟨cd,O⟩:=g;dsimp only at*;clear h C hc D;go_enter func20,ntmps20;go_wp2_with fail;generalize w.alloc (cz 9 R A B I n)=w0 at*;generalize Q:w.heap.size=c at*;refine i.mono ?_;clear i;rintro e w1 ⟨rfl,k⟩
 have l:aw w w1:=by rw[Q];exact d.out.2.1.trans (k.mono (by have:=lt_of_some d.out.2.2.1;omega))
 have m:=(k.block c (lt_of_some d.out.2.2.1)).trans d.out.2.2.1;obtain⟨q0,q1,U,q3,al,am⟩:=eu m;have o:=(cw a hp).below d.out.1 l;obtain⟨h0,c0,c3,rt,_⟩:=em o;obtain⟨r1,_⟩:=rt A v;obtain⟨an,_⟩:=rt B hB;have G:=(cw a hp).below o (aH _ w1).drew;have P:=L.out F w1.drew G;have W:ay (b8 F w F w1.drew):=(b8.of l).below (aH _ w1).drew;have H:=lt_of_some m;have X:ay (∀b w' p,(cw a hp).J b p w'->b8 F w1.drew b w'->p.s.rs=S.s.rs->(w'.cell? (aq hp 0)=some (aj a.pw)/\w'.cell? (aq a.pw 3)=some (.slice (ak a.nb) 12 12)/\w'.cell? (aq a.nb A)=some (ah (S.s.rs.getD A 0))/\w'.cell? (aq a.nb B)=some (ah (S.s.rs.getD B 0)))/\w'.cell? (aq c 2)=some (ah (A:Int))/\w'.cell? (aq c 3)=some (ah (B:Int))):=fun b w' p j t Y=>by obtain⟨g0,_,g3,q,_⟩:=em j;rw[Y] at q;exact⟨⟨g0,g3,(q A v).1,(q B hB).1⟩,(aP (a:=⟨c,2,none⟩) (t.fr.block c H d.out.2.2.2)).trans U,(aP (a:=⟨c,3,none⟩) (t.fr.block c H d.out.2.2.2)).trans q3⟩
 clear k l o G rt m;have ao:ay (S.s.rs.getD A 0=S.s.rs.getD A 0):=rfl;generalize S.s.rs.getD A 0=x at*;generalize S.s.rs.getD B 0=y at*;go_wp2_with fail
 go_region_held3 (fun w'=>w'.cell? (aq hp 0)=some (aj a.pw)/\w'.cell? (aq a.pw 3)=some (.slice (ak a.nb) 12 12)/\w'.cell? (aq a.nb A)=some (ah x)/\w'.cell? (aq a.nb B)=some (ah y)/\w'.cell? (aq c 2)=some (ah (A:Int))/\w'.cell? (aq c 3)=some (ah (B:Int))) (go_keep)
  (first
    |(go_at_call 56;refine P.mono ?_;clear P;rintro e s ⟨f,rfl,j2,u⟩;obtain⟨⟨g0,g3,gr,ap⟩,ar,aB⟩:=X.out f s _ j2 u N.out;have J:ay ((cw a hp).J f O s/\b8 F w f s):=⟨j2,W.out.trans u⟩;clear j2 u))
 go_wp2_with fail;go_ret;exact⟨f,rfl,J.out.1,J.out.2⟩
theorem Hm (h:(cw a hp).J F S w)(R I n:Int)(A B:Nat)(v:A<12)(hB:B<12)(hc:dJ 12 R A B n=0)(hM:S.s.M.length<=100000):
 Calls prog 20 #[aj hp,dK 12 R A B I n] w fun e w'=>∃c,e=.returned (ah (ej a.N S.s.y S.s.g S.s.ws (S.s.rs.getD A 0) I))/\(cw a hp).J c (S.set a (S.s.rs.getD A 0) I (S.s.rs.getD B 0)) w'/\b8 F w c w':=by
 have C:=au w (cz 12 R A B I n)
 have D:=aN w (.cells #[.int .i64 12,.int .i64 R,.int .i64 (A:Int),.int .i64 (B:Int),.int .i64 I,.int .i64 n] 44)
 have g:=jx 12 R A B I n (w.alloc (cz 12 R A B I n))
 rw[hc] at g;have d:ay ((cw a hp).J F S w/\aw w (w.alloc (cz 12 R A B I n))/\(w.alloc (cz 12 R A B I n)).heap[w.heap.size]?=some (cz 12 R A B I n)/\¬F w.heap.size):=⟨h,C,D,fun J=>by have:=(cw a hp).lt h _ J;omega⟩
 have ab:(0:Int)<=(A:Int):=V;have ad:(A:Int)<12:=V;have ag:(0:Int)<=(B:Int):=V;have ai:(B:Int)<12:=V;have K:ay (∀c w',(cw a hp).J c S w'->Calls prog 44 #[aj a.pw,ah (S.s.rs.getD A 0),ah I,ah (S.s.rs.getD B 0)] w' fun e E=>∃f,e=.returned (ah (ej a.N S.s.y S.s.g S.s.ws (S.s.rs.getD A 0) I))/\(cw a hp).J f (S.set a (S.s.rs.getD A 0) I (S.s.rs.getD B 0)) E/\b8 c w' f E):=fun c w' L=>Hg L _ _ _ hM;have M:ay ((S.set a (S.s.rs.getD A 0) I (S.s.rs.getD B 0)).s.rs=S.s.rs):=rfl;generalize S.set a (S.s.rs.getD A 0) I (S.s.rs.getD B 0)=N at*;generalize ej a.N S.s.y S.s.g S.s.ws (S.s.rs.getD A 0) I=cd at*;clear h C hc D;go_enter func20,ntmps20;go_wp2_with fail;generalize w.alloc (cz 12 R A B I n)=w0 at*;generalize O:w.heap.size=b at*;refine g.mono ?_;clear g;rintro e w1 ⟨rfl,i⟩
 have k:aw w w1:=by rw[O];exact d.out.2.1.trans (i.mono (by have:=lt_of_some d.out.2.2.1;omega))
 have l:=(i.block b (lt_of_some d.out.2.2.1)).trans d.out.2.2.1;obtain⟨q0,q1,Q,q3,U,al⟩:=eu l;have m:=(cw a hp).below d.out.1 k;obtain⟨h0,c0,c3,rt,_⟩:=em m;obtain⟨r1,_⟩:=rt A v;obtain⟨am,_⟩:=rt B hB;have G:=(cw a hp).below m (aH _ w1).drew;have P:=K.out F w1.drew G;have W:ay (b8 F w F w1.drew):=(b8.of k).below (aH _ w1).drew;have o:=lt_of_some l;have X:ay (∀c w' p,(cw a hp).J c p w'->b8 F w1.drew c w'->p.s.rs=S.s.rs->(w'.cell? (aq hp 0)=some (aj a.pw)/\w'.cell? (aq a.pw 3)=some (.slice (ak a.nb) 12 12)/\w'.cell? (aq a.nb A)=some (ah (S.s.rs.getD A 0))/\w'.cell? (aq a.nb B)=some (ah (S.s.rs.getD B 0)))/\w'.cell? (aq b 2)=some (ah (A:Int))/\w'.cell? (aq b 3)=some (ah (B:Int))/\w'.cell? (aq b 4)=some (ah I)):=fun c w' p j t Y=>by obtain⟨g0,_,g3,q,_⟩:=em j;rw[Y] at q;exact⟨⟨g0,g3,(q A v).1,(q B hB).1⟩,(aP (a:=⟨b,2,none⟩) (t.fr.block b o d.out.2.2.2)).trans Q,(aP (a:=⟨b,3,none⟩) (t.fr.block b o d.out.2.2.2)).trans q3,(aP (a:=⟨b,4,none⟩) (t.fr.block b o d.out.2.2.2)).trans U⟩
 clear i k m G rt l;have an:ay (S.s.rs.getD A 0=S.s.rs.getD A 0):=rfl;generalize S.s.rs.getD A 0=x at*;generalize S.s.rs.getD B 0=y at*;go_wp2_with fail
 go_region_held3 (fun w'=>w'.cell? (aq hp 0)=some (aj a.pw)/\w'.cell? (aq a.pw 3)=some (.slice (ak a.nb) 12 12)/\w'.cell? (aq a.nb A)=some (ah x)/\w'.cell? (aq a.nb B)=some (ah y)/\w'.cell? (aq b 2)=some (ah (A:Int))/\w'.cell? (aq b 3)=some (ah (B:Int))/\w'.cell? (aq b 4)=some (ah I)) (go_keep)
  (first
    |(go_at_call 44;refine P.mono ?_;clear P;rintro e s ⟨f,rfl,j2,u⟩;obtain⟨⟨g0,g3,gr,ao⟩,ap,ar,aB⟩:=X.out f s _ j2 u M.out;have H:ay ((cw a hp).J f N s/\b8 F w f s):=⟨j2,W.out.trans u⟩;clear j2 u))
 go_wp2_with fail;go_ret;exact⟨f,rfl,H.out.1,H.out.2⟩
theorem Hn (h:(cw a hp).J F S w)(k R A B I n:Int)(hc:dJ k R A B n=0)(k1:k≠9)(C:k≠12)(D:k≠15)(E:k≠16)(v cd:Int)(h0:cd≠0)(g:cq)
 (o:∀c w',(cw a hp).J c S w'->Calls prog 57 #[aj hp,dK k R A B I n] w' fun e f=>∃b,e=.returned (.tuple #[ah v,ah cd])/\(cw a hp).J b g f/\b8 c w' b f):
 Calls prog 20 #[aj hp,dK k R A B I n] w fun e w'=>∃c,e=.returned (ah cd)/\(cw a hp).J c g w'/\b8 F w c w':=by
 have j:=au w (cz k R A B I n)
 have p:=aN w (.cells #[.int .i64 k,.int .i64 R,.int .i64 A,.int .i64 B,.int .i64 I,.int .i64 n] 44)
 have l:=jx k R A B I n (w.alloc (cz k R A B I n))
 rw[hc] at l;have d:ay ((cw a hp).J F S (w.alloc (cz k R A B I n))/\aw w (w.alloc (cz k R A B I n))/\(w.alloc (cz k R A B I n)).heap[w.heap.size]?=some (cz k R A B I n)):=⟨(cw a hp).below h j,j,p⟩
 have q:ay (∀c w',(cw a hp).J c S w'->Calls prog 57 #[aj hp,dK k R A B I n] w' fun e f=>∃b,e=.returned (.tuple #[ah v,ah cd])/\(cw a hp).J b g f/\b8 c w' b f):=o;have L:(k==9)=false:=by simpa using k1
 have M:(k==12)=false:=by simpa using C
 have N:(k==15)=false:=by simpa using D
 have O:(k==16)=false:=by simpa using E
 have P:(cd==0)=false:=by simpa using h0
 clear h j p o hc;go_enter func20,ntmps20;go_wp2_with fail;generalize w.alloc (cz k R A B I n)=w0 at*;generalize G:w.heap.size=s at*;refine l.mono ?_;clear l;rintro e w1 ⟨rfl,i⟩
 have m:ay ((cw a hp).J F S w1/\Below s w w1):=⟨(cw a hp).below d.out.1 i,d.out.2.1.trans (i.mono (by have:=lt_of_some d.out.2.2;omega))⟩
 obtain⟨q0,q1,H,q3,J,K⟩:=eu ((i.block s (lt_of_some d.out.2.2)).trans d.out.2.2)
 clear d i;go_wp2_with fail;refine(q.out F w1 m.out.1).mono ?_;clear q;rintro e t ⟨b,rfl,j2,u⟩
 have x:ay ((cw a hp).J b g t/\b8 F w b t):=⟨j2,(b8.of (by rw[G];exact m.out.2)).trans u⟩
 clear j2 u m q0 q1 H q3 J K;go_wp2_with fail;go_ret;exact⟨b,rfl,x.out.1,x.out.2⟩
theorem Ho (h:(cw a hp).J F S w){j:Nat}(ok:dV a S j)(x:j<=100000)(k R A B I n:Int):
 Calls prog 20 #[aj hp,dK k R A B I n] w fun e w'=>∃i,e=.returned (ah (S.hd a k R A B I n).1)/\(cw a hp).J i (S.hd a k R A B I n).2 w'/\b8 F w i w':=by
 have hb:=pC h;have C:=ok.kQ;have hm:=ok.m;have hq:S.q.length+S.r.length<=90000:=V;unfold cq.hd;by_cases hc:dJ k R A B n=0
 ·rw[aI hc];by_cases b:k=9
  ·rw[aI b];subst b;have l:=lv hc aa;have m:=l4 hc aa;obtain⟨A,rfl⟩:=Int.eq_ofNat_of_zero_le l.1;obtain⟨B,rfl⟩:=Int.eq_ofNat_of_zero_le m.1;rw[Int.toNat_natCast,Int.toNat_natCast];exact Hl h R I n A B V V hc V V
  rw[aG b];by_cases d:k=12
  ·rw[aI d];subst d;have l:=lv hc aa;have m:=l4 hc aa;obtain⟨A,rfl⟩:=Int.eq_ofNat_of_zero_le l.1;obtain⟨B,rfl⟩:=Int.eq_ofNat_of_zero_le m.1;rw[Int.toNat_natCast,Int.toNat_natCast];exact Hm h R I n A B V V hc V
  rw[aG d];by_cases f:k=15
  ·rw[aI f];subst f;exact Hj h R A B I n hc hq
  rw[aG f];by_cases e16:k=16
  ·rw[aI e16];subst e16;exact Hk h R A B I n hc hq (ok.qI hb)
  rw[aG e16];have t:=x4 hc (Hh hc b d f e16)
  obtain⟨R,rfl⟩:=Int.eq_ofNat_of_zero_le t.1;rw[Int.toNat_natCast];have o:∀i w',(cw a hp).J i S w'->Calls prog 57 #[aj hp,dK k R A B I n] w' fun e p=>∃q,e=.returned (.tuple #[ah (S.rt a k A.toNat B.toNat I n).1,ah (S.rt a k A.toNat B.toNat I n).2.1])/\(cw a hp).J q (S.rt a k A.toNat B.toNat I n).2.2 p/\b8 i w' q p:=fun i w' u=>Hf u ok hb k R A B I n hc b d f e16;generalize S.rt a k A.toNat B.toNat I n=g at*;obtain⟨v,cd,s⟩:=g;dsimp only at*;by_cases c:cd=0
  ·rw[aI c];subst c;exact GO h k R A B I n V hc b d f e16 v s o
  ·rw[aG c];exact Hn h k R A B I n hc b d f e16 v cd c s o
 ·rw[aG hc];refine(Hi (hp:=hp) (w:=w) k R A B I n hc).mono ?_;rintro e w' ⟨rfl,hb⟩
  exact⟨F,rfl,(cw a hp).below h hb,b8.of hb⟩
end
section
variable {a:Wc}{hp:Nat}{F:Nat->Prop}{S:cq}{w:ax}
end
section
variable {w:ax}{pw p q N O y g:Nat}{ws:List Int}{sd:Nat}{v0:Value}{a1:Option Addr}{k1:Nat}{Q:List b7}{l:List Int}{ra:Option Addr}{rc:Nat}
theorem Hp (hq:mW w pw p q N O y g ws sd v0 a1 k1 Q)(c3:w.cell? (aq pw 3)=some (.slice ra l.length rc))(hl:Lq w ra l)(hm:l.length<=100000):
 Calls prog 25 #[aj pw] w fun e w'=>∃J am f K o,e=.returned (.agg #[.slice J l.length am,.slice f K o])/\nR w' w.heap.size J (iP N y g ws Q l).1/\lO w' w.heap.size f (iP N y g ws Q l).2.2/\K=(iP N y g ws Q l).2.2.length/\aw w w':=by
 have j:=au w (.cells #[.slice none 0 0,.slice none 0 0] 60)
 have M:=aN w (.cells #[.slice none 0 0,.slice none 0 0] 60)
 have G:=hq.low j;have an:=hl.kf (Kf.of (B:=0) j)
 have S:=aQ w _ c3;have U:=(j.cell (p:=aq pw 3) S).trans c3;have ao:w.heap.size<(w.alloc (.cells #[.slice none 0 0,.slice none 0 0] 60)).heap.size:=Z;have P:=Du G.c0 G.ar;have bp:=hq.ar.hN';have br:=hq.ar.hy;have bs:=hq.ar.hO;have bt:=hq.ar.hg;have ap:∀a∈ei N y g ws++dD N y g ws,0<=a/\a<2000:=fun a ha=>by
  rcases List.mem_append.1 ha with ha|ha
  ·have:=n5 a ha;omega
  ·have:=qb a ha;omega
 have ar:(ei N y g ws++dD N y g ws).length<=100000:=by have t:(ei N y g ws).length<=2000:=iL _ _;have bx:(dD N y g ws).length<=2000:=iL _ _;simp;omega
 have aB:ay (∀(u ch:Nat)(w1:ax),Wk (w.alloc (.cells #[.slice none 0 0,.slice none 0 0] 60)) w1 u ch pw (ei N y g ws++dD N y g ws) ([],[]) (.slice none 0 0) []->Calls prog 65 #[aj u,.slice ra l.length rc] w1 fun e w'=>∃aF H a2 c2,e=.returned (.slice a2 l.length c2)/\w'.ownsRow w1.heap.size 97 2 (.slice a2 l.length c2) l.length (ev (iP N y g ws Q l).1)/\Wk (w.alloc (.cells #[.slice none 0 0,.slice none 0 0] 60)) w' u ch pw (ei N y g ws++dD N y g ws) (iP N y g ws Q l).2 aF H/\fE (w.alloc (.cells #[.slice none 0 0,.slice none 0 0] 60)) w1 [] w' H/\(∀k,fp H k->some k≠(Value.slice a2 l.length c2).ownBlock)):=
  fun u ch w1 t=>xX (xY G ap ar _) (jI _) t (e9.start _) Z l ra rc (an.kf (Kf.of (B:=0) t.eH)) hm
 have W:ay ((iP N y g ws Q l).1.length=l.length):=nH _ _ _ _;generalize iP N y g ws Q l=R at*;obtain⟨bY,s⟩:=R;generalize ei N y g ws++dD N y g ws=T at*;go_enter func25,ntmps25;go_wp2_with fail;refine P.mono ?_;rintro e w1 ⟨u,ch,rfl,t⟩
 have aR:=(t.eH.cell (p:=aq pw 3) (aM S j.size)).trans U;have I:=hide t;go_wp2_with fail;refine(aB.out u ch w1 I.out).mono ?_;rintro e w2 ⟨bZ,m,a2,c2,rfl,A,d,X,_⟩
 obtain⟨f,o,aV⟩:=eE d.row;subst aV;have b0:=d.cells.2.2.1;have Y:=j.trans (d.eH.mono j.size)
 have n:=(d.eH.block _ ao).trans M;have y0:w2.cell? (aq w.heap.size 0)=some (.slice none 0 0):=by simp[World.cell?,n]
 have y1:w2.cell? (aq w.heap.size 1)=some (.slice none 0 0):=by simp[World.cell?,n]
 have b1:w2.frozen? (aq w.heap.size 0)=false:=by simp[World.frozen?,n]
 have b2:w2.frozen? (aq w.heap.size 1)=false:=by simp[World.frozen?,n]
 have l2:=lt_of_some n;have a0:=dq d A;have bb:=hide d.len;have bd:=hide Y;have ab:=hide n;have ag:w.heap.size<=w1.heap.size:=by
  have:=I.out.eH.size;simp at this
  omega
 have be:ay (∀k,fp m k->w.heap.size<=k):=fun k hk=>(X.2 k hk).elim (fun⟨x,E,_⟩=>by cases E) (fun bg=>aT ag bg)
 clear d A X Y n j M aR U I;go_wp2_with fail;obtain⟨C,hW0⟩:∃C,C=(w2.setCell ⟨w.heap.size,0,none⟩ (.slice a2 l.length c2)).setCell ⟨w.heap.size,1,none⟩ (.slice f m.length o):=⟨_,rfl⟩
 rw[<-hW0];have g0:C.cell? (aq w.heap.size 0)=some (.slice a2 l.length c2):=by exact lq
 have g1:C.cell? (aq w.heap.size 1)=some (.slice f m.length o):=by exact zP
 have D:Fr (fun k=>k=w.heap.size) w2 C:=by rw[hW0];exact((Fr.refl (fun k=>k=w.heap.size) w2).set w.heap.size 0 _ rfl).set w.heap.size 1 _ rfl
 obtain⟨d,A⟩:=a0.out;have ai:∀{ad:Option Addr}{L:List (Int×Int)},fj w2 ad L->dv C ad L:=fun {ad L} h=>h.1.keep D.size (fun hp b e=>by
  obtain⟨bi,b3,b4,bl,hb⟩:=h.2 hp;rw[bl] at e;cases e;refine D.block _ (lt_of_some hb) (fun c=>?_)
  have c:bi=w.heap.size:=c;rw[c,ab.out] at hb;simp at hb)
 refine a3 (v:=.agg #[.slice a2 l.length c2,.slice f m.length o]) (by simp[results,results25,go_sem,g0,g1]) rfl ⟨a2,c2,f,m.length,o,rfl,⟨ai (fj.of (by rw[W.out];exact A)),fun hp=>?_⟩,⟨m,d.nd,fun x E=>ai (d.fl x E),be.out,fun hp=>?_⟩,bb.out,bd.out.trans (D.below (Nat.le_of_lt l2) (fun k e=>Nat.le_of_eq (Eq.symm e)))⟩
 ·obtain⟨b,cap,e⟩:=eU A (by rw[<-W.out];exact hp)
  cases e;exact⟨b,0,rfl,aT ag (cn A b rfl).1⟩
 obtain⟨b,cap,e⟩:=eU d.row hp;cases e;have bn:=(cn d.row b rfl).1;simp at bn;obtain⟨b5,F⟩:=e5 d.row b rfl;have al:b≠w.heap.size:=fun c=>by rw[c,ab.out] at F;simp at F
 refine⟨b,0,rfl,V,aM (lt_of_some F) D.size,fun i x E=>?_⟩
 obtain⟨n1,bo⟩:=oM m i x E;rw[Nat.zero_add];exact⟨(aP (a:=⟨b,i*2,none⟩) (D.block b (lt_of_some F) al)).trans (kC d.row n1).1,(aP (a:=⟨b,i*2+1,none⟩) (D.block b (lt_of_some F) al)).trans (kC d.row bo).1⟩
end
theorem Hq (n o:Int)(w:ax)(h:n<16\/256<n\/o<0\/1024<o):
 Calls prog 18 #[ah n,ah o] w fun e w'=>e=.returned (.tuple #[.pointer none,.agg #[ah 1,ah (-1)]])/\aw w w':=by
 have g:=aN w (.cells #[.int .i64 0,.int .i64 0] 28)
 have P:=Ey n o (w.alloc (.cells #[.int .i64 0,.int .i64 0] 28)) h;go_enter func18,ntmps18;go_wp2_with fail;refine P.mono ?_;rintro e w1 ⟨rfl,d⟩
 have c:=(d.block w.heap.size Z).trans g;have hB1:=(au w (.cells #[.int .i64 0,.int .i64 0] 28)).trans (d.mono Z)
 have i:=d.size;simp at i;have y0:w1.cell? (aq w.heap.size 0)=some (ah 0):=by simp[World.cell?,c]
 have y1:w1.cell? (aq w.heap.size 1)=some (ah 0):=by simp[World.cell?,c]
 have m:w1.frozen? (aq w.heap.size 0)=false:=by simp[World.frozen?,c]
 have q:w1.frozen? (aq w.heap.size 1)=false:=by simp[World.frozen?,c]
 have l1:w.heap.size<w1.heap.size:=V;clear d g c;go_wp2_with fail
 go_region_law (fail)
 all_goals
  obtain⟨b,hW0⟩:∃b,b=(w1.setCell ⟨w.heap.size,0,none⟩ (.int .i64 1)).setCell ⟨w.heap.size,1,none⟩ (.int .i64 (-1)):=⟨_,rfl⟩
  rw[<-hW0];have s:b.heap.size=w1.heap.size:=by rw[hW0];simp[World.setCell]
  have g0:b.cell? (aq w.heap.size 0)=some (ah 1):=by exact lq
  have g1:b.cell? (aq w.heap.size 1)=some (ah (-1)):=by exact qc
  have j:aw w b:=by exact sY
  have f:=(au b (.cells #[.int .i64 1,.int .i64 (-1)] 28)).drew;have r0:=(f.cell (p:=aq w.heap.size 0) (by show w.heap.size<_;omega)).trans g0;have r1:=(f.cell (p:=aq w.heap.size 1) (by show w.heap.size<_;omega)).trans g1;have l:=j.trans (f.mono V)
  generalize (b.alloc (.cells #[.int .i64 1,.int .i64 (-1)] 28)).drew=t at*;go_wp2_with fail;refine a3 (v:=.tuple #[.pointer none,.agg #[.int .i64 1,.int .i64 (-1)]]) (by simp[results,results18,go_sem,r0,r1]) rfl ⟨rfl,l⟩
theorem Hr (n o:Nat)(w:ax)(h0:16<=n)(l:n<=256)(m:o<=1024):
 Calls prog 18 #[ah n,ah o] w fun e w'=>∃hp,e=.returned (.tuple #[aj hp,.agg #[ah 0,ah 0]])/\aw w w':=by
 have g:=au w (.cells #[.int .i64 0,.int .i64 0] 28)
 have P:=x0 n o (w.alloc (.cells #[.int .i64 0,.int .i64 0] 28)) h0 l m;have i:=aN w (.cells #[.int .i64 0,.int .i64 0] 28)
 have t:w.heap.size<(w.alloc (.cells #[.int .i64 0,.int .i64 0] 28)).heap.size:=Z;have j:=hide g;clear g;go_enter func18,ntmps18;go_wp2_with fail;generalize w.alloc (.cells #[.int .i64 0,.int .i64 0] 28)=w0 at*;generalize u:w.heap.size=fb at*;refine P.mono ?_;clear P;rintro e w1 ⟨pw,p,q,pc,cO,s,nb,rfl,x,hs,hr,hg,d⟩
 have c:=(d.block fb t).trans i;have y0:w1.cell? (aq fb 0)=some (ah 0):=by simp[World.cell?,c]
 have y1:w1.cell? (aq fb 1)=some (ah 0):=by simp[World.cell?,c]
 have z0:w1.frozen? (aq fb 0)=false:=by simp[World.frozen?,c]
 have E:w1.frozen? (aq fb 1)=false:=by simp[World.frozen?,c]
 have A:=lt_of_some c;have B:=hide (j.out.trans (d.mono V))
 clear x hs hr hg d i j c;go_wp2_with fail;obtain⟨b,hW1⟩:∃b,b=(w1.setCell ⟨fb,0,none⟩ (.int .i64 0)).setCell ⟨fb,1,none⟩ (.int .i64 0):=⟨_,rfl⟩
 rw[<-hW1];have v0:b.cell? (aq fb 0)=some (ah 0):=by exact s_
 have v1:b.cell? (aq fb 1)=some (ah 0):=by exact x3
 have C:Fr (fun k=>k=fb) w1 b:=by rw[hW1];exact((Fr.refl (fun k=>k=fb) w1).set fb 0 _ rfl).set fb 1 _ rfl
 have F:b.heap.size=w1.heap.size:=by rw[hW1];simp
 clear hW1;have f:=(au b (.cells #[.int .i64 0,.int .i64 0] 28)).alloc Z (.cells #[.pointer (some ⟨pw,0,none⟩)] 49)
 have g0:=(f.cell (p:=aq fb 0) (by show fb<_;omega)).trans v0;have g1:=(f.cell (p:=aq fb 1) (by show fb<_;omega)).trans v1;have D:=B.out.trans (C.below (Nat.le_of_lt A) (fun k e=>Nat.le_of_eq (Eq.symm e)))
 exact a3 (v:=.tuple #[aj (w1.heap.size+1),.agg #[ah 0,ah 0]]) (by simp only [results,results18];simp[go_sem,g0,g1]) rfl ⟨w1.heap.size+1,rfl,by rw[u];exact D.trans (f.mono V)⟩
section
variable {a:Wc}{hp:Nat}{F:Nat->Prop}{S:cq}{w:ax}
theorem Hs (h:(cw a hp).J F S w)(hq:S.q.length<=90000):
 Calls prog 25 #[aj a.pw] w fun e w'=>∃c b d f,e=.returned (.agg #[.slice c 12 b,.slice d (iP a.N S.s.y S.s.g S.s.ws S.q S.s.rs).2.2.length f])/\nR w' w.heap.size c (iP a.N S.s.y S.s.g S.s.ws S.q S.s.rs).1/\lO w' w.heap.size d (iP a.N S.s.y S.s.g S.s.ws S.q S.s.rs).2.2/\aw w w':=by
 obtain⟨n,g,_⟩:=kj h;obtain⟨o,g1,_⟩:=m2 g;obtain⟨c0,_,c2,c3,_,rl,_,j⟩:=jO g1;obtain⟨p,ar,q,⟨s,ad,cap,⟨own,cO,hM,hO⟩,b,k,t,_⟩,r0,r1,u⟩:=g;have hl:Lq w (ak a.nb) S.s.rs:=by
  have hr:=hM.rt;refine⟨fun _=>⟨a.nb,0,rfl,lt_of_some hr,fun i hi=>?_⟩,fun _=>⟨a.nb,0,_,rfl,hr⟩⟩
  rw[Nat.zero_add];exact(j i (by rw[<-rl];exact hi)).1
 have P:=Hp ⟨c0,c2,(kI g1).1,b,g7 k,hq⟩ (by rw[rl];exact c3) hl (by rw[rl];decide)
 rw[rl] at P;refine P.mono ?_;rintro e w' ⟨c,b,d,v,f,rfl,q1,l,rfl,m⟩
 exact⟨c,b,d,f,rfl,q1,l,m⟩
theorem Ht (h:(cw a hp).J F S w):Calls prog 22 #[aj a.p] w fun e w'=>e=.returned (.tuple #[ah S.s.y,ah S.s.g])/\aw w w':=
 kD w (lx h).1
end
def dH (L:List Bool)(v:Int×Int):Bool:=!(v.1==3)||L.getD v.2.toNat false
def t0:cD:=(0,[],false,false)
def jC (T:List cD)(wt:List b7)(X:Nat->Prop)(i:Nat)(v:Int×Int):Prop:=
 (((T.getD i t0).1=1\/(T.getD i t0).1=2)/\v∈(T.getD i t0).2.1)\/((T.getD i t0).1=3/\v=(T.getD i t0).2.1.getD 1 (0,0))\/
 ((T.getD i t0).1=4/\(((T.getD i t0).2.1.getD 0 (0,0)).1=3->X ((T.getD i t0).2.1.getD 0 (0,0)).2.toNat)/\v=(T.getD i t0).2.1.getD 1 (0,0))\/
 ((T.getD i t0).1=5/\∃e∈wt,e.1=i/\v=(3,e.2))
theorem jC.mono {T:List cD}{wt:List b7}{X Y:Nat->Prop}(b:∀i,X i->Y i){i:Nat}{v:Int×Int}(h:jC T wt X i v):jC T wt Y i v:=by
 rcases h with h|h|⟨d,e,f⟩|h
 ·exact aK h
 ·exact aJ (aK h)
 ·exact aJ (aJ (aK ⟨d,fun c=>b _ (e c),f⟩))
 ·exact aJ (aJ (aJ h))
def gX (T:List cD)(wt:List b7)(X:Nat->Prop):Prop:=∀i,i<T.length->X i->∀v,jC T wt X i v->v.1=3->X v.2.toNat
def ct (L:List Bool):Nat->Prop:=fun i=>L.getD i false=true
structure ou (T:List cD)(wt:List b7)(is out:List Bool):Prop where
 len:out.length=is.length
 up:∀i,ct is i->ct out i
 cl:gX T wt (ct out)
 lt:∀X,gX T wt X->(∀i,ct is i->X i)->∀i,ct out i->X i
theorem me {L:List Bool}{v:Int×Int}(h:dH L v=false):v.1=3/\L.getD v.2.toNat false=false:=by unfold dH at h;rw[Bool.or_eq_false_iff] at h;exact⟨by simpa using h.1,h.2⟩
theorem ng {L:List Bool}{v:Int×Int}(h:dH L v=true):v.1=3->ct L v.2.toNat:=fun b=>by unfold dH at h;rw[b] at h;unfold ct;simpa using h
theorem i9 (L:List Bool)(i j:Nat)(h:i<L.length):(L.set i true).getD j false=if i=j then true else L.getD j false:=by exact zQ
theorem ct.lt {L:List Bool}{i:Nat}(h:ct L i):i<L.length:=by
 unfold ct at h;by_cases c:i<L.length
 ·exact c
 ·rw[aE,List.getElem?_eq_none V] at h;cases h
def cnt (L:List Bool):Nat:=(L.filter (fun b=>!b)).length
theorem ua:∀(L:List Bool)(i:Nat),L.getD i true=false->cnt (L.set i true)+1=cnt L
 |[],i,h=>by simp at h
 |b::L,0,h=>by
  have h:b=false:=by simpa using h
  subst h;simp[cnt]
 |b::L,i+1,h=>by
  have h:L.getD i true=false:=by simpa using h
  have c:=ua L i h;unfold cnt at c⊢;rw[List.set_cons_succ];cases b
  ·simp only [Bool.not_false,List.filter_cons_of_pos,List.length_cons];omega
  ·exact c
def cv (T:List cD)(i:Nat):Prop:=i<T.length/\(T.getD i t0).2.2.2=false
structure e4 (T:List cD)(wt:List b7):Prop where
 fl:∀i,cv T i->(T.getD i t0).1=3\/(T.getD i t0).1=4->(T.getD i t0).2.1.length=2
 fv:∀i,cv T i->∀v∈(T.getD i t0).2.1,v.1=3->0<=v.2/\cv T v.2.toNat
 wv:∀e∈wt,0<=e.2/\cv T e.2.toNat
 tl:∀i,(T.getD i t0).2.1.length<=12
theorem getD_in {b:Type}{l:List b}{i:Nat}{x:b}(h:i<l.length):l.getD i x∈l:=by rw[aE,aL h];exact a6 h
theorem e4.pD {T:List cD}{wt:List b7}(h:e4 T wt){X:Nat->Prop}{i:Nat}(hi:cv T i){v:Int×Int}(hv:jC T wt X i v)(b:v.1=3):0<=v.2/\cv T v.2.toNat:=by
 rcases hv with⟨_,hm⟩|⟨hk,e⟩|⟨hk,_,e⟩|⟨_,c,he,_,e⟩
 ·exact h.fv i hi v hm b
 ·exact h.fv i hi v (by rw[e];exact getD_in (by rw[h.fl i hi (aK hk)];decide)) b
 ·exact h.fv i hi v (by rw[e];exact getD_in (by rw[h.fl i hi (aJ hk)];decide)) b
 ·rw[e];exact h.wv c he
theorem e4.cls {T:List cD}{wt:List b7}(h:e4 T wt):gX T wt (cv T):=fun _ _ b _ hv c=>(h.pD b hv c).2
def ub (mj:Bool)(t:cD):Bool:=t.2.2.1&&!t.2.2.2&&!mj
def nh (L:List Bool)(v:Int×Int):List Bool:=if v.1=3 then L.set v.2.toNat true else L
def jX (T:List cD)(rs:List (Int×Int))(mj:Bool):List Bool:=rs.foldl nh (T.map (ub mj))
theorem zR (L:List Bool)(v:Int×Int):(nh L v).length=L.length:=by
 unfold nh;split
 ·rw[a4]
 ·rfl
theorem zS (T:List cD)(rs:List _)(mj:Bool):(jX T rs mj).length=T.length:=by
 have key:∀(rs:List (Int×Int))(L:List Bool),(rs.foldl nh L).length=L.length:=fun rs=>by
  induction rs with
  |nil=>intro L;rfl
  |cons v rs b=>intro L;rw[a8,b,zR]
 unfold jX;rw[key,aW]
theorem Hu {L:List Bool}{v:Int×Int}{i:Nat}:ct (nh L v) i↔ct L i\/(v.1=3/\v.2.toNat=i/\i<L.length):=by
 unfold nh;by_cases b:v.1=3
 ·rw[aI b];unfold ct;by_cases hl:v.2.toNat<L.length
  ·rw[i9 _ _ _ hl];constructor
   ·intro h;split at h
    ·rename_i e;exact aJ ⟨b,e,V⟩
    ·exact aK h
   ·rintro(h|⟨_,e,_⟩)
    ·split
     ·rfl
     ·exact h
    ·rw[aI e]
  ·rw[List.set_eq_of_length_le V];exact⟨aK,fun h=>h.elim id (fun⟨_,e,c⟩=>absurd c V)⟩
 ·rw[aG b];exact⟨aK,fun h=>h.elim id (fun⟨e,_⟩=>absurd e b)⟩
theorem zT:∀(rs:List (Int×Int))(L:List Bool)(i:Nat),ct (rs.foldl nh L) i↔ct L i\/(i<L.length/\∃v∈rs,v.1=3/\v.2.toNat=i)
 |[],L,i=>by simp
 |v::rs,L,i=>by
  rw[a8,zT rs,Hu,zR];constructor
  ·rintro((h|⟨c,b,d⟩)|⟨c,f,g,b⟩)
   ·exact aK h
   ·exact aJ ⟨d,v,Z,c,b⟩
   ·exact aJ ⟨c,f,aO _ g,b⟩
  ·rintro(h|⟨c,f,g,b,d⟩)
   ·exact aK (aK h)
   ·rcases List.mem_cons.1 g with e|e
    ·rw[e] at b d;exact aK (aJ ⟨b,d,c⟩)
    ·exact aJ ⟨c,f,e,b,d⟩
theorem Hv (mj:Bool)(T:List cD)(i:Nat):ct (T.map (ub mj)) i↔i<T.length/\(T.getD i t0).2.2.1=true/\(T.getD i t0).2.2.2=false/\mj=false:=by
 unfold ct;by_cases h:i<T.length
 ·rw[aE,List.getElem?_map,aL h,aE,aL h];simp[ub,h,and_assoc]
 ·simp[h]
theorem ku (T:List cD)(rs:List _)(mj:Bool)(i:Nat):ct (jX T rs mj) i↔i<T.length/\(((T.getD i t0).2.2.1=true/\(T.getD i t0).2.2.2=false/\mj=false)\/∃v∈rs,v.1=3/\v.2.toNat=i):=by
 unfold jX;rw[zT,Hv,aW];constructor
 ·rintro(⟨c,b⟩|⟨c,b⟩)
  ·exact⟨c,aK b⟩
  ·exact⟨c,aJ b⟩
 ·rintro⟨c,b|b⟩
  ·exact aK ⟨c,b⟩
  ·exact aJ ⟨c,b⟩
section
variable {T:List cD}{wt:List b7}
theorem ou.uniq {is a b:List Bool}(h:ou T wt is a)(c:ou T wt is b):a=b:=by
 refine List.ext_getElem (h.len.trans c.len.symm) (fun i d e=>?_)
 have key:ct a i↔ct b i:=⟨fun q=>h.lt _ c.cl c.up i q,fun q=>c.lt _ h.cl h.up i q⟩
 unfold ct at key;cases ha:a[i]<;>cases hb:b[i]<;>simp_all
end
def cL (L:List Bool)(x:Int):Bool:=L.getD x.toNat false
def fw (g:List Bool->List Bool)(L:List Bool)(x:Int):List Bool:=g (L.set x.toNat true)
def iE (T:List cD)(L:List Bool):Nat->Int
 |0=>0
 |i+1=>if L.getD i false=true then iE T L i+(1+(T.getD i t0).2.1.length) else iE T L i
def fz (L:List Bool)(i:Nat)(t:cD):cD:=
 if L.getD i false=true then
  (t.1,(if t.1=4/\dH L (t.2.1.getD 0 (0,0))=false then[(2,0),(2,0)] else if t.1=3/\dH L (t.2.1.getD 0 (0,0))=false then[(2,0),t.2.1.getD 1 (0,0)] else t.2.1),true,t.2.2.2)
 else(t.1,[],t.2.2.1,true)
def f6 (L:List Bool)(T:List cD):Nat->List cD
 |0=>T
 |i+1=>(f6 L T i).set i (fz L i (T.getD i t0))
def ck.c0 (g:List Bool->List Bool)(s:ck)(mj:Bool):List Bool:=g (jX s.T s.rs mj)
def ck.cR (g:List Bool->List Bool)(s:ck)(mj:Bool):List Bool×List b7×List b7:=
 turns cL (fw g) (s.rg.length+1) (s.rg.filter (fun e=>!cL (s.c0 g mj) e.2)) (s.c0 g mj) []
def ck.cF (g:List Bool->List Bool)(s:ck)(bZ:Int)(mj:Bool):Bool:=
 (!mj&&decide (bZ-(d_ s.T).2<(d_ s.T).1))||decide (bZ<iE s.T (s.cR g mj).1 s.T.length)
def ck.cut (g:List Bool->List Bool)(s:ck)(bZ:Int)(mj:Bool):ck:=
 if s.cF g bZ mj=true then s else
  {T:=f6 (s.cR g mj).1 s.T s.T.length,rs:=s.rs,rg:=s.rg.filter (fun e=>cL (s.c0 g mj) e.2&&cL (s.cR g mj).1 e.1),wt:=(s.wt++(s.cR g mj).2.1).filter (fun e=>cL (s.cR g mj).1 e.1)}
def ck.gN (g:List Bool->List Bool)(s:ck)(bZ:Int)(mj:Bool):Int:=if s.cF g bZ mj=true then 3 else 0
def dR (T:List cD)(wt:List b7)(g:List Bool->List Bool):Prop:=∀is:List Bool,is.length=T.length->(∀k,ct is k->cv T k)->ou T wt is (g is)
theorem jD (L:List Bool)(T:List cD):∀i,(f6 L T i).length=T.length
 |0=>rfl
 |i+1=>by rw[f6,a4];exact jD L T i
theorem qV (L:List Bool)(T:List cD):∀(i j:Nat),i<=T.length->j<T.length->(f6 L T i).getD j t0=if j<i then fz L j (T.getD j t0) else T.getD j t0
 |0,j,_,_=>by rfl
 |i+1,j,hi,b=>by
  rw[f6,aE,List.getElem?_set];by_cases e:i=j
  ·subst e;rw[aI rfl,aI (by rw[jD];exact b),aI V];rfl
  ·rw[aG e,<-aE,(qV L T i j V b)];by_cases c:j<i
   ·rw[aI c,aI V]
   ·rw[aG c,aG V]
theorem zU (T:List cD)(L:List Bool)(h:∀i,(T.getD i t0).2.1.length<=12):∀i,0<=iE T L i/\iE T L i<=13*i
 |0=>by simp[iE]
 |i+1=>by
  have b:=zU T L h i;have:=h i;unfold iE;split
  ·omega
  ·omega
section
variable {T:List cD}{wt:List b7}{g:List Bool->List Bool}
structure gD (T:List cD)(L:List Bool):Prop where
 len:L.length=T.length
 al:∀k,ct L k->cv T k
theorem dR.ok (hg:dR T wt g)(c:e4 T wt){L:List Bool}(h:gD T L):gD T (g L)/\∀k,ct L k->ct (g L) k:=by have b:=hg L h.len h.al;exact⟨⟨b.len.trans h.len,fun k hk=>b.lt _ c.cls h.al k hk⟩,b.up⟩
theorem gD.put {L:List Bool}(h:gD T L){x:Nat}(b:cv T x):gD T (L.set x true)/\ct (L.set x true) x/\∀k,ct L k->ct (L.set x true) k:=by
 have hl:x<L.length:=by rw[h.len];exact b.1
 refine⟨⟨by rw[a4];exact h.len,fun k hk=>?_⟩,?_,fun k hk=>?_⟩
 ·unfold ct at hk;rw[i9 _ _ _ hl] at hk;split at hk
  ·rename_i e;rw[<-e];exact b
  ·exact h.al k hk
 ·unfold ct;rw[i9 _ _ _ hl,aI rfl]
 ·unfold ct at hk⊢;rw[i9 _ _ _ hl];split
  ·rfl
  ·exact hk
theorem gD.fw (hg:dR T wt g)(c:e4 T wt){L:List Bool}(h:gD T L){x:Int}(d:cv T x.toNat):gD T (fw g L x)/\ct (fw g L x) x.toNat/\∀k,ct L k->ct (fw g L x) k:=by obtain⟨e,f,i⟩:=h.put d;obtain⟨q1,b⟩:=hg.ok c e;exact⟨q1,b _ f,fun k hk=>b _ (i k hk)⟩
end
end Go.Proofs.YtpkjkjhanlbcoaaGreat
