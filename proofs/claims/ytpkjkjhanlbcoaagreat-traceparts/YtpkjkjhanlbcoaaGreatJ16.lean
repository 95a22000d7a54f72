import Derived.Test.YtpkjkjhanlbcoaaGreatJ15
import Derived.Maps.RangeWalk
namespace Go.Proofs.YtpkjkjhanlbcoaaGreat
set_option maxRecDepth 100000
set_option maxHeartbeats 2000000
open Tryz
open Go.RowKit W Kp ck
theorem Ac {P:Prop}(h:P:=by
 generalize hxb:w.heap.size=xb at*;refine PC.mono ?_;rintro e w1 ⟨rfl,hb1⟩
 have hbt:Below w.heap.size w w1:=by rw[hxb];exact HJ.o.2.1.trans (hb1.mono (by have:=lt_of_some HJ.o.2.2;omega))
 obtain⟨q0,q1,q2,q3,q4,q5⟩:=el ((hb1.block xb (lt_of_some HJ.o.2.2)).trans HJ.o.2.2)
 have J1:=(cA a hp).below HJ.o.1 hbt;obtain⟨h0,_⟩:=fe J1;have P:=Ad.o F w1 J1;have HT:aA (cg F w F w1):=cg.of hbt;go_wp2_with fail;refine P.mono ?_;rintro e w2 ⟨F2,rfl,um,T2⟩
 have HF:=c7 um (HT.o.trans T2)
 go_wp2_with fail;go_ret;exact⟨F2,rfl,HF.o.1,HF.o.2⟩):P:=h
theorem Ae {P:Prop}(h:P:=by
 rcases qJ k with d|d|d|d|d|d|d|d|d|d|d|d|d|d|d|d|d
 case' inr.inr.inr.inr.inr.inr.inr.inr.inr.inr.inr.inr.inr.inr.inr.inr=>
  have:=qK d;unfold d4 at hc;rw[aK this] at hc;omega
 all_goals
  first
   |(subst d;decide)
   |(omega)):P:=h
theorem Af {P:Prop}(h:P:=by rw[hW0];exact a_ _ _ _ ((aY w2 ⟨w.heap.size,0,none⟩ ⟨w.heap.size,1,none⟩ _ ac).trans y1)):P:=h
section
variable {a:Wc}{hp:Nat}{F:Nat->Prop}{S:cv}{w:az}
theorem pI (h:(cA a hp).J F S w):cM a S.s:=by obtain⟨c,b,_⟩:=kz h;obtain⟨d,g1,_⟩:=nf b;obtain⟨_,_,_,_,_,rl,_⟩:=jZ g1;have ha:=(kU g1).1;exact⟨ha.hN,ha.hN',ha.hO,ha.hy,ha.hg,ha.hl,rl⟩
theorem HH (h:(cA a hp).J F S w)(x i z:Int)(hM:S.s.M.length<=100000):
 Calls prog 44 #[aq a.pw,ak x,ak i,ak z] w fun e w'=>∃b,e=.returned (ak (eD a.N S.s.y S.s.g S.s.ws x i))/\(cA a hp).J b (S.set a x i z) w'/\cg F w b w':=by
 obtain⟨l,c,_,d⟩:=kz h;obtain⟨m,g1,g2⟩:=nf c;refine(EJ g1 x i z hM).mono ?_;rintro e w' ⟨rfl,f,g⟩
 obtain⟨n,j2,j⟩:=g2 _ _ _ f g;obtain⟨k,cH,t3⟩:=d _ _ _ j2 j;exact⟨k,rfl,cH,t3⟩
theorem HI {k R A B n:Int}(hc:d4 k R A B n=0)(b:k≠9)(c:k≠12)(e:k≠15)(f:k≠16):di k=1\/di k=3\/di k=7:=by exact Ae
theorem HL (k R A B I n:Int)(hc:d4 k R A B n≠0):
 Calls prog 20 #[aq hp,d5 k R A B I n] w fun e w'=>e=.returned (ak (d4 k R A B n))/\Below w.heap.size w w':=by
 have c:=jF k R A B I n (w.alloc (cG k R A B I n))
 have b:=hide (aw w (cG k R A B I n))
 go_enter func20,ntmps20;go_wp2_with fail;refine c.mono ?_;rintro e w1 ⟨rfl,d⟩
 go_wp2_with fail;go_ret;exact⟨rfl,(b.o.trans (d.mono b.o.size))⟩
theorem HM (h:(cA a hp).J F S w)(R A B I n:Int)(hc:d4 15 R A B n=0)(hq:S.q.length+S.r.length<=90000):
 Calls prog 20 #[aq hp,d5 15 R A B I n] w fun e w'=>∃b,e=.returned (ak (S.code a))/\(cA a hp).J b (S.cut a) w'/\cg F w b w':=by
 have PC:=jF 15 R A B I n (w.alloc (cG 15 R A B I n))
 rw[hc] at PC;have HJ:=gM h (aw w (cG 15 R A B I n)) (aP w (.cells #[.int .i64 15,.int .i64 R,.int .i64 A,.int .i64 B,.int .i64 I,.int .i64 n] 44))
 have Ad:aA (∀b w',(cA a hp).J b S w'->_):=fun b w' c=>z4 c hq;generalize S.cut a=d at*;generalize S.code a=cd at*;go_enter func20,ntmps20;go_wp2_with fail;generalize w.alloc (cG 15 R A B I n)=w0 at*;exact Ac
theorem HO (h:(cA a hp).J F S w)(R A B I n:Int)(hc:d4 16 R A B n=0)(hq:S.q.length+S.r.length<=90000)(c:S.fX a=false->∃G,iL (S.k5 a) (S.dI a) G/\G 0 (S.k5 a,0)):
 Calls prog 20 #[aq hp,d5 16 R A B I n] w fun e w'=>∃b,e=.returned (ak (S.iM a))/\(cA a hp).J b (S.dD a) w'/\cg F w b w':=by
 have PC:=jF 16 R A B I n (w.alloc (cG 16 R A B I n))
 rw[hc] at PC;have HJ:=gM h (aw w (cG 16 R A B I n)) (aP w (.cells #[.int .i64 16,.int .i64 R,.int .i64 A,.int .i64 B,.int .i64 I,.int .i64 n] 44))
 have Ad:aA (∀b w',(cA a hp).J b S w'->_):=fun b w' d=>z5 d hq c;generalize S.dD a=f at*;generalize S.iM a=cd at*;go_enter func20,ntmps20;go_wp2_with fail;generalize w.alloc (cG 16 R A B I n)=w0 at*;exact Ac
theorem HQ (h:(cA a hp).J F S w)(R I n:Int)(A B:Nat)(v:A<12)(hB:B<12)(hc:d4 9 R A B n=0)(hr:S.r.length<=90000)(hq:S.q.length<=90000):
 Calls prog 20 #[aq hp,d5 9 R A B I n] w fun e w'=>∃b,e=.returned (ak (S.reg a (S.s.rs.getD A 0) (S.s.rs.getD B 0)).1)/\(cA a hp).J b (S.reg a (S.s.rs.getD A 0) (S.s.rs.getD B 0)).2 w'/\cg F w b w':=by
 have N:=aw w (cG 9 R A B I n)
 have W:=aP w (.cells #[.int .i64 9,.int .i64 R,.int .i64 (A:Int),.int .i64 (B:Int),.int .i64 I,.int .i64 n] 44)
 have i:=jF 9 R A B I n (w.alloc (cG 9 R A B I n))
 rw[hc] at i;have d:aA ((cA a hp).J F S w/\Below w.heap.size w (w.alloc (cG 9 R A B I n))/\(w.alloc (cG 9 R A B I n)).heap[w.heap.size]?=some (cG 9 R A B I n)/\¬F w.heap.size):=⟨h,N,W,fun al=>by have:=(cA a hp).lt h _ al;omega⟩
 have a0:(0:Int)<=(A:Int):=aa;have a1:(A:Int)<12:=aa;have a2:(0:Int)<=(B:Int):=aa;have a3:(B:Int)<12:=aa;have am:aA (∀b w',(cA a hp).J b S w'->Calls prog 56 #[aq hp,ak (S.s.rs.getD A 0),ak (S.s.rs.getD B 0)] w' fun e ab=>∃f,e=.returned (ak (S.reg a (S.s.rs.getD A 0) (S.s.rs.getD B 0)).1)/\(cA a hp).J f (S.reg a (S.s.rs.getD A 0) (S.s.rs.getD B 0)).2 ab/\cg b w' f ab):=fun b w' an=>G_ an _ _ hr hq;have ao:aA ((S.reg a (S.s.rs.getD A 0) (S.s.rs.getD B 0)).2.s.rs=S.s.rs):=Hq a S _ _;generalize S.reg a (S.s.rs.getD A 0) (S.s.rs.getD B 0)=g at*;obtain⟨cd,ap⟩:=g;dsimp only at*;clear h N hc W;go_enter func20,ntmps20;go_wp2_with fail;generalize w.alloc (cG 9 R A B I n)=w0 at*;generalize ar:w.heap.size=c at*;refine i.mono ?_;clear i;rintro e w1 ⟨rfl,k⟩
 have l:Below w.heap.size w w1:=by rw[ar];exact d.o.2.1.trans (k.mono (by have:=lt_of_some d.o.2.2.1;omega))
 have m:=(k.block c (lt_of_some d.o.2.2.1)).trans d.o.2.2.1;obtain⟨q0,q1,aB,q3,ba,bb⟩:=el m;have o:=(cA a hp).below d.o.1 l;obtain⟨h0,c0,c3,rt,_⟩:=fe o;obtain⟨r1,_⟩:=rt A v;obtain⟨bd,_⟩:=rt B hB;have ad:=(cA a hp).below o (aH _ w1).drew;have P:=am.o F w1.drew ad;have aF:aA (cg F w F w1.drew):=(cg.of l).below (aH _ w1).drew;have ag:=lt_of_some m;have aR:aA (∀b w' p,(cA a hp).J b p w'->cg F w1.drew b w'->p.s.rs=S.s.rs->(w'.cell? (av hp 0)=some (aq a.pw)/\w'.cell? (av a.pw 3)=some (.slice (au a.nb) 12 12)/\w'.cell? (av a.nb A)=some (ak (S.s.rs.getD A 0))/\w'.cell? (av a.nb B)=some (ak (S.s.rs.getD B 0)))/\w'.cell? (av c 2)=some (ak (A:Int))/\w'.cell? (av c 3)=some (ak (B:Int))):=fun b w' p j t aV=>by obtain⟨g0,_,g3,q,_⟩:=fe j;rw[aV] at q;exact⟨⟨g0,g3,(q A v).1,(q B hB).1⟩,(aQ (a:=⟨c,2,none⟩) (t.fr.block c ag d.o.2.2.2)).trans aB,(aQ (a:=⟨c,3,none⟩) (t.fr.block c ag d.o.2.2.2)).trans q3⟩
 clear k l o ad rt m;have be:aA (S.s.rs.getD A 0=S.s.rs.getD A 0):=rfl;generalize S.s.rs.getD A 0=x at*;generalize S.s.rs.getD B 0=y at*;go_wp2_with fail
 go_region_held3 (fun w'=>w'.cell? (av hp 0)=some (aq a.pw)/\w'.cell? (av a.pw 3)=some (.slice (au a.nb) 12 12)/\w'.cell? (av a.nb A)=some (ak x)/\w'.cell? (av a.nb B)=some (ak y)/\w'.cell? (av c 2)=some (ak (A:Int))/\w'.cell? (av c 3)=some (ak (B:Int))) (go_keep)
  (first
    |(go_at_call 56;refine P.mono ?_;clear P;rintro e s ⟨f,rfl,j2,u⟩;obtain⟨⟨g0,g3,gr,bg⟩,bi,bl⟩:=aR.o f s _ j2 u ao.o;have ai:aA ((cA a hp).J f ap s/\cg F w f s):=⟨j2,aF.o.trans u⟩;clear j2 u))
 go_wp2_with fail;go_ret;exact⟨f,rfl,ai.o.1,ai.o.2⟩
theorem HR (h:(cA a hp).J F S w)(R I n:Int)(A B:Nat)(v:A<12)(hB:B<12)(hc:d4 12 R A B n=0)(hM:S.s.M.length<=100000):
 Calls prog 20 #[aq hp,d5 12 R A B I n] w fun e w'=>∃c,e=.returned (ak (eD a.N S.s.y S.s.g S.s.ws (S.s.rs.getD A 0) I))/\(cA a hp).J c (S.set a (S.s.rs.getD A 0) I (S.s.rs.getD B 0)) w'/\cg F w c w':=by
 have N:=aw w (cG 12 R A B I n)
 have W:=aP w (.cells #[.int .i64 12,.int .i64 R,.int .i64 (A:Int),.int .i64 (B:Int),.int .i64 I,.int .i64 n] 44)
 have g:=jF 12 R A B I n (w.alloc (cG 12 R A B I n))
 rw[hc] at g;have d:aA ((cA a hp).J F S w/\Below w.heap.size w (w.alloc (cG 12 R A B I n))/\(w.alloc (cG 12 R A B I n)).heap[w.heap.size]?=some (cG 12 R A B I n)/\¬F w.heap.size):=⟨h,N,W,fun ai=>by have:=(cA a hp).lt h _ ai;omega⟩
 have a0:(0:Int)<=(A:Int):=aa;have a1:(A:Int)<12:=aa;have a2:(0:Int)<=(B:Int):=aa;have a3:(B:Int)<12:=aa;have al:aA (∀c w',(cA a hp).J c S w'->Calls prog 44 #[aq a.pw,ak (S.s.rs.getD A 0),ak I,ak (S.s.rs.getD B 0)] w' fun e ab=>∃f,e=.returned (ak (eD a.N S.s.y S.s.g S.s.ws (S.s.rs.getD A 0) I))/\(cA a hp).J f (S.set a (S.s.rs.getD A 0) I (S.s.rs.getD B 0)) ab/\cg c w' f ab):=fun c w' am=>HH am _ _ _ hM;have an:aA ((S.set a (S.s.rs.getD A 0) I (S.s.rs.getD B 0)).s.rs=S.s.rs):=rfl;generalize S.set a (S.s.rs.getD A 0) I (S.s.rs.getD B 0)=ao at*;generalize eD a.N S.s.y S.s.g S.s.ws (S.s.rs.getD A 0) I=cd at*;clear h N hc W;go_enter func20,ntmps20;go_wp2_with fail;generalize w.alloc (cG 12 R A B I n)=w0 at*;generalize ap:w.heap.size=b at*;refine g.mono ?_;clear g;rintro e w1 ⟨rfl,i⟩
 have k:Below w.heap.size w w1:=by rw[ap];exact d.o.2.1.trans (i.mono (by have:=lt_of_some d.o.2.2.1;omega))
 have l:=(i.block b (lt_of_some d.o.2.2.1)).trans d.o.2.2.1;obtain⟨q0,q1,ar,q3,aB,ba⟩:=el l;have m:=(cA a hp).below d.o.1 k;obtain⟨h0,c0,c3,rt,_⟩:=fe m;obtain⟨r1,_⟩:=rt A v;obtain⟨bb,_⟩:=rt B hB;have ad:=(cA a hp).below m (aH _ w1).drew;have P:=al.o F w1.drew ad;have aF:aA (cg F w F w1.drew):=(cg.of k).below (aH _ w1).drew;have o:=lt_of_some l;have aR:aA (∀c w' p,(cA a hp).J c p w'->cg F w1.drew c w'->p.s.rs=S.s.rs->(w'.cell? (av hp 0)=some (aq a.pw)/\w'.cell? (av a.pw 3)=some (.slice (au a.nb) 12 12)/\w'.cell? (av a.nb A)=some (ak (S.s.rs.getD A 0))/\w'.cell? (av a.nb B)=some (ak (S.s.rs.getD B 0)))/\w'.cell? (av b 2)=some (ak (A:Int))/\w'.cell? (av b 3)=some (ak (B:Int))/\w'.cell? (av b 4)=some (ak I)):=fun c w' p j t aV=>by obtain⟨g0,_,g3,q,_⟩:=fe j;rw[aV] at q;exact⟨⟨g0,g3,(q A v).1,(q B hB).1⟩,(aQ (a:=⟨b,2,none⟩) (t.fr.block b o d.o.2.2.2)).trans ar,(aQ (a:=⟨b,3,none⟩) (t.fr.block b o d.o.2.2.2)).trans q3,(aQ (a:=⟨b,4,none⟩) (t.fr.block b o d.o.2.2.2)).trans aB⟩
 clear i k m ad rt l;have bd:aA (S.s.rs.getD A 0=S.s.rs.getD A 0):=rfl;generalize S.s.rs.getD A 0=x at*;generalize S.s.rs.getD B 0=y at*;go_wp2_with fail
 go_region_held3 (fun w'=>w'.cell? (av hp 0)=some (aq a.pw)/\w'.cell? (av a.pw 3)=some (.slice (au a.nb) 12 12)/\w'.cell? (av a.nb A)=some (ak x)/\w'.cell? (av a.nb B)=some (ak y)/\w'.cell? (av b 2)=some (ak (A:Int))/\w'.cell? (av b 3)=some (ak (B:Int))/\w'.cell? (av b 4)=some (ak I)) (go_keep)
  (first
    |(go_at_call 44;refine P.mono ?_;clear P;rintro e s ⟨f,rfl,j2,u⟩;obtain⟨⟨g0,g3,gr,be⟩,bg,bi,bl⟩:=aR.o f s _ j2 u an.o;have ag:aA ((cA a hp).J f ao s/\cg F w f s):=⟨j2,aF.o.trans u⟩;clear j2 u))
 go_wp2_with fail;go_ret;exact⟨f,rfl,ag.o.1,ag.o.2⟩
theorem HS (h:(cA a hp).J F S w)(k R A B I n:Int)(hc:d4 k R A B n=0)(k1:k≠9)(u:k≠12)(x:k≠15)(N:k≠16)(v cd:Int)(h0:cd≠0)(f:cv)
 (m:∀b w',(cA a hp).J b S w'->Calls prog 57 #[aq hp,d5 k R A B I n] w' fun e g=>∃F2,e=.returned (.tuple #[ak v,ak cd])/\(cA a hp).J F2 f g/\cg b w' F2 g):
 Calls prog 20 #[aq hp,d5 k R A B I n] w fun e w'=>∃b,e=.returned (ak cd)/\(cA a hp).J b f w'/\cg F w b w':=by
 have i:=aw w (cG k R A B I n)
 have o:=aP w (.cells #[.int .i64 k,.int .i64 R,.int .i64 A,.int .i64 B,.int .i64 I,.int .i64 n] 44)
 have j:=jF k R A B I n (w.alloc (cG k R A B I n))
 rw[hc] at j;have c:=gM ((cA a hp).below h i) i o;have p:=hide m;go_enter func20,ntmps20;go_wp2_with fail;generalize w.alloc (cG k R A B I n)=w0 at*;generalize q:w.heap.size=s at*;refine j.mono ?_;rintro e w1 ⟨rfl,d⟩
 have l:=c7 ((cA a hp).below c.o.1 d) (c.o.2.1.trans (d.mono (by have:=lt_of_some c.o.2.2;omega)))
 obtain⟨q0,q1,W,q3,ab,ad⟩:=el ((d.block s (lt_of_some c.o.2.2)).trans c.o.2.2)
 go_wp2_with fail;refine(p.o F w1 l.o.1).mono ?_;rintro e ag ⟨F2,rfl,j2,t⟩
 have HF:=c7 j2 ((cg.of (by rw[q];exact l.o.2)).trans t)
 exact nu
theorem HU (h:(cA a hp).J F S w){j:Nat}(ok:dX a S j)(t:j<=100000)(k R A B I n:Int):
 Calls prog 20 #[aq hp,d5 k R A B I n] w fun e w'=>∃i,e=.returned (ak (S.hd a k R A B I n).1)/\(cA a hp).J i (S.hd a k R A B I n).2 w'/\cg F w i w':=by
 have hb:=pI h;have u:=ok.k7;have hm:=ok.m;have hq:S.q.length+S.r.length<=90000:=aa;unfold cv.hd;by_cases hc:d4 k R A B n=0
 ·rw[aK hc];by_cases b:k=9
  ·rw[aK b];subst b;have l:=lI hc ae;have m:=me hc ae;obtain⟨A,rfl⟩:=Int.eq_ofNat_of_zero_le l.1;obtain⟨B,rfl⟩:=Int.eq_ofNat_of_zero_le m.1;rw[Int.toNat_natCast,Int.toNat_natCast];exact HQ h R I n A B aa aa hc aa aa
  rw[aI b];by_cases d:k=12
  ·rw[aK d];subst d;have l:=lI hc ae;have m:=me hc ae;obtain⟨A,rfl⟩:=Int.eq_ofNat_of_zero_le l.1;obtain⟨B,rfl⟩:=Int.eq_ofNat_of_zero_le m.1;rw[Int.toNat_natCast,Int.toNat_natCast];exact HR h R I n A B aa aa hc aa
  rw[aI d];by_cases f:k=15
  ·rw[aK f];subst f;exact HM h R A B I n hc hq
  rw[aI f];by_cases e16:k=16
  ·rw[aK e16];subst e16;exact HO h R A B I n hc hq (ok.qW hb)
  rw[aI e16];have q:=yA hc (HI hc b d f e16)
  obtain⟨R,rfl⟩:=Int.eq_ofNat_of_zero_le q.1;rw[Int.toNat_natCast];have o:∀i w',(cA a hp).J i S w'->_:=fun i w' s=>HG s ok hb k R A B I n hc b d f e16;generalize S.rt a k A.toNat B.toNat I n=g at*;obtain⟨v,cd,p⟩:=g;by_cases c:cd=0
  ·rw[aK c];subst c;exact Hd h k R A B I n aa hc b d f e16 v p o
  ·rw[aI c];exact HS h k R A B I n hc b d f e16 v cd c p o
 ·rw[aI hc];refine(HL k R A B I n hc).mono ?_;rintro e w' ⟨rfl,hb⟩
  exact⟨F,rfl,(cA a hp).below h hb,cg.of hb⟩
end
section
variable {w:az}{pw p q N O y g:Nat}{ws:List Int}{sd:Nat}{v0:Value}{a1:Option Addr}{k1:Nat}{Q:List ce}{l:List Int}{ra:Option Addr}{rc:Nat}
theorem HV (hq:m8 w pw p q N O y g ws sd v0 a1 k1 Q)(c3:w.cell? (av pw 3)=some (.slice ra l.length rc))(hl:Lq w ra l)(hm:l.length<=100000):
 Calls prog 25 #[aq pw] w fun e w'=>∃an bd f ao o,e=.returned (.agg #[.slice an l.length bd,.slice f ao o])/\jo w' w.heap.size an (iJ N y g ws Q l).1/\i5 w' w.heap.size f (iJ N y g ws Q l).2.2/\ao=(iJ N y g ws Q l).2.2.length/\Below w.heap.size w w':=by
 have j:=aw w (.cells #[.slice none 0 0,.slice none 0 0] 60)
 have ap:=aP w (.cells #[.slice none 0 0,.slice none 0 0] 60)
 have ai:=hq.low j;have be:=hl.kf (Kf.of (B:=0) j)
 have ar:=aT w _ c3;have aB:=(j.cell (p:=av pw 3) ar).trans c3;have bg:w.heap.size<(w.alloc (.cells #[.slice none 0 0,.slice none 0 0] 60)).heap.size:=ac;have P:=DQ ai.c0 ai.ar;have b6:=hq.ar.hN';have b9:=hq.ar.hy;have ca:=hq.ar.hO;have cb:=hq.ar.hg;have bi:∀a∈eC N y g ws++dH N y g ws,0<=a/\a<2000:=fun a ha=>by
  rcases List.mem_append.1 ha with ha|ha
  ·have:=oe a ha;omega
  ·have:=qr a ha;omega
 have bl:(eC N y g ws++dH N y g ws).length<=100000:=by have t:(eC N y g ws).length<=2000:=iX _ _;have cc:(dH N y g ws).length<=2000:=iX _ _;simp;omega
 have bn:aA (∀(u ct:Nat)(w1:az),Wk (w.alloc (.cells #[.slice none 0 0,.slice none 0 0] 60)) w1 u ct pw (eC N y g ws++dH N y g ws) ([],[]) (.slice none 0 0) []->Calls prog 65 #[aq u,.slice ra l.length rc] w1 fun e w'=>∃bo al a2 c2,e=.returned (.slice a2 l.length c2)/\w'.ownsRow w1.heap.size 97 2 (.slice a2 l.length c2) l.length (ev (iJ N y g ws Q l).1)/\Wk (w.alloc (.cells #[.slice none 0 0,.slice none 0 0] 60)) w' u ct pw (eC N y g ws++dH N y g ws) (iJ N y g ws Q l).2 bo al/\fM (w.alloc (.cells #[.slice none 0 0,.slice none 0 0] 60)) w1 [] w' al/\(∀k,fD al k->some k≠(Value.slice a2 l.length c2).ownBlock)):=
  fun u ct w1 t=>yl (yu ai bi bl _) (jQ _) t (fi.start _) ac l ra rc (be.kf (Kf.of (B:=0) t.eP)) hm
 have aF:aA ((iJ N y g ws Q l).1.length=l.length):=nU _ _ _ _;generalize iJ N y g ws Q l=R at*;obtain⟨cd,s⟩:=R;generalize eC N y g ws++dH N y g ws=T at*;go_enter func25,ntmps25;go_wp2_with fail;refine P.mono ?_;rintro e w1 ⟨u,ct,rfl,t⟩
 have bp:=(t.eP.cell (p:=av pw 3) (aO ar j.size)).trans aB;have am:=hide t;go_wp2_with fail;refine(bn.o u ct w1 am.o).mono ?_;rintro e w2 ⟨ce,m,a2,c2,rfl,F,d,aR,_⟩
 obtain⟨f,o,br⟩:=eN d.row;subst br;have cf:=d.cells.2.2.1;have aV:=j.trans (d.eP.mono j.size)
 have n:=(d.eP.block _ bg).trans ap;have y0:w2.cell? (av w.heap.size 0)=some (.slice none 0 0):=aD n
 have y1:w2.cell? (av w.heap.size 1)=some (.slice none 0 0):=aD n
 have cg:w2.frozen? (av w.heap.size 0)=false:=aE n
 have ch:w2.frozen? (av w.heap.size 1)=false:=aE n
 have l2:=lt_of_some n;have bs:=c7 d F;have bt:=hide d.len;have bx:=hide aV;have a0:=hide n;have a3:w.heap.size<=w1.heap.size:=by
  have:=am.o.eP.size;simp at this
  omega
 have b0:aA (∀k,fD m k->w.heap.size<=k):=fun k hk=>(aR.2 k hk).elim (fun⟨x,ab,_⟩=>by cases ab) (fun b1=>aU a3 b1)
 clear d F aR aV n j ap bp aB am;go_wp2_with fail;obtain⟨S,hW0⟩:∃S,S=(w2.setCell ⟨w.heap.size,0,none⟩ (.slice a2 l.length c2)).setCell ⟨w.heap.size,1,none⟩ (.slice f m.length o):=⟨_,rfl⟩
 rw[<-hW0];have g0:S.cell? (av w.heap.size 0)=some (.slice a2 l.length c2):=by exact lE
 have g1:S.cell? (av w.heap.size 1)=some (.slice f m.length o):=by exact Af
 have W:Fr (fun k=>k=w.heap.size) w2 S:=by rw[hW0];exact((Fr.refl (fun k=>k=w.heap.size) w2).set w.heap.size 0 _ rfl).set w.heap.size 1 _ rfl
 obtain⟨d,F⟩:=bs.o;have ba:∀{ad:Option Addr}{L:List (Int×Int)},fC w2 ad L->dz S ad L:=fun {ad L} h=>h.1.keep W.size (fun hp b e=>by
  obtain⟨b2,ci,cj,b3,hb⟩:=h.2 hp;rw[b3] at e;cases e;refine W.block _ (lt_of_some hb) (fun c=>?_)
  have c:b2=w.heap.size:=c;rw[c,a0.o] at hb;simp at hb)
 refine a5 (v:=.agg #[.slice a2 l.length c2,.slice f m.length o]) (by simp[results,results25,go_sem,g0,g1]) rfl ⟨a2,c2,f,m.length,o,rfl,⟨ba (fC.of (by rw[aF.o];exact F)),fun hp=>?_⟩,⟨m,d.nd,fun x ab=>ba (d.fl x ab),b0.o,fun hp=>?_⟩,bt.o,bx.o.trans (W.below (Nat.le_of_lt l2) (fun k e=>Nat.le_of_eq (Eq.symm e)))⟩
 ·obtain⟨b,cap,e⟩:=eT F (by rw[<-aF.o];exact hp)
  cases e;exact⟨b,0,rfl,aU a3 (cu F b rfl).1⟩
 obtain⟨b,cap,e⟩:=eT d.row hp;cases e;have b4:=(cu d.row b rfl).1;simp at b4;obtain⟨ck,ag⟩:=fp d.row b rfl;have bb:b≠w.heap.size:=fun c=>by rw[c,a0.o] at ag;simp at ag
 refine⟨b,0,rfl,aa,aO (lt_of_some ag) W.size,fun i x ab=>?_⟩
 obtain⟨n1,b5⟩:=oW m i x ab;rw[Nat.zero_add];exact⟨(aQ (a:=⟨b,i*2,none⟩) (W.block b (lt_of_some ag) bb)).trans (jR d.row n1).1,(aQ (a:=⟨b,i*2+1,none⟩) (W.block b (lt_of_some ag) bb)).trans (jR d.row b5).1⟩
end
theorem HW (n o:Int)(w:az)(h:n<16\/256<n\/o<0\/1024<o):
 Calls prog 18 #[ak n,ak o] w fun e w'=>e=.returned (.tuple #[.pointer none,.agg #[ak 1,ak (-1)]])/\Below w.heap.size w w':=by
 have g:=aP w (.cells #[.int .i64 0,.int .i64 0] 28)
 have P:=EW n o (w.alloc (.cells #[.int .i64 0,.int .i64 0] 28)) h;go_enter func18,ntmps18;go_wp2_with fail;refine P.mono ?_;rintro e w1 ⟨rfl,d⟩
 have c:=(d.block w.heap.size ac).trans g;have hB1:=(aw w (.cells #[.int .i64 0,.int .i64 0] 28)).trans (d.mono ac)
 have i:=d.size;simp at i;have y0:w1.cell? (av w.heap.size 0)=some (ak 0):=aD c
 have y1:w1.cell? (av w.heap.size 1)=some (ak 0):=aD c
 have m:w1.frozen? (av w.heap.size 0)=false:=aE c
 have q:w1.frozen? (av w.heap.size 1)=false:=aE c
 have l1:w.heap.size<w1.heap.size:=aa;clear d g c;go_wp2_with fail
 go_region_law (fail)
 all_goals
  obtain⟨b,hW0⟩:∃b,b=(w1.setCell ⟨w.heap.size,0,none⟩ (.int .i64 1)).setCell ⟨w.heap.size,1,none⟩ (.int .i64 (-1)):=⟨_,rfl⟩
  rw[<-hW0];have s:b.heap.size=w1.heap.size:=by rw[hW0];simp[World.setCell]
  have g0:b.cell? (av w.heap.size 0)=some (ak 1):=by exact lE
  have g1:b.cell? (av w.heap.size 1)=some (ak (-1)):=by exact qp
  have j:Below w.heap.size w b:=by exact tt
  have f:=(aw b (.cells #[.int .i64 1,.int .i64 (-1)] 28)).drew;have r0:=(f.cell (p:=av w.heap.size 0) (by show w.heap.size<_;omega)).trans g0;have r1:=(f.cell (p:=av w.heap.size 1) (by show w.heap.size<_;omega)).trans g1;have l:=j.trans (f.mono aa)
  generalize (b.alloc (.cells #[.int .i64 1,.int .i64 (-1)] 28)).drew=t at*;go_wp2_with fail;refine a5 (v:=.tuple #[.pointer none,.agg #[.int .i64 1,.int .i64 (-1)]]) (by simp[results,results18,go_sem,r0,r1]) rfl ⟨rfl,l⟩
theorem HX (n o:Nat)(w:az)(h0:16<=n)(l:n<=256)(m:o<=1024):
 Calls prog 18 #[ak n,ak o] w fun e w'=>∃hp,e=.returned (.tuple #[aq hp,.agg #[ak 0,ak 0]])/\Below w.heap.size w w':=by
 have g:=aw w (.cells #[.int .i64 0,.int .i64 0] 28)
 have P:=yy n o (w.alloc (.cells #[.int .i64 0,.int .i64 0] 28)) h0 l m;have i:=aP w (.cells #[.int .i64 0,.int .i64 0] 28)
 have t:w.heap.size<(w.alloc (.cells #[.int .i64 0,.int .i64 0] 28)).heap.size:=ac;have j:=hide g;clear g;go_enter func18,ntmps18;go_wp2_with fail;generalize w.alloc (.cells #[.int .i64 0,.int .i64 0] 28)=w0 at*;generalize u:w.heap.size=fb at*;refine P.mono ?_;clear P;rintro e w1 ⟨pw,p,q,pc,cT,s,nb,rfl,x,hs,hr,hg,d⟩
 have c:=(d.block fb t).trans i;have y0:w1.cell? (av fb 0)=some (ak 0):=aD c
 have y1:w1.cell? (av fb 1)=some (ak 0):=aD c
 have z0:w1.frozen? (av fb 0)=false:=aE c
 have W:w1.frozen? (av fb 1)=false:=aE c
 have B:=lt_of_some c;have F:=hide (j.o.trans (d.mono aa))
 clear x hs hr hg d i j c;go_wp2_with fail;obtain⟨b,hW1⟩:∃b,b=(w1.setCell ⟨fb,0,none⟩ (.int .i64 0)).setCell ⟨fb,1,none⟩ (.int .i64 0):=⟨_,rfl⟩
 rw[<-hW1];have v0:b.cell? (av fb 0)=some (ak 0):=by exact tx
 have v1:b.cell? (av fb 1)=some (ak 0):=by exact ys
 have N:Fr (fun k=>k=fb) w1 b:=by rw[hW1];exact((Fr.refl (fun k=>k=fb) w1).set fb 0 _ rfl).set fb 1 _ rfl
 have ab:b.heap.size=w1.heap.size:=by rw[hW1];simp
 clear hW1;have f:=(aw b (.cells #[.int .i64 0,.int .i64 0] 28)).alloc ac (.cells #[.pointer (some ⟨pw,0,none⟩)] 49)
 have g0:=(f.cell (p:=av fb 0) (by show fb<_;omega)).trans v0;have g1:=(f.cell (p:=av fb 1) (by show fb<_;omega)).trans v1;have S:=F.o.trans (N.below (Nat.le_of_lt B) (fun k e=>Nat.le_of_eq (Eq.symm e)))
 exact a5 (v:=.tuple #[aq (w1.heap.size+1),.agg #[ak 0,ak 0]]) (by simp only [results,results18];simp[go_sem,g0,g1]) rfl ⟨w1.heap.size+1,rfl,by rw[u];exact S.trans (f.mono aa)⟩
section
variable {a:Wc}{hp:Nat}{F:Nat->Prop}{S:cv}{w:az}
theorem HY (h:(cA a hp).J F S w)(hq:S.q.length<=90000):
 Calls prog 25 #[aq a.pw] w fun e w'=>∃c b d f,e=.returned (.agg #[.slice c 12 b,.slice d (iJ a.N S.s.y S.s.g S.s.ws S.q S.s.rs).2.2.length f])/\jo w' w.heap.size c (iJ a.N S.s.y S.s.g S.s.ws S.q S.s.rs).1/\i5 w' w.heap.size d (iJ a.N S.s.y S.s.g S.s.ws S.q S.s.rs).2.2/\Below w.heap.size w w':=by
 obtain⟨n,g,_⟩:=kz h;obtain⟨o,g1,_⟩:=nf g;obtain⟨c0,_,c2,c3,_,rl,_,j⟩:=jZ g1;obtain⟨p,ar,q,⟨s,ad,cap,⟨own,cT,hM,hO⟩,b,k,t,_⟩,r0,r1,u⟩:=g;have hl:Lq w (au a.nb) S.s.rs:=by
  have hr:=hM.rt;refine⟨fun _=>⟨a.nb,0,rfl,lt_of_some hr,fun i hi=>?_⟩,fun _=>⟨a.nb,0,_,rfl,hr⟩⟩
  rw[Nat.zero_add];exact(j i (by rw[<-rl];exact hi)).1
 have P:=HV ⟨c0,c2,(kU g1).1,b,hZ k,hq⟩ (by rw[rl];exact c3) hl (by rw[rl];decide)
 rw[rl] at P;refine P.mono ?_;rintro e w' ⟨c,b,d,v,f,rfl,q1,l,rfl,m⟩
 exact⟨c,b,d,f,rfl,q1,l,m⟩
theorem HZ (h:(cA a hp).J F S w):Calls prog 22 #[aq a.p] w fun e w'=>e=.returned (.tuple #[ak S.s.y,ak S.s.g])/\Below w.heap.size w w':=
 kQ w (lJ h).1
end
def d6 (L:List Bool)(v:Int×Int):Bool:=!(v.1==3)||L.getD v.2.toNat false
def t0:cI:=(0,[],false,false)
def jg (T:List cI)(wt:List ce)(X:Nat->Prop)(i:Nat)(v:Int×Int):Prop:=
 (((T.getD i t0).1=1\/(T.getD i t0).1=2)/\v∈(T.getD i t0).2.1)\/((T.getD i t0).1=3/\v=(T.getD i t0).2.1.getD 1 (0,0))\/
 ((T.getD i t0).1=4/\(((T.getD i t0).2.1.getD 0 (0,0)).1=3->X ((T.getD i t0).2.1.getD 0 (0,0)).2.toNat)/\v=(T.getD i t0).2.1.getD 1 (0,0))\/
 ((T.getD i t0).1=5/\∃e∈wt,e.1=i/\v=(3,e.2))
theorem jg.mono {T:List cI}{wt:List ce}{X Y:Nat->Prop}(e:∀i,X i->Y i){i:Nat}{v:Int×Int}(h:jg T wt X i v):jg T wt Y i v:=by
 rcases h with h|h|⟨b,f,d⟩|h
 ·exact aM h
 ·exact aL (aM h)
 ·exact aL (aL (aM ⟨b,fun c=>(by grind),d⟩))
 ·exact aL (aL (aL h))
def hP (T:List cI)(wt:List ce)(X:Nat->Prop):Prop:=∀i,i<T.length->X i->∀v,jg T wt X i v->v.1=3->X v.2.toNat
def cw (L:List Bool):Nat->Prop:=fun i=>L.getD i false=true
structure oF (T:List cI)(wt:List ce)(is out:List Bool):Prop where
 len:out.length=is.length
 up:∀i,cw is i->cw out i
 cl:hP T wt (cw out)
 lt:∀X,hP T wt X->(∀i,cw is i->X i)->∀i,cw out i->X i
theorem ny {L:List Bool}{v:Int×Int}(h:d6 L v=false):v.1=3/\L.getD v.2.toNat false=false:=by grind [d6]
theorem nz {L:List Bool}{v:Int×Int}(h:d6 L v=true):v.1=3->cw L v.2.toNat:=fun b=>by grind [d6,cw]
theorem nA (L:List Bool)(i j:Nat)(h:i<L.length):(L.set i true).getD j false=if i=j then true else L.getD j false:=by grind
theorem cw.lt {L:List Bool}{i:Nat}(h:cw L i):i<L.length:=by grind [cw]
def cnt (L:List Bool):Nat:=(L.filter (fun b=>!b)).length
theorem ur:∀(L:List Bool)(i:Nat),L.getD i true=false->cnt (L.set i true)+1=cnt L
 |[],i,h=>by grind
 |b::L,0,h=>by grind [cnt]
 |b::L,i+1,h=>by
  have h:L.getD i true=false:=by assumption
  have c:=ur L i h
  grind [cnt]
def cz (T:List cI)(i:Nat):Prop:=i<T.length/\(T.getD i t0).2.2.2=false
structure eX (T:List cI)(wt:List ce):Prop where
 fl:∀i,cz T i->(T.getD i t0).1=3\/(T.getD i t0).1=4->(T.getD i t0).2.1.length=2
 fv:∀i,cz T i->∀v∈(T.getD i t0).2.1,v.1=3->0<=v.2/\cz T v.2.toNat
 wv:∀e∈wt,0<=e.2/\cz T e.2.toNat
 tl:∀i,(T.getD i t0).2.1.length<=12
theorem getD_in {b:Type}{l:List b}{i:Nat}{x:b}(h:i<l.length):l.getD i x∈l:=by rw[aJ,aN h];exact a8 h
theorem eX.pJ {T:List cI}{wt:List ce}(h:eX T wt){X:Nat->Prop}{i:Nat}(hi:cz T i){v:Int×Int}(hv:jg T wt X i v)(b:v.1=3):0<=v.2/\cz T v.2.toNat:=by
 rcases hv with⟨_,hm⟩|⟨hk,e⟩|⟨hk,_,e⟩|⟨_,c,he,_,e⟩
 ·exact h.fv i hi v hm b
 ·exact h.fv i hi v (by rw[e];exact getD_in (by rw[h.fl i hi (aM hk)];decide)) b
 ·exact h.fv i hi v (by rw[e];exact getD_in (by rw[h.fl i hi (aL hk)];decide)) b
 ·rw[e];exact h.wv c he
theorem eX.cls {T:List cI}{wt:List ce}(h:eX T wt):hP T wt (cz T):=fun _ _ b _ hv c=>(h.pJ b hv c).2
def ut (mj:Bool)(t:cI):Bool:=t.2.2.1&&!t.2.2.2&&!mj
def nB (L:List Bool)(v:Int×Int):List Bool:=if v.1=3 then L.set v.2.toNat true else L
def kh (T:List cI)(rs:List (Int×Int))(mj:Bool):List Bool:=rs.foldl nB (T.map (ut mj))
theorem Ag (L:List Bool)(v:Int×Int):(nB L v).length=L.length:=by
 unfold nB;split
 ·rw[bf]
 ·rfl
theorem Ah (T:List cI)(rs:List _)(mj:Bool):(kh T rs mj).length=T.length:=by
 have key:∀(rs:List (Int×Int))(L:List Bool),(rs.foldl nB L).length=L.length:=fun rs=>by
  induction rs with
  |nil=>intro L;rfl
  |cons v rs b=>intro L;rw[a9,b,Ag]
 unfold kh;rw[key,aZ]
theorem H0 {L:List Bool}{v:Int×Int}{i:Nat}:cw (nB L v) i↔cw L i\/(v.1=3/\v.2.toNat=i/\i<L.length):=by
 unfold nB;by_cases b:v.1=3
 ·rw[aK b];unfold cw;by_cases hl:v.2.toNat<L.length
  ·rw[nA _ _ _ hl];constructor
   ·intro h;split at h
    ·rename_i e;exact aL ⟨b,e,aa⟩
    ·exact aM h
   ·rintro(h|⟨_,e,_⟩)
    ·split
     ·rfl
     ·exact h
    ·rw[aK e]
  ·rw[List.set_eq_of_length_le aa];exact⟨aM,fun h=>h.elim id (fun⟨_,e,c⟩=>absurd c aa)⟩
 ·rw[aI b];exact⟨aM,fun h=>h.elim id (fun⟨e,_⟩=>absurd e b)⟩
theorem Ai:∀(rs:List (Int×Int))(L:List Bool)(i:Nat),cw (rs.foldl nB L) i↔cw L i\/(i<L.length/\∃v∈rs,v.1=3/\v.2.toNat=i)
 |[],L,i=>by simp
 |v::rs,L,i=>by
  rw[a9,Ai rs,H0,Ag];constructor
  ·rintro((h|⟨c,b,d⟩)|⟨c,u,f,b⟩)
   ·exact aM h
   ·exact aL ⟨d,v,ac,c,b⟩
   ·exact aL ⟨c,u,aX _ f,b⟩
  ·rintro(h|⟨c,u,f,b,d⟩)
   ·exact aM (aM h)
   ·rcases List.mem_cons.1 f with e|e
    ·rw[e] at b d;exact aM (aL ⟨b,d,c⟩)
    ·exact aL ⟨c,u,e,b,d⟩
theorem H2 (mj:Bool)(T:List cI)(i:Nat):cw (T.map (ut mj)) i↔i<T.length/\(T.getD i t0).2.2.1=true/\(T.getD i t0).2.2.2=false/\mj=false:=by
 unfold cw;by_cases h:i<T.length
 ·rw[aJ,List.getElem?_map,aN h,aJ,aN h];simp[ut,h,and_assoc]
 ·simp[h]
theorem kI (T:List cI)(rs:List _)(mj:Bool)(i:Nat):cw (kh T rs mj) i↔i<T.length/\(((T.getD i t0).2.2.1=true/\(T.getD i t0).2.2.2=false/\mj=false)\/∃v∈rs,v.1=3/\v.2.toNat=i):=by
 unfold kh;rw[Ai,H2,aZ];constructor
 ·rintro(⟨c,b⟩|⟨c,b⟩)
  ·exact⟨c,aM b⟩
  ·exact⟨c,aL b⟩
 ·rintro⟨c,b|b⟩
  ·exact aM ⟨c,b⟩
  ·exact aL ⟨c,b⟩
section
variable {T:List cI}{wt:List ce}
theorem oF.uniq {is a b:List Bool}(h:oF T wt is a)(c:oF T wt is b):a=b:=by
 refine List.ext_getElem (h.len.trans c.len.symm) (fun i d e=>?_)
 have key:cw a i↔cw b i:=⟨fun q=>h.lt _ c.cl c.up i q,fun q=>c.lt _ h.cl h.up i q⟩
 unfold cw at key;cases ha:a[i]<;>cases hb:b[i]<;>simp_all
end
def cV (L:List Bool)(x:Int):Bool:=L.getD x.toNat false
def fG (g:List Bool->List Bool)(L:List Bool)(x:Int):List Bool:=g (L.set x.toNat true)
def iN (T:List cI)(L:List Bool):Nat->Int
 |0=>0
 |i+1=>if L.getD i false=true then iN T L i+(1+(T.getD i t0).2.1.length) else iN T L i
def fH (L:List Bool)(i:Nat)(t:cI):cI:=
 if L.getD i false=true then
  (t.1,(if t.1=4/\d6 L (t.2.1.getD 0 (0,0))=false then[(2,0),(2,0)] else if t.1=3/\d6 L (t.2.1.getD 0 (0,0))=false then[(2,0),t.2.1.getD 1 (0,0)] else t.2.1),true,t.2.2.2)
 else(t.1,[],t.2.2.1,true)
def gj (L:List Bool)(T:List cI):Nat->List cI
 |0=>T
 |i+1=>(gj L T i).set i (fH L i (T.getD i t0))
def cn.c0 (g:List Bool->List Bool)(s:cn)(mj:Bool):List Bool:=g (kh s.T s.rs mj)
def cn.cR (g:List Bool->List Bool)(s:cn)(mj:Bool):List Bool×List ce×List ce:=
 turns cV (fG g) (s.rg.length+1) (s.rg.filter (fun e=>!cV (s.c0 g mj) e.2)) (s.c0 g mj) []
def cn.cF (g:List Bool->List Bool)(s:cn)(b_:Int)(mj:Bool):Bool:=
 (!mj&&decide (b_-(ey s.T).2<(ey s.T).1))||decide (b_<iN s.T (s.cR g mj).1 s.T.length)
def cn.cut (g:List Bool->List Bool)(s:cn)(b_:Int)(mj:Bool):cn:=
 if s.cF g b_ mj=true then s else
  {T:=gj (s.cR g mj).1 s.T s.T.length,rs:=s.rs,rg:=s.rg.filter (fun e=>cV (s.c0 g mj) e.2&&cV (s.cR g mj).1 e.1),wt:=(s.wt++(s.cR g mj).2.1).filter (fun e=>cV (s.cR g mj).1 e.1)}
def cn.g9 (g:List Bool->List Bool)(s:cn)(b_:Int)(mj:Bool):Int:=if s.cF g b_ mj=true then 3 else 0
def dL (T:List cI)(wt:List ce)(g:List Bool->List Bool):Prop:=∀is:List Bool,is.length=T.length->(∀k,cw is k->cz T k)->oF T wt is (g is)
theorem jK (L:List Bool)(T:List cI):∀i,(gj L T i).length=T.length
 |0=>rfl
 |i+1=>by rw[gj,bf];exact jK L T i
theorem rh (L:List Bool)(T:List cI):∀(i j:Nat),i<=T.length->j<T.length->(gj L T i).getD j t0=if j<i then fH L j (T.getD j t0) else T.getD j t0
 |0,j,_,_=>by rfl
 |i+1,j,hi,b=>by
  rw[gj,aJ,List.getElem?_set];by_cases e:i=j
  ·subst e;rw[aK rfl,aK (by rw[jK];exact b),aK aa];rfl
  ·rw[aI e,<-aJ,(rh L T i j aa b)];by_cases c:j<i
   ·rw[aK c,aK aa]
   ·rw[aI c,aI aa]
theorem Aj (T:List cI)(L:List Bool)(h:∀i,(T.getD i t0).2.1.length<=12):∀i,0<=iN T L i/\iN T L i<=13*i
 |0=>by simp[iN]
 |i+1=>by
  have b:=Aj T L h i;have:=h i;unfold iN;split
  ·omega
  ·omega
section
variable {T:List cI}{wt:List ce}{g:List Bool->List Bool}
structure gH (T:List cI)(L:List Bool):Prop where
 len:L.length=T.length
 al:∀k,cw L k->cz T k
theorem dL.ok (hg:dL T wt g)(c:eX T wt){L:List Bool}(h:gH T L):gH T (g L)/\∀k,cw L k->cw (g L) k:=by have b:=hg L h.len h.al;exact⟨⟨b.len.trans h.len,fun k hk=>b.lt _ c.cls h.al k hk⟩,b.up⟩
theorem gH.put {L:List Bool}(h:gH T L){x:Nat}(b:cz T x):gH T (L.set x true)/\cw (L.set x true) x/\∀k,cw L k->cw (L.set x true) k:=by
 have hl:x<L.length:=by rw[h.len];exact b.1
 refine⟨⟨by rw[bf];exact h.len,fun k hk=>?_⟩,?_,fun k hk=>?_⟩
 ·unfold cw at hk;rw[nA _ _ _ hl] at hk;split at hk
  ·rename_i e;rw[<-e];exact b
  ·exact h.al k hk
 ·unfold cw;rw[nA _ _ _ hl,aK rfl]
 ·unfold cw at hk⊢;rw[nA _ _ _ hl];split
  ·rfl
  ·exact hk
theorem gH.fG (hg:dL T wt g)(c:eX T wt){L:List Bool}(h:gH T L){x:Int}(d:cz T x.toNat):gH T (fG g L x)/\cw (fG g L x) x.toNat/\∀k,cw L k->cw (fG g L x) k:=by obtain⟨e,f,i⟩:=h.put d;obtain⟨q1,b⟩:=hg.ok c e;exact⟨q1,b _ f,fun k hk=>b _ (i k hk)⟩
end
structure fQ (s:cn):Prop where
 iv:eX s.T s.wt
 rv:∀v∈s.rs,v.1=3->0<=v.2/\cz s.T v.2.toNat
 gv:∀e∈s.rg,(0<=e.1/\cz s.T e.1.toNat)/\0<=e.2/\cz s.T e.2.toNat
 wg:∀e∈s.wt,0<=e.1/\cz s.T e.1.toNat
 tl:s.T.length<=10000
 gl:s.rg.length<=1000
 wl:s.wt.length<=1000
theorem fQ.t12 {s:cn}(h:fQ s):∀t∈s.T,t.2.1.length<=12:=fun t ht=>by
 obtain⟨i,hi,e⟩:=List.mem_iff_getElem.1 ht;have:=h.iv.tl i;rw[aJ,aN hi,e] at this
 exact this
theorem fQ.first {s:cn}(h:fQ s)(mj:Bool):gH s.T (kh s.T s.rs mj):=
 ⟨Ah _ _ _,fun k hk=>by
  obtain⟨c,b⟩:=(kI _ _ _ _).1 hk;rcases b with⟨_,b,_⟩|⟨v,hv,d,e⟩
  ·exact⟨c,b⟩
  ·rw[<-e];exact(h.rv v hv d).2⟩
abbrev eM:=List cI->List ce->List Bool->List Bool
def iO (T:List cI)(v:Int×Int):Bool:=v.1==3&&(T.getD v.2.toNat t0).1==5
def kJ (T:List cI)(v:Int×Int):Bool:=v.1==3&&!((T.getD v.2.toNat t0).1==5)
theorem ri {T:List cI}{v:Int×Int}:iO T v=true↔v.1=3/\(T.getD v.2.toNat t0).1=5:=by unfold iO;simp
theorem jL {T:List cI}{v:Int×Int}:kJ T v=true↔v.1=3/\(T.getD v.2.toNat t0).1≠5:=by unfold kJ;simp
abbrev jh (T:List cI)(j i:Nat)(y:Int×Int):List cI:=T.set j ((T.getD j t0).1,(T.getD j t0).2.1.set i y,(T.getD j t0).2.2)
def cn.room (g:eM)(ch b_:Int)(s:cn)(m:Int):Int×cn:=
 if m<=ch-(ey s.T).1 then(0,s) else(s.g9 (g s.T s.wt) b_ (decide (b_-(ey s.T).2<(ey s.T).1)),s.cut (g s.T s.wt) b_ (decide (b_-(ey s.T).2<(ey s.T).1)))
def cn.put (s:cn)(kd:Int)(l:List (Int×Int)):cn:={s with T:=s.T++[(kd,l,false,false)]}
def cn.b_ (g:eM)(ch b_:Int)(s:cn)(kd:Int)(l:List (Int×Int)):(Int×Int)×Int×cn:=
 if(s.room g ch b_ (1+l.length)).1=0 then((3,((s.room g ch b_ (1+l.length)).2.T.length:Int)),0,(s.room g ch b_ (1+l.length)).2.put kd l)
 else((0,0),(s.room g ch b_ (1+l.length)).1,(s.room g ch b_ (1+l.length)).2)
def cn.pop (s:cn)(v:Int×Int):(Int×Int)×Int×cn:=
 if iO s.T v=true then(if dV v.2 s.wt<s.wt.length then((3,(s.wt.getD (dV v.2 s.wt) (0,0)).2),0,{s with wt:=s.wt.take (dV v.2 s.wt)++s.wt.drop (dV v.2 s.wt+1)}) else((0,0),4,s)) else((0,0),2,s)
def cn.fc (s:cn)(v:Int×Int)(I:Int):Int:=if kJ s.T v=true then(if I<0\/((s.T.getD v.2.toNat t0).2.1.length:Int)<=I then 1 else 0) else 2
def cn.rt (g:eM)(ch b_:Int)(s:cn)(k:Int)(A B:Nat)(I n:Int):(Int×Int)×Int×cn:=
 if k=1 then((1,n),0,s) else if k=3 then(s.rs.getD A (0,0),0,s) else if k=4 then s.b_ g ch b_ 1 [s.rs.getD A (0,0),s.rs.getD B (0,0)] else if k=5 then s.b_ g ch b_ 2 (List.replicate n.toNat (s.rs.getD A (0,0)))
 else if k=6 then s.b_ g ch b_ 3 [s.rs.getD A (0,0),s.rs.getD B (0,0)] else if k=7 then s.b_ g ch b_ 4 [s.rs.getD A (0,0),s.rs.getD B (0,0)] else if k=8 then s.b_ g ch b_ 5 [] else if k=10 then s.pop (s.rs.getD A (0,0))
 else if k=11 then((if s.fc (s.rs.getD A (0,0)) I=0 then(s.T.getD (s.rs.getD A (0,0)).2.toNat t0).2.1.getD I.toNat (0,0) else(0,0)),s.fc (s.rs.getD A (0,0)) I,s)
 else if k=13 then(if kJ s.T (s.rs.getD A (0,0))=true then((1,((s.T.getD (s.rs.getD A (0,0)).2.toNat t0).2.1.length:Int)),0,s) else((0,0),2,s))
 else if k=14 then((1,if s.rs.getD A (0,0)=s.rs.getD B (0,0) then 1 else 0),0,s) else((0,0),0,s)
def cn.reg (s:cn)(t b:Int×Int):Int×cn:=
 if t.1=3/\iO s.T b=true then(if 24<=s.rg.length+s.wt.length then(3,s) else(0,{s with rg:=s.rg++[(b.2,t.2)]})) else(2,s)
def cn.set (s:cn)(v:Int×Int)(I:Int)(y:Int×Int):Int×cn:=(s.fc v I,if s.fc v I=0 then {s with T:=jh s.T v.2.toNat I.toNat y} else s)
def cn.gm (g:eM)(ch b_:Int)(s:cn)(k R A B I n:Int):Int×cn:=
 if d4 k R A B n=0 then(if k=9 then s.reg (s.rs.getD A.toNat (0,0)) (s.rs.getD B.toNat (0,0)) else if k=12 then s.set (s.rs.getD A.toNat (0,0)) I (s.rs.getD B.toNat (0,0))
  else if k=15 then(s.g9 (g s.T s.wt) b_ false,s.cut (g s.T s.wt) b_ false) else if k=16 then(s.g9 (g s.T s.wt) b_ true,s.cut (g s.T s.wt) b_ true)
  else if(s.rt g ch b_ k A.toNat B.toNat I n).2.1=0 then(0,{(s.rt g ch b_ k A.toNat B.toNat I n).2.2 with rs:=(s.rt g ch b_ k A.toNat B.toNat I n).2.2.rs.set R.toNat (s.rt g ch b_ k A.toNat B.toNat I n).1})
  else((s.rt g ch b_ k A.toNat B.toNat I n).2.1,(s.rt g ch b_ k A.toNat B.toNat I n).2.2))
 else(d4 k R A B n,s)
structure dA where
 A:List Bool
 td:List Int
 hd:Int->List (Int×Int)
 m:Nat
def d_ (s:dA)(v:Int×Int):dA:=if d6 s.A v=true then s else {s with A:=s.A.set v.2.toNat true,td:=s.td++[v.2]}
def dv (s:dA)(l:List (Int×Int)):dA:=l.foldl d_ s
def k8 (s:dA)(k v:Int×Int):dA:=if d6 s.A k=true then d_ s v else {s with hd:=fun x=>if x=k.2 then s.hd x++[v] else s.hd x,m:=s.m+1}
def gG (T:List cI)(wt:List ce)(s:dA)(i:Int):dA:=
 if(T.getD i.toNat t0).1=1\/(T.getD i.toNat t0).1=2 then dv s (T.getD i.toNat t0).2.1
 else if(T.getD i.toNat t0).1=3 then d_ s ((T.getD i.toNat t0).2.1.getD 1 (0,0))
 else if(T.getD i.toNat t0).1=4 then k8 s ((T.getD i.toNat t0).2.1.getD 0 (0,0)) ((T.getD i.toNat t0).2.1.getD 1 (0,0))
 else if(T.getD i.toNat t0).1=5 then dv s ((eu wt i).map fun x=>(3,x)) else s
def gS (T:List cI)(wt:List ce)(s:dA)(i:Int):dA:=dv (gG T wt s i) ((gG T wt s i).hd i)
theorem Ak (s:dA)(l:List (Int×Int))(v:Int×Int):dv s (l++[v])=d_ (dv s l) v:=by simp[dv,List.foldl_append]
def pK (T:List cI)(wt:List ce)(s:dA)(P:Int->Prop)(i:Nat):Prop:=
 ((T.getD i t0).1≠4->∀v,jg T wt (fun _=>True) i v->v.1=3->cw s.A v.2.toNat)/\
 ((
   T.getD i t0).1=4->(((T.getD i t0).2.1.getD 0 (0,0)).1=3/\(¬cw s.A ((T.getD i t0).2.1.getD 0 (0,0)).2.toNat\/P ((T.getD i t0).2.1.getD 0 (0,0)).2)/\(T.getD i t0).2.1.getD 1 (0,0)∈s.hd ((T.getD i t0).2.1.getD 0 (0,0)).2)\/
   (((T.getD i t0).2.1.getD 1 (0,0)).1=3->cw s.A ((T.getD i t0).2.1.getD 1 (0,0)).2.toNat))
structure eZ (T:List cI)(wt:List ce)(is:List Bool)(s:dA)(E:List Int):Prop where
 len:s.A.length=T.length
 al:∀k,cw s.A k->cz T k
 lt:∀X,hP T wt X->(∀k,cw is k->X k)->∀k,cw s.A k->X k
 td:∀x,x∈E\/x∈s.td->0<=x/\cw s.A x.toNat
 hd:∀x v,v∈s.hd x->∃i,cw s.A i/\(T.getD i t0).1=4/\(T.getD i t0).2.1.getD 0 (0,0)=(3,x)/\v=(T.getD i t0).2.1.getD 1 (0,0)
 dm:∀i:Nat,cw s.A i->¬((i:Int)∈E\/(i:Int)∈s.td)->pK T wt s (fun x=>x∈E\/x∈s.td) i
section
variable {T:List cI}{wt:List ce}{is:List Bool}{s:dA}{E:List Int}
theorem Al {L:List Bool}{i k:Nat}(h:cw L k):cw (L.set i true) k:=by grind [cw]
theorem pL (s:dA)(v:Int×Int){k:Nat}(h:cw s.A k):cw (d_ s v).A k:=by grind [Al,d_]
theorem uu (s:dA)(v:Int×Int)(b:v.1=3)(hl:v.2.toNat<s.A.length):cw (d_ s v).A v.2.toNat:=by grind [nz,d_,cw]
theorem rj (s:dA)(v:Int×Int):(d_ s v).A.length=s.A.length:=by grind [d_]
theorem nD (s:dA)(v:Int×Int):(d_ s v).hd=s.hd/\(d_ s v).m=s.m:=by grind [d_]
theorem H3 (s:dA)(v:Int×Int){x:Int}(h:x∈s.td):x∈(d_ s v).td:=by grind [d_]
theorem H4 (s:dA)(v:Int×Int)(hv:v.1=3->0<=v.2){k:Nat}(h:cw (d_ s v).A k):cw s.A k\/(k:Int)∈(d_ s v).td:=by grind [d_,d6,cw]
theorem jj (s:dA)(l:List _):(dv s l).hd=s.hd/\(dv s l).m=s.m/\(dv s l).A.length=s.A.length:=by
 induction l generalizing s with
 |nil=>exact⟨rfl,rfl,rfl⟩
 |cons v l b=>
  have h:=b (d_ s v)
  exact⟨h.1.trans (nD s v).1,h.2.1.trans (nD s v).2,h.2.2.trans (rj s v)⟩
theorem kK (s:dA)(l:List _){k:Nat}(h:cw s.A k):cw (dv s l).A k:=by
 induction l generalizing s with
 |nil=>exact h
 |cons v l b=>exact b (d_ s v) (pL s v h)
theorem H5 (s:dA)(l:List _){x:Int}(h:x∈s.td):x∈(dv s l).td:=by
 induction l generalizing s with
 |nil=>exact h
 |cons v l b=>exact b (d_ s v) (H3 s v h)
theorem uv (s:dA)(l:List _)(hl:∀v∈l,v.1=3->v.2.toNat<s.A.length):∀v∈l,v.1=3->cw (dv s l).A v.2.toNat:=by
 induction l generalizing s with
 |nil=>grind
 |cons u l b=>
  intro v hv c;rcases List.mem_cons.1 hv with e|hv
  ·exact kK (d_ s u) l (by grind [uu])
  ·exact b (d_ s u) (by grind [rj]) v hv c
theorem H6 (s:dA)(l:List _)(hl:∀v∈l,v.1=3->0<=v.2){k:Nat}(h:cw (dv s l).A k):cw s.A k\/(k:Int)∈(dv s l).td:=by
 induction l generalizing s with
 |nil=>exact aM h
 |cons v l b=>
  rcases b (d_ s v) (by grind) h with c|c
  ·rcases H4 s v (by grind) c with c|c
   ·grind
   ·exact aL (H5 (d_ s v) l c)
  ·exact aL c
theorem pK.mono {s d:dA}{P e:Int->Prop}{i:Nat}(h:pK T wt s P i)(f:∀k,cw s.A k->cw d.A k)(j:∀x:Int,0<=x->cw d.A x.toNat->¬cw s.A x.toNat->e x)(l:∀x,P x->e x)(m:∀x v,v∈s.hd x->v∈d.hd x)(h0:(T.getD i t0).1=4->((T.getD i t0).2.1.getD 0 (0,0)).1=3->0<=((T.getD i t0).2.1.getD 0 (0,0)).2):pK T wt d e i:=by
 refine⟨fun hk v hv g=>f _ (h.1 hk v hv g),fun hk=>?_⟩
 rcases h.2 hk with⟨a,b,c⟩|a
 all_goals grind
theorem lQ (b:eX T wt){i:Nat}(hi:cz T i)(hk:(T.getD i t0).1=4)(j:Nat)(c:j<2):((T.getD i t0).2.1.getD j (0,0)).1=3->0<=((T.getD i t0).2.1.getD j (0,0)).2/\cz T ((T.getD i t0).2.1.getD j (0,0)).2.toNat:=fun d=>
 b.fv i hi _ (getD_in ((b.fl i hi (aL hk)▸c))) d
theorem uw {s:dA}{v:Int×Int}(h:d6 s.A v=true):d_ s v=s:=by grind [d_]
theorem rk {s:dA}{v:Int×Int}(h:d6 s.A v=false):d_ s v={s with A:=s.A.set v.2.toNat true,td:=s.td++[v.2]}:=by grind [d_]
theorem eZ.mark (h:eZ T wt is s E)(e:eX T wt)(v:Int×Int)(hv:v.1=3->0<=v.2/\cz T v.2.toNat)(l:v.1=3->∀X,hP T wt X->(∀k,cw is k->X k)->X v.2.toNat):eZ T wt is (d_ s v) E:=by
 cases hi:d6 s.A v
 ·obtain⟨c,m⟩:=ny hi;obtain⟨v0,f⟩:=hv c;have hl:v.2.toNat<s.A.length:=(h.len▸f.1)
  have n:∀k,cw (d_ s v).A k↔v.2.toNat=k\/cw s.A k:=fun k=>by grind [rk,cw]
  have g:∀x,x∈(d_ s v).td↔x∈s.td\/x=v.2:=fun x=>by grind [rk]
  refine⟨(rj s v).trans h.len,fun k hk=>?_,fun X o hb k hk=>?_,fun x b=>?_,fun x u j=>?_,fun i p hn=>?_⟩
  ·grind [al]
  ·grind [lt]
  ·rcases b with b|b
   ·exact⟨(h.td x (by grind)).1,pL s v (h.td x (by grind)).2⟩
   ·rcases(g x).1 b with b|b
    ·exact⟨(h.td x (by grind)).1,pL s v (h.td x (by grind)).2⟩
    grind
  ·rw[(nD s v).1] at j
   grind [hd]
  ·have d:cw s.A i:=by grind
   refine(h.dm i d (by grind)).mono (by grind) (fun x q ha hb=>?_) (by grind) (by grind [nD]) (fun hk c=>(lQ e (h.al i d) hk 0 ae c).1)
   grind
 grind [uw]
theorem eZ.marks (h:eZ T wt is s E)(c:eX T wt)(l:List _)(hv:∀v∈l,v.1=3->0<=v.2/\cz T v.2.toNat)(d:∀v∈l,v.1=3->∀X,hP T wt X->(∀k,cw is k->X k)->X v.2.toNat):eZ T wt is (dv s l) E:=by
 induction l generalizing s with
 |nil=>exact h
 |cons v l b=>exact b (by grind [mark]) (by grind) (by grind)
theorem Am (s:dA)(v:Int×Int)(hv:v.1=3->v.2.toNat<s.A.length):(d_ s v).td.length+cnt (d_ s v).A=s.td.length+cnt s.A:=by
 cases hi:d6 s.A v
 ·obtain⟨b,c⟩:=ny hi;have d:=ur s.A v.2.toNat (by simp_all)
  rw[rk hi]
  grind
 ·rw[uw hi]
theorem pM (s:dA)(l:List _)(hl:∀v∈l,v.1=3->v.2.toNat<s.A.length):(dv s l).td.length+cnt (dv s l).A=s.td.length+cnt s.A:=by
 induction l generalizing s with
 |nil=>rfl
 |cons v l b=>exact(b (d_ s v) (by grind [rj])).trans (Am s v (by grind))
theorem eZ.pop {t:List Int}{x:Int}(h:eZ T wt is s [])(b:eX T wt)(e:s.td=t++[x]):eZ T wt is {s with td:=t} [x]:=by
 have hm:∀y,(y∈[x]\/y∈t)↔(y∈([]:List Int)\/y∈s.td):=fun y=>by grind
 exact⟨h.len,h.al,h.lt,fun y hy=>h.td y (by grind),h.hd,fun i hi hn=>(h.dm i hi (by grind)).mono (by grind) (by grind) (by grind) (by grind) (fun hk c=>(lQ b (h.al i hi) hk 0 ae c).1)⟩
theorem eZ.hold {i n:Nat}{x:Int}{u:Int×Int}(h:eZ T wt is s E)(c:eX T wt)(hi:cw s.A i)(hk:(T.getD i t0).1=4)(h0:(T.getD i t0).2.1.getD 0 (0,0)=(3,x))(e:(T.getD i t0).2.1.getD 1 (0,0)=u):
 eZ T wt is {s with hd:=fun y=>if y=x then s.hd y++[u] else s.hd y,m:=n} E:=by
 refine⟨h.len,h.al,h.lt,h.td,fun y v hv=>?_,fun j b hn=>(h.dm j b hn).mono (by grind) (by grind) (by grind) (fun y v hv=>?_) (fun hk d=>(lQ c (h.al j b) hk 0 ae d).1)⟩
 all_goals grind [hd]
theorem eZ.drop {i:Nat}(h:eZ T wt is s [(i:Int)])(f:¬(i:Int)∈s.td->pK T wt s (fun x=>x∈s.td) i)(g:∀v∈s.hd i,v.1=3->cw s.A v.2.toNat):eZ T wt is s []:=by
 refine⟨h.len,h.al,h.lt,fun x k=>h.td x (by grind),h.hd,fun j d hn=>?_⟩
 have hn:_:=fun c=>hn (aL c)
 by_cases e:j=i
 ·simp_all
 ·have:=h.dm j d (by grind)
  refine⟨this.1,fun hk=>?_⟩
  rcases this.2 hk with⟨a,b,c⟩|a
  all_goals grind
theorem ux {i x:Int}:x∈eu wt i↔(∃e∈wt,e.1=i/\x=e.2):=by simp_all [eu]
theorem eZ.list {i:Nat}(h:eZ T wt is s [(i:Int)])(c:eX T wt)(hi:cw s.A i)(l:List _)(hl:∀v∈l,jg T wt (cw s.A) i v):eZ T wt is (dv s l) [(i:Int)]/\∀v∈l,v.1=3->cw (dv s l).A v.2.toNat:=
 ⟨h.marks c l (fun v hv b=>c.pJ (h.al i hi) (hl v hv) b) (fun v hv b X d hb=>d i (h.al i hi).1 (by grind [lt]) v (by grind [jg.mono,lt]) b),
  uv s l (fun v hv b=>(h.len▸(c.pJ (h.al i hi) (hl v hv) b).2.1))⟩
theorem eZ.free {i:Nat}(h:eZ T wt is s [(i:Int)])(f:eX T wt)(hi:cw s.A i):eZ T wt is (dv s (s.hd i)) [(i:Int)]/\(∀v∈s.hd i,v.1=3->cw (dv s (s.hd i)).A v.2.toNat)/\(∀v∈s.hd i,v.1=3->0<=v.2/\v.2.toNat<s.A.length):=by
 have ho:∀v∈s.hd i,v.1=3->0<=v.2/\cz T v.2.toNat:=fun v hv d=>by obtain⟨j,a,b,c,e⟩:=h.hd _ _ hv;rw[e] at d⊢;exact lQ f (h.al j a) b 1 ae d
 refine⟨h.marks f _ ho (fun v hv d X g hb=>?_),uv s _ (fun v hv d=>(h.len▸(ho v hv d).2.1)),fun v hv d=>⟨(ho v hv d).1,(h.len▸(ho v hv d).2.1)⟩⟩
 obtain⟨j,a,b,c,e⟩:=h.hd _ _ hv;refine g j (h.al j a).1 (by grind [lt]) v (aL (aL (aM ⟨b,fun _=>?_,e⟩))) d
 grind [lt]
structure An (T:List cI)(wt:List ce)(is:List Bool)(s s':dA):Prop where
 mi:eZ T wt is s' []
 mm:s'.m<=s.m+1
 td:s'.td.length+cnt s'.A=s.td.length+cnt s.A
 up:∀k,cw s.A k->cw s'.A k
theorem rn {i:Nat}(h:eZ T wt is s [(i:Int)])(d:eX T wt)(hi:cw s.A i)(hk:(T.getD i t0).1≠4)(l:List _)(e:∀v∈l,jg T wt (cw s.A) i v)(f:∀v,jg T wt (fun _=>True) i v->v∈l):
 An T wt is s (dv (dv s l) ((dv s l).hd i)):=by
 obtain⟨a1,a2⟩:=h.list d hi l e;obtain⟨b1,b2,b3⟩:=a1.free d (kK s l hi)
 refine⟨b1.drop (fun _=>⟨fun _ v hv b=>kK _ _ (a2 v (f v hv) b),fun c=>absurd c hk⟩) (fun v hv=>?_),?_,?_,fun k hk=>kK _ _ (kK _ _ hk)⟩
 ·rw[(jj _ _).1] at hv;exact b2 v hv
 ·rw[(jj _ _).2.1,(jj _ _).2.1];omega
 ·rw[pM _ _ (fun v hv b=>(b3 v hv b).2),pM _ _ (fun v hv b=>by rw[h.len];exact(d.pJ (h.al i hi) (e v hv) b).2.1)]
theorem eZ.look {i:Nat}(h:eZ T wt is s [(i:Int)])(b:eX T wt)(hi:cw s.A i):An T wt is s (gS T wt s i):=by
 have o:=h.al i hi;unfold gS gG;rw[Int.toNat_natCast];by_cases k1:(T.getD i t0).1=1\/(T.getD i t0).1=2
 ·rw[aK k1];refine rn h b hi aa _ (fun v hv=>aM ⟨k1,hv⟩) (fun v hv=>?_)
  rcases hv with c|c|c|c
  ·exact c.2
  ·exact absurd c.1 aa
  ·exact absurd c.1 aa
  ·exact absurd c.1 aa
 rw[aI k1];by_cases g:(T.getD i t0).1=3
 ·rw[aK g];refine rn h b hi aa [_] (fun v hv=>aL (aM ⟨g,by simpa using hv⟩)) (fun v hv=>?_)
  rcases hv with c|c|c|c
  ·exact absurd c.1 aa
  ·rw[c.2];simp
  ·exact absurd c.1 aa
  ·exact absurd c.1 aa
 rw[aI g];by_cases d:(T.getD i t0).1=4
 ·rw[aK d];unfold k8;cases hk:d6 s.A _
  ·obtain⟨q3,q⟩:=ny hk;rw[aI ae];have t:(T.getD i t0).2.1.getD 0 (0,0)=(3,((T.getD i t0).2.1.getD 0 (0,0)).2):=by rw[<-q3]
   obtain⟨b1,b2,b3⟩:=(h.hold (n:=s.m+1) b hi d t rfl).free b hi;refine⟨b1.drop (fun _=>⟨fun c=>absurd d c,fun _=>aM ⟨q3,?_,?_⟩⟩) (fun v hv=>?_),?_,?_,fun k hk=>kK _ _ hk⟩
   ·by_cases c:cw (dv {s with hd:=fun y=>if y=((T.getD i t0).2.1.getD 0 (0,0)).2 then s.hd y++[(T.getD i t0).2.1.getD 1 (0,0)] else s.hd y,m:=s.m+1} ((fun y=>if y=((T.getD i t0).2.1.getD 0 (0,0)).2 then s.hd y++[(T.getD i t0).2.1.getD 1 (0,0)] else s.hd y) (i:Int))).A ((T.getD i t0).2.1.getD 0 (0,0)).2.toNat
    ·right;rcases H6 _ _ (fun v hv f=>(b3 v hv f).1) c with c|c
     ·exact absurd c (by unfold cw;rw[q];decide)
     ·have:=(lQ b o d 0 ae q3).1;rwa [Int.toNat_of_nonneg this] at c
    ·exact aM c
   ·rw[(jj _ _).1];dsimp only;rw[aK rfl];exact bj _ ac
   ·rw[(jj _ _).1] at hv;exact b2 v hv
   ·rw[(jj _ _).2.1];exact aG _
   ·rw[pM _ _ (fun v hv f=>(b3 v hv f).2)]
  ·rw[aK rfl];have p:∀v∈[(T.getD i t0).2.1.getD 1 (0,0)],jg T wt (cw s.A) i v:=fun v hv=>aL (aL (aM ⟨d,fun c=>nz hk c,by simpa using hv⟩))
   obtain⟨a1,a2⟩:=h.list b hi _ p;obtain⟨b1,b2,b3⟩:=a1.free b (kK s _ hi)
   refine⟨b1.drop (fun _=>⟨fun c=>absurd d c,fun _=>aL (fun c=>kK _ _ (a2 _ ac c))⟩) (fun v hv=>?_),?_,?_,fun k hk=>kK _ _ (kK s [_] hk)⟩
   ·rw[(jj _ _).1] at hv;exact b2 v hv
   ·show(dv (dv s [_]) _).m<=_;rw[(jj _ _).2.1,(jj _ _).2.1];omega
   ·rw[show d_ s ((T.getD i t0).2.1.getD 1 (0,0))=dv s [(T.getD i t0).2.1.getD 1 (0,0)] from rfl];rw[pM _ _ (fun v hv f=>(b3 v hv f).2),pM _ _ (fun v hv f=>by rw[h.len];exact(b.pJ o (p v hv) f).2.1)]
 rw[aI d];by_cases k5:(T.getD i t0).1=5
 ·rw[aK k5];refine rn h b hi d _ (fun v hv=>?_) (fun v hv=>?_)
  ·obtain⟨x,u,rfl⟩:=List.mem_map.1 hv;obtain⟨e,j,l,rfl⟩:=ux.1 u;exact aL (aL (aL ⟨k5,e,j,l,rfl⟩))
  ·rcases hv with c|c|c|c
   ·exact absurd c.1 aa
   ·exact absurd c.1 aa
   ·exact absurd c.1 aa
   ·obtain⟨_,e,j,l,rfl⟩:=c;exact List.mem_map.2 ⟨e.2,ux.2 ⟨e,j,l,rfl⟩,rfl⟩
 ·rw[aI k5];refine rn h b hi d [] (fun v hv=>by cases hv) (fun v hv=>?_)
  rcases hv with c|c|c|c
  ·exact absurd c.1 k1
  ·exact absurd c.1 g
  ·exact absurd c.1 d
  ·exact absurd c.1 k5
theorem eZ.done (h:eZ T wt is s [])(e:s.td=[])(hl:is.length=T.length)(g:∀k,cw is k->cw s.A k):oF T wt is s.A:=by
 refine⟨h.len.trans hl.symm,g,fun i _ j v hv d=>?_,h.lt⟩
 have hd:=h.dm i j (by rw[e];simp)
 by_cases f:(T.getD i t0).1=4
 ·rcases hv with c|c|c|c
  ·exact absurd c.1 aa
  ·exact absurd c.1 aa
  ·rcases hd.2 f with⟨a,b,_⟩|a
   ·rcases b with b|b
    ·exact absurd (c.2.1 a) b
    ·rw[e] at b;simp at b
   ·rw[c.2.2] at d⊢;exact a d
  ·exact absurd c.1 aa
 ·exact hd.1 f v (hv.mono (fun _ _=>trivial)) d
theorem eZ.base (h:eZ T wt is s []){b:List Bool}(c:∀k,cw s.A k->cw b k):eZ T wt b s []:=⟨h.len,h.al,fun _ _ hb k hk=>hb k (c k hk),h.td,h.hd,h.dm⟩
theorem eZ.start (T:List cI)(wt:List ce)(is:List Bool):eZ T wt is ⟨List.replicate T.length false,[],fun _=>[],0⟩ []:=by
 have hn:∀k,¬cw (List.replicate T.length false) k:=fun k hk=>by unfold cw at hk;rw[aJ,List.getElem?_replicate] at hk;split at hk<;>cases hk
 exact⟨ac,fun k hk=>absurd hk (hn k),fun _ _ _ k hk=>absurd hk (hn k),fun x b=>absurd b ac,fun x v hv=>absurd hv ac,fun i hi=>absurd hi (hn i)⟩
end
def hld (v:Value):Option (DataW Value×List MemPlace):=some (.held v,[])
theorem pN:Maps.Keyed prog 2:=Maps.int_keyed underlying2
theorem uy {a:Int}(h0:0<=a)(b:a<1152921504606846976):keyOf prog 2 (.int .i64 a)=some (.int .i64 a):=Maps.keyOf_int_mk underlying2 (WalkArith.wf_i64 aa)
def pO (D:DataW Value)(f:Int->Option Value):Prop:=∀x:Int,Maps.has D (.int .i64 x)=(f x).isSome/\∀v,f x=some v->∀z,D.atKey (.int .i64 x) z=.held v
def eF (w:az)(b n:Nat)(f:Int->Option Value):Prop:=∃D,w.ownsMap prog 2 hld b n D/\pO D f
def jM (f:Int->Option Value)(x:Int)(v:Value):Int->Option Value:=fun y=>if y=x then some v else f y
def gC (w:az)(b r n:Nat)(f:Int->Option Value)(left:Int->Bool)(c:Nat):Prop:=∃D L,w.ranges prog 2 hld b r n D L c/\pO D f/\∀x:Int,L (.int .i64 x)=left x
section
variable {w w':az}{b r n c:Nat}{f:Int->Option Value}{t e:TypeId}{left:Int->Bool}
theorem eF.made (w:az):eF (w.alloc (.map #[] 0)) w.heap.size 0 (fun _=>none):=⟨_,World.ownsMap_made w prog 2 hld,fun _=>⟨rfl,fun _ h=>by grind⟩⟩
theorem eF.lt (h:eF w b n f):b<w.heap.size:=let⟨_,h,_⟩:=h;h.lt
theorem eF.same (h:eF w b n f)(e:w'.heap[b]?=w.heap[b]?):eF w' b n f:=by obtain⟨D,⟨c,d,hb,r⟩,g⟩:=h;exact⟨D,⟨c,d,e.trans hb,r⟩,g⟩
theorem eF.blk (h:eF w b n f):∃c k,w.heap[b]?=some (.map c k):=let⟨_,⟨c,k,hb,_⟩,_⟩:=h;(by grind)
theorem eF.put (h:eF w b n f)(ht:prog.underlying t=some (.map 2 e))(hn:n<100000){x:Int}(h0:0<=x)(i:x<1152921504606846976)(v:Value):
 ∃w',(Instr.mapUpdate t (.map (some b)) (ak x) v).run prog w=.ok () w'/\eF w' b (n+1) (jM f x v)/\w.grownBy w' (some b):=by
 obtain⟨D,h,d⟩:=h;obtain⟨w',r1,j,r3⟩:=h.update pN ht (by unfold maxLen;omega) (uy h0 i) rfl;refine⟨w',r1,⟨_,j,fun y=>?_⟩,r3⟩
 unfold jM;by_cases g:y=x
 ·subst g;rw[aK rfl];exact⟨Maps.has_put_same (k:=.int .i64 y) h.isMap trivial _,fun u c z=>by cases c;exact Maps.atKey_put_same (k:=.int .i64 y) h.isMap trivial _ _⟩
 ·rw[aI g,Maps.has_put_other (by grind)];exact⟨(d y).1,fun u c z=>by rw[Maps.atKey_put_other (by grind)];exact(d y).2 u c z⟩
theorem pO.val {D:DataW Value}(b:pO D f){x:Int}{z v:Value}{ps:List MemPlace}(h:hld v=some (D.atKey (.int .i64 x) (.held z),ps)):v=(f x).getD z:=by
 have c:=(Prod.mk.inj (Option.some.inj h)).1;cases hf:f x with
 |none=>
  rw[Maps.atKey_of_not_has (by rw[(b x).1,hf];rfl)] at c
  grind
 |some u=>
  rw[(b x).2 u hf] at c
  grind
theorem eF.look (h:eF w b n f)(ht:prog.underlying t=some (.map 2 e)){z:Value}(hz:(zeroValue e).run prog w=.ok z w){x:Int}(h0:0<=x)(c:x<1152921504606846976):
 (Instr.lookup t (.map (some b)) (ak x) false).run prog w=.ok ((f x).getD z) w:=by
 obtain⟨D,h,d⟩:=h;obtain⟨v,ps,r1,g⟩:=h.lookup pN ht hz rfl (uy h0 c)
 grind [pO.val]
theorem eF.look_ok (h:eF w b n f)(ht:prog.underlying t=some (.map 2 e)){z:Value}(hz:(zeroValue e).run prog w=.ok z w){x:Int}(h0:0<=x)(d:x<1152921504606846976):
 (Instr.lookup t (.map (some b)) (ak x) true).run prog w=.ok (.tuple #[(f x).getD z,.bool (f x).isSome]) w:=by
 obtain⟨D,h,c⟩:=h;obtain⟨v,ps,r1,g⟩:=h.look_ok pN ht hz rfl (uy h0 d)
 rw[r1,c.val g,(c x).1]
theorem gC.nE (h:gC w b r n f left c):eF w b n f:=let⟨D,_,h,d,_⟩:=h;⟨D,h.owns,d⟩
theorem gC.left_eq (h:gC w b r n f left c):w.rangeLeft b r=c:=let⟨_,_,h,_⟩:=h;h.left_eq
theorem gC.lt (h:gC w b r n f left c):r<w.heap.size:=let⟨_,_,h,_⟩:=h;h.lt
theorem gC.same (h:gC w b r n f left c)(hb:w'.heap[b]?=w.heap[b]?)(hr:w'.heap[r]?=w.heap[r]?):gC w' b r n f left c:=by obtain⟨D,L,⟨d,e,g,seen,c0,i,j,k,l,m,o⟩,q⟩:=h;exact⟨D,L,⟨d,e,g,seen,c0,hb.trans i,j,k,l,hr.trans m,o⟩,q⟩
theorem eF.range (h:eF w b n f)(ht:prog.underlying t=some (.map 2 e)):
 ∃w' c,(Instr.range t (.map (some b))).run prog w=.ok (aq w.heap.size) w'/\gC w' b w.heap.size n f (fun x=>(f x).isSome) c/\w.grownBy w' none/\w'.heap.size=w.heap.size+1:=by
 obtain⟨D,h,d⟩:=h;obtain⟨w',r1,g,r3,i⟩:=h.range pN ht;exact⟨w',_,r1,⟨D,_,g,d,fun x=>(d x).1⟩,r3,i⟩
theorem gC.next (h:gC w b r n f left c)(ty:TypeId):(c=0/\(∀x,left x=false)/\(Instr.next (aq r) false ty).run prog w=.ok (.tuple #[.bool false]) w)\/
 ∃x v w' d,left x=true/\f x=some v/\(Instr.next (aq r) false ty).run prog w=.ok (.tuple #[.bool true,ak x,v]) w'/\
  gC w' b r n f (fun y=>left y&&!(y==x)) d/\d<c/\w.grownBy w' (some r)/\w'.heap.size=w.heap.size/\(Instr.entry (aq r)).run prog w'=.ok (.tuple #[ak x,v]) w':=by
 obtain⟨D,L,h,e,i⟩:=h;rcases h.next pN ty with⟨h0,hl,j⟩|⟨key,v,F,y,w',d,l,m,hv,k,j,o,p,q,s,t⟩
 ·grind
 ·obtain⟨x,rfl,rfl,N⟩:=Maps.keyOf_int_inv underlying2 l;have hy:y.1=.held v:=by cases hv;rfl
  have B:f x=some v:=by
   cases hf:f x with
   |none=>
    have g:=k (.lit (.int .i64 0))
    rw[Maps.atKey_of_not_has (by rw[(e x).1,hf];rfl),hy] at g
    grind
   |some u=>
    have g:=k (.lit (.int .i64 0))
    rw[(e x).2 u hf,hy] at g
    grind
  refine aL ⟨x,v,w',d,(i x).symm.trans m,B,j,⟨D,_,o,e,fun z=>?_⟩,p,q,s,t⟩
  rw[i z,show(Lit.int .i64 z).sameKey (.int .i64 x)=(z==x) from(by show decide _=_;grind)]
end
def gI (v:Int×Int):Int:=ew v.1 v.2
def fg (T:List cI)(v:Int×Int):Prop:=vc v.1 v.2=0/\(v.1=3->0<=v.2/\cz T v.2.toNat)
theorem fg.lt {T:List cI}{v:Int×Int}(h:fg T v)(b:v.1=3):0<=v.2/\v.2<T.length:=by obtain⟨h0,c⟩:=h.2 b;have:=c.1;exact⟨h0,aa⟩
def tI (n:Nat):List Int:=(List.range n).map (fun i:Nat=>(i:Int))
theorem pP {n:Nat}{a:Int}:a∈tI n↔0<=a/\a<n:=by
 unfold tI;simp only [List.mem_map,List.mem_range];constructor
 ·rintro⟨i,hi,e⟩
  omega
 ·rintro⟨h0,b⟩
  exact⟨a.toNat,aa,aa⟩
theorem nF (n:Nat):(tI n).length=n:=by simp[tI]
def g_ (T:List cI)(a:Int):Int:=(T.getD a.toNat t0).1
def hC (T:List cI)(wt:List ce)(a:Int):List Int:=((T.getD a.toNat t0).2.1.map gI)++(if(T.getD a.toNat t0).1=5 then(wt.filter (fun e=>e.1==a)).map (fun e=>ew 3 e.2) else[])
structure nG (T:List cI)(wt:List ce):Prop where
 fv:∀i,cz T i->∀v∈(T.getD i t0).2.1,fg T v
 wv:∀e∈wt,0<=e.1/\0<=e.2/\cz T e.2.toNat
 tl:∀i,(T.getD i t0).2.1.length<=12
 l1:T.length<=10000
 l2:wt.length<=10000
section
variable {T:List cI}{M:cW->Int->cW}{s:cW}{v:Int×Int}
theorem nH (h:fg T v):dk (gI v)=v.1/\dm (gI v)=v.2:=(p7 _ _ h.1).2
theorem H7 (h:fg T v)(b:v.1≠3):eA M (tI T.length) s (gI v)=(v,s):=by unfold eA;rw[(nH h).1,(nH h).2,aI b]
theorem H8 (h:fg T v)(b:v.1=3)(hs:s.1.contains v.2=true):eA M (tI T.length) s (gI v)=((3,(s.1.idxOf v.2:Int)),s):=by unfold eA;rw[(nH h).1,(nH h).2,aK b,aK (List.contains_iff_mem.2 (pP.2 (h.lt b))),aK hs]
theorem H9 (h:fg T v)(b:v.1=3)(hs:s.1.contains v.2=false):eA M (tI T.length) s (gI v)=((3,(s.1.length:Int)),M s v.2):=by unfold eA;rw[(nH h).1,(nH h).2,aK b,aK (List.contains_iff_mem.2 (pP.2 (h.lt b))),aI (by rw[hs];simp)]
end
def dR.ez (T:List cI)(wt:List ce)(l:List (Int×Int)):List (Int×Int)×cW:=dC (met (tI T.length) (g_ T) (hC T wt) T.length) (tI T.length) ([],[]) (l.map gI)
def pQ (T:List cI)(x:Int):Bool:=decide (0<=x)&&(decide (x.toNat<T.length)&&!(T.getD x.toNat t0).2.2.2)
theorem Ao {T:List cI}{x:Int}:pQ T x=true↔0<=x/\cz T x.toNat:=by unfold pQ cz;simp
theorem H_ {T:List cI}{x:Int}(h:¬(0<=x/\cz T x.toNat)):pQ T x=false:=by
 cases e:pQ T x
 ·rfl
 ·exact absurd (Ao.1 e) h
abbrev Fm:=Nat->Option Addr×Nat
abbrev eL (T:List cI)(fm:Fm)(i:Nat):Value:=.slice (fm i).1 (T.getD i t0).2.1.length (fm i).2
abbrev ga (T:List cI)(fm:Fm)(i:Nat):Value:=.agg #[ak (T.getD i t0).1,eL T fm i]
def ib (T:List cI)(fm:Fm)(x:Int):Option Value:=if pQ T x=true then some (ga T fm x.toNat) else none
theorem jk {T:List cI}{fm:Fm}{x:Int}(h:0<=x/\cz T x.toNat):ib T fm x=some (ga T fm x.toNat):=by unfold ib;rw[aK (Ao.2 h)]
theorem lR {T:List cI}{fm:Fm}{x:Int}(h:¬(0<=x/\cz T x.toNat)):ib T fm x=none:=by unfold ib;rw[H_ h];rfl
structure gU where
 own:Nat->Nat
 mb:Nat
 bp:Nat
 rb:Nat
 fm:Fm
 fw:Nat
 n:Nat
 a0:Option Addr
 k0:Nat
 a1:Option Addr
 k1:Nat
structure G2 (l:gU)(T:List cI)(w:az):Prop where
 mp:eF w l.mb l.n (ib T l.fm)
 mn:l.n<=T.length
 dw:l.own l.mb=2
 fl:∀i,cz T i->w.ownsRow 0 97 2 (eL T l.fm i) (T.getD i t0).2.1.length (ev (T.getD i t0).2.1)
 e3:∀i,cz T i->∀k,some k=(eL T l.fm i).ownBlock->l.own k=10+i
 fw:∀i,cz T i->(T.getD i t0).2.2.1=decide (i<l.fw)
 al:l.fw<=T.length
structure G3 (l:gU)(r q:List ce)(w:az):Prop where
 sd:fF w l.bp l.a0 l.k0 l.a1 l.k1 r q
 so:l.own l.bp=3
 ro:∀k,some k=(Value.slice l.a0 r.length l.k0).ownBlock->l.own k=5
 mB:∀k,some k=(Value.slice l.a1 q.length l.k1).ownBlock->l.own k=6
structure G4 (l:gU)(rs:List (Int×Int))(w:az):Prop where
 rt:w.heap[l.rb]?=some (.cells (ev rs).toArray 97 (0,0))
 rl:rs.length=12
 ro:l.own l.rb=4
structure dN (b9:Nat)(ch b_:Int)(l:gU)(s:cn)(w:az):Prop where
 blk:w.heap[b9]?=some (.cells #[ak ch,ak b_,.map (some l.mb),ak s.T.length,ak l.fw,aq l.bp,.slice (au l.rb) 12 12] 187 (0,0))
 bo:l.own b9=1
 g2:G2 l s.T w
 g3:G3 l s.rg s.wt w
 g4:G4 l s.rs w
 lt:∀b,l.own b≠0->b<w.heap.size
section
variable {b9:Nat}{ch b_:Int}{l:gU}{s:cn}{w w':az}{T:List cI}{r q:List ce}{rs:List (Int×Int)}
theorem G2.keep (h:G2 l T w)(hk:∀b,l.own b=2\/10<=l.own b->w'.heap[b]?=w.heap[b]?):G2 l T w':=
 {
  h with
  mp:=h.mp.same (hk _ (aM h.dw))
  fl:=fun i hi=>cL (h.fl i hi) (fun k e=>hk k (aL (by rw[h.e3 i hi k e];omega)))}
theorem G3.keep (h:G3 l r q w)(hk:∀b,l.own b=3\/l.own b=5\/l.own b=6->w'.heap[b]?=w.heap[b]?):G3 l r q w':=
 {h with sd:=h.sd.keep (hk _ (aM h.so)) (fun k e=>hk k (aL (aM (h.ro k e)))) (fun k e=>hk k (aL (aL (h.mB k e))))}
theorem G4.keep (h:G4 l rs w)(hk:∀b,l.own b=4->w'.heap[b]?=w.heap[b]?):G4 l rs w':={h with rt:=(hk _ h.ro).trans h.rt}
theorem dN.keep (h:dN b9 ch b_ l s w)(hs:w.heap.size<=w'.heap.size)(hk:∀b,l.own b≠0->w'.heap[b]?=w.heap[b]?):dN b9 ch b_ l s w':=
 {
  blk:=(hk _ (by rw[h.bo];decide)).trans h.blk
  bo:=h.bo
  g2:=h.g2.keep (fun b hb=>hk b aa)
  g3:=h.g3.keep (fun b hb=>hk b aa)
  g4:=h.g4.keep (fun b hb=>hk b aa)
  lt:=fun b hb=>aO (h.lt b hb) hs}
end
def cE (b9:Nat)(ch b_:Int)(rb:Nat):dx cn where
 J F s w:=∃l,dN b9 ch b_ l s w/\l.rb=rb/\∀b,F b↔l.own b≠0
 lt:=by rintro F s w ⟨l,h,_,c⟩ b hb;exact h.lt b ((c b).1 hb)
 keep:=by rintro F s w w' ⟨l,h,hr,c⟩ hs hk;exact⟨l,h.keep hs (fun b hb=>hk b ((c b).2 hb)),hr,c⟩
section
variable {b9:Nat}{ch b_:Int}{l:gU}{s:cn}{w w':az}
theorem dN.below (h:dN b9 ch b_ l s w)(hb:Below w.heap.size w w'):dN b9 ch b_ l s w':=h.keep hb.size (fun b ho=>hb.block b (h.lt b ho))
theorem dN.cells (h:dN b9 ch b_ l s w):w.cell? (av b9 0)=some (ak ch)/\w.cell? (av b9 1)=some (ak b_)/\w.cell? (av b9 2)=some (.map (some l.mb))/\w.cell? (av b9 3)=some (ak s.T.length)/\w.cell? (av b9 4)=some (ak l.fw)/\
 w.cell? (av b9 5)=some (aq l.bp)/\w.cell? (av b9 6)=some (.slice (au l.rb) 12 12)/\(∀o,w.frozen? (av b9 o)=false)/\b9<w.heap.size:=by
 have b:=h.blk;refine⟨?_,?_,?_,?_,?_,?_,?_,fun o=>by simp[World.frozen?,b],lt_of_some b⟩<;>simp[World.cell?,b]
theorem dN.Ia {rb:Nat}(h:dN b9 ch b_ l s w)(e:w.cell? (av b9 6)=some (.slice (au rb) 12 12)):l.rb=rb:=by have c:=h.cells.2.2.2.2.2.2.1;rw[e] at c;cases c;rfl
theorem G4.cells {rs:List _}(h:G4 l rs w):l.rb<w.heap.size/\rs.length=12/\
 (∀i,i<12->w.cell? (av l.rb (i*2))=some (ak (rs.getD i (0,0)).1)/\w.cell? (av l.rb (i*2+1))=some (ak (rs.getD i (0,0)).2)/\w.frozen? (av l.rb (i*2))=false/\w.frozen? (av l.rb (i*2+1))=false):=by
 have b:=h.rt;have hl:=h.rl;refine⟨lt_of_some b,hl,fun i hi=>?_⟩
 obtain⟨c,d⟩:=nZ rs i aa;refine⟨?_,?_,by simp[World.frozen?,b],by simp[World.frozen?,b]⟩
 ·simp[World.cell?,b];simpa using c
 ·simp[World.cell?,b];simpa using d
end
end Go.Proofs.YtpkjkjhanlbcoaaGreat
