import Derived.Test.YtjpjpjemibgjpaaGreatJ19
import Derived.Test.YtjpjpjemibgjpaaGreatJ24
import Derived.Test.YtjpjpjemibgjpaaGreatJ23
import Derived.Test.YtjpjpjemibgjpaaGreatJ01
import Derived.Test.YtjpjpjemibgjpaaGreatJ00
import Derived.Test.YtjpjpjemibgjpaaGreatJ02
import Derived.Test.YtjpjpjemibgjpaaGreatJ03
import Derived.Test.YtjpjpjemibgjpaaGreatJ07
import Derived.Test.YtjpjpjemibgjpaaGreatJ04
namespace Go.Proofs.YtjpjpjemibgjpaaGreat
set_option maxRecDepth 100000
set_option maxHeartbeats 4000000
open Tryz
open Go.RowKit W Kp bY
section
variable {c:fs}{k:bP}{F:Nat->Prop}{s:bU}{w:World}
theorem zu (h:(dq c k).J F s w)(O:CI k s)(hl:s.wk.length<=10000):
 Calls prog 87 #[af c.pk] w fun e w'=>e=.returned (.tuple #[])/\(dq c k).J F (k.mw s s.wk) w'/\bM F w F w':=by
 obtain⟨ch,bO,h⟩:=h;obtain⟨c0,_,_,bg,_,bi,_,_,_,aF,er,_,_,lk,_⟩:=dL h;obtain⟨aR,b,rfl⟩:=dG er;have aT:Hid (CI k s):=O;have aV:Hid (∀a∈s.wk,(k.N:Int)<=a/\a<=2000):=O.gN;have bl:(0:Int)<=k.N:=I;clear O aF;go_enter func87,ntmps87;go_wp2_with fail
 go_loopw [10] (fun iv wr=>∃(j:Nat)(s1:bU),j<=s.wk.length/\iv=ae j/\Hid (k.mw s (s.wk.take j)=s1)/\(cutV c k (.slice aR s.wk.length b) bO).J F s1 wr/\bM F w F wr/\Hid (CI k s1/\d9 k s s1)) (fun iv _=>s.wk.length-(intOf iv).toNat)
 case atStart=>exact⟨0,s,aA _,rfl,rfl,h,bM.refl _ _,⟨aT.out,d9.refl _ _⟩⟩
 case round=>
  obtain⟨j,s1,bn,rfl,Q,A,R,S⟩:=hrel;obtain⟨t,_,_,a0,_,u,_,_,_,a1,U,_,_,bo,_⟩:=dL A;have a2:=S.out.2.wk;rw[a2] at U;by_cases K:j<s.wk.length
  ·obtain⟨b0,d,a3,bp,hc⟩:=ga U I;have W:=hc j K;subst a3;have al:s.wk.getD j 0∈s.wk:=by rw[aj,am K];exact aK K
   have ar:=aV.out _ al;have B:Hid (k.mw s (s.wk.take (j+1))=k.ex s1 (s.wk.getD j 0)):=by
    show _=_;rw[eY s.wk j K 0];unfold bP.mw;rw[List.foldl_append];have:=Q.out;unfold bP.mw at this
    rw[this];rfl
   generalize s.wk.getD j 0=a at W ar B;have M:Hid (CI k (k.ex s1 a)/\d9 k s (k.ex s1 a)):=by obtain⟨bb,bd⟩:=S.out.1.ex ar.1;exact⟨bb,S.out.2.trans bd⟩
   have br:IntKind.i64.wrap (a+1)=a+1:=by rw[a_];omega
   obtain⟨ax,_⟩:=gO A;have L:=h8 (a+1) wr ax;have aB:ld k.N k.y s1.g s1.ws (a+1)=k.ld s1 (a+1):=rfl;rw[aB] at L;have l:Hid ((cutV c k (.slice (some ⟨b0,d,none⟩) s.wk.length b) bO).J F s1 wr/\bM F w F wr):=⟨A,R⟩
   clear hc al A R ax aB a1 U a0;cases hls:k.ls s1 (k.ld s1 (a+1))
   ·have v:Hid (k.ex s1 a=k.st s1 (a+1) (k.nw s1 (k.ld s1 (a+1)))):=by show _=_;unfold bP.ex;rw[hls];rfl
    generalize k.ex s1 a=C at B M v;generalize k.ld s1 (a+1)=x at L hls v;go_wp2_with fail;refine L.mono ?_;clear L;rintro e w1 ⟨rfl,g⟩
    have P:=lH ((cutV c k (.slice (some ⟨b0,d,none⟩) s.wk.length b) bO).below l.out.1 g) x;rw[hls] at P;clear W t u;go_wp2_with fail;refine P.mono ?_;clear P;rintro e m ⟨rfl,D⟩
    have n:=g.trans (D.mono g.size)
    have o:=(cutV c k (.slice (some ⟨b0,d,none⟩) s.wk.length b) bO).below l.out.1 n;obtain⟨t,_,_,_,_,u,_⟩:=dL o;have N:Hid ((cutV c k (.slice (some ⟨b0,d,none⟩) s.wk.length b) bO).J F s1 m.drew/\bM F w F m.drew):=⟨(cutV c k (.slice (some ⟨b0,d,none⟩) s.wk.length b) bO).below o (Below.refl _ m).drew,(l.out.2.below n).below (Below.refl _ m).drew⟩
    clear g D o n l;go_wp2_with fail
    go_region_held3 (fun w'=>w'.cell? (ah c.pk 0)=some (af c.pw)/\w'.cell? (ah c.pw 0)=some (af c.p)) (go_keep)
     (first
       |(go_at_call 157;refine(nH N.out.1 x).mono ?_;rintro e w3 ⟨rfl,X⟩;have Y:=(cutV c k (.slice (some ⟨b0,d,none⟩) s.wk.length b) bO).below N.out.1 X;obtain⟨g0,_,_,_,_,be,_⟩:=dL Y;obtain⟨f,E⟩:=gO Y;have i:Hid (_/\_/\_):=⟨f,E,N.out.2.below X⟩;clear X Y f E N)
       |(go_at_call 68;refine(jP (a+1) (k.nw s1 x) w3 i.out.1).mono ?_;rintro e p ⟨rfl,f,G⟩;obtain⟨q,H⟩:=i.out.2.1 p _ _ f G;obtain⟨r0,_,_,_,_,ad,_⟩:=dL q;have J:Hid ((cutV c k (.slice (some ⟨b0,d,none⟩) s.wk.length b) bO).J F C p/\bM F w F p):=⟨(by rw[v.out];exact q),i.out.2.2.trans H⟩;clear f G q H i))
    clear g0 be r0 ad t u;go_wp2_with fail;go_roundw
    case rel=>exact⟨j+1,C,I,ac,B,J.out.1,J.out.2,M⟩
    case measure=>simp[intOf];omega
   ·have v:Hid (k.ex s1 a=k.st s1 (a+1) 3):=by show _=_;unfold bP.ex;rw[aq hls]
    generalize k.ex s1 a=C at B M v;generalize k.ld s1 (a+1)=x at L hls;go_wp2_with fail;refine L.mono ?_;clear L;rintro e w1 ⟨rfl,g⟩
    have P:=lH ((cutV c k (.slice (some ⟨b0,d,none⟩) s.wk.length b) bO).below l.out.1 g) x;rw[hls] at P;clear W t u;go_wp2_with fail;refine P.mono ?_;clear P;rintro e m ⟨rfl,D⟩
    have n:=g.trans (D.mono g.size)
    have o:=(cutV c k (.slice (some ⟨b0,d,none⟩) s.wk.length b) bO).below l.out.1 n;obtain⟨t,_,_,_,_,u,_⟩:=dL o;obtain⟨f,E⟩:=gO ((cutV c k (.slice (some ⟨b0,d,none⟩) s.wk.length b) bO).below o (Below.refl _ m).drew)
    have i:Hid (_/\_/\_):=⟨f,E,(l.out.2.below n).below (Below.refl _ m).drew⟩
    clear g D o n l f E;go_wp2_with fail
    go_region_held3 (fun w'=>w'.cell? (ah c.pk 0)=some (af c.pw)/\w'.cell? (ah c.pw 0)=some (af c.p)) (go_keep)
     (first
       |(go_at_call 158;refine(lq _).mono ?_;rintro e bs ⟨rfl,ai⟩;have ai:=ai.symm;subst ai)
       |(go_at_call 68;refine(jP (a+1) 3 m.drew i.out.1).mono ?_;rintro e p ⟨rfl,f,G⟩;obtain⟨q,H⟩:=i.out.2.1 p _ _ f G;obtain⟨r0,_,_,_,_,ad,_⟩:=dL q;have J:Hid ((cutV c k (.slice (some ⟨b0,d,none⟩) s.wk.length b) bO).J F C p/\bM F w F p):=⟨(by rw[v.out];exact q),i.out.2.2.trans H⟩;clear f G q H i))
    clear r0 ad t u;go_wp2_with fail;go_roundw
    case rel=>exact⟨j+1,C,I,ac,B,J.out.1,J.out.2,M⟩
    case measure=>simp[intOf];omega
  ·obtain rfl:j=s.wk.length:=I;rw[aP] at Q;go_wp2_with fail;go_end0;rw[Q.out];exact⟨rfl,⟨_,_,A⟩,R⟩
theorem zv {ch bO:Value}(h:(cutV c k ch bO).J F s w):c.nb≠c.pk/\c.nb≠c.pw:=by
 obtain⟨own,h,b⟩:=h;refine⟨fun e=>?_,fun e=>?_⟩
 ·have a:=h.r1;rw[e,h.k1] at a;omega
 ·have a:=h.r1;rw[e,h.w1] at a;omega
theorem zw (h:(dq c k).J F s w)(n:CI k s):
 Calls prog 82 #[af c.pk] w fun e w'=>e=.returned (.tuple #[])/\(dq c k).J F (k.cg s 12) w'/\bM F w F w':=by
 obtain⟨ch,bO,h⟩:=h;obtain⟨c0,_,_,_,_,_,_,_,M,_⟩:=dL h;have C:Hid (CI k s):=n;clear n;go_enter func82,ntmps82;go_wp2_with fail
 go_loopw [12] (fun iv wr=>∃(j:Nat),j<=12/\iv=ae j/\(cutV c k ch bO).J F (k.cg s j) wr/\bM F w F wr) (fun iv _=>12-(intOf iv).toNat)
 case atStart=>exact⟨0,aA _,rfl,h,bM.refl _ _⟩
 case round=>
  obtain⟨j,N,rfl,a,f⟩:=hrel;by_cases o:j<12
  ·obtain⟨D,_,_,_,_,_,_,_,E,_⟩:=dL a;obtain⟨O,P,p⟩:=sL a;obtain⟨q,G⟩:=p j o;obtain⟨n1,Q⟩:=zv a;have g:Hid (k.cg s (j+1)={(k.br (k.cg s j) ((k.cg s j).rs.getD j 0)).2 with rs:=(k.br (k.cg s j) ((k.cg s j).rs.getD j 0)).2.rs.set j (k.br (k.cg s j) ((k.cg s j).rs.getD j 0)).1}):=rfl;have H:Hid (CI k (k.cg s j)):=(C.out.cg j).1;have i:Hid ((cutV c k ch bO).J F (k.cg s j) wr.drew/\bM F w F wr.drew):=⟨(cutV c k ch bO).below a (Below.refl _ wr).drew,f.below (Below.refl _ wr).drew⟩
   obtain⟨b,l⟩:∃b,b=k.cg s (j+1):=⟨_,rfl⟩
   rw[<-l] at g;have J:Hid (b=k.cg s (j+1)):=l;clear l;generalize (k.cg s j).rs.getD j 0=x at q g;generalize k.cg s j=s1 at*;have j0:(0:Int)<=(j:Int):=I;have R:(j:Int)<12:=I;clear p a f;go_wp2_with fail
   go_region_held3 (fun w'=>w'.cell? (ah c.pk 0)=some (af c.pw)/\w'.cell? (ah c.pw 3)=some (.slice (ag c.nb) 12 12)) (go_keep)
    (first
      |(go_at_call 149;refine(nI i.out.1 H.out x).mono ?_;rintro e w3 ⟨rfl,d,t⟩;obtain⟨g0,_,_,_,_,_,_,_,K,_⟩:=dL d;obtain⟨_,S,u⟩:=sL d;obtain⟨y1,L⟩:=u j o;have m:Hid ((cutV c k ch bO).J F (k.br s1 x).2 w3/\bM F w F w3):=⟨d,i.out.2.trans t⟩;clear d t u i))
   obtain⟨v,A⟩:=x9 m.out.1 j (k.br s1 x).1;have B:Hid ((cutV c k ch bO).J F b (w3.setCell ⟨c.nb,j,none⟩ (.int .i64 (k.br s1 x).1))/\bM F w F (w3.setCell ⟨c.nb,j,none⟩ (.int .i64 (k.br s1 x).1))):=⟨by rw[g.out];exact v,m.out.2.trans A⟩
   clear v A m g0 K y1 L D E q G;go_wp2_with fail;go_roundw
   case rel=>exact⟨j+1,I,ac,by rw[<-J.out];exact B.out.1,B.out.2⟩
   case measure=>simp[intOf];omega
  ·obtain rfl:j=12:=I;go_wp2_with fail;go_end0;exact⟨rfl,⟨_,_,a⟩,f⟩
end
section
variable {a:Wc}{F:Nat->Prop}{S:bZ}{w:World}
theorem zx (h:(eT a).J F S w)(j:S.full a=true):
 Calls prog 33 #[af a.pw] w fun e w'=>e=.returned (ae 3)/\Below w.heap.size w w':=by
 obtain⟨m,ar,n,d,_⟩:=h;obtain⟨o,hw,_⟩:=hr d;obtain⟨b,_⟩:=hG hw;have b:At w a.p a.q a.N a.O S.s.y S.s.g S.s.ws:=b;obtain⟨c0,_,_,_,k,_⟩:=hH hw;have n1:=b.hg;have q:a.O-S.s.g<S.s.y:=by simpa[bZ.full] using j
 have s:(a.O:Int)-S.s.g<S.s.y:=I;have n4:=b.hO;have t:=b.hy;have u:=b.hN';have f:=iZ w b;clear d hw;go_enter func33,ntmps33;go_wp2_with fail;refine f.mono ?_;clear f;rintro e w1 ⟨rfl,c⟩
 have c1:=(c.cell (p:=ah a.pw 0) k).trans c0;have g:=oV w1 (b.below c bJ)
 go_wp2_with fail;refine g.mono ?_;clear g;rintro e v ⟨rfl,i⟩
 have l:=c.trans (i.mono c.size)
 clear c i c0 c1;go_wp2_with fail;go_ret;exact⟨rfl,l⟩
theorem zy (h:(eT a).J F S w)(al:S.full a=false)(hq:S.q.length+S.r.length<=90000):
 Calls prog 33 #[af a.pw] w fun e w'=>∃g,e=.returned (ae 0)/\(eT a).J g (S.cut a) w'/\bM F w g w':=by
 have dm:∀(bU:Fn)(first bV:Array Value)(w:World),(Instr.makeFunc bU first bV).run prog w=.ok (.func bU first bV) w:=fun _ _ _ _=>rfl;obtain⟨q,ar,m,j,bX,bY,b0⟩:=h;obtain⟨ax,hw,b1⟩:=hr j;obtain⟨i,_⟩:=hG hw;have i:At w a.p a.q a.N a.O S.s.y S.s.g S.s.ws:=i;obtain⟨c0,_,_,_,cP,_⟩:=hH hw;have n1:=i.hg;have cQ:S.s.y<=a.O-S.s.g:=by unfold bZ.full at al;have:=of_decide_eq_false al;omega
 have dn:¬(a.O:Int)-S.s.g<S.s.y:=I;have n4:=i.hO;have dp:=i.hy;have dr:=i.hN';have b2:Hid (CI (S.s.k0 a) (S.s.s0 a)):=CI.start i.hN i.hN' i.hO i.hy i.hg i.hl cQ;have b3:=iZ w i;have b4:Hid ((dD a).J ax S.s w/\At w a.p a.q a.N a.O S.s.y S.s.g S.s.ws):=⟨hw,i⟩
 have cR:Hid (∀{bi:Type}(N:dB bi) O P w',N.J O P w'->bM ax w O w'->∃g,(cA N a.sd (.slice ar S.r.length m)).J g (P,S.q) w'/\bM q w g w'):=b1;have J:Hid (w.ownsRow 0 83 2 (.slice ar S.r.length m) S.r.length (ev S.r)/\(∀b,some b=(Value.slice ar S.r.length m).ownBlock->¬q b)/\∀b,F b↔(q b\/some b=(Value.slice ar S.r.length m).ownBlock)):=⟨bX,bY,b0⟩
 clear j hw i b1 bX bY b0 al;go_enter func33,ntmps33;go_wp2_with fail;refine b3.mono ?_;clear b3;rintro e w1 ⟨rfl,Q⟩
 have c1:=(Q.cell (p:=ah a.pw 0) cP).trans c0;have b6:=oV w1 (b4.out.2.below Q bJ)
 go_wp2_with fail;refine b6.mono ?_;clear b6;rintro e cS ⟨rfl,b7⟩
 have C:=Q.trans (b7.mono Q.size)
 have b8:=yK ((dD a).below b4.out.1 C)
 have cT:Hid (Below w.heap.size w cS):=C;clear Q b7 c0 c1 C;go_wp2_with fail;refine b8.mono ?_;clear b8;rintro e w3 ⟨pk,bW,ct,bl,rfl,R,aB⟩
 have aB:=(bM.of (F:=ax) cT.out).trans aB;obtain⟨c,hc⟩:∃c:fs,c=⟨pk,bW,a.pw,a.p,a.q,a.pc,ct,a.sd,a.nb,dx a.O,S.s.M⟩:=⟨_,rfl⟩
 have cU:pk=c.pk:=by rw[hc]
 have D:Hid (c=⟨pk,bW,a.pw,a.p,a.q,a.pc,ct,a.sd,a.nb,dx a.O,S.s.M⟩/\a.sd=c.sd/\c.c=dx a.O/\c.M=S.s.M/\a.pw=c.pw):=⟨hc,by rw[hc],by rw[hc],by rw[hc],by rw[hc]⟩
 rw[<-hc] at R;clear hc;subst cU;have R:(dq c (S.s.k0 a)).J bl (S.s.s0 a) w3:=R;have b9:=zw R b2.out;clear R;go_wp2_with fail;refine b9.mono ?_;clear b9;rintro e cb ⟨rfl,aF,cc⟩
 have aF:(dq c (S.s.k0 a)).J bl (S.s.s1 a) cb:=aF;obtain⟨k1,cV,cd,ce,k5,k6⟩:=b2.out.cg 12;have cf:=yG aF (s:=S.s.s1 a) k1 cd ce;have cW:Hid (bM ax w bl cb):=aB.trans cc;clear aF cc aB k1 cV cd ce k5 k6;go_wp2_with fail;refine cf.mono ?_;clear cf;rintro e bn ⟨cg,rfl,U,ci,W,b5,cX⟩
 rw[D.out.2.2.1,D.out.2.2.2.1] at U W b5;have U:(dq c (S.s.k0 a)).J cg (S.s.s2 a) bn:=U;have W:CI (S.s.k0 a) (S.s.s2 a):=W;have b5:d6 (S.s.k0 a) (S.s.s2 a):=b5;obtain⟨cZ,bo,cj⟩:=cR.out (ei c (S.s.k0 a)) cg (S.s.s2 a) bn ⟨U,W,b5⟩ (cW.out.trans ci)
 rw[D.out.2.1] at bo;have ck:=s9 (c:=c) rfl bo (by show S.q.length<=90000;omega)
 have c2:Hid (bM q w cZ bn):=cj;clear U ci W b5 cX bo cj;go_wp2_with fail;refine ck.mono ?_;clear ck;rintro e f ⟨aR,rfl,Y,aT⟩
 have Y:(cA (ei c (S.s.k0 a)) c.sd (.slice ar S.r.length m)).J aR (S.t3 a) f:=Y;have aT:bM q w aR f:=c2.out.trans aT;obtain⟨ds,⟨⟨dt,du,cl⟩,_⟩,_⟩:=hr Y;obtain⟨u,_,_,_,_,_,_,bp,_⟩:=dL cl;have l0:=au f _ u;have c3:=au f _ bp;have k:Hid ((cA (ei c (S.s.k0 a)) c.sd (.slice ar S.r.length m)).J aR (S.t3 a) f.drew/\bM q w aR f.drew):=⟨(cA (ei c (S.s.k0 a)) c.sd (.slice ar S.r.length m)).below Y (Below.refl _ f).drew,aT.below (Below.refl _ f).drew⟩
 have cm:(S.t3 a).2.length+S.r.length<=90000:=by have:(S.t3 a).2.length=S.q.length:=mJ _ _ _;omega
 clear Y aT cl;go_wp2_with fail
 go_region_held3 (fun w'=>w'.cell? (ah c.pk 0)=some (af c.pw)/\w'.cell? (ah c.pw 2)=some (af c.sd)) (go_keep)
  (first
    |(go_at_call 85;refine(sZ (kL c) f.drew c.pk).mono ?_;rintro e aV ⟨rfl,cn,a0⟩;have c4:=(a0.cell (p:=ah c.pk 0) l0).trans u;have c5:=(a0.cell (p:=ah c.pw 2) c3).trans bp;have v:Hid (aV.heap[f.heap.size]?=some (fG c)/\Below f.drew.heap.size f.drew aV):=⟨cn,a0⟩;clear cn a0)
    |(go_at_call 53;refine(y0 (t:=S.t3 a) (r:=S.r) rfl ((cA (ei c (S.s.k0 a)) c.sd (.slice ar S.r.length m)).below k.out.1 v.out.2) (by
     have al:=((Fr.of (X:=q) v.out.2))
     exact ca J.out.1 (fun b e=>(v.out.2.block b (av (bR J.out.1 b e).2 k.out.2.fr.size)).trans (k.out.2.fr.block b (bR J.out.1 b e).2 (J.out.2.1 b e)))) cm f.heap.size v.out.1 (fun d=>by have:=(cA (ei c (S.s.k0 a)) c.sd (.slice ar S.r.length m)).lt k.out.1 _ d;have c6:f.drew.heap.size=f.heap.size:=rfl;omega)).mono ?_;rintro e n ⟨a1,c1,a2,rfl,br,ad,K,co,cp⟩;obtain⟨o,⟨⟨dv,dw,E⟩,_⟩,_⟩:=hr br;obtain⟨r0,_,_,_,_,_,_,c7,_⟩:=dL E;have bs:Hid ((cA (ei c (S.s.k0 a)) c.sd (.slice a1 ((S.s.k0 a).sR (S.t3 a) S.r).length c1)).J a2 (S.s4 a,(S.s.k0 a).fw (S.t3 a) S.r) n/\n.ownsRow 0 83 2 (.slice a1 ((S.s.k0 a).sR (S.t3 a) S.r).length c1) ((S.s.k0 a).sR (S.t3 a) S.r).length (ev ((S.s.k0 a).sR (S.t3 a) S.r))/\(∀b,some b=(Value.slice a1 ((S.s.k0 a).sR (S.t3 a) S.r).length c1).ownBlock->¬a2 b/\aV.heap.size<=b)/\w.heap.size<=aV.heap.size/\bM q w a2 n):=⟨br,ad,K,az k.out.2.fr.size v.out.2.size,⟨(k.out.2.below v.out.2).fr.trans co (fun b d=>d.elim (k.out.2.sub b) (fun d=>an (by have:=k.out.2.fr.size;have c6:f.drew.heap.size=f.heap.size:=rfl;omega))),fun b d=>(cp b d).elim (k.out.2.sub b) (fun d=>an (by have j:=k.out.2.fr.size;have a3:=v.out.2.size;omega))⟩⟩;clear br ad K co cp E))
 clear u bp c4 c5 r0 c7 k v cm;obtain⟨o,⟨E,L,ai⟩,cq⟩:=hr bs.out.1;have E:(dq c (S.s.k0 a)).J o (S.s4 a) n:=E;have L:CI (S.s.k0 a) (S.s4 a):=L;have ai:d6 (S.s.k0 a) (S.s4 a):=ai;obtain⟨bb,cr⟩:=L.mw (l:=(S.s4 a).wk) (fun x c8=>(L.gN x c8).1)
 have bb:CI (S.s.k0 a) (S.s5 a):=bb;have cs:=zu E L (by have:=ai.wk;omega)
 have cu:Hid (CI (S.s.k0 a) (S.s5 a)/\(S.s5 a).ep.length<=10000):=⟨bb,by have j:(S.s5 a).ep=(S.s4 a).ep:=cr.ep;rw[j];have:=ai.ep;omega⟩
 have cv:Hid (∀{bi:Type}(N:dB bi) O P w',N.J O P w'->bM o n O w'->∃g,(cA N c.sd (.slice a1 ((S.s.k0 a).sR (S.t3 a) S.r).length c1)).J g (P,(S.s.k0 a).fw (S.t3 a) S.r) w'/\bM a2 n g w'):=cq;clear E L ai bb cr cq;go_wp2_with fail;refine cs.mono ?_;clear cs;rintro e c9 ⟨rfl,bd,cw⟩
 have bd:(dq c (S.s.k0 a)).J o (S.s5 a) c9:=bd;have cx:=zc bd cu.out.1 cu.out.2;clear bd;go_wp2_with fail;refine cx.mono ?_;clear cx;rintro e A ⟨rfl,G,be⟩
 have G:(dq c (S.s.k0 a)).J o (S.s6 a) A:=G;obtain⟨ch,bO,bx⟩:=G;obtain⟨u,_,_,_,_,bL,_⟩:=dL bx;have G:(dq c (S.s.k0 a)).J o (S.s6 a) A:=⟨ch,bO,bx⟩
 rw[D.out.1] at G;obtain⟨B,cy,cz,cB⟩:=y2 (pk:=c.pk) (a:=a) G;obtain⟨cC,cD⟩:=hG cy;have be:bM o n B A:=⟨(cw.trans be).fr,fun b C=>ap (cz b C)⟩
 have cE:=q7 A cC;have bN:Hid (bM o n B A/\¬B c.pk/\∀w',At w' a.p a.q a.N a.O 0 (S.s6 a).g (S.s6 a).ws->cY a.p a.q A w'->(dD a).J B ⟨0,(S.s6 a).g,(S.s6 a).ws,S.s.M,(S.s6 a).rs⟩ w'/\bM B A B w'):=⟨be,cB,fun w' j a3=>cD w' _ _ _ j a3⟩
 have da:=au A _ u;have cF:c.pw=a.pw:=D.out.2.2.2.2.symm;have ep:c.p=a.p:=by rw[D.out.1]
 rw[cF] at u bL;rw[ep] at bL;clear G bx cy cC cD cz cB be cw cF ep;go_wp2_with fail;refine cE.mono ?_;clear cE;rintro e H ⟨rfl,cG,cH⟩
 obtain⟨bP,bQ⟩:=bN.out.2.2 H cG cH;obtain⟨db,cI,cJ⟩:=pK bP;obtain⟨_,dc,_⟩:=hH bP;have dd:H.cell? (ah c.pk 0)=some (af a.pw):=(aD (a:=⟨c.pk,0,none⟩) (bQ.fr.block c.pk da bN.out.2.1)).trans u;have cK:=o8 H cI.hp;have bS:Hid (bM o n B H/\∀w',Cd w' a.pc H.heap.size a.N (dx a.O) []->cY a.pc db H w'->∃g,(dD a).J g ⟨0,(S.s6 a).g,(S.s6 a).ws,[],(S.s6 a).rs⟩ w'/\bM B H g w'):=⟨bN.out.1.trans bQ,fun w' j a3=>cJ w' _ _ j a3 (an bJ)⟩
 clear cG cH bP bQ cI cJ u bL;go_wp2_with fail;refine cK.mono ?_;clear cK;rintro e bg ⟨rfl,cL,M⟩
 have de:Hid (∃g,(eT a).J g (S.cut a) bg/\bM F w g bg):=by
  obtain⟨df,dg,dh⟩:=bS.out.2 bg cL ⟨M.os,M.tape,M.output,M.size,fun b C j _=>M.block b C j j⟩
  obtain⟨cM,cN,bT⟩:=cv.out (dD a) df _ bg dg (bS.out.1.trans dh)
  obtain⟨_,ad,K,di,dj⟩:=bs.out;have dk:S.cut a=⟨⟨0,(S.s6 a).g,(S.s6 a).ws,[],(S.s6 a).rs⟩,(S.s.k0 a).sR (S.t3 a) S.r,(S.s.k0 a).fw (S.t3 a) S.r⟩:=by unfold bZ.cut;rw[ao];unfold bZ.full;simp;omega
  rw[dk];rw[<-D.out.2.1] at cN;have cO:=dj.trans bT;refine⟨fun b=>cM b\/some b=(Value.slice a1 ((S.s.k0 a).sR (S.t3 a) S.r).length c1).ownBlock,⟨cM,a1,c1,cN,fQ ad bT.fr (fun b e=>(K b e).1),fun b e d=>(bT.sub b d).elim (K b e).1 (fun d=>by have:=(bR ad b e).2;omega),fun b=>Iff.rfl⟩,⟨cO.fr.mono (fun b d=>(J.out.2.2 b).2 (ap d)),fun b d=>?_⟩⟩
  rcases d with d|d
  ·exact(cO.sub b d).imp (fun d=>(J.out.2.2 b).2 (ap d)) id
  ·exact an (az di (K b d).2)
 clear cL M bS cv bs dd dc;go_wp2_with fail;go_ret;obtain⟨g,dl,j2⟩:=de.out;exact⟨g,rfl,dl,j2⟩
theorem zz (h:(eT a).J F S w)(hq:S.q.length+S.r.length<=90000):
 Calls prog 33 #[af a.pw] w fun e w'=>∃c,e=.returned (ae (S.code a))/\(eT a).J c (S.cut a) w'/\bM F w c w':=by
 cases hf:S.full a
 ·have b:S.code a=0:=by unfold bZ.code;rw[hf];rfl
  rw[b];exact zy h hf hq
 ·have b:S.code a=3:=by unfold bZ.code;rw[aq hf]
  have f:S.cut a=S:=by unfold bZ.cut;rw[aq hf]
  rw[b,f];refine(zx h hf).mono ?_;rintro e w' ⟨rfl,d⟩
  exact⟨F,rfl,(eT a).below h d,bM.of d⟩
end
def bL.gR (s:bX)(t:bL×Int)(a:Int):bL×Int:=(t.1.i5 (s.f a).toNat a.toNat (1+(pf (t.1.ld a)).toNat),t.2+(1+pf (t.1.ld a)))
def bL.jz (k:bL)(s:bX)(l:List Int):bL×Int:=fL (fun _ a=>s.f a) (bL.gR s) (k,0) l
def bL.mL (k:bL)(s:bX)(l:List Int):bL:=fL (fun(_:bL) a=>s.f a) (fun k a=>k.cop a) k l
def bL.pV (k:bL):bL:={k with s:={k.s with M:=[]}}
def bL.sl1 (k:bL)(s:bX):bL:=(k.jz s k.G).1.ar (k.jz s k.G).1.s.y (k.jz s k.G).2.toNat (k.jz s k.G).1.s.ws
def bL.sl2 (k:bL)(s:bX):bL:=(k.sl1 s).mL s k.Y
def bL.sl (k:bL)(s:bX):bL:=((k.sl2 s).ar 0 (k.sl2 s).s.g (k.sl2 s).s.ws).pV
theorem zA:dQ 128:=gb func128 ab rfl
theorem zB:dQ 131:=gb func131 ab rfl
section
variable {c:eB}{k0 k:bL}{vt bO vr:Value}{F:Nat->Prop}{s:bX}{w:World}{bp eU:Nat}
theorem zC (h:(cH c k0 s vt bO).J F k w)(n:Int)(h0:0<=n)(b:n<=k0.a.O):Calls prog 130 #[af k0.a.p,ae n] w fun e w'=>∃a,e=.returned (.tuple #[])/\(cH c k0 s vt bO).J a (k.ar k.s.y n.toNat k.s.ws) w'/\bM F w a w':=by
 obtain⟨h,ea,d,f⟩:=h;obtain⟨g,i⟩:=lL h;have P:=v7 n w g h0 (by rw[ea];exact b)
 rw[<-ea];refine P.mono ?_;rintro e j ⟨rfl,l,m⟩
 obtain⟨o,p,q⟩:=i j _ _ _ l m;exact⟨o,rfl,⟨p,ea,d,f⟩,q⟩
theorem zD (h:(cH c k0 s vt bO).J F k w):Calls prog 89 #[af k0.a.p] w fun e w'=>∃a,e=.returned (.tuple #[])/\(cH c k0 s vt bO).J a (k.ar 0 k.s.g k.s.ws) w'/\bM F w a w':=by
 obtain⟨h,ea,b,d⟩:=h;obtain⟨f,g⟩:=lL h;have P:=q7 w f;rw[<-ea];refine P.mono ?_;rintro e i ⟨rfl,j,l⟩
 obtain⟨m,n,o⟩:=g i _ _ _ j l;exact⟨m,rfl,⟨n,ea,b,d⟩,o⟩
theorem zE (h:(cH c k0 s vt bO).J F k w):w.cell? (ah k0.a.pw 1)=some (af k0.a.pc)/\Calls prog 90 #[af k0.a.pc] w fun e w'=>∃d,e=.returned (.tuple #[])/\(cH c k0 s vt bO).J d k.pV w'/\bM F w d w':=by
 obtain⟨h,ea,i,j⟩:=h;obtain⟨u,g1,g2⟩:=mK h;obtain⟨_,c1,_⟩:=hH g1;obtain⟨ct,hc,l⟩:=pK g1;have P:=o8 w hc.hp;rw[ea] at c1 P;refine⟨c1,P.mono ?_⟩
 rintro e m ⟨rfl,f,a⟩
 rw[<-ea] at f a;obtain⟨v,n,o⟩:=l m _ _ f ⟨a.os,a.tape,a.output,a.size,fun b p g _=>a.block b p g g⟩ (an bJ)
 obtain⟨q,j2,t⟩:=g2 _ _ _ n o;exact⟨q,rfl,⟨j2,ea,i,j⟩,t⟩
theorem lM (h:(cH c k0 s vt bO).J F k w):w.cell? (ah c.pk 1)=some c.yv/\w.cell? (ah c.pk 2)=some c.ov/\w.ownsRow 0 3 1 c.yv k0.Y.length (k0.Y.map (Value.int .i64))/\w.ownsRow 0 3 1 c.ov k0.G.length (k0.G.map (Value.int .i64)):=by obtain⟨h,ea,a,b⟩:=h;obtain⟨_,d,e,_⟩:=dX h;obtain⟨y,g⟩:=tD h;rw[a] at y;rw[b] at g;exact⟨d,e,y,g⟩
def hK (k0:bL)(s:bX)(G:Nat->bL×Int->Prop):Prop:=
 (∀j t,j<k0.G.length->G j t->s.f (k0.G.getD j 0)≠-1->0<=s.f (k0.G.getD j 0)/\s.f (k0.G.getD j 0)+(1+pf (t.1.ld (k0.G.getD j 0)))<=k0.a.N+k0.a.O/\k0.G.getD j 0+(1+pf (t.1.ld (k0.G.getD j 0)))<=k0.a.N+k0.a.O/\0<=t.2/\t.2<=100000)/\
 (∀j t,j<k0.G.length->G j t->G (j+1) (ey (fun _ a=>s.f a) (bL.gR s) t (k0.G.getD j 0)))/\(∀t,G k0.G.length t->0<=t.2/\t.2<=k0.a.O)
theorem zF {G:Nat->bL×Int->Prop}(o:hK k0 s G){t:bL×Int}(h0:G 0 t)(h:(e4 (cw (cH c k0 s vt bO) bp (cz c)) eU).J F t w)(hl:k0.G.length<=4000)(hp:∀a∈k0.G,0<=a/\a<=2000){d:Option Addr}{f:Nat}(x:c.ov=.slice d k0.G.length f):
 Calls prog 124 #[af c.pk,.slice d k0.G.length f,.func (.func 128) #[] #[af bp,af eU]] w fun e w'=>∃g,e=.returned (.tuple #[])/\(e4 (cw (cH c k0 s vt bO) bp (cz c)) eU).J g (fL (fun _ a=>s.f a) (bL.gR s) t k0.G) w'/\bM F w g w'/\G k0.G.length (fL (fun _ a=>s.f a) (bL.gR s) t k0.G):=by
 have p:∀a∈k0.G,a∈k0.T:=fun a ha=>List.mem_append.2 (ap ha)
 refine pS (e4 (cw (cH c k0 s vt bO) bp (cz c)) eU) (fun _ a=>s.f a) (fun t a=>pf (t.1.ld a)) (bL.gR s) G k0.T c.pk k0.a.pw k0.a.p c.bW 128 #[af bp,af eU] zA k0.G d f F t w
  (by
    rintro F t q a A;obtain⟨_,i,_⟩:=jx A;obtain⟨_,b,_⟩:=fI i;have ea:t.1.a=k0.a:=b.2.1;obtain⟨c0,B,C,hM,D⟩:=gj b;refine⟨c0,B,C,hM,(e9 a q D).mono ?_⟩
    rintro r w' ⟨rfl,E⟩
    have H:pf (t.1.ld a)=pf (ld k0.a.N t.1.s.y t.1.s.g t.1.s.ws a):=by unfold bL.ld;rw[ea]
    exact⟨pk (ld k0.a.N t.1.s.y t.1.s.g t.1.s.ws a),pc (ld k0.a.N t.1.s.y t.1.s.g t.1.s.ws a),by rw[H],E⟩)
  (fun t a=>cU _) (fun a ha=>⟨by have:=hp a ha;omega,p a ha⟩) I
  (by
    rintro j F t q l hg m J;have hm:k0.G.getD j 0∈k0.G:=by rw[aj,am l];exact aK l
    have b:=hp _ hm;have N:=cU (t.1.ld (k0.G.getD j 0))
    obtain⟨a1,a2,K,L,M⟩:=o.1 j t l hg J;have n:((1+(pf (t.1.ld (k0.G.getD j 0))).toNat:Nat):Int)=1+pf (t.1.ld (k0.G.getD j 0)):=I;have P:=zs (k:=t.1) (u:=t.2) m (k0.G.getD j 0) (1+(pf (t.1.ld (k0.G.getD j 0))).toNat) (p _ hm) b a1 (by rw[n];exact a2) (by rw[n];exact K) ⟨L,M⟩ I;rw[n] at P;exact P)
  o.2.1 h0 h (fun g O w' m _=>?_)
 obtain⟨_,i,_⟩:=jx m;obtain⟨_,b,_⟩:=fI i;have v:=(lM b).2.2.2;rw[x] at v;exact ga v
theorem zG (h:(cw (cH c k0 s vt bO) bp (cz c)).J F k w)(hl:k0.Y.length<=4000)(hp:∀a∈k0.Y,0<=a/\a<=2000){f:Option Addr}{g:Nat}(n:c.yv=.slice f k0.Y.length g):
 Calls prog 124 #[af c.pk,.slice f k0.Y.length g,.func (.func 131) #[] #[af bp]] w fun e w'=>∃d,e=.returned (.tuple #[])/\(cw (cH c k0 s vt bO) bp (cz c)).J d (k.mL s k0.Y) w'/\bM F w d w':=by
 have o:∀a∈k0.Y,a∈k0.T:=fun a ha=>List.mem_append.2 (an ha)
 have E:=pS (cw (cH c k0 s vt bO) bp (cz c)) (fun(_:bL) a=>s.f a) (fun t a=>pf (t.ld a)) (fun k a=>k.cop a) (fun _ _=>True) k0.T c.pk k0.a.pw k0.a.p c.bW 131 #[af bp] zB k0.Y f g F k w
  (by
    rintro F t l a p;obtain⟨_,b,_⟩:=fI p;have ea:t.a=k0.a:=b.2.1;obtain⟨c0,q,u,hM,v⟩:=gj b;refine⟨c0,q,u,hM,(e9 a l v).mono ?_⟩
    rintro r w' ⟨rfl,x⟩
    have A:pf (t.ld a)=pf (ld k0.a.N t.s.y t.s.g t.s.ws a):=by unfold bL.ld;rw[ea]
    exact⟨pk (ld k0.a.N t.s.y t.s.g t.s.ws a),pc (ld k0.a.N t.s.y t.s.g t.s.ws a),by rw[A],x⟩)
  (fun t a=>cU _) (fun a ha=>⟨by have:=hp a ha;omega,o a ha⟩) I
  (fun j F t l _ _ i _=>zt i _ _)
  (fun _ _ _ _=>trivial) trivial h (fun d C w' i _=>by obtain⟨_,b,_⟩:=fI i;have m:=(lM b).2.2.1;rw[n] at m;exact ga m)
 refine E.mono ?_;rintro r w' ⟨d,rfl,b,B,_⟩
 exact⟨d,rfl,b,B⟩
end
theorem bM.less {X F a:Nat->Prop}{w w':World}(h:bM X w F w')(hs:∀b,a b->F b):bM X w a w':=⟨h.fr,fun b c=>h.sub b (hs b c)⟩
theorem zH {j:Type}{o:dB j}{bx:Nat}{x:Obj}{F:Nat->Prop}{w:World}{t:j}(h:(cw o bx x).J F t w):∃d,o.J d t w/\w.heap[bx]?=some x/\bx<w.heap.size/\(∀c i w1,o.J c i w1->bM d w c w1->(cw o bx x).J (fun b=>c b\/b=bx) i w1/\bM F w (fun b=>c b\/b=bx) w1)/\∀b,d b->F b:=by
 obtain⟨d,h,g2,g3,e⟩:=h;refine⟨d,h,g2,lt_of_some g2,fun c i w1 k f=>⟨⟨c,k,(f.fr.block bx (lt_of_some g2) g3).trans g2,fun g=>(f.sub bx g).elim g3 (fun g=>by have:=lt_of_some g2;omega),fun b=>Iff.rfl⟩,⟨f.fr.mono (fun b a=>(e b).2 (ap a)),fun b a=>?_⟩⟩,fun b a=>(e b).2 (ap a)⟩
 rcases a with a|a
 ·exact(f.sub b a).imp (fun g=>(e b).2 (ap g)) id
 ·exact ap ((e b).2 (an a))
section
variable {c:eB}{k:bL}{vt bO:Value}{F:Nat->Prop}{s:bX}{w:World}
theorem zI {G:Nat->bL×Int->Prop}(bb:hK k s G)(bd:G 0 (k,0))(h:(cy c k vt bO).J F s w)(hl:k.T.length<=4000)(hp:∀a∈k.T,0<=a/\a<=2000):
 Calls prog 59 #[af c.pk] w fun e w'=>∃be,e=.returned (.tuple #[])/\(cy c (k.sl s) vt bO).J be s w'/\bM F w be w':=by
 have cG:∀(bg:Fn)(first bi:Array Value)(w:World),(Instr.makeFunc bg first bi).run prog w=.ok (.func bg first bi) w:=fun _ _ _ _=>rfl;have cf:k.T.length=k.G.length+k.Y.length:=by unfold bL.T;rw[aJ]
 have m:Hid (hK k s G/\G 0 (k,0)/\(∀a∈k.G,0<=a/\a<=2000)/\(∀a∈k.Y,0<=a/\a<=2000)/\k.G.length<=4000/\k.Y.length<=4000):=⟨bb,bd,fun a ha=>hp a (List.mem_append.2 (ap ha)),fun a ha=>hp a (List.mem_append.2 (an ha)),I,I⟩
 have N:∀b,F b->b<w.heap.size:=(cy c k vt bO).lt h;obtain⟨w0,E⟩:∃w0,w.alloc (cz c)=w0:=⟨_,rfl⟩
 have bl:Below w.heap.size w w0:=by rw[<-E];exact(Below.refl w.heap.size w).alloc bJ (cz c)
 have bn:w0.heap.size=w.heap.size+1:=by rw[<-E];simp
 have O:w0.heap[w.heap.size]?=some (cz c):=by rw[<-E];exact aw _ _
 obtain⟨w1,P⟩:∃w1,w0.alloc (gQ 0)=w1:=⟨_,rfl⟩
 have H:Below w0.heap.size w0 w1:=by rw[<-P];exact(Below.refl w0.heap.size w0).alloc bJ (gQ 0)
 have bo:w1.heap[w0.heap.size]?=some (gQ 0):=by rw[<-P];exact aw _ _
 have Q:Below w.heap.size w w1:=bl.trans (H.mono I)
 have R:(cH c k s vt bO).J F k w1:=⟨(cy c k vt bO).below h Q,rfl,rfl,rfl⟩
 have bp:(cw (cH c k s vt bO) w.heap.size (cz c)).J (fun b=>F b\/b=w.heap.size) k w1:=⟨F,R,(H.block _ I).trans O,fun g=>by have:=N _ g;omega,fun b=>Iff.rfl⟩
 have br:(e4 (cw (cH c k s vt bO) w.heap.size (cz c)) (w.heap.size+1)).J (fun b=>(F b\/b=w.heap.size)\/b=w.heap.size+1) (k,0) w1:=⟨_,bp,by rw[<-bn];exact bo,fun g=>g.elim (fun g=>by have:=N _ g;omega) (fun g=>by omega),fun b=>Iff.rfl⟩
 have cg:w.cell? (ah c.pk 2)=some c.ov:=(dX h).2.2.1;have lk:c.pk<w.heap.size:=(dX h).2.2.2.2.2.2.2.2;obtain⟨_,bs,yr,gr⟩:=lM R;obtain⟨J,K,bx⟩:=dG yr;obtain⟨u,gc,v⟩:=dG gr;have ch:w1.cell? (ah c.pk 2)=some (.slice u k.G.length gc):=by rw[bs,v]
 clear bs;rw[v] at cg;have S:Hid (c.yv=.slice J k.Y.length K):=bx;have ci:Hid (c.ov=.slice u k.G.length gc):=v;have cI:w1.cell? (ah w.heap.size 0)=some (af c.pk):=by have e:w1.heap[w.heap.size]?=some (cz c):=(H.block _ I).trans O;simp[World.cell?,e]
 have hd:=(Below.refl w1.heap.size w1).drew;have cj:Hid (bM F w (fun b=>(F b\/b=w.heap.size)\/b=w.heap.size+1) w1.drew):=⟨(Fr.of (X:=F) Q).trans (Fr.of (X:=F) hd) (fun b g=>ap g),fun b g=>g.elim (fun g=>g.imp id (fun e=>by omega)) (fun e=>an I)⟩
 have U:=zF m.out.1 m.out.2.1 ((e4 (cw (cH c k s vt bO) w.heap.size (cz c)) (w.heap.size+1)).below br hd) m.out.2.2.2.2.1 m.out.2.2.1 v;obtain⟨d,W⟩:∃d,fL (fun _ a=>s.f a) (bL.gR s) (k,0) k.G=d:=⟨_,rfl⟩
 rw[W] at U;have bN:Hid (k.sl1 s=d.1.ar d.1.s.y d.2.toNat d.1.s.ws):=by show k.sl1 s=_;unfold bL.sl1 bL.jz;rw[W]
 have x:Hid (k.sl s=((k.sl2 s).ar 0 (k.sl2 s).s.g (k.sl2 s).s.ws).pV/\k.sl2 s=(k.sl1 s).mL s k.Y):=⟨rfl,rfl⟩
 generalize k.sl s=ck at x⊢;generalize k.sl2 s=cl at x;generalize k.sl1 s=bP at x bN;clear bb bd h bl O H bo Q R bp br yr gr bx v hd W N hp hl cf bn;subst P;subst E;have cJ:((w.alloc (.cells #[.pointer (some ⟨c.pk,0,none⟩)] 112 (0,0))).alloc (.cells #[.int .i64 0] 3 (0,0))).cell? ⟨c.pk,2,none⟩=some (.slice u k.G.length gc):=ch;go_enter func59,ntmps59;go_wp2_with fail
 go_region_held3 (fun w'=>w'.cell? (ah w.heap.size 0)=some (af c.pk)/\w'.cell? (ah c.pk 2)=some (.slice u k.G.length gc)) (go_keep)
  (first
    |(go_at_call 124;refine U.mono ?_;clear U;rintro e w3 ⟨bQ,rfl,b7,t3,g3⟩;have o:Hid ((e4 (cw (cH c k s vt bO) w.heap.size (cz c)) (w.heap.size+1)).J bQ d w3/\bM F w bQ w3/\0<=d.2/\d.2<=k.a.O):=⟨b7,cj.out.trans t3,m.out.1.2.2 _ g3⟩;obtain⟨_,q1,_⟩:=jx b7;obtain⟨_,n,q3,_⟩:=fI q1;obtain⟨_,bR,_⟩:=lM n;have cm:w3.cell? (ah w.heap.size 0)=some (af c.pk):=(by simp[World.cell?,q3]);have cn:w3.cell? (ah c.pk 2)=some (.slice u k.G.length gc):=(by rw[bR,ci.out]);clear bR b7 t3 g3 q1 n q3))
 all_goals
  have p:Hid (∃q,(cw (cH c k s vt bO) w.heap.size (cz c)).J q d.1 w3.drew/\bM F w q w3.drew/\¬q (w.heap.size+1)/\w.heap.size+1<w3.heap.size):=by obtain⟨q,b9,cC,A,B⟩:=o.out.1;exact⟨q,(cw (cH c k s vt bO) w.heap.size (cz c)).below b9 (Below.refl _ w3).drew,(o.out.2.1.less (fun b g=>(B b).2 (ap g))).below (Below.refl _ w3).drew,A,lt_of_some cC⟩
  obtain⟨q,b9,bS,n4,bT⟩:=p.out;obtain⟨bU,cC,co,cp,Y,bV⟩:=zH b9;obtain⟨bW,_,bX,_,_⟩:=gj cC;have bY:=(lK o.out.1).1;have t:=zC cC d.2 o.out.2.2.1 o.out.2.2.2;rw[<-bN.out] at t;have v0:w3.cell? (ah c.pk 0)=some (af k.a.pw):=bW;have ad:w3.cell? (ah k.a.pw 0)=some (af k.a.p):=bX;clear bW bX;have bZ:Hid (∀f d w1,(cH c k s vt bO).J f d w1->bM bU w3.drew f w1->(cw (cH c k s vt bO) w.heap.size (cz c)).J (fun b=>f b\/b=w.heap.size) d w1/\bM F w (fun b=>f b\/b=w.heap.size) w1):=fun f d w1 j l=>⟨(Y f d w1 j l).1,bS.trans (Y f d w1 j l).2⟩
  have ai:w.heap.size+1<w3.heap.size/\¬bU (w.heap.size+1):=⟨bT,fun g=>n4 (bV _ g)⟩
  clear b9 bS cC co cp Y p n4 bT bV;go_wp2_with fail
  go_region_held3 (fun w'=>w'.cell? (ah w.heap.size 0)=some (af c.pk)/\w'.cell? (ah c.pk 0)=some (af k.a.pw)/\w'.cell? (ah k.a.pw 0)=some (af k.a.p)/\w'.cell? (ah (w.heap.size+1) 0)=some (ae d.2)) (go_keep)
   (first
     |(go_at_call 130;refine t.mono ?_;clear t;rintro e i ⟨C,rfl,A,al⟩;obtain⟨r0,_,cq,_,_⟩:=gj A;obtain⟨B,b0⟩:=bZ.out C _ i A al;obtain⟨_,_,b1,_⟩:=fI B;have r1:i.cell? (ah w.heap.size 0)=some (af c.pk):=(by simp[World.cell?,b1]);have cr:i.cell? (ah (w.heap.size+1) 0)=some (ae d.2):=(aD (a:=⟨w.heap.size+1,0,none⟩) (al.fr.block _ (by simpa using ai.1) ai.2)).trans bY;have L:Hid ((cw (cH c k s vt bO) w.heap.size (cz c)).J (fun b=>C b\/b=w.heap.size) bP i/\bM F w (fun b=>C b\/b=w.heap.size) i):=⟨B,b0⟩;clear A al B b0 b1))
  all_goals
   clear cq cr v0 ad bY cm cn ai bZ o;have p:Hid ((cw (cH c k s vt bO) w.heap.size (cz c)).J (fun b=>C b\/b=w.heap.size) bP i.drew/\bM F w (fun b=>C b\/b=w.heap.size) i.drew):=⟨(cw (cH c k s vt bO) w.heap.size (cz c)).below L.out.1 (Below.refl _ i).drew,L.out.2.below (Below.refl _ i).drew⟩
   have ar:=zG p.out.1 m.out.2.2.2.2.2 m.out.2.2.2.1 S.out;rw[<-x.out.2] at ar;have cs:i.cell? (ah c.pk 1)=some (.slice J k.Y.length K):=by obtain⟨_,n,_⟩:=fI L.out.1;exact(lM n).1.trans (by rw[S.out])
   clear L r0;go_wp2_with fail
   go_region_held3 (fun w'=>w'.cell? (ah w.heap.size 0)=some (af c.pk)/\w'.cell? (ah c.pk 1)=some (.slice J k.Y.length K)) (go_keep)
    (first
      |(go_at_call 124;refine ar.mono ?_;clear ar;rintro e D ⟨b2,rfl,ax,b3⟩;obtain⟨_,n,q3,_⟩:=fI ax;have ct:D.cell? (ah w.heap.size 0)=some (af c.pk):=(by simp[World.cell?,q3]);have m1:D.cell? (ah c.pk 1)=some (.slice J k.Y.length K):=(lM n).1.trans (by rw[S.out]);have aB:Hid ((cw (cH c k s vt bO) w.heap.size (cz c)).J b2 cl D/\bM F w b2 D):=⟨ax,p.out.2.trans b3⟩;clear ax b3 n q3))
   all_goals
    clear cs r1 m1 p;obtain⟨cu,aF,cv,cx,aR⟩:=fI aB.out.1;obtain⟨v0,_,ad,_,_⟩:=gj aF;have t:=zD aF;have b4:Hid (∀f d w1,(cH c k s vt bO).J f d w1->bM cu D f w1->(cw (cH c k s vt bO) w.heap.size (cz c)).J (fun b=>f b\/b=w.heap.size) d w1/\bM F w (fun b=>f b\/b=w.heap.size) w1):=fun f d w1 j l=>⟨(aR f d w1 j l).1,aB.out.2.trans (aR f d w1 j l).2⟩
    clear aF cv cx aR aB;go_wp2_with fail;refine t.mono ?_;clear t;rintro e aT ⟨cA,rfl,b5,b6⟩
    obtain⟨b8,ca⟩:=b4.out cA _ aT b5 b6;obtain⟨cB,aV,cb,cD,a0⟩:=fI b8;have z0:aT.cell? (ah w.heap.size 0)=some (af c.pk):=by simp[World.cell?,cb]
    obtain⟨cE,_,_,_,_⟩:=gj aV;obtain⟨cF,a1⟩:=zE aV;rw[<-x.out.1] at a1;have cc:Hid (∀f d w1,(cH c k s vt bO).J f d w1->bM cB aT f w1->(cw (cH c k s vt bO) w.heap.size (cz c)).J (fun b=>f b\/b=w.heap.size) d w1/\bM F w (fun b=>f b\/b=w.heap.size) w1):=fun f d w1 j l=>⟨(a0 f d w1 j l).1,ca.trans (a0 f d w1 j l).2⟩
    clear b5 b6 b8 ca aV cb cD a0 b4 v0 ad ct;go_wp2_with fail;refine a1.mono ?_;clear a1;rintro e a2 ⟨M,rfl,a3,cd⟩
    have ce:Hid ((cy c ck vt bO).J M s a2/\bM F w M a2):=⟨a3.1,(cc.out M _ a2 a3 cd).2.less (fun b g=>ap g)⟩
    clear a3 cd cc z0 cE cF;go_wp2_with fail;go_end0;exact⟨M,rfl,ce.out.1,ce.out.2⟩
end
theorem tM (f:Nat)(c:Array Value)(p:Int->Bool)(n:dQ f)(w:World)(l:List Int)
 (hl:∀(w':World)(x:Int),x∈l->Below w.heap.size w w'->Calls prog f (#[ae x]++c) w' fun r g=>r=.returned (.bool (p x))/\Below w'.heap.size w' g)
 (k:Option Addr)(t:Nat)(hm:l.length<=100000)(hp:fZ w k l):
 Calls prog 186 #[.slice k l.length t,.func (.func f) #[] c] w fun r w'=>Below w.heap.size w w'/\((r=.returned (ae (-1))/\∀e∈l,p e=false)\/∃i:Nat,r=.returned (ae i)/\i<l.length/\p (l.getD i 0)=true/\∀e∈l.take i,p e=false):=by
 have u:Hid (∀(w':World)(x:Int),x∈l->Below w.heap.size w w'->Calls prog f (#[ae x]++c) w' fun r g=>r=.returned (.bool (p x))/\Below w'.heap.size w' g):=hl;have v:Hid (fZ w k l):=hp;have E:∀(args:Array Value)(w:World),(callFunc f args).run prog w=.ok (.enter f args) w:=n;clear hl hp n;go_enter func186,ntmps186;go_wp2_with fail
 go_loopw [8] (fun iv wr=>∃j:Nat,j<=l.length/\iv=ae j/\Hid (∀e∈l.take j,p e=false)/\Below w.heap.size w wr) (fun iv _=>l.length-(intOf iv).toNat)
 case atStart=>exact⟨0,aA _,rfl,by simp[Hid],Below.refl _ _⟩
 case round=>
  obtain⟨j,F,rfl,d,a⟩:=hrel;by_cases b:j<l.length
  ·obtain⟨b0,G,A,H,hc⟩:=v.out.below a I;have B:=hc j b;have hd:l.getD j 0∈l:=by rw[aj,am b];exact aK b
   obtain⟨x,m⟩:∃x,l.getD j 0=x:=⟨_,rfl⟩
   have o:Hid (l.getD j 0=x):=m;rw[m] at B hd;have P:=u.out wr x hd a;clear hc m hd;subst A;go_wp2_with fail;refine P.mono ?_;clear P;rintro r w1 ⟨rfl,q⟩
   have s:=a.trans (q.mono a.size)
   clear a q;cases hp:p x
   ·have C:Hid (∀e∈l.take (j+1),p e=false):=fun e he=>by
     rw[eY l j b 0,List.mem_append,a7] at he;rcases he with he|he
     ·exact d.out e he
     ·rw[he,o.out];exact hp
    clear hp;go_wp2_with fail;go_roundw
    case rel=>exact⟨j+1,I,ac,C,s⟩
    case measure=>simp[intOf];omega
   ·have D:Hid (p (l.getD j 0)=true):=by show _=_;rw[o.out];exact hp
    clear hp;go_wp2_with fail;go_ret;exact⟨s,an ⟨j,rfl,b,D.out,d.out⟩⟩
  ·obtain rfl:j=l.length:=I;rw[aP] at d;go_wp2_with fail;go_ret;exact⟨a,ap ⟨rfl,d.out⟩⟩
theorem zJ:dQ 168:=gb func168 ab rfl
theorem zK {pk pw p q N O y g bx be:Nat}{ws:List Int}{e:Int}(w:World)(c:At w p q N O y g ws)(c0:w.cell? (ah bx 0)=some (af pk))(c1:w.cell? (ah pk 0)=some (af pw))(c2:w.cell? (ah pw 0)=some (af p))(b:w.cell? (ah be 0)=some (ae e))(a:Int)(ha:0<=a/\a<=100000):
 Calls prog 168 #[ae a,af bx,af be] w fun r w'=>r=.returned (.bool (decide (e<=a+pf (ld N y g ws a))))/\Below w.heap.size w w':=by
 have P:=e9 a w c;have f:=cU (ld N y g ws a)
 have lb:=au w _ b;generalize pf (ld N y g ws a)=m at P f⊢;generalize W.pk (ld N y g ws a)=m1 at P;generalize pc (ld N y g ws a)=i at P;clear c;go_enter func168,ntmps168;go_wp2_with fail;refine P.mono ?_;clear P;rintro r w1 ⟨rfl,d⟩
 have j:=(d.cell (p:=ah be 0) lb).trans b;clear c0 c1 c2 b;go_wp2_with fail;go_ret;exact⟨by first|rfl|(congr 2;simp;done)|(congr 2;simp;omega),d⟩
end Go.Proofs.YtjpjpjemibgjpaaGreat
