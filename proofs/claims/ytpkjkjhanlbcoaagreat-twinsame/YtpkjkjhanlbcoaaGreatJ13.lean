import Derived.Test.YtpkjkjhanlbcoaaGreatJ12
namespace Go.Proofs.YtpkjkjhanlbcoaaGreat
set_option maxRecDepth 100000
set_option maxHeartbeats 4000000
open Tryz
open Go.RowKit W Kp cf
section
variable {c:gj}{k:ce}{F:Nat->Prop}{s:cj}{w:ax}
theorem D_ (h:(d7 c k).J F s w)(N:CI k s)(hl:s.wk.length<=10000):
 Calls prog 112 #[aj c.pk] w fun e w'=>e=.returned (.tuple #[])/\(d7 c k).J F (k.mw s s.wk) w'/\b8 F w F w':=by
 obtain⟨cG,b,h⟩:=h;obtain⟨c0,_,_,c4,_,c5,_,_,_,an,er,_,_,lk,_⟩:=d8 h;obtain⟨ad,cap,rfl⟩:=eE er;have ao:ay (CI k s):=N;have ap:ay (∀a∈s.wk,(k.N:Int)<=a/\a<=2000):=N.iz;have a2:(0:Int)<=k.N:=V;clear N an;go_enter func112,ntmps112;go_wp2_with fail
 go_loopw [10] (fun iv wr=>∃(j:Nat)(s1:cj),j<=s.wk.length/\iv=ah j/\ay (k.mw s (s.wk.take j)=s1)/\(cutV c k (.slice ad s.wk.length cap) b).J F s1 wr/\b8 F w F wr/\ay (CI k s1/\eC k s s1)) (fun iv _=>s.wk.length-(intOf iv).toNat)
 case atStart=>exact⟨0,s,aZ _,rfl,rfl,h,b8.refl _ _,⟨ao.out,eC.refl _ _⟩⟩
 case round=>
  obtain⟨j,s1,bb,rfl,O,A,Q,R⟩:=hrel;obtain⟨t,_,_,ar,_,u,_,_,_,aB,S,_,_,bd,_⟩:=d8 A;have aF:=R.out.2.wk;rw[aF] at S;by_cases J:j<s.wk.length
  ·obtain⟨d,f,aR,be,hc⟩:=gH S V;have U:=hc j J;subst aR;have ag:s.wk.getD j 0∈s.wk:=by rw[aE,aL J];exact a6 J
   have ai:=ap.out _ ag;have B:ay (k.mw s (s.wk.take (j+1))=k.eF s1 (s.wk.getD j 0)):=by
    show _=_;rw[gx s.wk j J 0];unfold ce.mw;rw[List.foldl_append];have:=O.out;unfold ce.mw at this
    rw[this];rfl
   generalize s.wk.getD j 0=a at U ai B;have K:ay (CI k (k.eF s1 a)/\eC k s (k.eF s1 a)):=by obtain⟨aV,a0⟩:=R.out.1.eF ai.1;exact⟨aV,R.out.2.trans a0⟩
   have bg:IntKind.i64.wrap (a+1)=a+1:=by rw[bk];omega
   obtain⟨al,_⟩:=iO A;have L:=jJ (a+1) wr al;have am:ld k.N k.y s1.g s1.ws (a+1)=k.ld s1 (a+1):=rfl;rw[am] at L;have m:ay ((cutV c k (.slice (some ⟨d,f,none⟩) s.wk.length cap) b).J F s1 wr/\b8 F w F wr):=⟨A,Q⟩
   clear hc ag A Q al am aB S ar;cases hls:k.ls s1 (k.ld s1 (a+1))
   ·have v:ay (k.eF s1 a=k.st s1 (a+1) (k.nw s1 (k.ld s1 (a+1)))):=by show _=_;unfold ce.eF;rw[hls];rfl
    generalize k.eF s1 a=C at B K v;generalize k.ld s1 (a+1)=x at L hls v;go_wp2_with fail;refine L.mono ?_;clear L;rintro e w1 ⟨rfl,i⟩
    have P:=n8 ((cutV c k (.slice (some ⟨d,f,none⟩) s.wk.length cap) b).below m.out.1 i) x;rw[hls] at P;clear U t u;go_wp2_with fail;refine P.mono ?_;clear P;rintro e n ⟨rfl,D⟩
    have hb:=i.trans (D.mono i.size)
    have o:=(cutV c k (.slice (some ⟨d,f,none⟩) s.wk.length cap) b).below m.out.1 hb;obtain⟨t,_,_,_,_,u,_⟩:=d8 o;have M:ay ((cutV c k (.slice (some ⟨d,f,none⟩) s.wk.length cap) b).J F s1 n.drew/\b8 F w F n.drew):=⟨(cutV c k (.slice (some ⟨d,f,none⟩) s.wk.length cap) b).below o (aH _ n).drew,(m.out.2.below hb).below (aH _ n).drew⟩
    clear i D o hb m;go_wp2_with fail
    go_region_held3 (fun w'=>w'.cell? (aq c.pk 0)=some (aj c.pw)/\w'.cell? (aq c.pw 0)=some (aj c.p)) (go_keep)
     (first
       |(go_at_call 190;refine(qi M.out.1 x).mono ?_;rintro e a1 ⟨rfl,W⟩;have X:=(cutV c k (.slice (some ⟨d,f,none⟩) s.wk.length cap) b).below M.out.1 W;obtain⟨g0,_,_,_,_,g5,_⟩:=d8 X;obtain⟨g,E⟩:=iO X;have l:ay (_/\_/\_):=⟨g,E,M.out.2.below W⟩;clear W X g E M)
       |(go_at_call 93;refine(k3 (a+1) (k.nw s1 x) a1 l.out.1).mono ?_;rintro e p ⟨rfl,g,G⟩;obtain⟨q,H⟩:=l.out.2.1 p _ _ g G;obtain⟨r0,_,_,_,_,Y,_⟩:=d8 q;have I:ay ((cutV c k (.slice (some ⟨d,f,none⟩) s.wk.length cap) b).J F C p/\b8 F w F p):=⟨(by rw[v.out];exact q),l.out.2.2.trans H⟩;clear g G q H l))
    clear g0 g5 r0 Y t u;go_wp2_with fail;go_roundw
    case rel=>exact⟨j+1,C,V,af,B,I.out.1,I.out.2,K⟩
    case measure=>simp[intOf];omega
   ·have v:ay (k.eF s1 a=k.st s1 (a+1) 3):=by show _=_;unfold ce.eF;rw[aI hls]
    generalize k.eF s1 a=C at B K v;generalize k.ld s1 (a+1)=x at L hls;go_wp2_with fail;refine L.mono ?_;clear L;rintro e w1 ⟨rfl,i⟩
    have P:=n8 ((cutV c k (.slice (some ⟨d,f,none⟩) s.wk.length cap) b).below m.out.1 i) x;rw[hls] at P;clear U t u;go_wp2_with fail;refine P.mono ?_;clear P;rintro e n ⟨rfl,D⟩
    have hb:=i.trans (D.mono i.size)
    have o:=(cutV c k (.slice (some ⟨d,f,none⟩) s.wk.length cap) b).below m.out.1 hb;obtain⟨t,_,_,_,_,u,_⟩:=d8 o;obtain⟨g,E⟩:=iO ((cutV c k (.slice (some ⟨d,f,none⟩) s.wk.length cap) b).below o (aH _ n).drew)
    have l:ay (_/\_/\_):=⟨g,E,(m.out.2.below hb).below (aH _ n).drew⟩
    clear i D o hb m g E;go_wp2_with fail
    go_region_held3 (fun w'=>w'.cell? (aq c.pk 0)=some (aj c.pw)/\w'.cell? (aq c.pw 0)=some (aj c.p)) (go_keep)
     (first
       |(go_at_call 191;refine(nL _).mono ?_;rintro e bi ⟨rfl,ab⟩;have ab:=ab.symm;subst ab)
       |(go_at_call 93;refine(k3 (a+1) 3 n.drew l.out.1).mono ?_;rintro e p ⟨rfl,g,G⟩;obtain⟨q,H⟩:=l.out.2.1 p _ _ g G;obtain⟨r0,_,_,_,_,Y,_⟩:=d8 q;have I:ay ((cutV c k (.slice (some ⟨d,f,none⟩) s.wk.length cap) b).J F C p/\b8 F w F p):=⟨(by rw[v.out];exact q),l.out.2.2.trans H⟩;clear g G q H l))
    clear r0 Y t u;go_wp2_with fail;go_roundw
    case rel=>exact⟨j+1,C,V,af,B,I.out.1,I.out.2,K⟩
    case measure=>simp[intOf];omega
  ·obtain rfl:j=s.wk.length:=V;rw[bu] at O;go_wp2_with fail;go_end0;rw[O.out];exact⟨rfl,⟨_,_,A⟩,Q⟩
theorem Ea {cG d:Value}(h:(cutV c k cG d).J F s w):c.nb≠c.pk/\c.nb≠c.pw:=by
 obtain⟨own,h,f⟩:=h;refine⟨fun e=>?_,fun e=>?_⟩
 ·have b:=h.r1;rw[e,h.k1] at b;omega
 ·have b:=h.r1;rw[e,h.w1] at b;omega
theorem Eb (h:(d7 c k).J F s w)(q:CI k s):
 Calls prog 107 #[aj c.pk] w fun e w'=>e=.returned (.tuple #[])/\(d7 c k).J F (k.cJ s 12) w'/\b8 F w F w':=by
 obtain⟨cG,d,h⟩:=h;obtain⟨c0,_,_,_,_,_,_,_,N,_⟩:=d8 h;have E:ay (CI k s):=q;clear q;go_enter func107,ntmps107;go_wp2_with fail
 go_loopw [12] (fun iv wr=>∃(j:Nat),j<=12/\iv=ah j/\(cutV c k cG d).J F (k.cJ s j) wr/\b8 F w F wr) (fun iv _=>12-(intOf iv).toNat)
 case atStart=>exact⟨0,aZ _,rfl,h,b8.refl _ _⟩
 case round=>
  obtain⟨j,O,rfl,b,l⟩:=hrel;by_cases t:j<12
  ·obtain⟨G,_,_,_,_,_,_,_,H,_⟩:=d8 b;obtain⟨P,Q,hr⟩:=xm b;obtain⟨u,I⟩:=hr j t;obtain⟨n1,R⟩:=Ea b;have m:ay (k.cJ s (j+1)={(k.br (k.cJ s j) ((k.cJ s j).rs.getD j 0)).2 with rs:=(k.br (k.cJ s j) ((k.cJ s j).rs.getD j 0)).2.rs.set j (k.br (k.cJ s j) ((k.cJ s j).rs.getD j 0)).1}):=rfl;have J:ay (CI k (k.cJ s j)):=(E.out.cJ j).1;have n:ay ((cutV c k cG d).J F (k.cJ s j) wr.drew/\b8 F w F wr.drew):=⟨(cutV c k cG d).below b (aH _ wr).drew,l.below (aH _ wr).drew⟩
   obtain⟨f,o⟩:∃f,f=k.cJ s (j+1):=⟨_,rfl⟩
   rw[<-o] at m;have K:ay (f=k.cJ s (j+1)):=o;clear o;generalize (k.cJ s j).rs.getD j 0=x at u m;generalize k.cJ s j=s1 at*;have j0:(0:Int)<=(j:Int):=V;have S:(j:Int)<12:=V;clear hr b l;go_wp2_with fail
   go_region_held3 (fun w'=>w'.cell? (aq c.pk 0)=some (aj c.pw)/\w'.cell? (aq c.pw 3)=some (.slice (ak c.nb) 12 12)) (go_keep)
    (first
      |(go_at_call 182;refine(qj n.out.1 J.out x).mono ?_;rintro e g ⟨rfl,i,v⟩;obtain⟨g0,_,_,_,_,_,_,_,L,_⟩:=d8 i;obtain⟨_,U,A⟩:=xm i;obtain⟨y1,M⟩:=A j t;have p:ay ((cutV c k cG d).J F (k.br s1 x).2 g/\b8 F w F g):=⟨i,n.out.2.trans v⟩;clear i v A n))
   obtain⟨B,C⟩:=Dv p.out.1 j (k.br s1 x).1;have D:ay ((cutV c k cG d).J F f (g.setCell ⟨c.nb,j,none⟩ (.int .i64 (k.br s1 x).1))/\b8 F w F (g.setCell ⟨c.nb,j,none⟩ (.int .i64 (k.br s1 x).1))):=⟨by rw[m.out];exact B,p.out.2.trans C⟩
   clear B C p g0 L y1 M G H u I;go_wp2_with fail;go_roundw
   case rel=>exact⟨j+1,V,af,by rw[<-K.out];exact D.out.1,D.out.2⟩
   case measure=>simp[intOf];omega
  ·obtain rfl:j=12:=V;go_wp2_with fail;go_end0;exact⟨rfl,⟨_,_,b⟩,l⟩
end
section
variable {a:Wc}{F:Nat->Prop}{S:cq}{w:ax}
theorem Ec (h:(fL a).J F S w)(d:S.full a=true):
 Calls prog 50 #[aj a.pw] w fun e w'=>e=.returned (ah 3)/\aw w w':=by
 obtain⟨j,ar,k,f,_⟩:=h;obtain⟨l,hw,_⟩:=i4 f;obtain⟨b,_⟩:=kI hw;have b:=b;obtain⟨c0,_,_,_,g,_⟩:=jO hw;have n1:=b.hg;have m:a.O-S.s.g<S.s.y:=by simpa[cq.full] using d
 go_enter func50,ntmps50;go_wp2_with fail;refine(kD w b).mono ?_;rintro e w1 ⟨rfl,c⟩
 have c1:=(c.cell (p:=aq a.pw 0) g).trans c0;go_wp2_with fail;refine(oO w1 (b.below c bW)).mono ?_;rintro e n ⟨rfl,i⟩
 have hb:=c.trans (i.mono c.size)
 go_wp2_with fail;go_ret;exact⟨rfl,hb⟩
theorem Ed (h:(fL a).J F S w)(W:S.full a=false)(hq:S.q.length+S.r.length<=90000):
 Calls prog 50 #[aj a.pw] w fun e w'=>∃i,e=.returned (ah 0)/\(fL a).J i (S.cut a) w'/\b8 F w i w':=by
 have dd:∀(aR:Fn)(first cap:Array Value)(w:ax),(Instr.makeFunc aR first cap).run prog w=.ok (.func aR first cap) w:=fun _ _ _ _=>rfl;obtain⟨b6,ar,X,g,aV,a0,a2⟩:=h;obtain⟨bb,hw,bd⟩:=i4 g;obtain⟨f,_⟩:=kI hw;have f:At w a.p a.q a.N a.O S.s.y S.s.g S.s.ws:=f;obtain⟨c0,_,_,_,b7,_⟩:=jO hw;have n1:=f.hg;have b9:S.s.y<=a.O-S.s.g:=by unfold cq.full at W;have:=of_decide_eq_false W;omega
 have de:¬(a.O:Int)-S.s.g<S.s.y:=V;have n4:=f.hO;have df:=f.hy;have dg:=f.hN';have be:ay (_):=CI.start f.hN f.hN' f.hO f.hy f.hg f.hl b9;have bg:=kD w f;have bi:ay (_/\_):=⟨hw,f⟩
 have ca:ay (∀{Y:Type}(ab:dr Y) A ad w',ab.J A ad w'->b8 bb w A w'->_):=bd;have n:=g6 aV a0 a2;clear g hw f bd aV a0 a2 W;go_enter func50,ntmps50;go_wp2_with fail;refine bg.mono ?_;clear bg;rintro e w1 ⟨rfl,B⟩
 have c1:=(B.cell (p:=aq a.pw 0) b7).trans c0;have bl:=oO w1 (bi.out.2.below B bW)
 go_wp2_with fail;refine bl.mono ?_;clear bl;rintro e dh ⟨rfl,bn⟩
 have hb:=B.trans (bn.mono B.size)
 have cb:=D3 ((dX a).below bi.out.1 hb)
 have cc:=hide hb;clear B bn c0 c1 hb;go_wp2_with fail;refine cb.mono ?_;rintro e di ⟨pk,ch,cO,dj,rfl,C,ag⟩
 have ag:=(b8.of (F:=bb) cc.out).trans ag;obtain⟨c,hc⟩:∃c:gj,c=⟨pk,ch,a.pw,a.p,a.q,a.pc,cO,a.sd,a.nb,dF a.O,S.s.M⟩:=⟨_,rfl⟩
 have cd:pk=c.pk:=by rw[hc]
 have m:ay (_/\a.sd=c.sd/\c.c=dF a.O/\c.M=S.s.M/\a.pw=c.pw):=⟨hc,by rw[hc],by rw[hc],by rw[hc],by rw[hc]⟩
 rw[<-hc] at C;clear hc;subst cd;have C:=C;have ce:=Eb C be.out;clear C;go_wp2_with fail;refine ce.mono ?_;rintro e dk ⟨rfl,ai,cf⟩
 have ai:=ai;obtain⟨k1,dl,cg,ci,k5,k6⟩:=be.out.cJ 12;have cj:=DZ ai (s:=S.s.s1 a) k1 cg ci;have ck:=hide (ag.trans cf)
 go_wp2_with fail;refine cj.mono ?_;rintro e cl ⟨cm,rfl,L,co,M,b5,dm⟩
 rw[m.out.2.2.1,m.out.2.2.2.1] at L M b5;have L:=L;have M:=M;have b5:=b5;obtain⟨dn,bo,cp⟩:=ca.out (gJ c (S.s.k0 a)) cm (S.s.s2 a) cl ⟨L,M,b5⟩ (ck.out.trans co)
 rw[m.out.2.1] at bo;have cr:=xJ (c:=c) rfl bo (by show S.q.length<=90000;omega)
 have cs:=hide cp;go_wp2_with fail;refine cr.mono ?_;rintro e j ⟨dp,rfl,N,al⟩
 have N:=N;have al:=cs.out.trans al;obtain⟨dq,⟨⟨ds,dt,ct⟩,_⟩,_⟩:=i4 N;obtain⟨o,_,_,_,_,_,_,bp,_⟩:=d8 ct;have l0:=aQ j _ o;have cu:=aQ j _ bp;have k:ay (_/\_):=⟨(c7 (gJ c (S.s.k0 a)) c.sd (.slice ar S.r.length X)).below N (aH _ j).drew,al.below (aH _ j).drew⟩
 have cv:(S.t3 a).2.length+S.r.length<=90000:=by have:(S.t3 a).2.length=S.q.length:=oX _ _ _;omega
 go_wp2_with fail
 go_region_held3 (fun w'=>w'.cell? (aq c.pk 0)=some (aj c.pw)/\w'.cell? (aq c.pw 2)=some (aj c.sd)) (go_keep)
  (first
    |(go_at_call 110;refine(xD (mZ c) j.drew c.pk).mono ?_;rintro e cw ⟨rfl,cx,am⟩;have du:=(am.cell (p:=aq c.pk 0) l0).trans o;have dv:=(am.cell (p:=aq c.pw 2) cu).trans bp;have q:ay (_/\_):=⟨cx,am⟩)
    |(go_at_call 78;refine(D7 (t:=S.t3 a) (r:=S.r) rfl ((c7 (gJ c (S.s.k0 a)) c.sd (.slice ar S.r.length X)).below k.out.1 q.out.2) (by exact cH n.out.1 (fun b e=>(q.out.2.block b (aM (cn n.out.1 b e).2 k.out.2.fr.size)).trans (k.out.2.fr.block b (cn n.out.1 b e).2 (n.out.2.1 b e)))) cv j.heap.size q.out.1 (fun d=>by have:=(c7 (gJ c (S.s.k0 a)) c.sd (.slice ar S.r.length X)).lt k.out.1 _ d;have cy:j.drew.heap.size=j.heap.size:=rfl;omega)).mono ?_;rintro e O ⟨a1,c1,cz,rfl,br,P,D,cA,cB⟩;obtain⟨E,⟨⟨dw,dx,G⟩,_⟩,_⟩:=i4 br;obtain⟨r0,_,_,_,_,_,_,dy,_⟩:=d8 G;have bs:ay (_/\_/\_/\w.heap.size<=cw.heap.size/\b8 b6 w cz O):=⟨br,P,D,aT k.out.2.fr.size q.out.2.size,⟨(k.out.2.below q.out.2).fr.trans cA (fun b d=>d.elim (k.out.2.sub b) (fun d=>aJ (by have:=k.out.2.fr.size;have cy:j.drew.heap.size=j.heap.size:=rfl;omega))),fun b d=>(cB b d).elim (k.out.2.sub b) (fun d=>aJ (by have g:=k.out.2.fr.size;have Q:=q.out.2.size;omega))⟩⟩))
 obtain⟨E,⟨G,H,R⟩,cC⟩:=i4 bs.out.1;have G:(d7 c (S.s.k0 a)).J E (S.s4 a) O:=G;have H:CI (S.s.k0 a) (S.s4 a):=H;have R:ee (S.s.k0 a) (S.s4 a):=R;obtain⟨an,cD⟩:=H.mw (l:=(S.s4 a).wk) (fun x cE=>(H.iz x cE).1)
 have an:CI (S.s.k0 a) (S.s5 a):=an;have cF:=D_ G H (by have:=R.wk;omega)
 have bt:ay (CI (S.s.k0 a) (S.s5 a)/\(S.s5 a).ep.length<=10000):=⟨an,by have g:(S.s5 a).ep=(S.s4 a).ep:=cD.ep;rw[g];have:=R.ep;omega⟩
 have cI:ay (∀{Y:Type}(ab:dr Y) A ad w',ab.J A ad w'->b8 E O A w'->_):=cC;go_wp2_with fail;refine cF.mono ?_;rintro e dz ⟨rfl,ao,cJ⟩
 have ao:=ao;have cK:=D9 ao bt.out.1 bt.out.2;go_wp2_with fail;refine cK.mono ?_;rintro e u ⟨rfl,v,ap⟩
 have v:=v;obtain⟨cG,cL,bx⟩:=v;obtain⟨o,_,_,_,_,bY,_⟩:=d8 bx;have v:(d7 c (S.s.k0 a)).J E (S.s6 a) u:=⟨cG,cL,bx⟩
 rw[m.out.1] at v;obtain⟨I,cM,cN,cP⟩:=D8 (pk:=c.pk) (a:=a) v;obtain⟨cQ,cR⟩:=kI cM;have ap:b8 E O I u:=⟨(cJ.trans ap).fr,fun b hb=>aK (cN b hb)⟩
 have cS:=v4 u cQ;have aB:ay (_/\_/\∀w',At w' a.p a.q a.N a.O 0 (S.s6 a).g (S.s6 a).ws->c_ a.p a.q u w'->(dX a).J I ⟨0,(S.s6 a).g,(S.s6 a).ws,S.s.M,(S.s6 a).rs⟩ w'/\b8 I u I w'):=⟨ap,cP,fun w' g Q=>cR w' _ _ _ g Q⟩
 have cT:=aQ u _ o;have cU:=m.out.2.2.2.2.symm;have ep:c.p=a.p:=by rw[m.out.1]
 rw[cU] at o bY;rw[ep] at bY;go_wp2_with fail;refine cS.mono ?_;rintro e J ⟨rfl,cV,cW⟩
 obtain⟨bZ,b0⟩:=aB.out.2.2 J cV cW;obtain⟨cX,cY,cZ⟩:=xM bZ;obtain⟨_,dA,_⟩:=jO bZ;have dB:=(aP (a:=⟨c.pk,0,none⟩) (b0.fr.block c.pk cT aB.out.2.1)).trans o;have c2:=sv J cY.hp;have b1:ay (_/\∀w',Cd w' a.pc J.heap.size a.N (dF a.O) []->c_ a.pc cX J w'->∃i,(dX a).J i ⟨0,(S.s6 a).g,(S.s6 a).ws,[],(S.s6 a).rs⟩ w'/\b8 I J i w'):=⟨aB.out.1.trans b0,fun w' g Q=>cZ w' _ _ g Q (aJ bW)⟩
 go_wp2_with fail;refine c2.mono ?_;rintro e U ⟨rfl,c3,K⟩
 have c4:ay (∃i,(fL a).J i (S.cut a) U/\b8 F w i U):=by
  obtain⟨c5,c6,c8⟩:=b1.out.2 U c3 ⟨K.os,K.tape,K.output,K.size,fun b hb g _=>K.block b hb g g⟩
  obtain⟨b2,b3,aF⟩:=cI.out (dX a) c5 _ U c6 (b1.out.1.trans c8)
  obtain⟨_,P,D,c9,da⟩:=bs.out;have db:S.cut a=⟨⟨0,(S.s6 a).g,(S.s6 a).ws,[],(S.s6 a).rs⟩,(S.s.k0 a).sR (S.t3 a) S.r,(S.s.k0 a).jf (S.t3 a) S.r⟩:=by unfold cq.cut;rw[aG];unfold cq.full;simp;omega
  rw[db];rw[<-m.out.2.1] at b3;have b4:=da.trans aF;refine⟨fun b=>b2 b\/some b=(Value.slice a1 ((S.s.k0 a).sR (S.t3 a) S.r).length c1).ownBlock,⟨b2,a1,c1,b3,hQ P aF.fr (fun b e=>(D b e).1),fun b e d=>(aF.sub b d).elim (D b e).1 (fun d=>by have:=(cn P b e).2;omega),fun b=>Iff.rfl⟩,⟨b4.fr.mono (fun b d=>(n.out.2.2 b).2 (aK d)),fun b d=>?_⟩⟩
  rcases d with d|d
  ·exact(b4.sub b d).imp (fun d=>(n.out.2.2 b).2 (aK d)) id
  ·exact aJ (aT c9 (D b d).2)
 go_wp2_with fail;go_ret;obtain⟨i,dc,j2⟩:=c4.out;exact⟨i,rfl,dc,j2⟩
theorem Ee (h:(fL a).J F S w)(hq:S.q.length+S.r.length<=90000):
 Calls prog 50 #[aj a.pw] w fun e w'=>∃c,e=.returned (ah (S.code a))/\(fL a).J c (S.cut a) w'/\b8 F w c w':=by
 cases hf:S.full a
 ·have b:S.code a=0:=by unfold cq.code;rw[hf];rfl
  rw[b];exact Ed h hf hq
 ·have b:S.code a=3:=by unfold cq.code;rw[aI hf]
  have d:S.cut a=S:=by unfold cq.cut;rw[aI hf]
  rw[b,d];refine(Ec h hf).mono ?_;rintro e w' ⟨rfl,hb⟩
  exact⟨F,rfl,(fL a).below h hb,b8.of hb⟩
end
abbrev cD:=Int×List (Int×Int)×Bool×Bool
structure ck where
 T:List cD
 rs:List (Int×Int)
 rg:List b7
 wt:List b7
theorem sX:∀(l:List (Int×Int))(i:Nat)(x:Int×Int),ev (l.set i x)=((ev l).set (i*2) (ah x.1)).set (i*2+1) (ah x.2)
 |[],_,_=>rfl
 |e::l,0,x=>by simp[ev]
 |e::l,i+1,x=>by
  have b:ev (e::l)=ah e.1::ah e.2::ev l:=by simp[ev]
  have c:ev ((e::l).set (i+1) x)=ah e.1::ah e.2::ev (l.set i x):=by simp[ev]
  rw[b,c,(sX l i x),show(i+1)*2=i*2+1+1 by omega];simp
def dO (g:Int)(q:List b7):Nat:=q.findIdx (fun e=>e.1==g)
abbrev xQ:=cD×Option Addr×Nat
def tv (m:List xQ):List Value:=m.flatMap fun x=>[ah x.1.1,.slice x.2.1 x.1.2.1.length x.2.2,.bool x.1.2.2.1,.bool x.1.2.2.2]
section
variable {rp rb:Nat}{b_ bZ:Int}{own:Nat->Nat}{s:ck}{m:List xQ}{KV v2 v3:Value}{w w':ax}
end
section
variable {rp rb:Nat}{b_ bZ:Int}{F:Nat->Prop}{s:ck}{w w':ax}
end
def i5 (p:Int×Int)(t:cD):Int×Int:=if t.2.2.2=true then p else if t.2.2.1=true then(p.1,p.2+(1+t.2.1.length)) else(p.1+(1+t.2.1.length),p.2)
def d_ (l:List cD):Int×Int:=l.foldl i5 (0,0)
theorem xR (l:List cD)(t:cD):d_ (l++[t])=i5 (d_ l) t:=by simp[d_,List.foldl_append]
theorem xS (l:List cD)(h:∀t∈l,t.2.1.length<=12):0<=(d_ l).1/\(d_ l).1<=13*l.length/\0<=(d_ l).2/\(d_ l).2<=13*l.length:=by
 have key:∀(l:List cD)(p:Int×Int),(∀t∈l,t.2.1.length<=12)->p.1<=(l.foldl i5 p).1/\(l.foldl i5 p).1<=p.1+13*l.length/\p.2<=(l.foldl i5 p).2/\(l.foldl i5 p).2<=p.2+13*l.length:=by
  intro l
  induction l with
  |nil=>simp
  |cons t l b=>
   intro p hl;have d:=b (i5 p t) (fun x c=>hl x (aO _ c))
   have e:=hl t Z;rw[a8];have f:p.1<=(i5 p t).1/\(i5 p t).1<=p.1+13/\p.2<=(i5 p t).2/\(i5 p t).2<=p.2+13:=by
    unfold i5;split
    ·omega
    ·split
     ·dsimp only;omega
     ·dsimp only;omega
   simp only [List.length_cons];omega
 have:=key l (0,0) h;unfold d_;omega
section
variable {rp rb:Nat}{b_ bZ:Int}{F:Nat->Prop}{s:ck}{w:ax}
end
section
variable {rp rb:Nat}{b_ bZ:Int}{F:Nat->Prop}{s:ck}{w:ax}
def ck.th (s:ck)(i:Nat):Int:=if(s.rs.getD i (0,0)).1=3 then(s.rs.getD i (0,0)).2 else-1
end
def ck.gc (s:ck)(A:Nat)(I:Int):Int:=if s.th A<0\/(s.T.getD (s.th A).toNat (0,[],false,false)).1=5 then 2 else if I<0\/((s.T.getD (s.th A).toNat (0,[],false,false)).2.1.length:Int)<=I then 1 else 0
section
variable {rp rb:Nat}{b_ bZ:Int}{F:Nat->Prop}{s:ck}{w:ax}
end
section
variable {rp rb:Nat}{b_ bZ:Int}{F:Nat->Prop}{s:ck}{w:ax}
end
section
variable {rp rb:Nat}{b_ bZ:Int}{F:Nat->Prop}{s:ck}{w:ax}
end
section
variable {rp rb:Nat}{b_ bZ:Int}{F:Nat->Prop}{s:ck}{w:ax}
end
section
variable {rp rb:Nat}{b_ bZ:Int}{F:Nat->Prop}{s:ck}{w:ax}
end
theorem Ef (w:ax)(B:Nat)(l1 l2:List b7)(f g:Addr)(c1 c2:Nat)(q:w.cell? (aq B 0)=some (.slice (some f) l1.length c1))(A:w.cell? (aq B 1)=some (.slice (some g) l2.length c2))(C:dv w (some f) l1)(D:dv w (some g) l2)(hm:l1.length+l2.length<=100000):
 Calls prog 230 #[.slice (ak B) 2 2] w fun e w'=>∃a c,e=.returned (.slice a (l1.length+l2.length) c)/\w'.ownsRow w.heap.size 103 2 (.slice a (l1.length+l2.length) c) (l1.length+l2.length) (ev (l1++l2))/\aw w w':=by
 obtain⟨s,hi,t,u,x⟩:=info_parts nO;have E:=hide C;have F:=hide D;have hB:=aQ w _ q;go_enter func230,ntmps230;go_wp2
 go_loopw [3,11] (fun i iv wr=>wr=w/\((iv=ah 0/\i=ah 0)\/(iv=ah 1/\i=ah l1.length)\/(iv=ah 2/\i=ah (l1.length+l2.length:Nat)))) (fun _ iv _=>2-(intOf iv).toNat)
 exact⟨rfl,aK ⟨rfl,rfl⟩⟩
 ·
   obtain⟨hw,⟨rfl,rfl⟩|⟨rfl,rfl⟩|⟨rfl,rfl⟩⟩:=hrel
   all_goals
    have hw:=hw.symm;subst hw
   ·go_wp2;go_roundw;exact⟨trivial,aJ (aK ⟨af,af⟩)⟩
    simp[intOf]
   ·go_wp2;go_roundw;exact⟨trivial,aJ (aJ ⟨af,af⟩)⟩
    simp[intOf]
   ·go_wp2_with fail;refine(CE w (l1.length+l2.length) hm).mono ?_;rintro e w1 ⟨a1,G,rfl,b,hb⟩
    go_wp2
    go_loopw [6,27] (fun j iv wk=>aw w wk/\((∃a c,iv=ah 0/\j=.slice a 0 c/\wk.ownsRow w.heap.size 103 2 (.slice a 0 c) 0 [])\/(∃a c,iv=ah 1/\j=.slice a l1.length c/\wk.ownsRow w.heap.size 103 2 (.slice a l1.length c) l1.length (ev l1))\/(∃a c,iv=ah 2/\j=.slice a (l1.length+l2.length) c/\wk.ownsRow w.heap.size 103 2 (.slice a (l1.length+l2.length) c) (l1.length+l2.length) (ev (l1++l2))))) (fun _ iv _=>2-(intOf iv).toNat)
    exact⟨hb,aK ⟨a1,G,rfl,rfl,b⟩⟩
    ·
      obtain⟨hb,⟨a,c,rfl,rfl,b⟩|⟨a,c,rfl,rfl,b⟩|⟨a,c,rfl,rfl,b⟩⟩:=hrel
      ·have H:=(hb.cell (p:=aq B 0) hB).trans q;have hs:=hb.size;go_wp2_with (at_builtin;refine wpList_append_own _ rfl _ _ 151 rfl w.heap.size 103 s (.agg #[ah 0,ah 0]) 2 16 Tryz.underlying151 hi t u x rfl aa (.slice a 0 c) 0 [] rfl b f l1.length c1 (ev l1) rfl (kB l1) ((E.out.below hb).cells f rfl) (nP l1) ?_ ?_ hs ?_;(unfold maxLen;omega);omega;intro v I d l _;rw[Nat.zero_add,List.nil_append] at d;obtain⟨a2,m,n⟩:=eE d;subst n)
       have o:=hb.grown l hs (fun k e=>(cn b k e.symm).1)
       go_wp2;go_roundw;exact⟨o,aJ (aK ⟨a2,m,af,rfl,d⟩)⟩
       simp[intOf]
      ·have H:=(hb.cell (p:=aq B 1) hB).trans A;have hs:=hb.size;go_wp2_with (at_builtin;refine wpList_append_own _ rfl _ _ 151 rfl w.heap.size 103 s (.agg #[ah 0,ah 0]) 2 16 Tryz.underlying151 hi t u x rfl aa (.slice a l1.length c) l1.length (ev l1) rfl b g l2.length c2 (ev l2) rfl (kB l2) ((F.out.below hb).cells g rfl) (nP l2) ?_ ?_ hs ?_;(unfold maxLen;omega);omega;intro v I d l _;rw[<-iV] at d;obtain⟨a2,m,n⟩:=eE d;subst n)
       have o:=hb.grown l hs (fun k e=>(cn b k e.symm).1)
       go_wp2;go_roundw;exact⟨o,aJ (aJ ⟨a2,m,af,rfl,d⟩)⟩
       simp[intOf]
      ·go_wp2;go_ret;exact⟨a,c,rfl,b,hb⟩
structure fu (w:ax)(p:Nat)(a0:Option Addr)(k0:Nat)(a1:Option Addr)(k1:Nat)(r q:List b7):Prop where
 blk:w.heap[p]?=some (.cells #[.slice a0 r.length k0,.slice a1 q.length k1] 153 (0,0))
 r0:w.ownsRow 0 103 2 (.slice a0 r.length k0) r.length (ev r)
 q0:w.ownsRow 0 103 2 (.slice a1 q.length k1) q.length (ev q)
theorem qs {w:ax}{base:Nat}{e:TypeId}{ad:Option Addr}{cap:Nat}{l:List b7}(h:w.ownsRow base e 2 (.slice ad l.length cap) l.length (ev l)):ir w ad l cap:=by
 refine⟨g7 h,?_,?_⟩
 ·rcases h.2 with⟨hv,h0⟩|⟨g,b,c,hv,_,_,hc,_⟩
  ·omega
  ·simp at hv;omega
 ·intro d;rcases h.2 with⟨hv,h0⟩|⟨g,b,c,hv,_⟩
  ·simp at hv;exact⟨h0,hv.2.2⟩
  ·rw[d] at hv;simp at hv
theorem fu.keep {w w':ax}{p:Nat}{a0 a1:Option Addr}{k0 k1:Nat}{r q:List b7}(h:fu w p a0 k0 a1 k1 r q)(b:w'.heap[p]?=w.heap[p]?)(c:∀k,some k=(Value.slice a0 r.length k0).ownBlock->w'.heap[k]?=w.heap[k]?)(d:∀k,some k=(Value.slice a1 q.length k1).ownBlock->w'.heap[k]?=w.heap[k]?):fu w' p a0 k0 a1 k1 r q:=
 ⟨b.trans h.blk,cH h.r0 c,cH h.q0 d⟩
theorem fu.below {w w':ax}{p:Nat}{a0 a1:Option Addr}{k0 k1:Nat}{r q:List b7}(h:fu w p a0 k0 a1 k1 r q)(hb:aw w w'):fu w' p a0 k0 a1 k1 r q:=
 h.keep (hb.block p (lt_of_some h.blk)) (fun k e=>hb.block k (cn h.r0 k e).2) (fun k e=>hb.block k (cn h.q0 k e).2)
theorem fu.np {w:ax}{p:Nat}{a0 a1:Option Addr}{k0 k1:Nat}{r q:List b7}(h:fu w p a0 k0 a1 k1 r q){b n:Nat}{v:Value}{l:List Value}(hr:w.ownsRow b 103 2 v n l):∀k,some k=v.ownBlock->k≠p:=by intro k e c;obtain⟨d,hc⟩:=e5 hr k e;rw[c,h.blk] at hc;simp at hc
def jP (n:Nat):Bool:=decide (24<=n)
theorem qt {n:Nat}(h:24<=n):jP n=true:=by simp[jP,h]
theorem qu {n:Nat}(h:¬24<=n):jP n=false:=by simp[jP,h]
theorem Eg {n0 n1:Nat}(h0:n0<=100000)(b:n1<=100000):ay (decide ((24:Int)<=IntKind.i64.wrap ((n0:Int)+(n1:Int)))=jP (n0+n1)):=by
 show _=_;rw[show IntKind.i64.wrap ((n0:Int)+(n1:Int))=(n0:Int)+n1 by rw[bk];omega];unfold jP;by_cases h:24<=n0+n1
 ·rw[bh h,bh V]
 ·rw[bq h,bq V]
theorem xT (w:ax)(p:Nat)(a0 a1:Option Addr)(n0 k0 n1 k1:Nat)(h:w.heap[p]?=some (.cells #[.slice a0 n0 k0,.slice a1 n1 k1] 153 (0,0)))(h0:n0<=100000)(b:n1<=100000):
 Calls prog 103 #[aj p] w fun e w'=>e=.returned (.bool (jP (n0+n1)))/\aw w w':=by
 have c0:w.cell? (aq p 0)=some (.slice a0 n0 k0):=by simp[World.cell?,h]
 have c1:w.cell? (aq p 1)=some (.slice a1 n1 k1):=by simp[World.cell?,h]
 clear h;have c:=Eg h0 b;go_enter func103,ntmps103;go_wp2_with fail
 go_region_held3 (fun w'=>w'.cell? (aq p 0)=some (.slice a0 n0 k0)/\w'.cell? (aq p 1)=some (.slice a1 n1 k1)) (go_keep) (fail)
 go_wp2_with fail;go_ret;exact⟨by rw[<-c.out];rfl,bX.drew⟩
theorem fu.cells {w:ax}{p:Nat}{a0 a1:Option Addr}{k0 k1:Nat}{r q:List b7}(h:fu w p a0 k0 a1 k1 r q):w.cell? (aq p 0)=some (.slice a0 r.length k0)/\w.cell? (aq p 1)=some (.slice a1 q.length k1)/\w.frozen? (aq p 0)=false/\w.frozen? (aq p 1)=false/\p<w.heap.size:=
 ⟨by simp[World.cell?,h.blk],by simp[World.cell?,h.blk],by simp[World.frozen?,h.blk],by simp[World.frozen?,h.blk],lt_of_some h.blk⟩
theorem Eh {w:ax}{p:Nat}{x y v:Value}{T:TypeId}(h:w.heap[p]?=some (.cells #[x,y] T (0,0))):(w.setCell ⟨p,0,none⟩ v).heap[p]?=some (.cells #[v,y] T (0,0)):=by exact sw
theorem Ei {w:ax}{p:Nat}{x y v:Value}{T:TypeId}(h:w.heap[p]?=some (.cells #[x,y] T (0,0))):(w.setCell ⟨p,1,none⟩ v).heap[p]?=some (.cells #[x,v] T (0,0)):=by exact sw
theorem xU (w:ax)(p:Nat)(a0 a1:Option Addr)(k0 k1:Nat)(r q:List b7)(g z:Int)(h:fu w p a0 k0 a1 k1 r q)(h0:r.length<=90000)(B:q.length<=90000):
 Calls prog 49 #[aj p,.agg #[ah g,ah z]] w fun e w'=>e=.returned (.bool (!jP (r.length+q.length)))/\
  ((24<=r.length+q.length/\aw w w')\/(¬24<=r.length+q.length/\∃b1 c1,fu w' p (ak b1) c1 a1 k1 (r++[(g,z)]) q/\w.heap.size<=b1/\Fr (fun k=>k=p) w w')):=by
 obtain⟨c0,c1,s,C,lp⟩:=h.cells;have H:ay (fu w p a0 k0 a1 k1 r q):=h;have d:=au w (.cells #[.int .i64 g,.int .i64 z] 103)
 have t:ay (ir w a0 r k0):=qs h.r0;by_cases b:24<=r.length+q.length
 ·rw[qt b];clear h;go_enter func49,ntmps49;go_wp2_with fail;refine(xT _ p a0 a1 r.length k0 q.length k1 ((d.block p lp).trans H.out.blk) V V).mono ?_;rintro e w1 ⟨rfl,hb⟩
  rw[qt b];have c:=d.trans (hb.mono Z)
  go_wp2_with fail;go_ret;exact⟨rfl,aK ⟨b,c⟩⟩
 ·rw[qu b];clear h;go_enter func49,ntmps49;go_wp2_with fail;refine(xT _ p a0 a1 r.length k0 q.length k1 ((d.block p lp).trans H.out.blk) V V).mono ?_;rintro e w1 ⟨rfl,hb⟩
  rw[qu b];have c:=d.trans (hb.mono Z)
  have D:w.heap.size<w1.heap.size:=by have:=hb.size;simp at this;omega
  have E:w1.cell? (aq w.heap.size 0)=some (ah g):=(hb.cell Z).trans Z;have y1:w1.cell? (aq w.heap.size 1)=some (ah z):=(hb.cell Z).trans Z;have u:=(c.cell (p:=aq p 0) lp).trans c0;have v:=(c.frozen (p:=aq p 0) lp).trans s;have m:p<w1.heap.size:=V;have x:=t.out.below c;clear hb d;go_wp2_with fail
  go_region_with (go_at_call 104;refine(vX _ a0 r k0 g z (x.below (bX.drew)) V).mono ?_;rintro e f ⟨b1,gb,rfl,j,l⟩;have F:=(l.cell (p:=aq p 0) m).trans u;have G:=(l.frozen (p:=aq p 0) m).trans v)
  all_goals
   go_wp2_with fail;go_ret;refine⟨rfl,aJ ⟨b,b1,gb,?_⟩⟩
   have n:aw w f:=c.drew.trans (l.mono (by simp;omega))
   have lb:w1.heap.size<=b1:=(cn j b1 rfl).1;have i:=H.out.below n;have A:Fr (fun k=>k=p) w (f.setCell ⟨p,0,none⟩ (.slice (some ⟨b1,0,none⟩) (r.length+1) gb)):=(Fr.of n).set p 0 _ rfl;have o:∀k,k≠p->(f.setCell ⟨p,0,none⟩ (.slice (some ⟨b1,0,none⟩) (r.length+1) gb)).heap[k]?=f.heap[k]?:=fun k hk=>aU _ _ _ _ hk;refine⟨⟨by simpa using Eh i.blk,?_,cH i.q0 (fun k e=>o k (i.np i.q0 k e))⟩,V,A⟩
   have:=eT (base':=0) (cH (w':=f.setCell ⟨p,0,none⟩ (.slice (some ⟨b1,0,none⟩) (r.length+1) gb)) j (fun k e=>o k (i.np j k e))) (fun _ _=>aZ _)
   simpa using this
section
variable {a:Wc}{F:Nat->Prop}{S:cq}{w:ax}
theorem m2 (h:(fL a).J F S w):∃i,(dX a).J i S.s w/\∀f s1 w',(dX a).J f s1 w'->b8 i w f w'->∃d,(fL a).J d ⟨s1,S.r,S.q⟩ w'/\b8 F w d w':=by
 obtain⟨i,ar,l,n,j,m,k⟩:=h;obtain⟨o,g1,g2⟩:=i4 n;refine⟨o,g1,fun f s1 w' p q=>?_⟩
 obtain⟨d,k1,g⟩:=g2 (dX a) f s1 w' p q;refine⟨fun b=>d b\/some b=(Value.slice ar S.r.length l).ownBlock,⟨d,ar,l,k1,cH j (fun b e=>g.fr.block b (cn j b e).2 (m b e)),fun b e c=>?_,fun b=>Iff.rfl⟩,⟨g.fr.mono (fun b c=>(k b).2 (aK c)),fun b c=>?_⟩⟩
 ·rcases g.sub b c with c|c
  ·exact m b e c
  ·have:=(cn j b e).2;omega
 ·rcases c with c|c
  ·exact(g.sub b c).imp (fun c=>(k b).2 (aK c)) id
  ·exact aK ((k b).2 (aJ c))
theorem Ej {s:d9}(h:(dX a).J F s w)(x i z:Int)(hM:s.M.length<=100000):
 Calls prog 44 #[aj a.pw,ah x,ah i,ah z] w fun e w'=>e=.returned (ah (ej a.N s.y s.g s.ws x i))/\(dX a).J F {s with ws:=ge a.N s.y s.g s.ws x i z,M:=stM a.N s.y s.g s.ws x i z (dF a.O) s.M} w'/\b8 F w F w':=by
 obtain⟨own,cO,h,f⟩:=h;refine(C4 x i z ⟨h.wd,h.ar,h.cd⟩ hM).mono ?_;rintro e w' ⟨rfl,d,fr⟩
 refine⟨rfl,⟨own,cO,?_,f⟩,⟨fr.mono (fun b c=>?_),fun _ c=>aK c⟩⟩
 ·have hb:∀b,b<w.heap.size->own b≠1->own b≠2->_=_:=fun b hb g j=>fr.block b hb (fun c=>by
   rcases c with c|c|c|c
   ·exact g (by rw[c];exact h.a1)
   ·exact g (by rw[c];exact h.a2)
   ·exact j (by rw[c];exact h.c1)
   ·exact j (by rw[c];exact h.c2))
  exact {
   ar:=d.ar,cd:=d.cd,wd:=d.blk,a1:=h.a1,a2:=h.a2,c1:=h.c1,c2:=h.c2,w1:=h.w1,rl:=h.rl,r1:=h.r1,le:=h.le,lt:=fun b hb=>aM (h.lt b hb) fr.size
   rt:=(hb _ (lt_of_some h.rt) (by rw[h.r1];decide) (by rw[h.r1];decide)).trans h.rt}
 ·refine(f b).2 ?_;rcases c with c|c|c|c
  ·rw[c,h.a1];decide
  ·rw[c,h.a2];decide
  ·rw[c,h.c1];decide
  ·rw[c,h.c2];decide
theorem Ek (h:(fL a).J F S w)(g z:Int)(hr:S.r.length<=90000)(hq:S.q.length<=90000):
 Calls prog 49 #[aj a.sd,.agg #[ah g,ah z]] w fun e w'=>∃f,e=.returned (.bool (!jP (S.r.length+S.q.length)))/\(fL a).J f (if 24<=S.r.length+S.q.length then S else⟨S.s,S.r++[(g,z)],S.q⟩) w'/\b8 F w f w':=by
 have o:=h;obtain⟨i,ar,p,⟨q,ad,cap,j,s,t,u,k,l,v,m⟩,r0,r1,n⟩:=h;refine(xU w a.sd ar ad p cap S.r S.q g z ⟨s,r0,t⟩ hr hq).mono ?_;rintro e w' ⟨rfl,⟨d,hb⟩|⟨d,b1,c1,hs,x,fr⟩⟩
 ·exact⟨F,rfl,by rw[aI d];exact(fL a).below o hb,b8.of hb⟩
 ·refine⟨fun b=>i b\/some b=(Value.slice (ak b1) (S.r++[(g,z)]).length c1).ownBlock,rfl,?_,⟨fr.mono (fun b c=>(n b).2 (aK (by rw[c];exact k))),fun b c=>?_⟩⟩
  ·rw[aG d];refine⟨i,some _,c1,⟨q,ad,cap,(dX a).keep j fr.size (fun b c=>fr.block b ((dX a).lt j b c) (fun e=>l (by rw[<-e];exact c))),hs.blk,hs.q0,u,k,l,v,fun b c=>aM (m b c) fr.size⟩,hs.r0,fun b e c=>?_,fun b=>Iff.rfl⟩
   simp[Value.ownBlock] at e;subst e;have:=m b c;omega
  ·rcases c with c|c
   ·exact aK ((n b).2 (aK c))
   ·simp[Value.ownBlock] at c;subst c;exact aJ x
end
structure ki where
 a:Wc
 rp:Nat
 rb:Nat
 b_:Int
 bZ:Int
 pb:Nat
section
variable {c:ki}{F:Nat->Prop}{S:cq×ck}{w:ax}
end
section
variable {c:ki}{F:Nat->Prop}{S:cq×ck}{w:ax}
end
end Go.Proofs.YtpkjkjhanlbcoaaGreat
