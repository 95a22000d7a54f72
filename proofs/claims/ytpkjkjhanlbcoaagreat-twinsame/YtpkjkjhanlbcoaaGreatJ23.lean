import Derived.Test.YtpkjkjhanlbcoaaGreatJ22
namespace Go.Proofs.YtpkjkjhanlbcoaaGreat
set_option maxRecDepth 100000
set_option maxHeartbeats 4000000
open Tryz
open Go.RowKit W Kp cf
theorem cV.pl {k:b9}{s:cu}(h:cV k s)(hN:(0:Int)<=k.a.N):cV k (k.pl s).1:=by
 obtain⟨P,_,b,d⟩:=pn k (fun c=>!(s.f c==-1)) k.T (s,k.a.N) h.nd (fun c _=>rfl)
 have P:Pos (fun c=>pf (k.ld c)) (fun c=>!(s.f c==-1)) (k.pl s).1.f k.a.N k.T (k.pl s).2:=P;have b:(k.pl s).1.td=s.td:=b;have d:(k.pl s).1.ep=s.ep:=d;have f:k.lost (k.pl s).1<=k.lost s:=by
  unfold b9.lost;rw[<-List.countP_eq_length_filter,<-List.countP_eq_length_filter];refine List.countP_mono_left (fun c hc e=>?_)
  cases q:(s.f c==-1)
  ·have:=(P.bd (fun c=>(dj _).1) c hc (by rw[q];rfl)).1;have e:(k.pl s).1.f c=-1:=by simpa using e
   omega
  ·rfl
 have:=h.sum;exact⟨h.nd,h.ps,by rw[b];exact h.td,by rw[d];exact h.ep,h.tl,by rw[b,d];omega⟩
theorem qE {b c:Type}(g:b->c)(fm:b->Int->Int)(st:b->Int->b)(h:∀t a,g (st t a)=g t):∀(l:List Int)(t:b),g (gU fm st t l)=g t
 |[],_=>rfl
 |a::l,t=>by
  have e:gU fm st t (a::l)=gU fm st (e_ fm st t a) l:=rfl;rw[e,qE g fm st h l];unfold e_;split
  ·rfl
  ·exact h t a
theorem yT (k:b9)(s:cu):∀n,(k.fQ s n).a=k.a
 |0=>rfl
 |n+1=>yT k s n
theorem yU (k:b9)(s:cu)(a:Int):∀n,(k.gK s a n).a=k.a
 |0=>rfl
 |n+1=>yU k s a n
theorem F_ (k:b9)(s:cu):(k.e3 s).a=k.a:=by
 unfold b9.e3 b9.ob;rw[qE (fun k:b9=>k.a) _ _ (fun t a=>?_)]
 ·exact yT k s 12
 ·unfold b9.jQ;rw[yU];exact(tE t s a).1
theorem Ga (k:b9)(s:cu):(k.sl s).a=k.a:=by
 have b:(k.lA s k.G).1.a=k.a:=qE (fun t:b9×Int=>t.1.a) (fun _ a=>s.f a) (b9.i6 s) (fun _ _=>rfl) k.G (k,0)
 have c:(k.sl2 s).a=(k.sl1 s).a:=qE (fun t:b9=>t.a) (fun(_:b9) a=>s.f a) (fun k a=>k.cop a) (fun _ _=>rfl) k.Y (k.sl1 s)
 have d:(k.sl s).a=(k.sl2 s).a:=rfl;have e:(k.sl1 s).a=(k.lA s k.G).1.a:=rfl;rw[d,c,e,b]
theorem yV {c:e8}{k:b9}{vt e:Value}{F:Nat->Prop}{s:cu}{w:ax}(h:(cT c k vt e).J F s w):∃d,(dX k.a).J d k.s w/\∀b,d b->F b:=by obtain⟨d,own,h,f⟩:=h;exact⟨d,h.wd,fun b g=>(f b).2 (by rw[(h.w1 b).1 g];decide)⟩
section
variable {a:Wc}{F:Nat->Prop}{S:cq}{w:ax}
theorem Gb (h:(fL a).J F S w)(hq:S.q.length+S.r.length<=90000)(cL:S.fM a=false->∃G,iD (S.k5 a) (S.dC a) G/\G 0 (S.k5 a,0)):
 Calls prog 37 #[aj a.pw] w fun e w'=>∃f,e=.returned (ah (S.ig a))/\(fL a).J f (S.dy a) w'/\b8 F w f w':=by
 obtain⟨cM,ar,ab,aV,H,A,i⟩:=h;obtain⟨u,ad,cap,g1,g2,g3,g4,g5,I,v,ag⟩:=aV;have cN:=hide cL;have dV:=(kI g1).1;have B:=BS g1 g2 g3 H g4 g5 I;have ca:=jr v ag A i;have cO:=F6 (S:=S) g1 ⟨g2,H,g3⟩ V V;have cb:ay (S.ig a=if S.fM a=true then 3 else 0):=rfl;have cc:ay (S.dy a=if S.fM a=true then S else⟨(S.k6 a).s,(S.k5 a).tR (S.cE a,S.q3 a) (S.r3 a),(S.k5 a).ie (S.cE a,S.q3 a) (S.r3 a)⟩):=rfl;go_enter func37,ntmps37;go_wp2_with fail;refine cO.mono ?_;rintro e w1 ⟨c,br,J,cd,rfl,cP,cQ,cR,cS,cU⟩
 have cW:ay (b8 u w cd w1):=⟨Fr.of cU,cS⟩
 have ai:=dq cQ cR;obtain⟨cX,⟨cY,al⟩,cZ⟩:=i4 cP;have al:=al;have c0:=Fj cY al;have c3:ay (∀j t w',(eI c (S.s.j0 a)).J j t w'->cV (S.s.j0 a) t->b8 cX w1 j w'->∃f,(c7 (dP c (S.s.j0 a)) c.bs (.slice br S.r.length J)).J f (t,S.q) w'/\b8 cd w1 f w'):=fun j t w' q1 C q3=>cZ (dP c (S.s.j0 a)) j t w' ⟨q1,C⟩ q3;have c4:=hide (dt.cJ al 12).eX;go_wp2_with fail;refine c0.mono ?_;rintro e c5 ⟨j,rfl,c6,c8⟩
 obtain⟨dW,c9,ce⟩:=c3.out j _ c5 c6 c4.out c8;have cf:=ye (c:=c) rfl c9 (by show S.q.length<=90000;omega)
 have a0:=dq (cW.out.trans ce) ce;go_wp2_with fail;refine cf.mono ?_;clear cf;rintro e g ⟨bb,rfl,P,bd⟩
 have P:=P;obtain⟨dY,⟨⟨dZ,d0,da⟩,d1⟩,_⟩:=i4 P;obtain⟨_,_,_,_,cg,_⟩:=ey da;have db:=aQ g _ cg;have hd:=(av g).drew;have D:ay ((c7 (dP c (S.s.j0 a)) c.bs (.slice br S.r.length J)).J bb (S.j2 a) g.drew/\b8 u w bb g.drew/\g.drew.ownsRow 0 103 2 (.slice br S.r.length J) S.r.length (ev S.r)/\(∀b,bb b->b<g.heap.size)/\w.heap.size<=g.heap.size):=by
  have ch:=a0.out.2.trans bd;refine⟨(c7 (dP c (S.s.j0 a)) c.bs (.slice br S.r.length J)).below P hd,(a0.out.1.trans bd).below hd,?_,(c7 (dP c (S.s.j0 a)) c.bs (.slice br S.r.length J)).lt P,(a0.out.1.trans bd).fr.size⟩
  exact cH ai.out.1 (fun b e=>(hd.block b (aM (cn ai.out.1 b e).2 ch.fr.size)).trans (ch.fr.block b (cn ai.out.1 b e).2 (ai.out.2 b e).1))
 have dc:(S.j2 a).2.length+S.r.length<=90000:=by have:(S.j2 a).2.length=S.q.length:=pd _ _ _;omega
 have dd:ay (∀m,aw g.drew m->m.heap[g.heap.size]?=some (dl c)->m.heap[g.heap.size+1]?=some (jy (l5 c))->Calls prog 78 #[aj c.bs,.agg #[(iX g.heap.size).v,(ib (g.heap.size+1)).v,(jj c).v]] m fun e w'=>∃a1 c1 f,e=.returned (.tuple #[])/\(c7 (dP c (S.s.j0 a)) c.bs (.slice a1 (S.r3 a).length c1)).J f (S.cA a,S.q3 a) w'/\w'.ownsRow 0 103 2 (.slice a1 (S.r3 a).length c1) (S.r3 a).length (ev (S.r3 a))/\(∀b,some b=(Value.slice a1 (S.r3 a).length c1).ownBlock->¬f b/\m.heap.size<=b)/\b8 u w f w'/\w.heap.size<=m.heap.size):=fun m E be bg=>by
  have hs:g.drew.heap.size=g.heap.size:=rfl;refine(Fi (t:=S.j2 a) (r:=S.r) rfl ((c7 (dP c (S.s.j0 a)) c.bs (.slice br S.r.length J)).below D.out.1 E) (cH D.out.2.2.1 (fun b e=>E.block b (cn D.out.2.2.1 b e).2)) dc g.heap.size (g.heap.size+1) V be bg (fun d=>by have:=D.out.2.2.2.1 _ d;omega) (fun d=>by have:=D.out.2.2.2.1 _ d;omega)).mono ?_;rintro e w' ⟨a1,c1,f,rfl,q1,C,q3,de,df⟩
  have bi:=D.out.2.1.below E;have d2:=D.out.2.2.2.2;have d3:=E.size;refine⟨a1,c1,f,rfl,q1,C,q3,⟨bi.fr.trans de (fun b d=>?_),fun b d=>?_⟩,V⟩
  ·rcases d with d|d|d
   ·exact bi.sub b d
   ·exact aJ V
   ·exact aJ V
  ·exact(df b d).elim (bi.sub b) (fun d=>aJ V)
 go_wp2_with fail
 go_region_held3 (fun w'=>w'.cell? (aq c.pk 4)=some (aj c.bs)) (go_keep)
  (first
    |(go_at_call 79;refine(ts (l5 c) g.drew c.pk).mono ?_;rintro e m ⟨rfl,be,bg,E⟩;have d4:=(E.cell (p:=aq c.pk 4) db).trans cg;have bl:=g6 be bg E)
    |(go_at_call 78;refine(dd.out m bl.out.2.2 bl.out.1 bl.out.2.1).mono ?_;rintro e dg ⟨a1,c1,dh,rfl,ci,di,cj,dj,dk⟩;obtain⟨_,⟨⟨ck,cl,Q⟩,_⟩,_⟩:=i4 ci;obtain⟨_,_,_,_,d5,_⟩:=ey Q;have K:ay (_/\_/\(∀b,some b=(Value.slice a1 (S.r3 a).length c1).ownBlock->¬dh b/\w.heap.size<=b)/\_):=⟨ci,di,fun b e=>⟨(cj b e).1,aT dk (cj b e).2⟩,dj⟩))
 all_goals
  obtain⟨Fm,⟨⟨ck,cl,Q⟩,R⟩,dm⟩:=i4 K.out.1;have R:=R;have Q:=Q;have cm:=Ft Q R.tl R.ps;have dn:=hide (R.pl V)
  have co:ay (((S.s.j0 a).pl (S.cA a)).2-(S.s.j0 a).a.N=S.n4 a/\((S.s.j0 a).pl (S.cA a)).1=S.cE a):=⟨rfl,rfl⟩
  rw[co.out.1,co.out.2] at cm;have dp:ay (∀j w' vt L,(cT c (S.s.j0 a) vt L).J j (S.cE a) w'->b8 Fm dg j w'->_):=fun j w' vt L q1 q3=>dm (dP c (S.s.j0 a)) j (S.cE a) w' ⟨⟨vt,L,q1⟩,dn.out⟩ q3;go_wp2_with fail;refine cm.mono ?_;rintro e am ⟨dr,rfl,cp,ds⟩
  obtain⟨an,du,bn⟩:=dp.out dr am ck cl cp ds;have cq:=Fl cp;have dv:ay ((S.s.j0 a).a.O=a.O):=rfl;rw[dv.out] at cq;have U:ay ((c7 (dP c (S.s.j0 a)) c.bs (.slice a1 (S.r3 a).length c1)).J an (S.cE a,S.q3 a) am/\b8 u w an am/\am.ownsRow 0 103 2 (.slice a1 (S.r3 a).length c1) (S.r3 a).length (ev (S.r3 a))/\∀b,some b=(Value.slice a1 (S.r3 a).length c1).ownBlock->¬an b):=by refine⟨du,K.out.2.2.2.trans bn,hQ K.out.2.1 bn.fr (fun b e=>(K.out.2.2.1 b e).1),fun b e d=>(bn.sub b d).elim (K.out.2.2.1 b e).1 (fun d=>by have:=(cn K.out.2.1 b e).2;omega)⟩
  go_wp2_with fail;refine cq.mono ?_;rintro e ao ⟨rfl,bo⟩
  have n:=jr ((c7 (dP c (S.s.j0 a)) c.bs (.slice a1 (S.r3 a).length c1)).below U.out.1 bo) (U.out.2.1.below bo) (cH U.out.2.2.1 (fun b e=>bo.block b (cn U.out.2.2.1 b e).2)) U.out.2.2.2;by_cases bp:(a.O:Int)<S.n4 a
  ·have M:S.fM a=true:=bh bp;have bs:ay (∃f,(fL a).J f (S.dy a) ao/\b8 F w f ao):=by
    have W:=cc.out;rw[aI M] at W;rw[W];obtain⟨_,⟨⟨vt,L,cr⟩,_⟩,_⟩:=i4 n.out.1;obtain⟨d6,d7,d8,⟨⟨vt,L,cr⟩,_⟩,_,_,bt,_⟩:=n.out.1;obtain⟨l,q1,C⟩:=yV cr;have q1:=q1;have T:b8 u w l ao:=n.out.2.1.less (fun b d=>bt b (C b d))
    obtain⟨g1,g2,g3,H,g4,g5,I⟩:=B.out;obtain⟨v,ag,A,i⟩:=ca.out;obtain⟨d9,_,eb⟩:=i4 (o:=dX a) (F:=cM) (t:=(S.s,S.q)) (w:=w) (p:=a.sd) (vr:=.slice ar S.r.length ab) ⟨u,ad,cap,g1,g2,g3,g4,g5,I,v,ag⟩
    have cs:=lt_of_some g2;refine⟨fun b=>(l b\/b=a.sd\/some b=(Value.slice ad S.q.length cap).ownBlock)\/some b=(Value.slice ar S.r.length ab).ownBlock,⟨fun b=>l b\/b=a.sd\/some b=(Value.slice ad S.q.length cap).ownBlock,ar,ab,⟨l,ad,cap,q1,(T.fr.block _ cs I).trans g2,hQ g3 T.fr (fun b e=>(v b e).2),fun b d=>aK d,aJ (aK rfl),fun d=>(T.sub _ d).elim I (fun d=>by omega),fun b e=>⟨aJ (aJ e),fun d=>(T.sub b d).elim (v b e).2 (fun d=>by have:=(cn g3 b e).2;omega)⟩,fun b d=>?_⟩,hQ H T.fr (fun b e d=>A b e (g4 b d)),fun b e d=>?_,fun b=>Iff.rfl⟩,⟨T.fr.mono (fun b d=>(i b).2 (aK (g4 b d))),fun b d=>?_⟩⟩
    ·rcases d with d|d|d
     ·exact(dX a).lt q1 b d
     ·have:=T.fr.size;omega
     ·have:=(cn g3 b d).2;have:=T.fr.size;omega
    ·have ec:=(cn H b e).2;rcases d with d|d|d
     ·exact(T.sub b d).elim (fun d=>A b e (g4 b d)) (fun d=>by omega)
     ·exact A b e (by rw[d];exact g5)
     ·exact A b e (v b d).1
    ·rcases d with(d|d|d)|d
     ·exact(T.sub b d).imp (fun d=>(i b).2 (aK (g4 b d))) id
     ·exact aK ((i b).2 (aK (by rw[d];exact g5)))
     ·exact aK ((i b).2 (aK (v b d).1))
     ·exact aK ((i b).2 (aJ d))
   have X:=cb.out;rw[aI M] at X;have bx:=hide X;have ed:decide ((a.O:Int)<S.n4 a)=true:=bh bp;go_wp2_with fail;go_ret;obtain⟨f,bY,j2⟩:=bs.out;exact⟨f,by rw[bx.out];rfl,bY,j2⟩
  ·have M:S.fM a=false:=bq bp;obtain⟨ct,dw,dx⟩:=cN.out M;have cv:ay (iD (S.k5 a) (S.dC a) ct/\ct 0 (S.k5 a,0)):=⟨dw,dx⟩
   have dy:(S.q3 a).length+(S.r3 a).length<=90000:=by have aV:=qD (dI cu) (fun s x=>(S.s.j0 a).al s.1 x) (S.s.j0 a).ke (fun s x=>(S.s.j0 a).nw s.1 x) (fun s x=>qx (S.s.j0 a) s x) (S.j2 a) S.r;have dz:(dI cu).wt (S.j2 a)=(S.j2 a).2:=rfl;have dA:S.r3 a=eO (dI cu) (fun s x=>(S.s.j0 a).al s.1 x) (S.s.j0 a).ke (fun s x=>(S.s.j0 a).nw s.1 x) (S.j2 a) S.r:=rfl;have dB:S.q3 a=eP (dI cu) (fun s x=>(S.s.j0 a).al s.1 x) (S.s.j0 a).ke (fun s x=>(S.s.j0 a).nw s.1 x) (S.j2 a) S.r:=rfl;rw[dz,<-dA,<-dB] at aV;omega
   have dC:¬an a.sd:=fun d=>(n.out.2.1.sub _ d).elim B.out.2.2.2.2.2.2 (fun d=>by have:=lt_of_some B.out.2.1;omega)
   have cw:=FF (k:=S.s.j0 a) (t:=(S.cE a,S.q3 a)) rfl n.out.1 n.out.2.2.1 n.out.2.2.2 dy (v1:=.slice ar S.r.length ab) (v2:=.slice ad S.q.length cap) ((n.out.2.1.fr.block a.sd (lt_of_some B.out.2.1) B.out.2.2.2.2.2.2).trans B.out.2.1) dC;have dD:ay ((S.s.j0 a).e3 (S.cE a)=S.k5 a):=rfl;rw[dD.out] at cw;go_wp2_with fail;refine cw.mono ?_;rintro e cx ⟨a2,c2,dE,rfl,dF,cy,cz,dG,dH,dJ,dK⟩
   have dL:ay (Fr (fun b=>u b\/b=a.sd) w cx/\(∀b,dE b->u b\/w.heap.size<=b)/\w.heap.size<=ao.heap.size):=by
    have T:=n.out.2.1;have z:=T.fr.size;refine⟨(T.fr.mono (fun b d=>aK d)).trans dJ (fun b d=>?_),fun b d=>(dK b d).elim (T.sub b) (fun d=>aJ V),z⟩
    rcases d with d|d
    ·exact(T.sub b d).imp aK id
    ·exact aK (aJ d)
   obtain⟨cA,ap,aB,⟨⟨vt,L,bZ⟩,aF⟩,b0,cB,bt,ee,ef,cC,dM⟩:=dF;have bZ:=bZ;have aF:=aF;have cD:=FT cv.out.1 cv.out.2 bZ aF.tl aF.ps;have dN:ay ((S.k5 a).sl (S.dC a)=S.k6 a):=rfl;rw[dN.out] at cD;obtain⟨Y,cE⟩:∃Y,(S.k5 a).tR (S.cE a,S.q3 a) (S.r3 a)=Y:=⟨_,rfl⟩
   obtain⟨N,cF⟩:∃N,(S.k5 a).ie (S.cE a,S.q3 a) (S.r3 a)=N:=⟨_,rfl⟩
   rw[cE] at cy cz b0;rw[cF] at b0 cB cC;have dO:=BR (dG.trans b0) cB bt dH cC dM;have dQ:=dq cy cz;have cG:ay ((S.k5 a).tR (S.cE a,S.q3 a) (S.r3 a)=Y/\(S.k5 a).ie (S.cE a,S.q3 a) (S.r3 a)=N):=⟨cE,cF⟩
   go_wp2_with fail;refine cD.mono ?_;rintro e cI ⟨eg,rfl,dR,O⟩
   have bs:ay (∃f,(fL a).J f (S.dy a) cI/\b8 F w f cI):=by
    have W:=cc.out;rw[aG (by rw[M];simp),cG.out.1,cG.out.2] at W;rw[W];obtain⟨l,q1,C⟩:=yV dR;have ea:(S.k6 a).a=a:=by have dS:S.k6 a=(S.k5 a).sl (S.dC a):=rfl;have dT:S.k5 a=(S.s.j0 a).e3 (S.cE a):=rfl;rw[dS,Ga,dT,F_];rfl
    rw[ea] at q1;obtain⟨b1,b2,b3,b4,b5,b6⟩:=dO.out;obtain⟨r1,b7⟩:=dQ.out;obtain⟨cJ,b9,t3⟩:=dL.out;obtain⟨g1,g2,g3,H,g4,g5,I⟩:=B.out;obtain⟨v,ag,A,i⟩:=ca.out;have cs:=lt_of_some g2;have eh:=cJ.size;have ei:=O.fr.size;have aR:∀b,l b->cA b\/cx.heap.size<=b:=fun b d=>O.sub b (C b d)
    have cK:¬cA a.sd:=fun d=>b4 (b3 _ d)
    have dU:∀b,some b=(Value.slice a2 Y.length c2).ownBlock->¬(l b\/b=a.sd\/some b=(Value.slice ap N.length aB).ownBlock):=fun b e d=>by
     have q:=b7 b e;rcases d with d|d|d
     ·exact(aR b d).elim (fun d=>q.1 (b3 b d)) (fun d=>by have:=(cn r1 b e).2;omega)
     ·omega
     ·exact q.1 (b5 b d).1
    refine⟨fun b=>(l b\/b=a.sd\/some b=(Value.slice ap N.length aB).ownBlock)\/some b=(Value.slice a2 Y.length c2).ownBlock,⟨fun b=>l b\/b=a.sd\/some b=(Value.slice ap N.length aB).ownBlock,a2,c2,⟨l,ap,aB,q1,(O.fr.block _ V cK).trans b1,hQ b2 O.fr (fun b e=>(b5 b e).2),fun b d=>aK d,aJ (aK rfl),fun d=>(aR _ d).elim cK (fun d=>by omega),fun b e=>⟨aJ (aJ e),fun d=>(aR b d).elim (b5 b e).2 (fun d=>by have:=(cn b2 b e).2;omega)⟩,fun b d=>?_⟩,hQ r1 O.fr (fun b e d=>(b7 b e).1 (b3 b d)),dU,fun b=>Iff.rfl⟩,⟨(cJ.trans O.fr (fun b d=>(b9 b (b3 b d)).imp aK id)).mono (fun b d=>?_),fun b d=>?_⟩⟩
    ·rcases d with d|d|d
     ·exact(dX a).lt q1 b d
     ·omega
     ·have:=(cn b2 b d).2;omega
    ·rcases d with d|d
     ·exact(i b).2 (aK (g4 b d))
     ·exact(i b).2 (aK (by rw[d];exact g5))
    ·rcases d with(d|d|d)|d
     ·rcases aR b d with d|d
      ·exact(b9 b (b3 b d)).imp (fun d=>(i b).2 (aK (g4 b d))) id
      ·exact aJ V
     ·exact aK ((i b).2 (aK (by rw[d];exact g5)))
     ·exact(b9 b (b5 b d).1).imp (fun d=>(i b).2 (aK (g4 b d))) id
     ·have:=(b7 b d).2;exact aJ V
   have X:=cb.out;rw[aG (by rw[M];simp)] at X;have bx:=hide X;go_wp2_with fail;go_ret;obtain⟨f,bY,j2⟩:=bs.out;exact⟨f,by rw[bx.out];rfl,bY,j2⟩
end
theorem d4.next {L:Int->Int}{hi:Int}:∀{l:List Int}{a:Int},d4 L hi a l->∀x∈l,x+(1+pf (L x))∈l\/x+(1+pf (L x))=hi
 |[],_,_,x,b=>by cases b
 |y::l,a,h,x,b=>by
  obtain⟨e,_,_,ht⟩:=h;rcases List.mem_cons.1 b with c|c
  ·subst c;subst e
   match l,ht with
   |[],ht=>exact aJ ht
   |f::g,ht=>
    obtain⟨d,_⟩:=ht;exact aK (by rw[<-d];simp)
  ·exact(d4.next ht x c).imp (aO _) id
theorem yW {L:Int->Int}{hi:Int}:∀{l m:List Int}{a x y:Int},d4 L hi a (l++m)->x∈l->y∈m->x<y
 |[],_,_,_,_,_,b,_=>by cases b
 |d::l,m,a,x,y,h,b,hy=>by
  obtain⟨e,_,_,ht⟩:=h;have hp:=dj (L a)
  rcases List.mem_cons.1 b with c|c
  ·have:=(ht.mem y (a9 l hy)).1;omega
  ·exact yW ht c hy
structure LI (k:ce)(z:C0)(s:cj)(H D:List Int):Prop where
 mi:dE k z s H
 bo:s.nx∈H\/s.nx=(k.N:Int)+s.g
 lo:∀b∈H,b<s.nx->Lo k s b
 ld:∀b∈D,Lo k s b
 dg:∀b∈D,b∈z.G
section
variable {k:ce}{z:C0}{s t:cj}{H D:List Int}
theorem LI.kH (h:LI k z s H D)(hn:hB k.N s.g s.nx=true):∃d,LI k z {k.lk s s.nx with nx:=s.nx+(1+pf (k.ld s s.nx))} d D/\dh k s {k.lk s s.nx with nx:=s.nx+(1+pf (k.ld s s.nx))}/\∃g,d=H++g:=by
 have hb:=js hn;have e:=h.bo.resolve_right V;obtain⟨a,ho⟩:=h.mi.from (a9 z.G e)
 have B:=dj (k.ld s s.nx)
 have hg:=h.mi.ci.hg;obtain⟨d,m1,f,⟨g,i⟩,u,v,w⟩:=h.mi.lk ho;have m:=h.mi.hd a _ ho;have n:=m1.hd a _ (f.or ho)
 have hlo:=h.mi.hlo _ e;have x:∀b∈g,s.nx<b:=fun b c=>yW (by have:=m1.full.ec;rw[i,<-ba] at this;exact this) (a9 z.G e) c;have p:∀b,b∈H->b∈d:=fun b c=>by rw[i];exact aY _ c
 have keep:∀b,(∃a,k.or z s a b)->Lo k s b->Lo k {k.lk s s.nx with nx:=s.nx+(1+pf (k.ld s s.nx))} b:=fun b ⟨a,o⟩ l=>by
  have l2:=Lo.go l h.mi m1 f o (v b) (w b)
  exact l2
 refine⟨d,⟨(m1.turn _ _ _ _ m1.ci.iz m1.ci.h8 V V),?_,fun b c lt=>?_,fun b c=>keep b ⟨b,aK ⟨rfl,h.dg b c⟩⟩ (h.ld b c),h.dg⟩,⟨f.f,f.g,f.cl⟩,g,i⟩
 ·have q:=d4.next m1.full.ec s.nx (a9 z.G (p _ e))
  have j:Proofs.YtpkjkjhanlbcoaaGreat.ld k.N k.y (k.lk s s.nx).g (k.lk s s.nx).ws s.nx=k.ld s s.nx:=n.trans m.symm;rw[j] at q;rcases q with c|c
  ·rcases List.mem_append.1 c with c|c
   ·have:=h.mi.kJ _ c;omega
   ·exact aK c
  ·exact aJ c
 ·dsimp only at lt;by_cases A:b=s.nx
  ·subst A;exact u
  ·by_cases lb:b<s.nx
   ·have t:b∈H:=by
     rw[i] at c;rcases List.mem_append.1 c with c|c
     ·exact c
     ·exact absurd (x b c) V
    exact keep b (h.mi.from (a9 z.G t)) (h.lo b t lb)
   ·have ap:=m1.full.ec.apart s.nx (a9 z.G (p _ e)) b (a9 z.G c) V;have j:Proofs.YtpkjkjhanlbcoaaGreat.ld k.N k.y (k.lk s s.nx).g (k.lk s s.nx).ws s.nx=k.ld s s.nx:=n.trans m.symm;rw[j] at ap;omega
end
section
variable {k:ce}{z:C0}{s t:cj}{H D:List Int}
theorem LI.lift (h:LI k z s H D){K:List Int}(ht:dE k z t K)(p:dh k s t)(hw:t.wk=s.wk)(he:t.ep=s.ep)(hn:t.nx=s.nx)(hb:t.nx∈K\/t.nx=(k.N:Int)+t.g)(f:∀b∈K,b<t.nx->b∈H):LI k z t K D:=
 ⟨ht,hb,fun b d lt=>by
  have e:=f b d lt;obtain⟨a,o⟩:=h.mi.from (a9 z.G e)
  exact Lo.go (h.lo b e (by rw[<-hn];exact lt)) h.mi ht p o (fun c=>by rw[hw];exact c) (fun c=>by rw[he];exact c),fun b d=>Lo.go (h.ld b d) h.mi ht p (aK ⟨rfl,h.dg b d⟩) (fun c=>by rw[hw];exact c) (fun c=>by rw[he];exact c),h.dg⟩
theorem LI.yX (h:LI k z s H D):s.nx<=(k.N:Int)+s.g:=by
 rcases h.bo with b|b
 ·have:=(h.mi.i7 b).2;omega
 ·omega
theorem LI.cp (h:LI k z s H D){a:Int}(ha:a∈k.T)(e:s.f a=-1):LI k z (k.cp s a) (H++[((k.N+s.g:Nat):Int)]) D/\dh k s (k.cp s a):=by
 obtain⟨m1,d,_⟩:=h.mi.cp ha e;have f:=h.yX;refine⟨h.lift m1 d rfl rfl rfl ?_ (fun b c lt=>?_),d⟩
 ·show s.nx∈_\/_;rcases h.bo with c|c
  ·exact aK (aY _ c)
  ·exact aK (a9 _ (by rw[c];simp))
 ·have g:b<s.nx:=lt;rcases List.mem_append.1 c with c|c
  ·exact c
  ·rw[bv] at c;omega
theorem LI.br (h:LI k z s H D)(x:Int):∃f,LI k z (k.br s x).2 f D/\dh k s (k.br s x).2/\(∃j,f=H++j)/\k.cK (k.br s x).1=false/\(∀g,k.ml s g x->k.ml (k.br s x).2 g (k.br s x).1):=by
 obtain⟨_,_,_,i,_,b,_⟩:=h.mi.br x;cases hls:k.ls s x
 ·have e:(k.br s x).2=s:=by unfold ce.br;rw[hls];rfl
  rw[e] at b⊢;exact⟨H,h,dh.refl _ _,⟨[],Z⟩,i,b⟩
 ·have e:(k.br s x).2=k.cp s (cg x):=by unfold ce.br;rw[aI hls]
  have c:=hls;unfold ce.ls at c;rw[a_] at c;have d:=c.1;unfold ce.cK at d;rw[a_] at d;obtain⟨l,j2⟩:=h.cp (by simpa using d.2) (by simpa using c.2)
  rw[e] at b⊢;exact⟨_,l,j2,⟨_,rfl⟩,i,b⟩
theorem LI.kf (h:LI k z s H D){a b i:Int}(ho:k.or z s a b)(d:0<=i)(e:i<pf (k.l0 z a)):∃c,LI k z (k.kf s (b+1+i)) c D/\dh k s (k.kf s (b+1+i))/\k.cK (k.ld (k.kf s (b+1+i)) (b+1+i))=false/\∃j,c=H++j:=by
 obtain⟨c,m1,f,l,g,m⟩:=h.br _;obtain⟨s1,s2,o⟩:=m1.mi.st (f.or ho) d e (m _ (h.mi.fd a b ho i d e))
 have p:=dh.st (a:=b+1+i) m1.mi.ci g;refine⟨c,m1.lift s1 p rfl rfl rfl m1.bo (fun b n _=>n),f.trans p,?_,l⟩
 unfold ce.kf;rw[s2];exact g
end
section
variable {k:ce}{z:C0}{s t:cj}{H D:List Int}
theorem l8 (k:ce)(s:cj)(x:Int):(k.br s x).2.rs=s.rs/\(k.br s x).2.wk=s.wk/\(k.br s x).2.ep=s.ep/\(k.br s x).2.nx=s.nx:=by unfold ce.br;split<;>exact⟨rfl,rfl,rfl,rfl⟩
theorem LI.roots (h:LI k z s H D)(rs:List Int):LI k z {s with rs:=rs} H D:=
 h.lift (h.mi.turn s.wk s.ep rs s.nx h.mi.ci.iz h.mi.ci.h8 h.mi.ci.g8 h.mi.ci.jv) (dh.turn k s s.wk s.ep rs s.nx) rfl rfl rfl h.bo (fun _ b _=>b)
theorem LI.cJ (h:LI k z s H D):∀n:Nat,n<=s.rs.length->∃d,LI k z (k.cJ s n) d D/\dh k s (k.cJ s n)/\(∃b,d=H++b)/\(k.cJ s n).rs.length=s.rs.length/\(∀i,i<n->k.cK ((k.cJ s n).rs.getD i 0)=false)/\(∀i,n<=i->(k.cJ s n).rs.getD i 0=s.rs.getD i 0)/\∀i,i<n->k.ml (k.cJ s n) (s.rs.getD i 0) ((k.cJ s n).rs.getD i 0)
 |0,_=>⟨H,h,dh.refl _ _,⟨[],Z⟩,rfl,fun i hi=>V,fun _ _=>rfl,fun i hi=>V⟩
 |n+1,hn=>by
  obtain⟨v,m1,l,⟨b,m⟩,f,o,g,p⟩:=LI.cJ h n V;obtain⟨q,t,j2,⟨u,cA⟩,cE,dC⟩:=m1.br _;obtain⟨r1,_⟩:=l8 k _ _;have hl:n<(k.br (k.cJ s n) ((k.cJ s n).rs.getD n 0)).2.rs.length:=by rw[r1,f];omega
  have c:∀i,((k.br (k.cJ s n) ((k.cJ s n).rs.getD n 0)).2.rs.set n (k.br (k.cJ s n) ((k.cJ s n).rs.getD n 0)).1).getD i 0=if n=i then(k.br (k.cJ s n) ((k.cJ s n).rs.getD n 0)).1 else(k.cJ s n).rs.getD i 0:=fun i=>by rw[j_ _ _ _ _ hl,r1]
  have j:=dh.turn k (k.br (k.cJ s n) ((k.cJ s n).rs.getD n 0)).2 (k.br (k.cJ s n) ((k.cJ s n).rs.getD n 0)).2.wk (k.br (k.cJ s n) ((k.cJ s n).rs.getD n 0)).2.ep ((k.br (k.cJ s n) ((k.cJ s n).rs.getD n 0)).2.rs.set n (k.br (k.cJ s n) ((k.cJ s n).rs.getD n 0)).1) (k.br (k.cJ s n) ((k.cJ s n).rs.getD n 0)).2.nx;refine⟨q,t.roots _,l.trans (j2.trans j),⟨b++u,by rw[cA,m,ba]⟩,?_,fun i hi=>?_,fun i hi=>?_,fun i hi=>?_⟩
  ·show(List.set _ _ _).length=_;rw[a4,r1,f]
  ·show k.cK ((List.set _ _ _).getD i 0)=false;rw[c];split
   ·exact cE
   ·exact o i V
  ·show(List.set _ _ _).getD i 0=_;rw[c,aG V];exact g i V
  ·show k.ml _ _ ((List.set _ _ _).getD i 0)
   rw[c];by_cases e:n=i
   ·rw[aI e];subst e;exact dC _ (aK (g n bW))
   ·rw[aG e];exact(j2.trans j).ml (p i V)
end
theorem yY {L c:Int->Int}{hi d:Int}:∀{l m:List Int}{a:Int},d4 L hi a l->d4 c d a (l++m)->(∀x∈l,c x=L x)->(hi∈m\/hi=d)/\∀y∈m,hi<=y
 |[],m,a,h,b,_=>by
  have e:=h;subst e;refine⟨?_,fun y hy=>(b.mem y hy).1⟩
  match m,b with
  |[],b=>exact aJ b
  |y::n,b=>
   obtain⟨i,_⟩:=b;exact aK (by rw[<-i];simp)
 |j::l,m,a,h,b,he=>by obtain⟨e,_,_,ht⟩:=h;obtain⟨_,_,_,f⟩:=b;have g:=he j Z;rw[e] at g;rw[g] at f;exact yY ht f (fun x k=>he x (aO _ k))
section
variable {k:ce}{z:C0}{s t:cj}{H D:List Int}
theorem LI.lk (h:LI k z s H D){b:Int}(hb:b∈z.G):∃g,LI k z (k.lk s b) g (b::D)/\dh k s (k.lk s b)/\∃j,g=H++j:=by
 obtain⟨g,m1,i,⟨j,f⟩,q,l,m⟩:=h.mi.lk (aK ⟨rfl,hb⟩)
 obtain⟨n,u⟩:=qC k s b;have tm:=yY h.mi.full.ec (by have:=m1.full.ec;rw[f,<-ba] at this;exact this) (fun x t=>by obtain⟨a,o⟩:=h.mi.from t;exact(m1.hd a x (i.or o)).trans (h.mi.hd a x o).symm)
 have v:=h.yX;refine⟨g,⟨m1,?_,fun c d lt=>?_,fun c d=>?_,fun c d=>?_⟩,i,j,f⟩
 ·rw[n];rcases h.bo with d|d
  ·exact aK (by rw[f];exact aY _ d)
  ·rw[d];exact tm.1.imp (fun e=>by rw[f];exact a9 _ e) id
 ·rw[n] at lt;have p:c∈H:=by
   rw[f] at d;rcases List.mem_append.1 d with d|d
   ·exact d
   ·have:=tm.2 c d;omega
  obtain⟨a,o⟩:=h.mi.from (a9 z.G p)
  exact Lo.go (h.lo c p lt) h.mi m1 i o (l c) (m c)
 ·rcases List.mem_cons.1 d with d|d
  ·rw[d];exact q
  ·exact Lo.go (h.ld c d) h.mi m1 i (aK ⟨rfl,h.dg c d⟩) (l c) (m c)
 ·rcases List.mem_cons.1 d with d|d
  ·rw[d];exact hb
  ·exact h.dg c d
end
structure dL (k:ce)(z:C0)(s:cj)(H:List Int):Prop where
 wk:∀a∈s.wk,a∈z.G++H/\pk (k.ld s a)=3
 ep:∀a∈s.ep,a∈z.G++H/\pk (k.ld s a)=4
section
variable {k:ce}{z:C0}{s t:cj}{H K D:List Int}
theorem dh.hd (p:dh k s t)(h:dE k z s H)(ht:dE k z t K){b:Int}(hb:b∈z.G++H):k.ld t b=k.ld s b:=by obtain⟨a,o⟩:=h.from hb;exact(ht.hd a b (p.or o)).trans (h.hd a b o).symm
theorem kL {G H K:List Int}{x:Int}(h:∃b,K=H++b)(c:x∈G++H):x∈G++K:=by obtain⟨b,e⟩:=h;rw[e,<-ba];exact aY _ c
theorem dL.go (w:dL k z s H)(h:dE k z s H)(ht:dE k z t K)(p:dh k s t)(c:∃d,K=H++d)(e:t.wk=s.wk)(f:t.ep=s.ep):dL k z t K:=
 ⟨fun a ha=>by
  rw[e] at ha;obtain⟨m1,b⟩:=w.wk a ha;exact⟨kL c m1,by rw[p.hd h ht m1];exact b⟩,fun a ha=>by
  rw[f] at ha;obtain⟨m1,b⟩:=w.ep a ha;exact⟨kL c m1,by rw[p.hd h ht m1];exact b⟩⟩
theorem yZ (k:ce)(s:cj)(b:Int):((k.lk s b).wk=s.wk\/(pk (k.ld s b)=3/\(k.lk s b).wk=s.wk++[b]))/\((k.lk s b).ep=s.ep\/(pk (k.ld s b)=4/\(k.lk s b).ep=s.ep++[b])):=by
 unfold ce.lk;split
 ·exact⟨aK (na _ _ _ _).1,aK (na _ _ _ _).2.1⟩
 ·split
  ·rename_i e;exact⟨aJ ⟨e,(jT _ _ _).1⟩,aK (jT _ _ _).2.1⟩
  ·split
   ·rename_i e;exact⟨aK rfl,aJ ⟨e,rfl⟩⟩
   ·exact⟨aK rfl,aK rfl⟩
theorem dL.lk (w:dL k z s H)(h:dE k z s H){b:Int}(hb:b∈z.G++H)(ht:dE k z (k.lk s b) K)(p:dh k s (k.lk s b))(f:∃i,K=H++i):dL k z (k.lk s b) K:=by
 obtain⟨c1,c2⟩:=yZ k s b;refine⟨fun a ha=>?_,fun a ha=>?_⟩
 ·rcases c1 with e|⟨g,e⟩
  ·rw[e] at ha;obtain⟨m1,d⟩:=w.wk a ha;exact⟨kL f m1,by rw[p.hd h ht m1];exact d⟩
  ·rw[e] at ha;rcases List.mem_append.1 ha with c|c
   ·obtain⟨m1,d⟩:=w.wk a c;exact⟨kL f m1,by rw[p.hd h ht m1];exact d⟩
   ·rw[bv] at c;subst c;exact⟨kL f hb,by rw[p.hd h ht hb];exact g⟩
 ·rcases c2 with e|⟨g,e⟩
  ·rw[e] at ha;obtain⟨m1,d⟩:=w.ep a ha;exact⟨kL f m1,by rw[p.hd h ht m1];exact d⟩
  ·rw[e] at ha;rcases List.mem_append.1 ha with c|c
   ·obtain⟨m1,d⟩:=w.ep a c;exact⟨kL f m1,by rw[p.hd h ht m1];exact d⟩
   ·rw[bv] at c;subst c;exact⟨kL f hb,by rw[p.hd h ht hb];exact g⟩
theorem LI.qF (h:LI k z s H D){b:Int}(hb:b∈z.G++H)(l:pk (k.ld s b)=4):∃f,LI k z (k.kf (k.kf s (b+1)) (b+2)) f D/\dh k s (k.kf (k.kf s (b+1)) (b+2))/\(∃d,f=H++d)/\k.cK (k.ld (k.kf (k.kf s (b+1)) (b+2)) (b+1))=false/\k.cK (k.ld (k.kf (k.kf s (b+1)) (b+2)) (b+2))=false:=by
 obtain⟨a,o⟩:=h.mi.from hb;have m:=h.mi.bd hb;have v:=ii m.2.2 (aJ (aJ l))
 have g:=h.mi.hd a b o;obtain⟨w,m1,c,j,⟨d,n⟩⟩:=h.kf (i:=0) o V (by rw[<-g];omega)
 obtain⟨p,e,j2,cA,⟨q,cE⟩⟩:=m1.kf (i:=1) (c.or o) V (by rw[<-g];omega)
 have t:b+1+0=b+1:=V;have u:b+1+1=b+2:=V;rw[t] at m1 c j e j2 cA;rw[u] at e j2 cA;exact⟨p,e,c.trans j2,⟨d++q,by rw[cE,n,ba]⟩,j2.cl _ V (by have:=c.g;omega) j,cA⟩
theorem LI.du:∀(l left:List Int){s:cj}{H:List Int},LI k z s H D->(∀a∈l,a∈z.G++H/\pk (k.ld s a)=4)->∃n,LI k z (l.foldl k.cP (left,s)).2 n D/\dh k s (l.foldl k.cP (left,s)).2/\(∃t,n=H++t)/\(l.foldl k.cP (left,s)).2.wk=s.wk/\(l.foldl k.cP (left,s)).2.ep=s.ep/\(∀a∈l,a∈(l.foldl k.cP (left,s)).1\/(k.cK (k.ld (l.foldl k.cP (left,s)).2 (a+1))=false/\k.cK (k.ld (l.foldl k.cP (left,s)).2 (a+2))=false))/\(∀a∈left,a∈(l.foldl k.cP (left,s)).1)/\∀a∈(l.foldl k.cP (left,s)).1,a∈left\/a∈l
 |[],left,s,H,h,_=>⟨H,h,dh.refl _ _,⟨[],Z⟩,rfl,rfl,fun a ha=>(by cases ha),fun _ c=>c,fun _ c=>aK c⟩
 |b::l,left,s,H,h,hl=>by
  rw[a8];cases hls:k.ls s _
  ·have e:k.cP (left,s) b=(left,k.kf (k.kf s (b+1)) (b+2)):=by unfold ce.cP;rw[aG (by rw[hls];simp)]
   rw[e];obtain⟨o,p⟩:=hl b Z;obtain⟨J,m1,f,q,u,v⟩:=h.qF o p;obtain⟨g,i,j2,cA,cE,dC,j,d,m⟩:=LI.du l left m1 (fun a ha=>by
    obtain⟨n1,w⟩:=hl a (aO _ ha)
    exact⟨kL q n1,by rw[f.hd h.mi m1.mi n1];exact w⟩)
   obtain⟨w1,x,_⟩:=jT k s (b+1)
   obtain⟨A,B,_⟩:=jT k _ (b+2)
   have C:=h.mi.bd o;have K:=ii C.2.2 (aJ (aJ p))
   have hg:=f.g;refine⟨g,i,f.trans j2,?_,cE.trans (A.trans w1),dC.trans (B.trans x),fun a ha=>?_,d,fun a ha=>(m a ha).imp id (aO _)⟩
   ·obtain⟨E,F⟩:=q;obtain⟨G,I⟩:=cA;exact⟨E++G,by rw[I,F,ba]⟩
   ·rcases List.mem_cons.1 ha with c|c
    ·subst c;exact aJ ⟨j2.cl _ V V u,j2.cl _ V V v⟩
    ·exact j a c
  ·have e:k.cP (left,s) b=(left++[b],s):=by unfold ce.cP;rw[aI hls]
   rw[e];obtain⟨g,i,j2,cA,cE,dC,j,d,m⟩:=LI.du l _ h (fun a ha=>hl a (aO _ ha))
   refine⟨g,i,j2,cA,cE,dC,fun a ha=>?_,fun a c=>d a (aY _ c),fun a ha=>?_⟩
   ·rcases List.mem_cons.1 ha with c|c
    ·exact aK (d a (by rw[c];simp))
    ·exact j a c
   ·rcases m a ha with c|c
    ·rcases List.mem_append.1 c with c|c
     ·exact aK c
     ·rw[bv] at c;exact aJ (by rw[c];simp)
    ·exact aJ (aO _ c)
end
section
variable {k:ce}{z:C0}{s t:cj}{H K D:List Int}
theorem dL.kH (w:dL k z s H)(h:LI k z s H D)(hn:hB k.N s.g s.nx=true)(ht:dE k z {k.lk s s.nx with nx:=s.nx+(1+pf (k.ld s s.nx))} K)(p:dh k s {k.lk s s.nx with nx:=s.nx+(1+pf (k.ld s s.nx))})(d:∃e,K=H++e):dL k z {k.lk s s.nx with nx:=s.nx+(1+pf (k.ld s s.nx))} K:=by have hb:=js hn;obtain⟨b,_⟩:=qC k s s.nx;have c:=w.lk h.mi (a9 z.G (h.bo.resolve_right V)) (ht.turn (k.lk s s.nx).wk _ _ (k.lk s s.nx).nx ht.ci.iz ht.ci.h8 (by rw[b];exact h.mi.ci.g8) (by rw[b];exact h.mi.ci.jv)) ⟨p.f,p.g,p.cl⟩ d;exact⟨c.wk,c.ep⟩
theorem LI.oj:∀(n:Nat){s:cj}{H:List Int},LI k z s H D->dL k z s H->∃c,LI k z (k.lb n s) c D/\dL k z (k.lb n s) c/\dh k s (k.lb n s)/\(∃d,c=H++d)/\(((k.N:Int)+k.O-s.nx).toNat<n->hB k.N (k.lb n s).g (k.lb n s).nx=false)
 |0,s,H,h,w=>⟨H,h,w,dh.refl _ _,⟨[],Z⟩,fun e=>absurd e V⟩
 |n+1,s,H,h,w=>by
  unfold ce.lb;cases hn:hB k.N s.g s.nx
  ·rw[aG Z];exact⟨H,h,w,dh.refl _ _,⟨[],Z⟩,fun _=>hn⟩
  ·obtain⟨l,m1,f,b⟩:=h.kH hn;have w1:=w.kH h hn m1.mi f b;obtain⟨d,b⟩:=b;obtain⟨g,i,ks,j2,⟨j,cA⟩,cE⟩:=LI.oj n m1 w1;refine⟨g,i,ks,f.trans j2,⟨d++j,by rw[cA,b,ba]⟩,fun e=>cE ?_⟩
   have m:=dj (k.ld s s.nx)
   have hb:=js hn;have hg:=h.mi.ci.hg;dsimp only;omega
theorem Lo.ep {b:Int}(l:Lo k t b)(e:List Int)(hc:b∈t.ep->b∈e\/(k.cK (k.ld t (b+1))=false/\k.cK (k.ld t (b+2))=false))(o:pk (k.ld t b)=4->pf (k.ld t b)=2):Lo k {t with ep:=e} b:=by
 intro i f g;have j:i<pf (k.ld t b):=g;rcases l i f j with d|d|⟨m,n⟩
 ·exact aK d
 ·exact aJ (aK d)
 ·rcases hc n with c|⟨c1,c2⟩
  ·exact aJ (aJ ⟨m,c⟩)
  ·left;rcases(by omega:i=0\/i=1) with e|e
   ·rw[e,show b+1+0=b+1 by omega];exact c1
   ·rw[e,show b+1+1=b+2 by omega];exact c2
theorem LI.kv (h:LI k z s H D)(w:dL k z s H):∃f,LI k z (k.kv s).2 f D/\dL k z (k.kv s).2 f/\dh k s (k.kv s).2/\∃i,f=H++i:=by
 obtain⟨f,c,j2,cA,cE,dC,j,_,l⟩:=LI.du s.ep [] h w.ep;have sub:_:=fun a ha=>(l a ha).elim (fun d=>by cases d) id;have g:=w.go h.mi c.mi j2 cA cE dC;have cl:∀b,b∈(s.ep.foldl k.cP ([],s)).2.ep->_:=fun b hb=>j b (by rw[<-dC];exact hb)
 have two:∀b,b∈z.G++f->pk (k.ld (s.ep.foldl k.cP ([],s)).2 b)=4->_=_:=fun b hb e=>ii (c.mi.bd hb).2.2 (aJ (aJ e))
 refine⟨f,⟨(c.mi.turn _ _ _ _ c.mi.ci.iz (fun a ha=>h.mi.ci.h8 a (sub a ha)) c.mi.ci.g8 c.mi.ci.jv),c.bo,fun b d lt=>?_,fun b d=>?_,c.dg⟩,⟨g.wk,fun a ha=>g.ep a (by rw[dC];exact sub a ha)⟩,⟨j2.f,j2.g,j2.cl⟩,cA⟩
 ·exact(c.lo b d lt).ep _ (cl b) (two b (a9 _ d))
 ·exact(c.ld b d).ep _ (cl b) (two b (aY _ (c.dg b d)))
end
def cX (k:ce)(z:C0)(D:List Int)(s t:cj):Prop:=∀H,LI k z s H D->dL k z s H->∃b,LI k z t b D/\dL k z t b/\dh k s t/\∃c,b=H++c
section
variable {k:ce}{z:C0}{s t u:cj}{D:List Int}
theorem cX.refl:cX k z D s s:=fun H h w=>⟨H,h,w,dh.refl _ _,⟨[],Z⟩⟩
theorem cX.trans (h:cX k z D s t)(j:cX k z D t u):cX k z D s u:=fun H l w=>by obtain⟨b,m1,c,d,⟨A,e⟩⟩:=h H l w;obtain⟨f,g,j2,cA,⟨B,cE⟩⟩:=j b m1 c;exact⟨f,g,j2,d.trans cA,⟨A++B,by rw[cE,e,ba]⟩⟩
theorem cX.br (x:Int):cX k z D s (k.br s x).2:=fun _ h w=>by obtain⟨d,m1,b,c,_,_⟩:=h.br x;obtain⟨_,e,f,_⟩:=l8 k s x;exact⟨d,m1,w.go h.mi m1.mi b c e f,b,c⟩
theorem cX.lb (n:Nat):cX k z D s (k.lb n s):=fun _ h w=>by obtain⟨b,m1,c,d,e,_⟩:=LI.oj n h w;exact⟨b,m1,c,d,e⟩
theorem cX.kv:cX k z D s (k.kv s).2:=fun _ h w=>h.kv w
theorem cX.kM:∀(l:List Nat)(t:(cj×List b7)×Bool),cX k z D t.1.1 (l.foldl (dB k.al k.br) t).1.1
 |[],t=>cX.refl
 |i::l,t=>by
  refine cX.trans ?_ (cX.kM l _)
  unfold dB;split
  ·exact cX.refl
  ·exact cX.br _
theorem cX.wa (t:cj×List b7):cX k z D t.1 (k.wa t).1.1:=cX.kM (List.range t.2.length) (t,false)
theorem cX.cW:∀(n:Nat)(t:cj×List b7),cX k z D t.1 (k.cW n t).1
 |0,t=>cX.refl
 |n+1,t=>by
  have b:cX k z D t.1 (k.kv (k.lb (k.O+1) t.1)).2:=(cX.lb (k.O+1)).trans cX.kv;unfold ce.cW;split
  ·exact b.trans (cX.cW n ((k.kv (k.lb (k.O+1) t.1)).2,t.2))
  ·split
   ·exact(b.trans (cX.wa ((k.kv (k.lb (k.O+1) t.1)).2,t.2))).trans (cX.cW n (k.wa ((k.kv (k.lb (k.O+1) t.1)).2,t.2)).1)
   ·exact b.trans (cX.wa ((k.kv (k.lb (k.O+1) t.1)).2,t.2))
theorem cX.sp (t:cj×List b7):cX k z D t.1 (k.sp t).1:=cX.cW _ t
theorem cX.ke (t:cj×List b7)(x:Int):cX k z D t.1 (k.ke t x).2.1:=(cX.br x).trans (cX.sp ((k.br t.1 x).2,t.2))
theorem cX.one (t:cj×List b7)(e:b7):cX k z D t.1 (cm (dI cj) (fun s x=>k.al s.1 x) k.ke t e).2.1:=by
 unfold cm;split
 ·exact cX.ke t e.2
 ·exact cX.refl
theorem cX.part (l:List b7)(t:cj×List b7):cX k z D t.1 (pts (cm (dI cj) (fun s x=>k.al s.1 x) k.ke) t l).2.2.1:=by
 have key:∀(l:List b7)(p:List b7×List b7×(cj×List b7)),cX k z D p.2.2.1 (l.foldl (eh (cm (dI cj) (fun s x=>k.al s.1 x) k.ke)) p).2.2.1:=by
  intro l
  induction l with
  |nil=>exact fun p=>cX.refl
  |cons e l c=>
   intro p;refine cX.trans ?_ (c _)
   have b:=cX.one (k:=k) (z:=z) (D:=D) p.2.2 e;unfold eh;split
   ·exact b
   ·exact b
 exact key l ([],[],t)
theorem cX.turn:∀(n:Nat)(t:cj×List b7)(b:List b7),cX k z D t.1 (eB (cm (dI cj) (fun s x=>k.al s.1 x) k.ke) n t b).1.1
 |0,t,b=>cX.refl
 |n+1,t,b=>by
  unfold eB;split
  ·exact cX.part b t
  ·exact(cX.part b t).trans (cX.turn n _ _)
theorem cX.eW (t:cj×List b7)(r:List b7):cX k z D t.1 (k.eW t r).1:=cX.turn _ _ _
end
section
variable {k:ce}{z:C0}{s t:cj}{D:List Int}
theorem qG (k:ce):∀(l left:List Int)(s:cj),(l.foldl k.cP (left,s)).1.length<=left.length+l.length/\((l.foldl k.cP (left,s)).1.length=left.length+l.length->(l.foldl k.cP (left,s)).2=s)
 |[],left,s=>⟨Z,fun _=>rfl⟩
 |b::l,left,s=>by
  rw[a8];cases hls:k.ls s _
  ·have c:k.cP (left,s) b=(left,k.kf (k.kf s (b+1)) (b+2)):=by unfold ce.cP;rw[aG (by rw[hls];simp)]
   rw[c];have d:=(qG k l left (k.kf (k.kf s (b+1)) (b+2))).1;rw[bz];exact⟨V,fun e=>V⟩
  ·have c:k.cP (left,s) b=(left++[b],s):=by unfold ce.cP;rw[aI hls]
   rw[c];obtain⟨d,f⟩:=qG k l (left++[b]) s;rw[aX,List.length_singleton] at d f;rw[bz];exact⟨V,fun e=>f V⟩
theorem Ge (k:ce)(s:cj)(h:(k.kv s).1=false):(k.kv s).2.g=s.g/\(k.kv s).2.nx=s.nx:=by unfold ce.kv ce.du at h⊢;obtain⟨c,b⟩:=qG k s.ep [] s;have d:=of_decide_eq_false h;rw[List.length_nil,Nat.zero_add] at c b;rw[b V];exact⟨rfl,rfl⟩
theorem tN (k:ce):∀(l:List Nat)(t:(cj×List b7)×Bool),(l.foldl (dB k.al k.br) t).2=false->(l.foldl (dB k.al k.br) t).1=t.1/\t.2=false
 |[],t,h=>⟨rfl,h⟩
 |i::l,t,h=>by
  rw[a8] at h⊢;obtain⟨c,b⟩:=tN k l _ h;unfold dB at c b⊢;split at b
  ·rename_i e;rw[aI e] at c⊢;exact⟨c,b⟩
  ·cases b
theorem tO (k:ce)(t:cj×List b7)(h:(k.wa t).2=false):(k.wa t).1=t:=(tN k (List.range t.2.length) (t,false) h).1
theorem qH:∀(n:Nat)(t:cj×List b7)(H:List Int),LI k z t.1 H D->dL k z t.1 H->ee k t.1->k.mu t.1<n->hB k.N (k.cW n t).1.g (k.cW n t).1.nx=false
 |0,t,H,_,_,_,e=>absurd e V
 |n+1,t,H,h,w,hb,e=>by
  obtain⟨u,l1,w1,_,_,g⟩:=LI.oj (k.O+1) h w;have g8:=h.mi.ci.g8;obtain⟨c1,c2,c3⟩:=CI.lb h.mi.ci hb (k.O+1)
  obtain⟨i,b,v,j⟩:=CI.kv c1 c2;obtain⟨c,l2,d,_,_⟩:=l1.kv w1;unfold ce.cW;cases hk:(k.kv _).1
  ·rw[aG Z];obtain⟨g1,g2⟩:=Ge k _ hk;obtain⟨x,l,A,B,m⟩:=CI.wa (s:=((k.kv _).2,t.2)) i b;cases hw:(k.wa ((k.kv _).2,t.2)).2
   ·rw[aG Z,tO k _ hw];rw[g1,g2];exact g V
   ·obtain⟨o,p,q,_,_⟩:=cX.wa ((k.kv _).2,t.2) c l2 d;have f:=m hw;dsimp only at f;exact qH n _ o p q l V
  ·rw[aI rfl];have f:=j hk;exact qH n ((k.kv _).2,t.2) c l2 d b (by dsimp only;omega)
end
end Go.Proofs.YtpkjkjhanlbcoaaGreat
