import Derived.Test.YtpkjkjhanlbcoaaGreatJ12
namespace Go.Proofs.YtpkjkjhanlbcoaaGreat
set_option maxRecDepth 100000
set_option maxHeartbeats 4000000
open Tryz
open Go.RowKit W Kp cf
theorem yY {P:Prop}(h:P:=by
 rcases hm with e|⟨g1,g2,g3⟩
 ·rw[e] at ha hy⊢;rcases hz a yZ i i0 i1 ha with d|d
  ·unfold ce.cK at hy;rw[ha] at hy;simp at hy;exact absurd d hy
  ·exact aX _ d
 ·have hT:cg (k.l0 z (a+1+i))∈k.T:=by unfold ce.cK at g1;rw[a_] at g1;simpa using g1.2
  have hH:=h.mi.fh _ hT g2;have hbd:=h.mi.i5 hH;have hN:=h.mi.ci.hN';have hO:=h.mi.ci.hO;have hg:=h.mi.ci.hg;obtain⟨n,hn⟩:∃n:Nat,s.f (cg (k.l0 z (a+1+i)))=n:=⟨(s.f (cg (k.l0 z (a+1+i)))).toNat,V⟩
  rw[g3,hn,(m5 n V).2,<-hn];exact a9 _ hH):P:=h
theorem y3 {P:Prop}(h:P:=by
 rcases List.mem_append.1 hd with hd|hd
 ·exact h.rel d hd hal
 ·rw[List.mem_singleton.1 hd,c] at hal;cases hal):P:=h
theorem y4 {c:Type}(o:fJ c)(is:c->Int->Bool)(kp:c->Int->Int×c)(hl:∀s x,(o.wt (kp s x).2).length=(o.wt s).length):∀(n:Nat)(s:c)(b:List b7),(o.wt (eB (cm o is kp) n s b).1).length+(eB (cm o is kp) n s b).2.length=(o.wt s).length+b.length
 |0,s,b=>rfl
 |n+1,s,b=>by
  have d:=sE o is kp hl s b;have e:=oL (cm o is kp) s b;by_cases h:(pts (cm o is kp) s b).1.length=0
  ·rw[lQ _ _ _ _ h];dsimp only;omega
  ·rw[lR _ _ _ _ h,y4 o is kp hl n];omega
theorem qH {b:Type}(o:fJ b)(is:b->Int->Bool)(kp:b->Int->Int×b)(nw:b->Int->Int)(hl:∀s x,(o.wt (kp s x).2).length=(o.wt s).length)(s:b)(r:List b7):(eO o is kp nw s r).length+(eP o is kp nw s r).length<=r.length+(o.wt s).length:=by
 have c:=y4 o is kp hl ((r.filter (fun e=>!is s e.2)).length+1) s (r.filter (fun e=>!is s e.2))
 have d:(eP o is kp nw s r).length<=(o.wt (ft o is kp s r)).length:=by unfold eP;rw[aW];exact bm _ _
 have f:(eO o is kp nw s r).length<=(r.filter (fun e=>is s e.2)).length:=by unfold eO;rw[aW];exact bm _ _
 have g:(r.filter (fun e=>is s e.2)).length+(r.filter (fun e=>!is s e.2)).length=r.length:=by
  clear c d f
  induction r with
  |nil=>rfl
  |cons e r i=>
   simp only [List.filter_cons];cases is s e.2<;>simp<;>omega
 have j:(o.wt (ft o is kp s r)).length<=(o.wt s).length+(r.filter (fun e=>!is s e.2)).length:=by unfold ft;omega
 omega
theorem Gg (a:Wc)(S:cq):(S.cut a).r.length+(S.cut a).q.length<=S.r.length+S.q.length:=by
 unfold cq.cut;split
 ·exact aD _
 ·have b:=qH (dI cj) (fun s x=>(S.s.k0 a).al s.1 x) _ (fun s x=>(S.s.k0 a).nw s.1 x) (fun s x=>s8 (S.s.k0 a) s x) (S.t3 a) S.r;have d:(S.t3 a).2.length=S.q.length:=by unfold cq.t3 ce.sp;rw[oX]
  dsimp only;generalize S.t3 a=t at*;have c:(dI cj).wt t=t.2:=rfl;rw[c] at b;unfold ce.sR ce.jd;omega
theorem cV.pl {k:b9}{s:cu}(h:cV k s)(hN:(0:Int)<=k.a.N):cV k (k.pl s).1:=by
 obtain⟨P,_,b,d⟩:=pn k (fun c=>!(s.f c==-1)) k.T (s,k.a.N) h.nd (fun c _=>rfl)
 have P:Pos (fun c=>pf (k.ld c)) (fun c=>!(s.f c==-1)) (k.pl s).1.f k.a.N k.T (k.pl s).2:=P;have b:(k.pl s).1.td=s.td:=b;have d:(k.pl s).1.ep=s.ep:=d;have f:k.lost (k.pl s).1<=k.lost s:=by
  unfold b9.lost;rw[<-List.countP_eq_length_filter,<-List.countP_eq_length_filter];refine List.countP_mono_left (fun c hc e=>?_)
  cases q:(s.f c==-1)
  ·have:=(P.bd (fun c=>(dj _).1) c hc (by rw[q];rfl)).1;have e:(k.pl s).1.f c=-1:=by simpa using e
   omega
  ·rfl
 have:=h.sum;exact⟨h.nd,h.ps,by rw[b];exact h.td,by rw[d];exact h.ep,h.tl,by rw[b,d];omega⟩
theorem qI {b c:Type}(g:b->c)(fm:b->Int->Int)(st:b->Int->b)(h:∀t a,g (st t a)=g t):∀(l:List Int)(t:b),g (gU fm st t l)=g t
 |[],_=>rfl
 |a::l,t=>by
  have e:gU fm st t (a::l)=gU fm st (e_ fm st t a) l:=rfl;rw[e,qI g fm st h l];unfold e_;split
  ·rfl
  ·exact h t a
theorem y5 (k:b9)(s:cu):∀n,(k.fQ s n).a=k.a
 |0=>rfl
 |n+1=>y5 k s n
theorem y6 (k:b9)(s:cu)(a:Int):∀n,(k.gK s a n).a=k.a
 |0=>rfl
 |n+1=>y6 k s a n
theorem Gh (k:b9)(s:cu):(k.e3 s).a=k.a:=by
 unfold b9.e3 b9.ob;rw[qI (fun k:b9=>k.a) _ _ (fun t a=>?_)]
 ·exact y5 k s 12
 ·unfold b9.jP;rw[y6];exact(tK t s a).1
theorem Gj (k:b9)(s:cu):(k.sl s).a=k.a:=by
 have b:(k.lz s k.G).1.a=k.a:=qI (fun t:b9×Int=>t.1.a) (fun _ a=>s.f a) (b9.i4 s) (fun _ _=>rfl) k.G (k,0)
 have c:(k.sl2 s).a=(k.sl1 s).a:=qI (fun t:b9=>t.a) (fun(_:b9) a=>s.f a) (fun k a=>k.cop a) (fun _ _=>rfl) k.Y (k.sl1 s)
 have d:(k.sl s).a=(k.sl2 s).a:=rfl;have e:(k.sl1 s).a=(k.lz s k.G).1.a:=rfl;rw[d,c,e,b]
theorem y7 {c:e8}{k:b9}{vt e:Value}{F:Nat->Prop}{s:cu}{w:ax}(h:(cT c k vt e).J F s w):∃d,(dX k.a).J d k.s w/\∀b,d b->F b:=by obtain⟨d,own,h,f⟩:=h;exact⟨d,h.wd,fun b g=>(f b).2 (by rw[(h.w1 b).1 g];decide)⟩
section
variable {a:Wc}{F:Nat->Prop}{S:cq}{w:ax}
theorem Gk (h:(fL a).J F S w)(hq:S.q.length+S.r.length<=90000)(cL:S.fM a=false->∃G,iC (S.k5 a) (S.dC a) G/\G 0 (S.k5 a,0)):
 Calls prog 37 #[aj a.pw] w fun e w'=>∃f,e=.returned (ah (S.ie a))/\(fL a).J f (S.dy a) w'/\b8 F w f w':=by
 obtain⟨cM,ar,ab,aV,H,A,i⟩:=h;obtain⟨u,ad,cap,g1,g2,g3,g4,g5,I,v,ag⟩:=aV;have cN:=hide cL;have dV:=(kH g1).1;have B:=BY g1 g2 g3 H g4 g5 I;have ca:=jp v ag A i;have cO:=Gb (S:=S) g1 ⟨g2,H,g3⟩ V V;have cb:ay (S.ie a=if S.fM a=true then 3 else 0):=rfl;have cc:ay (S.dy a=if S.fM a=true then S else⟨(S.k6 a).s,(S.k5 a).tR (S.cE a,S.q3 a) (S.r3 a),(S.k5 a).ic (S.cE a,S.q3 a) (S.r3 a)⟩):=rfl;go_enter func37,ntmps37;go_wp2_with fail;refine cO.mono ?_;rintro e w1 ⟨c,br,J,cd,rfl,cP,cQ,cR,cS,cU⟩
 have cW:ay (b8 u w cd w1):=⟨Fr.of cU,cS⟩
 have ai:=dq cQ cR;obtain⟨cX,⟨cY,al⟩,cZ⟩:=i2 cP;have al:=al;have c0:=Ft cY al;have c3:ay (∀j t w',(eI c (S.s.j0 a)).J j t w'->cV (S.s.j0 a) t->b8 cX w1 j w'->∃f,(c7 (dP c (S.s.j0 a)) c.bs (.slice br S.r.length J)).J f (t,S.q) w'/\b8 cd w1 f w'):=fun j t w' q1 C q3=>cZ (dP c (S.s.j0 a)) j t w' ⟨q1,C⟩ q3;have c4:=hide (dt.cJ al 12).eX;go_wp2_with fail;refine c0.mono ?_;rintro e c5 ⟨j,rfl,c6,c8⟩
 obtain⟨dW,c9,ce⟩:=c3.o j _ c5 c6 c4.o c8;have cf:=yl (c:=c) rfl c9 (by show S.q.length<=90000;omega)
 have a0:=dq (cW.o.trans ce) ce;go_wp2_with fail;refine cf.mono ?_;clear cf;rintro e g ⟨bb,rfl,P,bd⟩
 have P:=P;obtain⟨dY,⟨⟨dZ,d0,da⟩,d1⟩,_⟩:=i2 P;obtain⟨_,_,_,_,cg,_⟩:=ey da;have db:=aQ g _ cg;have hd:=(av g).drew;have D:ay ((c7 (dP c (S.s.j0 a)) c.bs (.slice br S.r.length J)).J bb (S.j2 a) g.drew/\b8 u w bb g.drew/\g.drew.ownsRow 0 103 2 (.slice br S.r.length J) S.r.length (ev S.r)/\(∀b,bb b->b<g.heap.size)/\w.heap.size<=g.heap.size):=by
  have ch:=a0.o.2.trans bd;refine⟨(c7 (dP c (S.s.j0 a)) c.bs (.slice br S.r.length J)).below P hd,(a0.o.1.trans bd).below hd,?_,(c7 (dP c (S.s.j0 a)) c.bs (.slice br S.r.length J)).lt P,(a0.o.1.trans bd).fr.size⟩
  exact cH ai.o.1 (fun b e=>(hd.block b (aM (cn ai.o.1 b e).2 ch.fr.size)).trans (ch.fr.block b (cn ai.o.1 b e).2 (ai.o.2 b e).1))
 have dc:(S.j2 a).2.length+S.r.length<=90000:=by have:(S.j2 a).2.length=S.q.length:=pd _ _ _;omega
 have dd:ay (∀m,Below g.drew.heap.size g.drew m->m.heap[g.heap.size]?=some (dl c)->m.heap[g.heap.size+1]?=some (jv (l4 c))->Calls prog 78 #[aj c.bs,.agg #[(iV g.heap.size).v,(ia (g.heap.size+1)).v,(jg c).v]] m fun e w'=>∃a1 c1 f,e=.returned (.tuple #[])/\(c7 (dP c (S.s.j0 a)) c.bs (.slice a1 (S.r3 a).length c1)).J f (S.cA a,S.q3 a) w'/\w'.ownsRow 0 103 2 (.slice a1 (S.r3 a).length c1) (S.r3 a).length (ev (S.r3 a))/\(∀b,some b=(Value.slice a1 (S.r3 a).length c1).ownBlock->¬f b/\m.heap.size<=b)/\b8 u w f w'/\w.heap.size<=m.heap.size):=fun m E be bg=>by
  have hs:g.drew.heap.size=g.heap.size:=rfl;refine(Fs (t:=S.j2 a) (r:=S.r) rfl ((c7 (dP c (S.s.j0 a)) c.bs (.slice br S.r.length J)).below D.o.1 E) (cH D.o.2.2.1 (fun b e=>E.block b (cn D.o.2.2.1 b e).2)) dc g.heap.size (g.heap.size+1) V be bg (fun d=>by have:=D.o.2.2.2.1 _ d;omega) (fun d=>by have:=D.o.2.2.2.1 _ d;omega)).mono ?_;rintro e w' ⟨a1,c1,f,rfl,q1,C,q3,de,df⟩
  have bi:=D.o.2.1.below E;have d2:=D.o.2.2.2.2;have d3:=E.size;refine⟨a1,c1,f,rfl,q1,C,q3,⟨bi.fr.trans de (fun b d=>?_),fun b d=>?_⟩,V⟩
  ·rcases d with d|d|d
   ·exact bi.sub b d
   ·exact aJ V
   ·exact aJ V
  ·exact(df b d).elim (bi.sub b) (fun d=>aJ V)
 go_wp2_with fail
 go_region_held3 (fun w'=>w'.cell? (aq c.pk 4)=some (aj c.bs)) (go_keep)
  (first
    |(go_at_call 79;refine(tC (l4 c) g.drew c.pk).mono ?_;rintro e m ⟨rfl,be,bg,E⟩;have d4:=(E.cell (p:=aq c.pk 4) db).trans cg;have bl:=g6 be bg E)
    |(go_at_call 78;refine(dd.o m bl.o.2.2 bl.o.1 bl.o.2.1).mono ?_;rintro e dg ⟨a1,c1,dh,rfl,ci,di,cj,dj,dk⟩;obtain⟨_,⟨⟨ck,cl,Q⟩,_⟩,_⟩:=i2 ci;obtain⟨_,_,_,_,d5,_⟩:=ey Q;have K:ay (_/\_/\(∀b,some b=(Value.slice a1 (S.r3 a).length c1).ownBlock->¬dh b/\w.heap.size<=b)/\_):=⟨ci,di,fun b e=>⟨(cj b e).1,aT dk (cj b e).2⟩,dj⟩))
 all_goals
  obtain⟨Fm,⟨⟨ck,cl,Q⟩,R⟩,dm⟩:=i2 K.o.1;have R:=R;have Q:=Q;have cm:=FA Q R.tl R.ps;have dn:=hide (R.pl V)
  have co:ay (((S.s.j0 a).pl (S.cA a)).2-(S.s.j0 a).a.N=S.n4 a/\((S.s.j0 a).pl (S.cA a)).1=S.cE a):=⟨rfl,rfl⟩
  rw[co.o.1,co.o.2] at cm;have dp:ay (∀j w' vt L,(cT c (S.s.j0 a) vt L).J j (S.cE a) w'->b8 Fm dg j w'->_):=fun j w' vt L q1 q3=>dm (dP c (S.s.j0 a)) j (S.cE a) w' ⟨⟨vt,L,q1⟩,dn.o⟩ q3;go_wp2_with fail;refine cm.mono ?_;rintro e am ⟨dr,rfl,cp,ds⟩
  obtain⟨an,du,bn⟩:=dp.o dr am ck cl cp ds;have cq:=Fw cp;have dv:ay ((S.s.j0 a).a.O=a.O):=rfl;rw[dv.o] at cq;have U:ay ((c7 (dP c (S.s.j0 a)) c.bs (.slice a1 (S.r3 a).length c1)).J an (S.cE a,S.q3 a) am/\b8 u w an am/\am.ownsRow 0 103 2 (.slice a1 (S.r3 a).length c1) (S.r3 a).length (ev (S.r3 a))/\∀b,some b=(Value.slice a1 (S.r3 a).length c1).ownBlock->¬an b):=by refine⟨du,K.o.2.2.2.trans bn,hP K.o.2.1 bn.fr (fun b e=>(K.o.2.2.1 b e).1),fun b e d=>(bn.sub b d).elim (K.o.2.2.1 b e).1 (fun d=>by have:=(cn K.o.2.1 b e).2;omega)⟩
  go_wp2_with fail;refine cq.mono ?_;rintro e ao ⟨rfl,bo⟩
  have n:=jp ((c7 (dP c (S.s.j0 a)) c.bs (.slice a1 (S.r3 a).length c1)).below U.o.1 bo) (U.o.2.1.below bo) (cH U.o.2.2.1 (fun b e=>bo.block b (cn U.o.2.2.1 b e).2)) U.o.2.2.2;by_cases bp:(a.O:Int)<S.n4 a
  ·have M:S.fM a=true:=bh bp;have bs:ay (∃f,(fL a).J f (S.dy a) ao/\b8 F w f ao):=by
    have W:=cc.o;rw[aI M] at W;rw[W];obtain⟨_,⟨⟨vt,L,cr⟩,_⟩,_⟩:=i2 n.o.1;obtain⟨d6,d7,d8,⟨⟨vt,L,cr⟩,_⟩,_,_,bt,_⟩:=n.o.1;obtain⟨l,q1,C⟩:=y7 cr;have q1:=q1;have T:b8 u w l ao:=n.o.2.1.less (fun b d=>bt b (C b d))
    obtain⟨g1,g2,g3,H,g4,g5,I⟩:=B.o;obtain⟨v,ag,A,i⟩:=ca.o;obtain⟨d9,_,eb⟩:=i2 (o:=dX a) (F:=cM) (t:=(S.s,S.q)) (w:=w) (p:=a.sd) (vr:=.slice ar S.r.length ab) ⟨u,ad,cap,g1,g2,g3,g4,g5,I,v,ag⟩
    have cs:=lt_of_some g2;refine⟨fun b=>(l b\/b=a.sd\/some b=(Value.slice ad S.q.length cap).ownBlock)\/some b=(Value.slice ar S.r.length ab).ownBlock,⟨fun b=>l b\/b=a.sd\/some b=(Value.slice ad S.q.length cap).ownBlock,ar,ab,⟨l,ad,cap,q1,(T.fr.block _ cs I).trans g2,hP g3 T.fr (fun b e=>(v b e).2),fun b d=>aK d,aJ (aK rfl),fun d=>(T.sub _ d).elim I (fun d=>by omega),fun b e=>⟨aJ (aJ e),fun d=>(T.sub b d).elim (v b e).2 (fun d=>by have:=(cn g3 b e).2;omega)⟩,fun b d=>?_⟩,hP H T.fr (fun b e d=>A b e (g4 b d)),fun b e d=>?_,fun b=>Iff.rfl⟩,⟨T.fr.mono (fun b d=>(i b).2 (aK (g4 b d))),fun b d=>?_⟩⟩
    ·rcases d with d|d|d
     ·exact(dX a).lt q1 b d
     ·have:=T.fr.size;omega
     ·have:=(cn g3 b d).2;have:=T.fr.size;omega
    ·have ec:=(cn H b e).2;rcases d with d|d|d
     ·exact(T.sub b d).elim (fun d=>A b e (g4 b d)) (fun d=>by omega)
     ·exact A b e (by rw[d];exact g5)
     ·exact A b e (v b d).1
    ·rcases d with(d|d|d)|d
     ·exact(T.sub b d).imp (fun d=>(i b).2 (aK (g4 b d))) id
     ·exact aK ((i b).2 (aK (by rw[d];exact g5)))
     ·exact aK ((i b).2 (aK (v b d).1))
     ·exact aK ((i b).2 (aJ d))
   have X:=cb.o;rw[aI M] at X;have bx:=hide X;have ed:decide ((a.O:Int)<S.n4 a)=true:=bh bp;go_wp2_with fail;go_ret;obtain⟨f,bY,j2⟩:=bs.o;exact⟨f,by rw[bx.o];rfl,bY,j2⟩
  ·have M:S.fM a=false:=bq bp;obtain⟨ct,dw,dx⟩:=cN.o M;have cv:ay (iC (S.k5 a) (S.dC a) ct/\ct 0 (S.k5 a,0)):=⟨dw,dx⟩
   have dy:(S.q3 a).length+(S.r3 a).length<=90000:=by have aV:=qH (dI cu) (fun s x=>(S.s.j0 a).al s.1 x) (S.s.j0 a).ke (fun s x=>(S.s.j0 a).nw s.1 x) (fun s x=>qB (S.s.j0 a) s x) (S.j2 a) S.r;have dz:(dI cu).wt (S.j2 a)=(S.j2 a).2:=rfl;have dA:S.r3 a=eO (dI cu) (fun s x=>(S.s.j0 a).al s.1 x) (S.s.j0 a).ke (fun s x=>(S.s.j0 a).nw s.1 x) (S.j2 a) S.r:=rfl;have dB:S.q3 a=eP (dI cu) (fun s x=>(S.s.j0 a).al s.1 x) (S.s.j0 a).ke (fun s x=>(S.s.j0 a).nw s.1 x) (S.j2 a) S.r:=rfl;rw[dz,<-dA,<-dB] at aV;omega
   have dC:¬an a.sd:=fun d=>(n.o.2.1.sub _ d).elim B.o.2.2.2.2.2.2 (fun d=>by have:=lt_of_some B.o.2.1;omega)
   have cw:=FM (k:=S.s.j0 a) (t:=(S.cE a,S.q3 a)) rfl n.o.1 n.o.2.2.1 n.o.2.2.2 dy (v1:=.slice ar S.r.length ab) (v2:=.slice ad S.q.length cap) ((n.o.2.1.fr.block a.sd (lt_of_some B.o.2.1) B.o.2.2.2.2.2.2).trans B.o.2.1) dC;have dD:ay ((S.s.j0 a).e3 (S.cE a)=S.k5 a):=rfl;rw[dD.o] at cw;go_wp2_with fail;refine cw.mono ?_;rintro e cx ⟨a2,c2,dE,rfl,dF,cy,cz,dG,dH,dJ,dK⟩
   have dL:ay (Fr (fun b=>u b\/b=a.sd) w cx/\(∀b,dE b->u b\/w.heap.size<=b)/\w.heap.size<=ao.heap.size):=by
    have T:=n.o.2.1;have z:=T.fr.size;refine⟨(T.fr.mono (fun b d=>aK d)).trans dJ (fun b d=>?_),fun b d=>(dK b d).elim (T.sub b) (fun d=>aJ V),z⟩
    rcases d with d|d
    ·exact(T.sub b d).imp aK id
    ·exact aK (aJ d)
   obtain⟨cA,ap,aB,⟨⟨vt,L,bZ⟩,aF⟩,b0,cB,bt,ee,ef,cC,dM⟩:=dF;have bZ:=bZ;have aF:=aF;have cD:=F0 cv.o.1 cv.o.2 bZ aF.tl aF.ps;have dN:ay ((S.k5 a).sl (S.dC a)=S.k6 a):=rfl;rw[dN.o] at cD;obtain⟨Y,cE⟩:∃Y,(S.k5 a).tR (S.cE a,S.q3 a) (S.r3 a)=Y:=⟨_,rfl⟩
   obtain⟨N,cF⟩:∃N,(S.k5 a).ic (S.cE a,S.q3 a) (S.r3 a)=N:=⟨_,rfl⟩
   rw[cE] at cy cz b0;rw[cF] at b0 cB cC;have dO:=BX (dG.trans b0) cB bt dH cC dM;have dQ:=dq cy cz;have cG:ay ((S.k5 a).tR (S.cE a,S.q3 a) (S.r3 a)=Y/\(S.k5 a).ic (S.cE a,S.q3 a) (S.r3 a)=N):=⟨cE,cF⟩
   go_wp2_with fail;refine cD.mono ?_;rintro e cI ⟨eg,rfl,dR,O⟩
   have bs:ay (∃f,(fL a).J f (S.dy a) cI/\b8 F w f cI):=by
    have W:=cc.o;rw[aG (by rw[M];simp),cG.o.1,cG.o.2] at W;rw[W];obtain⟨l,q1,C⟩:=y7 dR;have ea:(S.k6 a).a=a:=by have dS:S.k6 a=(S.k5 a).sl (S.dC a):=rfl;have dT:S.k5 a=(S.s.j0 a).e3 (S.cE a):=rfl;rw[dS,Gj,dT,Gh];rfl
    rw[ea] at q1;obtain⟨b1,b2,b3,b4,b5,b6⟩:=dO.o;obtain⟨r1,b7⟩:=dQ.o;obtain⟨cJ,b9,t3⟩:=dL.o;obtain⟨g1,g2,g3,H,g4,g5,I⟩:=B.o;obtain⟨v,ag,A,i⟩:=ca.o;have cs:=lt_of_some g2;have eh:=cJ.size;have ei:=O.fr.size;have aR:∀b,l b->cA b\/cx.heap.size<=b:=fun b d=>O.sub b (C b d)
    have cK:¬cA a.sd:=fun d=>b4 (b3 _ d)
    have dU:∀b,some b=(Value.slice a2 Y.length c2).ownBlock->¬(l b\/b=a.sd\/some b=(Value.slice ap N.length aB).ownBlock):=fun b e d=>by
     have q:=b7 b e;rcases d with d|d|d
     ·exact(aR b d).elim (fun d=>q.1 (b3 b d)) (fun d=>by have:=(cn r1 b e).2;omega)
     ·omega
     ·exact q.1 (b5 b d).1
    refine⟨fun b=>(l b\/b=a.sd\/some b=(Value.slice ap N.length aB).ownBlock)\/some b=(Value.slice a2 Y.length c2).ownBlock,⟨fun b=>l b\/b=a.sd\/some b=(Value.slice ap N.length aB).ownBlock,a2,c2,⟨l,ap,aB,q1,(O.fr.block _ V cK).trans b1,hP b2 O.fr (fun b e=>(b5 b e).2),fun b d=>aK d,aJ (aK rfl),fun d=>(aR _ d).elim cK (fun d=>by omega),fun b e=>⟨aJ (aJ e),fun d=>(aR b d).elim (b5 b e).2 (fun d=>by have:=(cn b2 b e).2;omega)⟩,fun b d=>?_⟩,hP r1 O.fr (fun b e d=>(b7 b e).1 (b3 b d)),dU,fun b=>Iff.rfl⟩,⟨(cJ.trans O.fr (fun b d=>(b9 b (b3 b d)).imp aK id)).mono (fun b d=>?_),fun b d=>?_⟩⟩
    ·rcases d with d|d|d
     ·exact(dX a).lt q1 b d
     ·omega
     ·have:=(cn b2 b d).2;omega
    ·rcases d with d|d
     ·exact(i b).2 (aK (g4 b d))
     ·exact(i b).2 (aK (by rw[d];exact g5))
    ·rcases d with(d|d|d)|d
     ·rcases aR b d with d|d
      ·exact(b9 b (b3 b d)).imp (fun d=>(i b).2 (aK (g4 b d))) id
      ·exact aJ V
     ·exact aK ((i b).2 (aK (by rw[d];exact g5)))
     ·exact(b9 b (b5 b d).1).imp (fun d=>(i b).2 (aK (g4 b d))) id
     ·have:=(b7 b d).2;exact aJ V
   have X:=cb.o;rw[aG (by rw[M];simp)] at X;have bx:=hide X;go_wp2_with fail;go_ret;obtain⟨f,bY,j2⟩:=bs.o;exact⟨f,by rw[bx.o];rfl,bY,j2⟩
end
theorem d4.next {L:Int->Int}{hi:Int}:∀{l:List Int}{a:Int},d4 L hi a l->∀x∈l,x+(1+pf (L x))∈l\/x+(1+pf (L x))=hi
 |[],_,_,x,b=>by cases b
 |y::l,a,h,x,b=>by
  obtain⟨e,_,_,ht⟩:=h;rcases List.mem_cons.1 b with c|c
  ·subst c;subst e
   match l,ht with
   |[],ht=>exact aJ ht
   |f::g,ht=>
    obtain⟨d,_⟩:=ht;exact aK (by rw[<-d];simp)
  ·exact(d4.next ht x c).imp (aO _) id
theorem y8 {L:Int->Int}{hi:Int}:∀{l m:List Int}{a x y:Int},d4 L hi a (l++m)->x∈l->y∈m->x<y
 |[],_,_,_,_,_,b,_=>by cases b
 |d::l,m,a,x,y,h,b,hy=>by
  obtain⟨e,_,_,ht⟩:=h;have hp:=dj (L a)
  rcases List.mem_cons.1 b with c|c
  ·have:=(ht.mem y (a9 l hy)).1;omega
  ·exact y8 ht c hy
structure LI (k:ce)(z:C0)(s:cj)(H D:List Int):Prop where
 mi:dE k z s H
 bo:s.nx∈H\/s.nx=(k.N:Int)+s.g
 lo:∀b∈H,b<s.nx->Lo k s b
 ld:∀b∈D,Lo k s b
 dg:∀b∈D,b∈z.G
section
variable {k:ce}{z:C0}{s t:cj}{H D:List Int}
theorem LI.kG (h:LI k z s H D)(hn:hB k.N s.g s.nx=true):∃d,LI k z {k.lk s s.nx with nx:=s.nx+(1+pf (k.ld s s.nx))} d D/\dh k s {k.lk s s.nx with nx:=s.nx+(1+pf (k.ld s s.nx))}/\∃g,d=H++g:=by
 have hb:=jq hn;have e:=h.bo.resolve_right V;obtain⟨a,ho⟩:=h.mi.from (a9 z.G e)
 have B:=dj (k.ld s s.nx)
 have hg:=h.mi.ci.hg;obtain⟨d,m1,f,⟨g,i⟩,u,v,w⟩:=h.mi.lk ho;have m:=h.mi.hd a _ ho;have n:=m1.hd a _ (f.or ho)
 have hlo:=h.mi.hlo _ e;have x:∀b∈g,s.nx<b:=fun b c=>y8 (by have:=m1.full.ec;rw[i,<-ba] at this;exact this) (a9 z.G e) c;have p:∀b,b∈H->b∈d:=fun b c=>by rw[i];exact aX _ c
 have keep:∀b,(∃a,k.or z s a b)->Lo k s b->Lo k {k.lk s s.nx with nx:=s.nx+(1+pf (k.ld s s.nx))} b:=fun b ⟨a,o⟩ l=>by
  have l2:=Lo.go l h.mi m1 f o (v b) (w b)
  exact l2
 refine⟨d,⟨(m1.turn _ _ _ _ m1.ci.ix m1.ci.h7 V V),?_,fun b c lt=>?_,fun b c=>keep b ⟨b,aK ⟨rfl,h.dg b c⟩⟩ (h.ld b c),h.dg⟩,⟨f.f,f.g,f.cl⟩,g,i⟩
 ·have q:=d4.next m1.full.ec s.nx (a9 z.G (p _ e))
  have j:Proofs.YtpkjkjhanlbcoaaGreat.ld k.N k.y (k.lk s s.nx).g (k.lk s s.nx).ws s.nx=k.ld s s.nx:=n.trans m.symm;rw[j] at q;rcases q with c|c
  ·rcases List.mem_append.1 c with c|c
   ·have:=h.mi.kI _ c;omega
   ·exact aK c
  ·exact aJ c
 ·dsimp only at lt;by_cases A:b=s.nx
  ·subst A;exact u
  ·by_cases lb:b<s.nx
   ·have t:b∈H:=by
     rw[i] at c;rcases List.mem_append.1 c with c|c
     ·exact c
     ·exact absurd (x b c) V
    exact keep b (h.mi.from (a9 z.G t)) (h.lo b t lb)
   ·have ap:=m1.full.ec.apart s.nx (a9 z.G (p _ e)) b (a9 z.G c) V;have j:Proofs.YtpkjkjhanlbcoaaGreat.ld k.N k.y (k.lk s s.nx).g (k.lk s s.nx).ws s.nx=k.ld s s.nx:=n.trans m.symm;rw[j] at ap;omega
end
section
variable {k:ce}{z:C0}{s t:cj}{H D:List Int}
theorem LI.lift (h:LI k z s H D){K:List Int}(ht:dE k z t K)(p:dh k s t)(hw:t.wk=s.wk)(he:t.ep=s.ep)(hn:t.nx=s.nx)(hb:t.nx∈K\/t.nx=(k.N:Int)+t.g)(f:∀b∈K,b<t.nx->b∈H):LI k z t K D:=
 ⟨ht,hb,fun b d lt=>by
  have e:=f b d lt;obtain⟨a,o⟩:=h.mi.from (a9 z.G e)
  exact Lo.go (h.lo b e (by rw[<-hn];exact lt)) h.mi ht p o (fun c=>by rw[hw];exact c) (fun c=>by rw[he];exact c),fun b d=>Lo.go (h.ld b d) h.mi ht p (aK ⟨rfl,h.dg b d⟩) (fun c=>by rw[hw];exact c) (fun c=>by rw[he];exact c),h.dg⟩
theorem LI.y9 (h:LI k z s H D):s.nx<=(k.N:Int)+s.g:=by
 rcases h.bo with b|b
 ·have:=(h.mi.i5 b).2;omega
 ·omega
theorem LI.cp (h:LI k z s H D){a:Int}(ha:a∈k.T)(e:s.f a=-1):LI k z (k.cp s a) (H++[((k.N+s.g:Nat):Int)]) D/\dh k s (k.cp s a):=by
 obtain⟨m1,d,_⟩:=h.mi.cp ha e;have f:=h.y9;refine⟨h.lift m1 d rfl rfl rfl ?_ (fun b c lt=>?_),d⟩
 ·show s.nx∈_\/_;rcases h.bo with c|c
  ·exact aK (aX _ c)
  ·exact aK (a9 _ (by rw[c];simp))
 ·have g:b<s.nx:=lt;rcases List.mem_append.1 c with c|c
  ·exact c
  ·rw[bv] at c;omega
theorem LI.br (h:LI k z s H D)(x:Int):∃f,LI k z (k.br s x).2 f D/\dh k s (k.br s x).2/\(∃j,f=H++j)/\k.cK (k.br s x).1=false/\(∀g,k.ml s g x->k.ml (k.br s x).2 g (k.br s x).1):=by
 obtain⟨_,_,_,i,_,b,_⟩:=h.mi.br x;cases hls:k.ls s x
 ·have e:(k.br s x).2=s:=by unfold ce.br;rw[hls];rfl
  rw[e] at b⊢;exact⟨H,h,dh.refl _ _,⟨[],Z⟩,i,b⟩
 ·have e:(k.br s x).2=k.cp s (cg x):=by unfold ce.br;rw[aI hls]
  have c:=hls;unfold ce.ls at c;rw[a_] at c;have d:=c.1;unfold ce.cK at d;rw[a_] at d;obtain⟨l,j2⟩:=h.cp (by simpa using d.2) (by simpa using c.2)
  rw[e] at b⊢;exact⟨_,l,j2,⟨_,rfl⟩,i,b⟩
theorem LI.kf (h:LI k z s H D){a b i:Int}(ho:k.or z s a b)(d:0<=i)(e:i<pf (k.l0 z a)):∃c,LI k z (k.kf s (b+1+i)) c D/\dh k s (k.kf s (b+1+i))/\k.cK (k.ld (k.kf s (b+1+i)) (b+1+i))=false/\∃j,c=H++j:=by
 obtain⟨c,m1,f,l,g,m⟩:=h.br _;obtain⟨s1,s2,o⟩:=m1.mi.st (f.or ho) d e (m _ (h.mi.fd a b ho i d e))
 have p:=dh.st (a:=b+1+i) m1.mi.ci g;refine⟨c,m1.lift s1 p rfl rfl rfl m1.bo (fun b n _=>n),f.trans p,?_,l⟩
 unfold ce.kf;rw[s2];exact g
end
section
variable {k:ce}{z:C0}{s t:cj}{H D:List Int}
theorem l7 (k:ce)(s:cj)(x:Int):(k.br s x).2.rs=s.rs/\(k.br s x).2.wk=s.wk/\(k.br s x).2.ep=s.ep/\(k.br s x).2.nx=s.nx:=by unfold ce.br;split<;>exact⟨rfl,rfl,rfl,rfl⟩
theorem LI.roots (h:LI k z s H D)(rs:List Int):LI k z {s with rs:=rs} H D:=
 h.lift (h.mi.turn s.wk s.ep rs s.nx h.mi.ci.ix h.mi.ci.h7 h.mi.ci.g8 h.mi.ci.js) (dh.turn k s s.wk s.ep rs s.nx) rfl rfl rfl h.bo (fun _ b _=>b)
theorem LI.cJ (h:LI k z s H D):∀n:Nat,n<=s.rs.length->∃d,LI k z (k.cJ s n) d D/\dh k s (k.cJ s n)/\(∃b,d=H++b)/\(k.cJ s n).rs.length=s.rs.length/\(∀i,i<n->k.cK ((k.cJ s n).rs.getD i 0)=false)/\(∀i,n<=i->(k.cJ s n).rs.getD i 0=s.rs.getD i 0)/\∀i,i<n->k.ml (k.cJ s n) (s.rs.getD i 0) ((k.cJ s n).rs.getD i 0)
 |0,_=>⟨H,h,dh.refl _ _,⟨[],Z⟩,rfl,fun i hi=>V,fun _ _=>rfl,fun i hi=>V⟩
 |n+1,hn=>by
  obtain⟨v,m1,l,⟨b,m⟩,f,o,g,p⟩:=LI.cJ h n V;obtain⟨q,t,j2,⟨u,cA⟩,cE,dC⟩:=m1.br _;obtain⟨r1,_⟩:=l7 k _ _;have hl:n<(k.br (k.cJ s n) ((k.cJ s n).rs.getD n 0)).2.rs.length:=by rw[r1,f];omega
  have c:∀i,((k.br (k.cJ s n) ((k.cJ s n).rs.getD n 0)).2.rs.set n (k.br (k.cJ s n) ((k.cJ s n).rs.getD n 0)).1).getD i 0=if n=i then(k.br (k.cJ s n) ((k.cJ s n).rs.getD n 0)).1 else(k.cJ s n).rs.getD i 0:=fun i=>by rw[j9 _ _ _ _ hl,r1]
  have j:=dh.turn k (k.br (k.cJ s n) ((k.cJ s n).rs.getD n 0)).2 (k.br (k.cJ s n) ((k.cJ s n).rs.getD n 0)).2.wk (k.br (k.cJ s n) ((k.cJ s n).rs.getD n 0)).2.ep ((k.br (k.cJ s n) ((k.cJ s n).rs.getD n 0)).2.rs.set n (k.br (k.cJ s n) ((k.cJ s n).rs.getD n 0)).1) (k.br (k.cJ s n) ((k.cJ s n).rs.getD n 0)).2.nx;refine⟨q,t.roots _,l.trans (j2.trans j),⟨b++u,by rw[cA,m,ba]⟩,?_,fun i hi=>?_,fun i hi=>?_,fun i hi=>?_⟩
  ·show(List.set _ _ _).length=_;rw[a4,r1,f]
  ·show k.cK ((List.set _ _ _).getD i 0)=false;rw[c];split
   ·exact cE
   ·exact o i V
  ·show(List.set _ _ _).getD i 0=_;rw[c,aG V];exact g i V
  ·show k.ml _ _ ((List.set _ _ _).getD i 0)
   rw[c];by_cases e:n=i
   ·rw[aI e];subst e;exact dC _ (aK (g n bW))
   ·rw[aG e];exact(j2.trans j).ml (p i V)
end
theorem y_ {L c:Int->Int}{hi d:Int}:∀{l m:List Int}{a:Int},d4 L hi a l->d4 c d a (l++m)->(∀x∈l,c x=L x)->(hi∈m\/hi=d)/\∀y∈m,hi<=y
 |[],m,a,h,b,_=>by
  have e:=h;subst e;refine⟨?_,fun y hy=>(b.mem y hy).1⟩
  match m,b with
  |[],b=>exact aJ b
  |y::n,b=>
   obtain⟨i,_⟩:=b;exact aK (by rw[<-i];simp)
 |j::l,m,a,h,b,he=>by obtain⟨e,_,_,ht⟩:=h;obtain⟨_,_,_,f⟩:=b;have g:=he j Z;rw[e] at g;rw[g] at f;exact y_ ht f (fun x k=>he x (aO _ k))
section
variable {k:ce}{z:C0}{s t:cj}{H D:List Int}
theorem LI.lk (h:LI k z s H D){b:Int}(hb:b∈z.G):∃g,LI k z (k.lk s b) g (b::D)/\dh k s (k.lk s b)/\∃j,g=H++j:=by
 obtain⟨g,m1,i,⟨j,f⟩,q,l,m⟩:=h.mi.lk (aK ⟨rfl,hb⟩)
 obtain⟨n,u⟩:=qG k s b;have tm:=y_ h.mi.full.ec (by have:=m1.full.ec;rw[f,<-ba] at this;exact this) (fun x t=>by obtain⟨a,o⟩:=h.mi.from t;exact(m1.hd a x (i.or o)).trans (h.mi.hd a x o).symm)
 have v:=h.y9;refine⟨g,⟨m1,?_,fun c d lt=>?_,fun c d=>?_,fun c d=>?_⟩,i,j,f⟩
 ·rw[n];rcases h.bo with d|d
  ·exact aK (by rw[f];exact aX _ d)
  ·rw[d];exact tm.1.imp (fun e=>by rw[f];exact a9 _ e) id
 ·rw[n] at lt;have p:c∈H:=by
   rw[f] at d;rcases List.mem_append.1 d with d|d
   ·exact d
   ·have:=tm.2 c d;omega
  obtain⟨a,o⟩:=h.mi.from (a9 z.G p)
  exact Lo.go (h.lo c p lt) h.mi m1 i o (l c) (m c)
 ·rcases List.mem_cons.1 d with d|d
  ·rw[d];exact q
  ·exact Lo.go (h.ld c d) h.mi m1 i (aK ⟨rfl,h.dg c d⟩) (l c) (m c)
 ·rcases List.mem_cons.1 d with d|d
  ·rw[d];exact hb
  ·exact h.dg c d
end
structure dL (k:ce)(z:C0)(s:cj)(H:List Int):Prop where
 wk:∀a∈s.wk,a∈z.G++H/\pk (k.ld s a)=3
 ep:∀a∈s.ep,a∈z.G++H/\pk (k.ld s a)=4
section
variable {k:ce}{z:C0}{s t:cj}{H K D:List Int}
theorem dh.hd (p:dh k s t)(h:dE k z s H)(ht:dE k z t K){b:Int}(hb:b∈z.G++H):k.ld t b=k.ld s b:=by obtain⟨a,o⟩:=h.from hb;exact(ht.hd a b (p.or o)).trans (h.hd a b o).symm
theorem kK {G H K:List Int}{x:Int}(h:∃b,K=H++b)(c:x∈G++H):x∈G++K:=by obtain⟨b,e⟩:=h;rw[e,<-ba];exact aX _ c
theorem dL.go (w:dL k z s H)(h:dE k z s H)(ht:dE k z t K)(p:dh k s t)(c:∃d,K=H++d)(e:t.wk=s.wk)(f:t.ep=s.ep):dL k z t K:=
 ⟨fun a ha=>by
  rw[e] at ha;obtain⟨m1,b⟩:=w.wk a ha;exact⟨kK c m1,by rw[p.hd h ht m1];exact b⟩,fun a ha=>by
  rw[f] at ha;obtain⟨m1,b⟩:=w.ep a ha;exact⟨kK c m1,by rw[p.hd h ht m1];exact b⟩⟩
theorem za (k:ce)(s:cj)(b:Int):((k.lk s b).wk=s.wk\/(pk (k.ld s b)=3/\(k.lk s b).wk=s.wk++[b]))/\((k.lk s b).ep=s.ep\/(pk (k.ld s b)=4/\(k.lk s b).ep=s.ep++[b])):=by
 unfold ce.lk;split
 ·exact⟨aK (m_ _ _ _ _).1,aK (m_ _ _ _ _).2.1⟩
 ·split
  ·rename_i e;exact⟨aJ ⟨e,(jS _ _ _).1⟩,aK (jS _ _ _).2.1⟩
  ·split
   ·rename_i e;exact⟨aK rfl,aJ ⟨e,rfl⟩⟩
   ·exact⟨aK rfl,aK rfl⟩
theorem dL.lk (w:dL k z s H)(h:dE k z s H){b:Int}(hb:b∈z.G++H)(ht:dE k z (k.lk s b) K)(p:dh k s (k.lk s b))(f:∃i,K=H++i):dL k z (k.lk s b) K:=by
 obtain⟨c1,c2⟩:=za k s b;refine⟨fun a ha=>?_,fun a ha=>?_⟩
 ·rcases c1 with e|⟨g,e⟩
  ·rw[e] at ha;obtain⟨m1,d⟩:=w.wk a ha;exact⟨kK f m1,by rw[p.hd h ht m1];exact d⟩
  ·rw[e] at ha;rcases List.mem_append.1 ha with c|c
   ·obtain⟨m1,d⟩:=w.wk a c;exact⟨kK f m1,by rw[p.hd h ht m1];exact d⟩
   ·rw[bv] at c;subst c;exact⟨kK f hb,by rw[p.hd h ht hb];exact g⟩
 ·rcases c2 with e|⟨g,e⟩
  ·rw[e] at ha;obtain⟨m1,d⟩:=w.ep a ha;exact⟨kK f m1,by rw[p.hd h ht m1];exact d⟩
  ·rw[e] at ha;rcases List.mem_append.1 ha with c|c
   ·obtain⟨m1,d⟩:=w.ep a c;exact⟨kK f m1,by rw[p.hd h ht m1];exact d⟩
   ·rw[bv] at c;subst c;exact⟨kK f hb,by rw[p.hd h ht hb];exact g⟩
theorem LI.qJ (h:LI k z s H D){b:Int}(hb:b∈z.G++H)(l:pk (k.ld s b)=4):∃f,LI k z (k.kf (k.kf s (b+1)) (b+2)) f D/\dh k s (k.kf (k.kf s (b+1)) (b+2))/\(∃d,f=H++d)/\k.cK (k.ld (k.kf (k.kf s (b+1)) (b+2)) (b+1))=false/\k.cK (k.ld (k.kf (k.kf s (b+1)) (b+2)) (b+2))=false:=by
 obtain⟨a,o⟩:=h.mi.from hb;have m:=h.mi.bd hb;have v:=ih m.2.2 (aJ (aJ l))
 have g:=h.mi.hd a b o;obtain⟨w,m1,c,j,⟨d,n⟩⟩:=h.kf (i:=0) o V (by rw[<-g];omega)
 obtain⟨p,e,j2,cA,⟨q,cE⟩⟩:=m1.kf (i:=1) (c.or o) V (by rw[<-g];omega)
 have t:b+1+0=b+1:=V;have u:b+1+1=b+2:=V;rw[t] at m1 c j e j2 cA;rw[u] at e j2 cA;exact⟨p,e,c.trans j2,⟨d++q,by rw[cE,n,ba]⟩,j2.cl _ V (by have:=c.g;omega) j,cA⟩
theorem LI.du:∀(l left:List Int){s:cj}{H:List Int},LI k z s H D->(∀a∈l,a∈z.G++H/\pk (k.ld s a)=4)->∃n,LI k z (l.foldl k.cP (left,s)).2 n D/\dh k s (l.foldl k.cP (left,s)).2/\(∃t,n=H++t)/\(l.foldl k.cP (left,s)).2.wk=s.wk/\(l.foldl k.cP (left,s)).2.ep=s.ep/\(∀a∈l,a∈(l.foldl k.cP (left,s)).1\/(k.cK (k.ld (l.foldl k.cP (left,s)).2 (a+1))=false/\k.cK (k.ld (l.foldl k.cP (left,s)).2 (a+2))=false))/\(∀a∈left,a∈(l.foldl k.cP (left,s)).1)/\∀a∈(l.foldl k.cP (left,s)).1,a∈left\/a∈l
 |[],left,s,H,h,_=>⟨H,h,dh.refl _ _,⟨[],Z⟩,rfl,rfl,fun a ha=>(by cases ha),fun _ c=>c,fun _ c=>aK c⟩
 |b::l,left,s,H,h,hl=>by
  rw[a8];cases hls:k.ls s _
  ·have e:k.cP (left,s) b=(left,k.kf (k.kf s (b+1)) (b+2)):=by unfold ce.cP;rw[aG (by rw[hls];simp)]
   rw[e];obtain⟨o,p⟩:=hl b Z;obtain⟨J,m1,f,q,u,v⟩:=h.qJ o p;obtain⟨g,i,j2,cA,cE,dC,j,d,m⟩:=LI.du l left m1 (fun a ha=>by
    obtain⟨n1,w⟩:=hl a (aO _ ha)
    exact⟨kK q n1,by rw[f.hd h.mi m1.mi n1];exact w⟩)
   obtain⟨w1,x,_⟩:=jS k s (b+1)
   obtain⟨A,B,_⟩:=jS k _ (b+2)
   have C:=h.mi.bd o;have K:=ih C.2.2 (aJ (aJ p))
   have hg:=f.g;refine⟨g,i,f.trans j2,?_,cE.trans (A.trans w1),dC.trans (B.trans x),fun a ha=>?_,d,fun a ha=>(m a ha).imp id (aO _)⟩
   ·obtain⟨E,F⟩:=q;obtain⟨G,I⟩:=cA;exact⟨E++G,by rw[I,F,ba]⟩
   ·rcases List.mem_cons.1 ha with c|c
    ·subst c;exact aJ ⟨j2.cl _ V V u,j2.cl _ V V v⟩
    ·exact j a c
  ·have e:k.cP (left,s) b=(left++[b],s):=by unfold ce.cP;rw[aI hls]
   rw[e];obtain⟨g,i,j2,cA,cE,dC,j,d,m⟩:=LI.du l _ h (fun a ha=>hl a (aO _ ha))
   refine⟨g,i,j2,cA,cE,dC,fun a ha=>?_,fun a c=>d a (aX _ c),fun a ha=>?_⟩
   ·rcases List.mem_cons.1 ha with c|c
    ·exact aK (d a (by rw[c];simp))
    ·exact j a c
   ·rcases m a ha with c|c
    ·rcases List.mem_append.1 c with c|c
     ·exact aK c
     ·rw[bv] at c;exact aJ (by rw[c];simp)
    ·exact aJ (aO _ c)
end
section
variable {k:ce}{z:C0}{s t:cj}{H K D:List Int}
theorem dL.kG (w:dL k z s H)(h:LI k z s H D)(hn:hB k.N s.g s.nx=true)(ht:dE k z {k.lk s s.nx with nx:=s.nx+(1+pf (k.ld s s.nx))} K)(p:dh k s {k.lk s s.nx with nx:=s.nx+(1+pf (k.ld s s.nx))})(d:∃e,K=H++e):dL k z {k.lk s s.nx with nx:=s.nx+(1+pf (k.ld s s.nx))} K:=by have hb:=jq hn;obtain⟨b,_⟩:=qG k s s.nx;have c:=w.lk h.mi (a9 z.G (h.bo.resolve_right V)) (ht.turn (k.lk s s.nx).wk _ _ (k.lk s s.nx).nx ht.ci.ix ht.ci.h7 (by rw[b];exact h.mi.ci.g8) (by rw[b];exact h.mi.ci.js)) ⟨p.f,p.g,p.cl⟩ d;exact⟨c.wk,c.ep⟩
theorem LI.oj:∀(n:Nat){s:cj}{H:List Int},LI k z s H D->dL k z s H->∃c,LI k z (k.lb n s) c D/\dL k z (k.lb n s) c/\dh k s (k.lb n s)/\(∃d,c=H++d)/\(((k.N:Int)+k.O-s.nx).toNat<n->hB k.N (k.lb n s).g (k.lb n s).nx=false)
 |0,s,H,h,w=>⟨H,h,w,dh.refl _ _,⟨[],Z⟩,fun e=>absurd e V⟩
 |n+1,s,H,h,w=>by
  unfold ce.lb;cases hn:hB k.N s.g s.nx
  ·rw[aG Z];exact⟨H,h,w,dh.refl _ _,⟨[],Z⟩,fun _=>hn⟩
  ·obtain⟨l,m1,f,b⟩:=h.kG hn;have w1:=w.kG h hn m1.mi f b;obtain⟨d,b⟩:=b;obtain⟨g,i,kq,j2,⟨j,cA⟩,cE⟩:=LI.oj n m1 w1;refine⟨g,i,kq,f.trans j2,⟨d++j,by rw[cA,b,ba]⟩,fun e=>cE ?_⟩
   have m:=dj (k.ld s s.nx)
   have hb:=jq hn;have hg:=h.mi.ci.hg;dsimp only;omega
theorem Lo.ep {b:Int}(l:Lo k t b)(e:List Int)(hc:b∈t.ep->b∈e\/(k.cK (k.ld t (b+1))=false/\k.cK (k.ld t (b+2))=false))(o:pk (k.ld t b)=4->pf (k.ld t b)=2):Lo k {t with ep:=e} b:=by
 intro i f g;have j:i<pf (k.ld t b):=g;rcases l i f j with d|d|⟨m,n⟩
 ·exact aK d
 ·exact aJ (aK d)
 ·rcases hc n with c|⟨c1,c2⟩
  ·exact aJ (aJ ⟨m,c⟩)
  ·left;rcases(by omega:i=0\/i=1) with e|e
   ·rw[e,show b+1+0=b+1 by omega];exact c1
   ·rw[e,show b+1+1=b+2 by omega];exact c2
theorem LI.kv (h:LI k z s H D)(w:dL k z s H):∃f,LI k z (k.kv s).2 f D/\dL k z (k.kv s).2 f/\dh k s (k.kv s).2/\∃i,f=H++i:=by
 obtain⟨f,c,j2,cA,cE,dC,j,_,l⟩:=LI.du s.ep [] h w.ep;have sub:_:=fun a ha=>(l a ha).elim (fun d=>by cases d) id;have g:=w.go h.mi c.mi j2 cA cE dC;have cl:∀b,b∈(s.ep.foldl k.cP ([],s)).2.ep->_:=fun b hb=>j b (by rw[<-dC];exact hb)
 have two:∀b,b∈z.G++f->pk (k.ld (s.ep.foldl k.cP ([],s)).2 b)=4->_=_:=fun b hb e=>ih (c.mi.bd hb).2.2 (aJ (aJ e))
 refine⟨f,⟨(c.mi.turn _ _ _ _ c.mi.ci.ix (fun a ha=>h.mi.ci.h7 a (sub a ha)) c.mi.ci.g8 c.mi.ci.js),c.bo,fun b d lt=>?_,fun b d=>?_,c.dg⟩,⟨g.wk,fun a ha=>g.ep a (by rw[dC];exact sub a ha)⟩,⟨j2.f,j2.g,j2.cl⟩,cA⟩
 ·exact(c.lo b d lt).ep _ (cl b) (two b (a9 _ d))
 ·exact(c.ld b d).ep _ (cl b) (two b (aX _ (c.dg b d)))
end
def cX (k:ce)(z:C0)(D:List Int)(s t:cj):Prop:=∀H,LI k z s H D->dL k z s H->∃b,LI k z t b D/\dL k z t b/\dh k s t/\∃c,b=H++c
section
variable {k:ce}{z:C0}{s t u:cj}{D:List Int}
theorem cX.refl:cX k z D s s:=fun H h w=>⟨H,h,w,dh.refl _ _,⟨[],Z⟩⟩
theorem cX.trans (h:cX k z D s t)(j:cX k z D t u):cX k z D s u:=fun H l w=>by obtain⟨b,m1,c,d,⟨A,e⟩⟩:=h H l w;obtain⟨f,g,j2,cA,⟨B,cE⟩⟩:=j b m1 c;exact⟨f,g,j2,d.trans cA,⟨A++B,by rw[cE,e,ba]⟩⟩
theorem cX.br (x:Int):cX k z D s (k.br s x).2:=fun _ h w=>by obtain⟨d,m1,b,c,_,_⟩:=h.br x;obtain⟨_,e,f,_⟩:=l7 k s x;exact⟨d,m1,w.go h.mi m1.mi b c e f,b,c⟩
theorem cX.lb (n:Nat):cX k z D s (k.lb n s):=fun _ h w=>by obtain⟨b,m1,c,d,e,_⟩:=LI.oj n h w;exact⟨b,m1,c,d,e⟩
theorem cX.kv:cX k z D s (k.kv s).2:=fun _ h w=>h.kv w
theorem cX.kL:∀(l:List Nat)(t:(cj×List b7)×Bool),cX k z D t.1.1 (l.foldl (dB k.al k.br) t).1.1
 |[],t=>cX.refl
 |i::l,t=>by
  refine cX.trans ?_ (cX.kL l _)
  unfold dB;split
  ·exact cX.refl
  ·exact cX.br _
theorem cX.wa (t:cj×List b7):cX k z D t.1 (k.wa t).1.1:=cX.kL (List.range t.2.length) (t,false)
theorem cX.cW:∀(n:Nat)(t:cj×List b7),cX k z D t.1 (k.cW n t).1
 |0,t=>cX.refl
 |n+1,t=>by
  have b:cX k z D t.1 (k.kv (k.lb (k.O+1) t.1)).2:=(cX.lb (k.O+1)).trans cX.kv;unfold ce.cW;split
  ·exact b.trans (cX.cW n ((k.kv (k.lb (k.O+1) t.1)).2,t.2))
  ·split
   ·exact(b.trans (cX.wa ((k.kv (k.lb (k.O+1) t.1)).2,t.2))).trans (cX.cW n (k.wa ((k.kv (k.lb (k.O+1) t.1)).2,t.2)).1)
   ·exact b.trans (cX.wa ((k.kv (k.lb (k.O+1) t.1)).2,t.2))
theorem cX.sp (t:cj×List b7):cX k z D t.1 (k.sp t).1:=cX.cW _ t
theorem cX.ke (t:cj×List b7)(x:Int):cX k z D t.1 (k.ke t x).2.1:=(cX.br x).trans (cX.sp ((k.br t.1 x).2,t.2))
theorem cX.one (t:cj×List b7)(e:b7):cX k z D t.1 (cm (dI cj) (fun s x=>k.al s.1 x) k.ke t e).2.1:=by
 unfold cm;split
 ·exact cX.ke t e.2
 ·exact cX.refl
theorem cX.part (l:List b7)(t:cj×List b7):cX k z D t.1 (pts (cm (dI cj) (fun s x=>k.al s.1 x) k.ke) t l).2.2.1:=by
 have key:∀(l:List b7)(p:List b7×List b7×(cj×List b7)),cX k z D p.2.2.1 (l.foldl (eh (cm (dI cj) (fun s x=>k.al s.1 x) k.ke)) p).2.2.1:=by
  intro l
  induction l with
  |nil=>exact fun p=>cX.refl
  |cons e l c=>
   intro p;refine cX.trans ?_ (c _)
   have b:=cX.one (k:=k) (z:=z) (D:=D) p.2.2 e;unfold eh;split
   ·exact b
   ·exact b
 exact key l ([],[],t)
theorem cX.turn:∀(n:Nat)(t:cj×List b7)(b:List b7),cX k z D t.1 (eB (cm (dI cj) (fun s x=>k.al s.1 x) k.ke) n t b).1.1
 |0,t,b=>cX.refl
 |n+1,t,b=>by
  unfold eB;split
  ·exact cX.part b t
  ·exact(cX.part b t).trans (cX.turn n _ _)
theorem cX.eW (t:cj×List b7)(r:List b7):cX k z D t.1 (k.eW t r).1:=cX.turn _ _ _
end
section
variable {k:ce}{z:C0}{s t:cj}{D:List Int}
theorem qK (k:ce):∀(l left:List Int)(s:cj),(l.foldl k.cP (left,s)).1.length<=left.length+l.length/\((l.foldl k.cP (left,s)).1.length=left.length+l.length->(l.foldl k.cP (left,s)).2=s)
 |[],left,s=>⟨Z,fun _=>rfl⟩
 |b::l,left,s=>by
  rw[a8];cases hls:k.ls s _
  ·have c:k.cP (left,s) b=(left,k.kf (k.kf s (b+1)) (b+2)):=by unfold ce.cP;rw[aG (by rw[hls];simp)]
   rw[c];have d:=(qK k l left (k.kf (k.kf s (b+1)) (b+2))).1;rw[bz];exact⟨V,fun e=>V⟩
  ·have c:k.cP (left,s) b=(left++[b],s):=by unfold ce.cP;rw[aI hls]
   rw[c];obtain⟨d,f⟩:=qK k l (left++[b]) s;rw[aZ,List.length_singleton] at d f;rw[bz];exact⟨V,fun e=>f V⟩
theorem Gm (k:ce)(s:cj)(h:(k.kv s).1=false):(k.kv s).2.g=s.g/\(k.kv s).2.nx=s.nx:=by unfold ce.kv ce.du at h⊢;obtain⟨c,b⟩:=qK k s.ep [] s;have d:=of_decide_eq_false h;rw[List.length_nil,Nat.zero_add] at c b;rw[b V];exact⟨rfl,rfl⟩
theorem tX (k:ce):∀(l:List Nat)(t:(cj×List b7)×Bool),(l.foldl (dB k.al k.br) t).2=false->(l.foldl (dB k.al k.br) t).1=t.1/\t.2=false
 |[],t,h=>⟨rfl,h⟩
 |i::l,t,h=>by
  rw[a8] at h⊢;obtain⟨c,b⟩:=tX k l _ h;unfold dB at c b⊢;split at b
  ·rename_i e;rw[aI e] at c⊢;exact⟨c,b⟩
  ·cases b
theorem tY (k:ce)(t:cj×List b7)(h:(k.wa t).2=false):(k.wa t).1=t:=(tX k (List.range t.2.length) (t,false) h).1
theorem qL:∀(n:Nat)(t:cj×List b7)(H:List Int),LI k z t.1 H D->dL k z t.1 H->ee k t.1->k.mu t.1<n->hB k.N (k.cW n t).1.g (k.cW n t).1.nx=false
 |0,t,H,_,_,_,e=>absurd e V
 |n+1,t,H,h,w,hb,e=>by
  obtain⟨u,l1,w1,_,_,g⟩:=LI.oj (k.O+1) h w;have g8:=h.mi.ci.g8;obtain⟨c1,c2,c3⟩:=CI.lb h.mi.ci hb (k.O+1)
  obtain⟨i,b,v,j⟩:=CI.kv c1 c2;obtain⟨c,l2,d,_,_⟩:=l1.kv w1;unfold ce.cW;cases hk:(k.kv _).1
  ·rw[aG Z];obtain⟨g1,g2⟩:=Gm k _ hk;obtain⟨x,l,A,B,m⟩:=CI.wa (s:=((k.kv _).2,t.2)) i b;cases hw:(k.wa ((k.kv _).2,t.2)).2
   ·rw[aG Z,tY k _ hw];rw[g1,g2];exact g V
   ·obtain⟨o,p,q,_,_⟩:=cX.wa ((k.kv _).2,t.2) c l2 d;have f:=m hw;dsimp only at f;exact qL n _ o p q l V
  ·rw[aI rfl];have f:=j hk;exact qL n ((k.kv _).2,t.2) c l2 d b (by dsimp only;omega)
end
section
variable {k:ce}{z:C0}{s:cj}{H D:List Int}
theorem LI.fields (h:LI k z s H D)(he:hB k.N s.g s.nx=false)
 (hz:∀v,(v∈k.T\/v∈z.G)->∀i,0<=i->i<pf (k.l0 z v)->cY (k.l0 z (v+1+i))=true->cg (k.l0 z (v+1+i))∈k.T\/cg (k.l0 z (v+1+i))∈z.G)
 (hc:∀v∈z.G,v∉D->∀i,0<=i->i<pf (k.l0 z v)->k.cK (k.l0 z (v+1+i))=false)
 {b:Int}(hb:b∈z.G++H){i:Int}(i0:0<=i)(i1:i<pf (k.ld s b))(ha:cY (k.ld s (b+1+i))=true):
 cg (k.ld s (b+1+i))∈z.G++H\/(pk (k.ld s b)=3/\i=0/\b∈s.wk)\/(pk (k.ld s b)=4/\b∈s.ep):=by
 obtain⟨a,o⟩:=h.mi.from hb;have f:=h.mi.hd a b o;rw[f] at i1;have hm:=h.mi.fd a b o i i0 i1;have yZ:a∈k.T\/a∈z.G:=by
  rcases o with⟨e,d⟩|⟨d,_⟩
  ·exact aJ (by rw[e];exact d)
  ·exact aK d
 have l:s.nx=(k.N:Int)+s.g:=by
  rcases h.bo with d|d
  ·have m:=h.mi.i5 d;unfold hB at he;have:=of_decide_eq_false he;omega
  ·exact d
 have key:k.cK (k.ld s (b+1+i))=false->cg (k.ld s (b+1+i))∈z.G++H:=fun hy=>by exact yY
 rcases List.mem_append.1 hb with d|d
 ·by_cases g:b∈D
  ·rcases h.ld b g i i0 (by rw[f];exact i1) with c|c|c
   ·exact aK (key c)
   ·exact aJ (aK c)
   ·exact aJ (aJ c)
  ·have ea:a=b:=by
    rcases o with⟨e,_⟩|⟨o1,j,p⟩
    ·exact e
    ·have m:=h.mi.hlo b (by rw[<-j];exact h.mi.fh a o1 (by rw[j];exact p))
     have q:=h.mi.kI b d;omega
   subst ea;have hy:=hc a d g i i0 i1;refine aK (key ?_)
   rcases hm with e|⟨g1,_⟩
   ·rw[e];exact hy
   ·rw[hy] at g1;cases g1
 ·rcases h.lo b d (by rw[l];exact(h.mi.i5 d).2) i i0 (by rw[f];exact i1) with c|c|c
  ·exact aK (key c)
  ·exact aJ (aK c)
  ·exact aJ (aJ c)
end
def jT (k:ce)(G:List Int)(x:Int):Prop:=cY x=true->k.cK x=false/\cg x∈G
structure gM (k:ce)(G:List Int)(P:Int->Int->Prop)(s:cj):Prop where
 full:d5 k.N k.y s.g s.ws k.T G
 len:s.ws.length=k.N+k.O
 hy:k.y<=k.N
 hg:s.g<=k.O
 fd:∀b∈G,∀i,0<=i->i<pf (k.ld s b)->jT k G (k.ld s (b+1+i))\/P b i
 fy:∀b∈G,∀i,0<=i->i<pf (k.ld s b)->k.cK (k.ld s (b+1+i))=false->jT k G (k.ld s (b+1+i))
section
variable {k:ce}{G:List Int}{P:Int->Int->Prop}{s:cj}
theorem gM.st (h:gM k G P s){b i v:Int}(hb:b∈G)(g:0<=i)(l:i<pf (k.ld s b))(hv:jT k G v):gM k G (fun c j=>P c j/\¬(c=b/\j=i)) (k.st s (b+1+i) v)/\∀c∈G,k.ld (k.st s (b+1+i) v) c=k.ld s c:=by
 have hi:=jR h.full (aJ hb) g l;have u:=jr hi h.hy h.hg;obtain⟨n,hk⟩:=h.full.set h.len h.hy h.hg (aJ hb) g l;have e:k.st s (b+1+i) v={s with ws:=s.ws.set (b+1+i).toNat v}:=by unfold ce.st;rw[aI hi]
 have f:∀c∈G,k.ld (k.st s (b+1+i) v) c=k.ld s c:=fun c hc=>by rw[e];exact hk c (aJ hc)
 have hld:∀c∈G,∀j,0<=j->j<pf (k.ld s c)->k.ld (k.st s (b+1+i) v) (c+1+j)=if(b+1+i).toNat=(c+1+j).toNat then v else k.ld s (c+1+j):=fun c hc j j0 d=>by
  have m:=jR h.full (aJ hc) j0 d;rw[e];show ld k.N k.y s.g _ _=if _ then v else ld k.N k.y s.g s.ws _
  have hl:=h.len;rw[dW m,dW m,j9 _ _ _ _ V]
 refine⟨⟨by rw[e];exact n,by rw[e];show(List.set _ _ _).length=_;rw[a4];exact h.len,h.hy,by rw[e];exact h.hg,fun c hc j j0 d=>?_,fun c hc j j0 d=>?_⟩,f⟩
 ·rw[f c hc] at d;rw[hld c hc j j0 d];by_cases q:(b+1+i).toNat=(c+1+j).toNat
  ·rw[aI q];exact aK hv
  ·rw[aG q];exact(h.fd c hc j j0 d).imp id (fun p=>⟨p,fun⟨o,t⟩=>q (by rw[o,t])⟩)
 ·rw[f c hc] at d;rw[hld c hc j j0 d];by_cases q:(b+1+i).toNat=(c+1+j).toNat
  ·rw[aI q];exact fun _=>hv
  ·rw[aG q];exact h.fy c hc j j0 d
theorem gM.imp {Q:Int->Int->Prop}(h:gM k G P s)(hp:∀b i,P b i->Q b i):gM k G Q s:=⟨h.full,h.len,h.hy,h.hg,fun b hb i c d=>(h.fd b hb i c d).imp id (hp b i),h.fy⟩
theorem jT.gone:jT k G 3:=fun h=>absurd h aa
theorem gM.told (h:gM k G P s)(hN:k.N<=256)(hO:k.O<=1024){n:Int}(hn:n∈G):jT k G (ew 3 n):=fun _=>by
 have hb:=h.full.io n hn;have hg:=h.hg;have hy:=h.hy;obtain⟨m,rfl⟩:∃m:Nat,n=m:=⟨n.toNat,V⟩
 obtain⟨c,b⟩:=m5 m V;refine⟨?_,by rw[b];exact hn⟩
 unfold ce.cK;rw[c,b];cases hc:k.T.contains (m:Int)
 ·rfl
 ·have d:(m:Int)∈k.T:=by simpa using hc
  have:=h.full.iw _ d;omega
theorem gM.mw (hN:k.N<=256)(hO:k.O<=1024):∀(l:List Int){P:Int->Int->Prop}{s:cj},gM k G P s->(∀a∈l,a∈G/\pk (k.ld s a)=3)->(∀a∈k.T,s.f a≠-1->s.f a∈G)->gM k G (fun b i=>P b i/\¬(b∈l/\i=0)) (l.foldl k.eF s)/\(∀c∈G,k.ld (l.foldl k.eF s) c=k.ld s c)/\(l.foldl k.eF s).g=s.g/\(l.foldl k.eF s).rs=s.rs/\(l.foldl k.eF s).ep=s.ep
 |[],P,s,h,_,_=>⟨h.imp (fun b i p=>⟨p,fun⟨d,_⟩=>by cases d⟩),fun _ _=>rfl,rfl,rfl,rfl⟩
 |a::l,P,s,h,hl,g=>by
  rw[a8];obtain⟨ha,o⟩:=hl a Z;have j:=ih (h.full.ec.mem a ha).2.2 (aJ (aK o))
  have j:pf (k.ld s a)=2:=j;have m:a+1+0=a+1:=V;have fy:=h.fy a ha 0 V V;rw[m] at fy;obtain⟨v,ev,hv⟩:∃v,k.eF s a=k.st s (a+1) v/\jT k G v:=by
   unfold ce.eF;cases hls:k.ls s _
   ·refine⟨k.nw s _,by rw[aG Z],?_⟩
    cases hy:k.cK _
    ·have e:k.nw s (k.ld s (a+1))=k.ld s (a+1):=by unfold ce.nw;rw[hy];rfl
     rw[e];exact fy hy
    ·unfold ce.ls at hls;rw[hy,Bool.true_and] at hls;have e:k.nw s (k.ld s (a+1))=ew 3 (s.f (cg (k.ld s (a+1)))):=by unfold ce.nw;rw[hy,hls];rfl
     rw[e];unfold ce.cK at hy;rw[a_] at hy;exact h.told hN hO (g _ (by simpa using hy.2) (by simpa using hls))
   ·exact⟨3,by rw[aI rfl],jT.gone⟩
  obtain⟨m1,f⟩:=h.st ha (i:=0) V V hv;rw[m] at m1 f;rw[ev];obtain⟨q,j2,cA,cE,dC⟩:=gM.mw hN hO l m1 (fun c hc=>by
   obtain⟨n1,t⟩:=hl c (aO _ hc)
   exact⟨n1,by rw[f c n1];exact t⟩) g
  refine⟨q.imp (fun b i ⟨⟨u,w⟩,x⟩=>⟨u,fun⟨A,n⟩=>?_⟩),fun c hc=>(j2 c hc).trans (f c hc),cA,cE,dC⟩
  rcases List.mem_cons.1 A with d|d
  ·exact w ⟨d,n⟩
  ·exact x ⟨d,n⟩
end
section
variable {k:ce}{G:List Int}
theorem gM.be:∀(l:List Int){P:Int->Int->Prop}{s:cj},gM k G P s->(∀a∈l,a∈G/\pk (k.ld s a)=4)->gM k G (fun b i=>P b i/\¬(b∈l/\(i=0\/i=1))) (l.foldl k.gA s)/\(∀c∈G,k.ld (l.foldl k.gA s) c=k.ld s c)/\(l.foldl k.gA s).g=s.g/\(l.foldl k.gA s).rs=s.rs
 |[],P,s,h,_=>⟨h.imp (fun b i p=>⟨p,fun⟨d,_⟩=>by cases d⟩),fun _ _=>rfl,rfl,rfl⟩
 |a::l,P,s,h,hl=>by
  obtain⟨ha,j⟩:=hl a Z;have B:pf (k.ld s a)=2:=ih (h.full.ec.mem a ha).2.2 (aJ (aJ j))
  have m:a+1+0=a+1:=V;have n:a+1+1=a+2:=V;obtain⟨m1,f⟩:=h.st ha (i:=0) (v:=3) V V jT.gone;rw[m] at m1 f;obtain⟨n1,g⟩:=m1.st ha (i:=1) (v:=3) V (by rw[f a ha];omega) jT.gone;rw[n] at n1 g;obtain⟨o,j2,cA,cE⟩:=gM.be l n1 (fun c hc=>by
   obtain⟨q1,q⟩:=hl c (aO _ hc)
   exact⟨q1,by rw[g c q1,f c q1];exact q⟩)
  refine⟨o.imp (fun b i ⟨⟨⟨t,u⟩,w⟩,x⟩=>⟨t,fun⟨A,e⟩=>?_⟩),fun c hc=>((j2 c hc).trans (g c hc)).trans (f c hc),cA,cE⟩
  rcases List.mem_cons.1 A with d|d
  ·rcases e with e|e
   ·exact u ⟨d,e⟩
   ·exact w ⟨d,e⟩
  ·exact x ⟨d,e⟩
theorem tZ {N y g:Nat}{ws:List Int}{a:Int}(ha:(N:Int)<=a)(hy:y<=N):ld N 0 g ws a=ld N y g ws a:=by
 have e:dd N 0 g a=dd N y g a:=by unfold dd hB;have b:decide ((0:Int)<=a/\a<0+(y:Int))=false:=bq V;rw[(bq V),b]
 unfold ld;rw[e]
theorem gM.done {s:cj}{rs:List Int}(h:gM k G (fun _ _=>False) s)(hr:∀x∈rs,jT k G x):ig k.N 0 s.g s.ws [] G rs:=by
 have io:=h.full.io;have eq:∀a,(k.N:Int)<=a->ld k.N 0 s.g s.ws a=ld k.N k.y s.g s.ws a:=fun a ha=>tZ ha h.hy;refine⟨⟨by simpa using d4.done,h.full.ec.heads (fun x c=>eq x (io x c).1)⟩,fun x c ha=>aJ (hr x c ha).2,fun v hv i e d ha=>?_⟩
 rcases hv with b|b
 ·cases b
 ·have hv:=io v b;rw[eq v hv.1] at d;rw[eq (v+1+i) V] at ha⊢;exact aJ (((h.fd v b i e d).resolve_right id) ha).2
end
theorem zb (ws:List Int)(t f n i:Nat)(b:t+n<=ws.length)(d:f+n<=ws.length):
 (splice ws t ((ws.drop f).take n)).getD i 0=if t<=i/\i<t+n then ws.getD (f+i-t) 0 else ws.getD i 0:=by
 exact wQ
theorem Gn (k:b9)(hl:k.s.ws.length=k.a.N+k.a.O)(hy:k.s.y<=k.a.N)(hg:k.s.g<=k.a.O)(t f n:Nat)(t0:k.a.N<=t)(b:t+n<=k.a.N+k.s.g)(d:k.a.N<=f)(g:f+n<=k.a.N+k.s.g)(x:Int):
 (k.ly t f n).ld x=if(t:Int)<=x/\x<(t:Int)+n then k.ld (f+(x-t)) else k.ld x:=by
 have e:(k.ly t f n).ld x=ld k.a.N k.s.y k.s.g (splice k.s.ws t ((k.s.ws.drop f).take n)) x:=rfl;rw[e];unfold b9.ld;by_cases c:(t:Int)<=x/\x<(t:Int)+n
 ·rw[aI c,dW (hY V V),dW (hY V V),zb _ _ _ _ _ V V,aI V]
  congr 1
  omega
 ·rw[aG c];cases hb:dd k.a.N k.s.y k.s.g x
  ·unfold ld;rw[hb];rfl
  ·have i:=(lj _ _ _ _).1 hb;rw[dW hb,dW hb,zb _ _ _ _ _ V V,aG V]
structure ks (k k':b9):Prop where
 a:k'.a=k.a
 y:k'.s.y=k.s.y
 rs:k'.s.rs=k.s.rs
 len:k'.s.ws.length=k.s.ws.length
theorem ks.refl (k:b9):ks k k:=⟨rfl,rfl,rfl,rfl⟩
theorem ks.trans {k b c:b9}(h:ks k b)(j:ks b c):ks k c:=⟨j.a.trans h.a,j.y.trans h.y,j.rs.trans h.rs,j.len.trans h.len⟩
structure jh (k:b9)(al:Int->Bool)(f:Int->Int)(m:Int)(D l:List Int)(t:b9×Int):Prop where
 sm:ks k t.1
 g:t.1.s.g=k.s.g
 u0:0<=t.2
 pos:Pos (fun a=>pf (k.ld a)) al f (k.a.N+t.2) l m
 tl:∃b:Int,d4 k.ld (k.a.N+k.s.g) b l/\k.a.N+t.2<=b/\∀x:Int,b<=x->x<k.a.N+k.s.g->t.1.ld x=k.ld x
 cK:∀x:Int,0<=x->x<k.s.y->t.1.ld x=k.ld x
 rel:∀c∈D,al c=true->f c+pf (k.ld c)<k.a.N+t.2/\∀i:Int,0<=i->i<=pf (k.ld c)->t.1.ld (f c+i)=k.ld (c+i)
section
variable {k:b9}{al:Int->Bool}{s:cu}{m:Int}
theorem jh.step (hl:k.s.ws.length=k.a.N+k.a.O)(hy:k.s.y<=k.a.N)(hg:k.s.g<=k.a.O){D l:List Int}{a:Int}{t:b9×Int}(h:jh k al s.f m D (a::l) t)(hs:al a=!(s.f a==-1)):jh k al s.f m (D++[a]) l (e_ (fun _ a=>s.f a) (b9.i4 s) t a):=by
 obtain⟨b,⟨e,G,H,ht⟩,hb,j⟩:=h.tl;have I:=dj (k.ld b)
 have u0:=h.u0;cases c:al a
 ·rw[c] at hs;have c2:s.f a=-1:=by simpa using hs
  have o:e_ (fun _ a=>s.f a) (b9.i4 s) t a=t:=by unfold e_;rw[aI c2]
  rw[o];refine⟨h.sm,h.g,h.u0,(h.pos.2 c).2,⟨b+(1+pf (k.ld b)),ht,V,fun x g f=>j x V f⟩,h.cK,fun d hd hal=>?_⟩
  exact y3
 ·rw[c] at hs;have c2:s.f a≠-1:=by simpa using hs.symm
  obtain⟨J,A⟩:=h.pos.1 c;have o:e_ (fun _ a=>s.f a) (b9.i4 s) t a=b9.i4 s t a:=by unfold e_;rw[aG c2]
  rw[o];have B:b9.i4 s t a=(t.1.ly (s.f a).toNat a.toNat (1+(pf (k.ld a)).toNat),t.2+(1+pf (k.ld a))):=by unfold b9.i4;rw[(j a V (by rw[e];omega))]
  have hz:pf (k.ld a)=pf (k.ld b):=by rw[e]
  have hN:=h.sm.a;have p:=h.g;have q:=h.sm.len;have M:=Gn t.1 (by rw[q,hN];exact hl) (by rw[h.sm.y,hN];exact hy) (by rw[p,hN];exact hg) (s.f a).toNat a.toNat (1+(pf (k.ld a)).toNat) (by rw[hN];omega) (by rw[hN,p];omega) (by rw[hN];omega) (by rw[hN,p];omega)
  have u:ks t.1 (t.1.ly (s.f a).toNat a.toNat (1+(pf (k.ld a)).toNat))/\(t.1.ly (s.f a).toNat a.toNat (1+(pf (k.ld a)).toNat)).s.g=t.1.s.g:=by
   refine⟨⟨rfl,rfl,rfl,?_⟩,rfl⟩
   refine sI _ _ _ ?_;rw[q,hl,bw,List.length_drop,q,hl];omega
  rw[B];generalize t.1.ly (s.f a).toNat a.toNat _=C at M u⊢;have n:∀x,C.ld x=if s.f a<=x/\x<s.f a+(1+pf (k.ld a)) then t.1.ld (a+(x-s.f a)) else t.1.ld x:=fun x=>by rw[M x];have g:((s.f a).toNat:Int)=s.f a:=V;have f:(a.toNat:Int)=a:=V;have E:((1+(pf (k.ld a)).toNat:Nat):Int)=1+pf (k.ld a):=V;rw[g,f,E]
  refine⟨h.sm.trans u.1,u.2.trans h.g,V,by rw[<-Int.add_assoc];exact A,⟨b+(1+pf (k.ld b)),ht,V,fun x g f=>?_⟩,fun x g f=>?_,fun d hd hal=>?_⟩
  ·rw[n,aG V];exact j x V f
  ·rw[n,aG V];exact h.cK x g f
  ·rcases List.mem_append.1 hd with hd|hd
   ·obtain⟨r1,F⟩:=h.rel d hd hal;refine⟨V,fun i v w=>?_⟩
    rw[n,aG V];exact F i v w
   ·rw[List.mem_singleton.1 hd];refine⟨V,fun i v w=>?_⟩
    rw[n,aI V,show a+(s.f a+i-s.f a)=a+i from by omega];exact j (a+i) V V
theorem jh.qM (hl:k.s.ws.length=k.a.N+k.a.O)(hy:k.s.y<=k.a.N)(hg:k.s.g<=k.a.O)(hN:k.a.N<=256)(hO:k.a.O<=1024)(hs:∀a∈k.G,al a=!(s.f a==-1))(hm:m<=k.a.N+k.a.O):iC k s (fun j t=>jh k al s.f m (k.G.take j) (k.G.drop j) t):=by
 have hz:∀a,0<=(fun a=>pf (k.ld a)) a:=fun a=>(dj _).1;refine⟨fun j t c h i=>?_,fun j t c h=>?_,fun t h=>?_⟩
 ·have e:k.G.drop j=k.G.getD j 0::k.G.drop (j+1):=by rw[List.drop_eq_getElem_cons c,aE,aL c];rfl
  have d:k.G.getD j 0∈k.G:=by rw[aE,aL c];exact a6 c
  generalize k.G.getD j 0=a at e i d⊢;have h:jh k al s.f m (k.G.take j) (k.G.drop j) t:=h;rw[e] at h;have ha:al a=true:=by rw[hs a d,beq_false_of_ne i];rfl
  obtain⟨b,⟨l,q,u,ht⟩,hb,n⟩:=h.tl;have v:=dj (k.ld b)
  have u0:=h.u0;obtain⟨o,p⟩:=h.pos.1 ha;have f:=p.le hz;have f:=f;rw[(n a V (by rw[l];omega)),o];rw[l] at f⊢;omega
 ·have e:k.G.drop j=k.G.getD j 0::k.G.drop (j+1):=by rw[List.drop_eq_getElem_cons c,aE,aL c];rfl
  have d:k.G.getD j 0∈k.G:=by rw[aE,aL c];exact a6 c
  have h:jh k al s.f m (k.G.take j) (k.G.drop j) t:=h;rw[e] at h;have g:=h.step hl hy hg (hs _ d)
  rw[<-(gx k.G j c 0)] at g;exact g
 ·have h:=h;have u0:=h.u0;have g:=h.pos.le hz;omega
theorem jh.all (hl:k.s.ws.length=k.a.N+k.a.O)(hy:k.s.y<=k.a.N)(hg:k.s.g<=k.a.O)(hs:∀a∈k.G,al a=!(s.f a==-1)):∀(l D:List Int)(t:b9×Int),(∀a∈l,a∈k.G)->jh k al s.f m D l t->jh k al s.f m (D++l) [] (gU (fun _ a=>s.f a) (b9.i4 s) t l)
 |[],D,t,_,h=>by rw[List.append_nil];exact h
 |a::l,D,t,c,h=>by
  have d:=jh.all hl hy hg hs l _ _ (fun b hb=>c b (aO _ hb)) (h.step hl hy hg (hs a (c a Z)))
  rw[ba] at d;exact d
structure lA (k:b9)(al:Int->Bool)(f:Int->Int)(m:Int)(D l:List Int)(t:b9):Prop where
 sm:ks k t
 g:t.s.g<=k.a.O
 pos:Pos (fun a=>pf (k.ld a)) al f (k.a.N+t.s.g) l m
 cK:∀x:Int,0<=x->x<k.s.y->t.ld x=k.ld x
 rel:∀c∈D,al c=true->(k.a.N:Int)<=f c/\f c+pf (k.ld c)<k.a.N+t.s.g/\∀i:Int,0<=i->i<=pf (k.ld c)->t.ld (f c+i)=k.ld (c+i)
theorem lA.step (hl:k.s.ws.length=k.a.N+k.a.O)(hy:k.s.y<=k.a.N)(hm:m<=k.a.N+k.a.O){D l:List Int}{a:Int}{t:b9}(h:lA k al s.f m D (a::l) t)(hs:al a=!(s.f a==-1))(h0:0<=a)(I:a+(1+pf (k.ld a))<=k.s.y)(u:pc (k.ld a)=0):lA k al s.f m (D++[a]) l (e_ (fun(_:b9) a=>s.f a) (fun k a=>k.cop a) t a):=by
 have hz:∀a,0<=(fun a=>pf (k.ld a)) a:=fun a=>(dj _).1;have J:=dj (k.ld a)
 cases c:al a
 ·rw[c] at hs;have c2:s.f a=-1:=by simpa using hs
  have g:e_ (fun(_:b9) a=>s.f a) (fun k a=>k.cop a) t a=t:=by unfold e_;rw[aI c2]
  rw[g];refine⟨h.sm,h.g,(h.pos.2 c).2,h.cK,fun d hd hal=>?_⟩
  exact y3
 ·rw[c] at hs;have c2:s.f a≠-1:=by simpa using hs.symm
  obtain⟨K,e⟩:=h.pos.1 c;have e:Pos (fun a=>pf (k.ld a)) al s.f (k.a.N+t.s.g+(1+pf (k.ld a))) l m:=e;have L:=e.le hz;have g:e_ (fun(_:b9) a=>s.f a) (fun k a=>k.cop a) t a=t.cop a:=by unfold e_;rw[aG c2]
  rw[g];have hN:=h.sm.a;have v:=h.sm.y;have j:=h.sm.len;have b:ld t.a.N t.s.y t.s.g t.s.ws a=k.ld a:=h.cK a h0 V;have w:gg t.a.N t.s.y t.s.g a=t.s.y:=by
   unfold gg;have n:hB (0:Int) t.s.y a=true:=by unfold hB;exact bh ⟨h0,V⟩
   first|rw[aI n]|(simp[n])
  have hc:it t.a.N t.a.O t.s.y t.s.g t.s.ws a=true:=by unfold it;rw[b,w];exact bh ⟨u,V,by rw[hN];omega⟩
  have M:=ce.sJ (k:=⟨t.a.N,t.a.O,t.s.y,[]⟩) (s:=⟨t.s.g,t.s.ws,fun _=>-1,0,[],[],[]⟩) (by rw[j,hN];exact hl) (by rw[v,hN];exact hy) (by rw[hN];exact h.g) (a:=a) h0 (by show a+1+pf (ld t.a.N t.s.y t.s.g t.s.ws a)<=t.s.y;rw[b];omega) hc;have f:∀x,(t.cop a).ld x=if(k.a.N:Int)+t.s.g<=x/\x<(k.a.N:Int)+t.s.g+(1+pf (k.ld a)) then t.ld (a+(x-(k.a.N+t.s.g))) else t.ld x:=fun x=>by have:=M x;rw[<-hN,<-b];exact this
  have A:(t.cop a).s.g=t.s.g+(1+(pf (k.ld a)).toNat):=by show jJ _ _ _ _ _ _=_;unfold jJ;rw[aI hc,b]
  have B:(t.cop a).s.ws.length=t.s.ws.length:=by show(jK _ _ _ _ _ _).length=_;unfold jK;rw[aI hc,b];refine sI _ _ _ ?_;rw[j,hl,hN,bw,List.length_drop,j,hl];omega
  have o:ks t (t.cop a):=⟨rfl,rfl,rfl,B⟩
  generalize t.cop a=C at f A o⊢;have E:(C.s.g:Int)=t.s.g+(1+pf (k.ld a)):=V;refine⟨h.sm.trans o,V,by rw[E,<-Int.add_assoc];exact e,fun x F G=>?_,fun d hd hal=>?_⟩
  ·rw[f,aG V];exact h.cK x F G
  ·rcases List.mem_append.1 hd with hd|hd
   ·obtain⟨r0,r1,H⟩:=h.rel d hd hal;refine⟨r0,V,fun i p q=>?_⟩
    rw[f,aG V];exact H i p q
   ·rw[List.mem_singleton.1 hd];refine⟨V,V,fun i p q=>?_⟩
    rw[f,aI V,show a+(s.f a+i-(k.a.N+t.s.g))=a+i from by omega];exact h.cK (a+i) V V
theorem lA.all (hl:k.s.ws.length=k.a.N+k.a.O)(hy:k.s.y<=k.a.N)(hm:m<=k.a.N+k.a.O):∀(l D:List Int)(t:b9),(∀a∈l,al a=!(s.f a==-1)/\0<=a/\a+(1+pf (k.ld a))<=k.s.y/\pc (k.ld a)=0)->lA k al s.f m D l t->lA k al s.f m (D++l) [] (t.pj s l)
 |[],D,t,_,h=>by rw[List.append_nil];exact h
 |a::l,D,t,c,h=>by
  obtain⟨g1,g2,g3,g4⟩:=c a Z;have d:=lA.all hl hy hm l _ _ (fun b hb=>c b (aO _ hb)) (h.step hl hy hm g1 g2 g3 g4)
  rw[ba] at d;exact d
end
structure hD (k k':b9):Prop where
 a:k'.a=k.a
 y:k'.s.y=k.s.y
 g:k'.s.g=k.s.g
 rs:k'.s.rs=k.s.rs
 Y:k'.Y=k.Y
 G:k'.G=k.G
 len:k'.s.ws.length=k.s.ws.length
theorem hD.refl (k:b9):hD k k:=⟨rfl,rfl,rfl,rfl,rfl,rfl,rfl⟩
theorem hD.trans {k b c:b9}(h:hD k b)(j:hD b c):hD k c:=⟨j.a.trans h.a,j.y.trans h.y,j.g.trans h.g,j.rs.trans h.rs,j.Y.trans h.Y,j.G.trans h.G,j.len.trans h.len⟩
structure jU (k:b9):Prop where
 l:k.s.ws.length=k.a.N+k.a.O
 y:k.s.y<=k.a.N
 g:k.s.g<=k.a.O
theorem hD.bd {k c:b9}(h:hD k c)(b:jU k):jU c:=⟨by rw[h.len,h.a];exact b.l,by rw[h.y,h.a];exact b.y,by rw[h.g,h.a];exact b.g⟩
theorem hD.T {k b:b9}(h:hD k b):b.T=k.T:=by unfold b9.T;rw[h.Y,h.G]
section
variable {k:b9}{s:cu}
theorem po (k:b9)(p x:Int):hD k (k.hC p x):=⟨rfl,rfl,rfl,rfl,rfl,rfl,by
 show(if _ then _ else _:List Int).length=_;split
 ·exact a4
 ·rfl⟩
theorem t1 (b:jU k){p:Int}(hp:dd k.a.N k.s.y k.s.g p=true)(x q:Int):(k.hC p x).ld q=if q=p then x else k.ld q:=by
 have hb:=jr hp b.y b.g;have e:(k.hC p x).ld q=ld k.a.N k.s.y k.s.g (k.s.ws.set p.toNat x) q:=by unfold b9.hC;rw[aI hp];rfl
 rw[e];unfold b9.ld;by_cases c:q=p
 ·rw[aI c,c,dW hp,aE,List.getElem?_set_self (by rw[b.l];omega)];rfl
 ·rw[aG c];cases hq:dd k.a.N k.s.y k.s.g q
  ·unfold ld;rw[hq];rfl
  ·have d:=jr hq b.y b.g;rw[dW hq,dW hq,aE,List.getElem?_set_ne V,aE]
def b9.ii (k:b9)(s:cu)(a i:Int):Int:=if((pk (k.ld a)=3\/pk (k.ld a)=4)/\k.cS s (k.ld (a+1))=true)/\(i=0\/(pk (k.ld a)=4/\i=1)) then 3 else k.ld (a+1+i)
structure kM (k:b9)(a:Int):Prop where
 c:pc (k.ld a)=0
 i:∀i,0<=i->i<=pf (k.ld a)->dd k.a.N k.s.y k.s.g (a+i)=true
theorem hD.zc {k b:b9}(h:hD k b){a:Int}(e:b.ld a=k.ld a)(w:kM k a):kM b a:=⟨by rw[e];exact w.c,fun i d c=>by rw[h.a,h.y,h.g];rw[e] at c;exact w.i i d c⟩
theorem Gp (b:jU k){a:Int}(w:kM k a):hD k (k.brk s a)/\(∀q,(q<=a\/a+pf (k.ld a)<q)->(k.brk s a).ld q=k.ld q)/\∀i,0<=i->i<pf (k.ld a)->(k.brk s a).ld (a+1+i)=k.ii s a i:=by
 unfold b9.brk;by_cases c:(pk (k.ld a)=3\/pk (k.ld a)=4)/\k.cS s (k.ld (a+1))=true
 ·rw[aI c];have m:=ih w.c V;have f:=w.i 1 V V;have d:=t1 b f 3;by_cases e:pk (k.ld a)=4
  ·rw[aI e];have g:=t1 ((po k (a+1) 3).bd b) (w.i 2 V V) 3;refine⟨(po k (a+1) 3).trans (po _ _ _),fun q hq=>?_,fun i j l=>?_⟩
   ·rw[g,aG V,d,aG V]
   ·unfold b9.ii;rw[g,d];by_cases z:i=0
    ·rw[aG V,aI V,aI ⟨c,aK z⟩]
    ·by_cases o:i=1
     ·rw[aI V,aI ⟨c,aJ ⟨e,o⟩⟩]
     ·rw[aG V,aG V,aG (fun h=>by omega)]
  ·rw[aG e];refine⟨po k (a+1) 3,fun q hq=>?_,fun i j l=>?_⟩
   ·rw[d,aG V]
   ·unfold b9.ii;rw[d];by_cases z:i=0
    ·rw[aI V,aI ⟨c,aK z⟩]
    ·rw[aG V,aG (fun h=>by omega)]
 ·rw[aG c];refine⟨hD.refl k,fun q hq=>rfl,fun i j f=>?_⟩
  unfold b9.ii;rw[aG (fun h=>c h.1)]
theorem zd (b:jU k){a:Int}(w:kM k a):∀n:Nat,(n:Int)<=pf (k.ld a)->hD k (k.gK s a n)/\(∀q,(q<=a\/a+n<q)->(k.gK s a n).ld q=k.ld q)/\∀i:Int,0<=i->i<n->(k.gK s a n).ld (a+1+i)=k.nw s (k.ld (a+1+i))
 |0,_=>⟨hD.refl k,fun _ _=>rfl,fun i d g=>V⟩
 |n+1,hn=>by
  obtain⟨c,f,j⟩:=zd b w n V;have hi:dd (k.gK s a n).a.N (k.gK s a n).s.y (k.gK s a n).s.g (a+1+n)=true:=by rw[c.a,c.y,c.g,show a+1+(n:Int)=a+(1+n) from by omega];exact w.i _ V V
  have e:=t1 (c.bd b) hi (k.nw s ((k.gK s a n).ld (a+1+n)))
  have l:k.gK s a (n+1)=(k.gK s a n).hC (a+1+n) (k.nw s ((k.gK s a n).ld (a+1+n))):=rfl;rw[l];refine⟨c.trans (po _ _ _),fun q hq=>?_,fun i d g=>?_⟩
  ·rw[e,aG V];exact f q V
  ·rw[e];by_cases z:i=n
   ·rw[aI V,f _ V,z]
   ·rw[aG V];exact j i d V
theorem Gq (b:jU k){a:Int}(w:kM k a):hD k (k.jP s a)/\(∀q,(q<=a\/a+pf (k.ld a)<q)->(k.jP s a).ld q=k.ld q)/\∀i,0<=i->i<pf (k.ld a)->(k.jP s a).ld (a+1+i)=k.nw s (k.ii s a i):=by
 obtain⟨c,d,f⟩:=Gp b w;have hp:=dj (k.ld a)
 have ea:=d a (aK (Int.le_refl _))
 obtain⟨g,j2,cA⟩:=zd (c.bd b) (c.zc ea w) (pf (k.ld a)).toNat (by rw[ea];omega)
 unfold b9.jP;refine⟨c.trans g,fun q hq=>?_,fun i e j=>?_⟩
 ·rw[j2 q V];exact d q hq
 ·rw[cA i e V,f i e j];exact b9.kl s _ c.Y c.G
structure l8 (k0:b9)(s:cu)(D:List Int)(t:b9):Prop where
 st:hD k0 t
 hd:∀c∈k0.T,t.ld c=k0.ld c
 de:∀c∈D,s.f c≠-1->∀i,0<=i->i<pf (k0.ld c)->t.ld (c+1+i)=k0.nw s (k0.ii s c i)
 td:∀c∈k0.T,c∉D->∀i,0<=i->i<pf (k0.ld c)->t.ld (c+1+i)=k0.ld (c+1+i)
theorem l8.step {k0:b9}(b:jU k0)(w:∀c∈k0.T,kM k0 c)(ap:∀c∈k0.T,∀d∈k0.T,c<d->c+(1+pf (k0.ld c))<=d){D:List Int}{t:b9}(h:l8 k0 s D t){a:Int}(ha:a∈k0.T)(n:a∉D)(x:∀c∈D,c∈k0.T):l8 k0 s (D++[a]) (e_ (fun(_:b9) a=>s.f a) (fun k a=>k.jP s a) t a):=by
 by_cases c:s.f a=-1
 ·have o:e_ (fun(_:b9) a=>s.f a) (fun k a=>k.jP s a) t a=t:=by unfold e_;rw[aI c]
  rw[o];refine⟨h.st,h.hd,fun d hd j=>?_,fun d hd hn=>h.td d hd (fun m=>hn (aX _ m))⟩
  rcases List.mem_append.1 hd with hd|hd
  ·exact h.de d hd j
  ·rw[List.mem_singleton.1 hd] at j;exact absurd c j
 ·have o:e_ (fun(_:b9) a=>s.f a) (fun k a=>k.jP s a) t a=t.jP s a:=by unfold e_;rw[aG c]
  rw[o];have ea:=h.hd a ha;obtain⟨A,p,v⟩:=Gq (h.st.bd b) (h.st.zc ea (w a ha))
  rw[ea] at p v;have u:∀d∈k0.T,d≠a->∀i,0<=i->i<=pf (k0.ld d)->(t.jP s a).ld (d+i)=t.ld (d+i):=fun d hd l i g f=>p _ (by
   rcases Int.lt_or_gt_of_ne l with q|q
   ·have:=ap d hd a ha q;omega
   ·have:=ap a ha d hd q;omega)
  have B:∀i,0<=i->i<pf (k0.ld a)->t.ii s a i=k0.ii s a i:=fun i g f=>by unfold b9.ii b9.cS b9.jt;rw[ea,h.st.T];have q0:=h.td a ha n 0 V V;rw[Int.add_zero] at q0;rw[q0,h.td a ha n i g f]
  refine⟨h.st.trans A,fun d hd=>?_,fun d hd j i g f=>?_,fun d hd hn i g f=>?_⟩
  ·by_cases e:d=a
   ·rw[e,p a (aK (Int.le_refl _))];exact ea
   ·have:=u d hd e 0 V (dj _).1;rw[Int.add_zero] at this
    rw[this];exact h.hd d hd
  ·rcases List.mem_append.1 hd with hd|hd
   ·have l:d≠a:=fun e=>n (e▸hd)
    have:=u d (x d hd) l (1+i) V V;rw[<-Int.add_assoc] at this
    rw[this];exact h.de d hd j i g f
   ·have e:=List.mem_singleton.1 hd;rw[e] at f⊢;rw[v i g f,B i g f];exact b9.kl s _ h.st.Y h.st.G
  ·have l:d≠a:=fun e=>hn (by rw[e];simp)
   have:=u d hd l (1+i) V V;rw[<-Int.add_assoc] at this
   rw[this];exact h.td d hd (fun m=>hn (aX _ m)) i g f
theorem l8.all {k0:b9}(b:jU k0)(w:∀c∈k0.T,kM k0 c)(ap:∀c∈k0.T,∀f∈k0.T,c<f->c+(1+pf (k0.ld c))<=f):∀(l D:List Int)(t:b9),(D++l).Nodup->(∀c∈D++l,c∈k0.T)->l8 k0 s D t->l8 k0 s (D++l) (t.ob s l)
 |[],D,t,_,_,h=>by rw[List.append_nil];exact h
 |a::l,D,t,hn,d,h=>by
  have e:D++a::l=(D++[a])++l:=Z;have g:_:=fun m=>(List.nodup_append.1 hn).2.2 a m a Z rfl;have i:=h.step b w ap (d a Z) g (fun c hc=>d c (aX _ hc))
  rw[e] at hn d⊢;exact l8.all b w ap l _ _ hn d i
theorem ze (k:b9)(s:cu):∀n,n<=k.s.rs.length->(k.fQ s n).a=k.a/\(k.fQ s n).Y=k.Y/\(k.fQ s n).G=k.G/\(k.fQ s n).s.y=k.s.y/\(k.fQ s n).s.g=k.s.g/\(k.fQ s n).s.ws=k.s.ws/\(k.fQ s n).s.rs.length=k.s.rs.length/\∀i,i<k.s.rs.length->(k.fQ s n).s.rs.getD i 0=if i<n then k.nw s (k.s.rs.getD i 0) else k.s.rs.getD i 0
 |0,_=>⟨rfl,rfl,rfl,rfl,rfl,rfl,rfl,fun i _=>ac⟩
 |n+1,hn=>by
  obtain⟨f,g,j,l,m,o,b,c⟩:=ze k s n V;refine⟨f,g,j,l,m,o,?_,fun i hi=>?_⟩
  ·show(List.set _ _ _).length=_;rw[a4];exact b
  ·show(List.set _ n _).getD i 0=_;by_cases e:i=n
   ·rw[e,aI V,aE,List.getElem?_set_self (by rw[b];omega),c n V,aG V];rfl
   ·rw[aE,List.getElem?_set_ne V,<-aE,c i hi];by_cases d:i<n
    ·rw[aI d,aI V]
    ·rw[aG d,aG V]
theorem pr (b:jU k)(hr:k.s.rs.length=12)(hn:k.T.Nodup)(w:∀c∈k.T,kM k c)(ap:∀c∈k.T,∀l∈k.T,c<l->c+(1+pf (k.ld c))<=l):
 (k.e3 s).a=k.a/\(k.e3 s).Y=k.Y/\(k.e3 s).G=k.G/\(k.e3 s).s.y=k.s.y/\(k.e3 s).s.g=k.s.g/\jU (k.e3 s)/\(k.e3 s).s.rs.length=12/\(∀i,i<12->(k.e3 s).s.rs.getD i 0=k.nw s (k.s.rs.getD i 0))/\
 (∀c∈k.T,(k.e3 s).ld c=k.ld c)/\∀c∈k.T,s.f c≠-1->∀i,0<=i->i<pf (k.ld c)->(k.e3 s).ld (c+1+i)=k.nw s (k.ii s c i):=by
 obtain⟨e,m,n,g,j,p,u,v⟩:=ze k s 12 V;obtain⟨k0,A⟩:∃k0,k.fQ s 12=k0:=⟨_,rfl⟩
 rw[A] at e m n g j p u v;have d:∀x,k0.ld x=k.ld x:=fun x=>by unfold b9.ld;rw[e,g,j,p]
 have f:k0.T=k.T:=by unfold b9.T;rw[m,n]
 have B:jU k0:=⟨by rw[p,e];exact b.l,by rw[g,e];exact b.y,by rw[j,e];exact b.g⟩
 have w0:∀c∈k0.T,kM k0 c:=fun c hc=>by rw[f] at hc;exact⟨by rw[d];exact(w c hc).c,fun i t o=>by rw[d] at o;rw[e,g,j];exact(w c hc).i i t o⟩
 have key:=l8.all (s:=s) B w0 (fun c hc l hd q=>by rw[f] at hc hd;rw[d];exact ap c hc l hd q) k0.T [] k0 (by rw[List.nil_append,f];exact hn) (fun c hc=>hc) ⟨hD.refl _,fun _ _=>rfl,(fun c hc=>by cases hc),fun _ _ _ _ _ _=>rfl⟩
 have C:k.e3 s=k0.ob s k0.T:=by unfold b9.e3;rw[A,f]
 rw[C];refine⟨key.st.a.trans e,key.st.Y.trans m,key.st.G.trans n,key.st.y.trans g,key.st.g.trans j,key.st.bd B,by rw[key.st.rs,u];exact hr,fun i hi=>by rw[key.st.rs,v i V,aI hi],fun c hc=>?_,fun c hc D i t o=>?_⟩
 ·rw[key.hd c (by rw[f];exact hc),d]
 ·rw[key.de c (by rw[f];exact hc) D i t (by rw[d];exact o)];have E:k0.ii s c i=k.ii s c i:=by unfold b9.ii b9.cS b9.jt;rw[f,d,d,d]
  rw[E];exact b9.kl s _ m n
end
end Go.Proofs.YtpkjkjhanlbcoaaGreat
