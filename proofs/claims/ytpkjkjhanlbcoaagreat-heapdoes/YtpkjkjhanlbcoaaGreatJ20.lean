import Derived.Test.YtpkjkjhanlbcoaaGreatJ19
namespace Go.Proofs.YtpkjkjhanlbcoaaGreat
set_option maxRecDepth 100000
set_option maxHeartbeats 4000000
open Tryz
open Go.RowKit W Kp ch
theorem zy {P:Prop}(h:P:=by
 have hH:=h.mi.fh _ hT g2;have hbd:=h.mi.iX hH;have hN:=h.mi.ci.hN';have hO:=h.mi.ci.hO;have hg:=h.mi.ci.hg;obtain⟨n,hn⟩:∃n:Nat,s.f (cj (k.l0 z (a+1+i)))=n:=⟨(s.f (cj (k.l0 z (a+1+i)))).toNat,aa⟩
 rw[g3,hn,(mS n aa).2,<-hn];exact bm _ hH):P:=h
theorem t6 {P:Prop}(h:P:=by unfold cf.cL at g1;rw[bh] at g1;simpa using g1.2):P:=h
theorem cX.pl {k:b_}{s:cu}(h:cX k s)(hN:(0:Int)<=k.a.N):cX k (k.pl s).1:=by
 obtain⟨P,_,b,d⟩:=pi k (fun c=>!(s.f c==-1)) k.T (s,k.a.N) h.nd (fun c _=>rfl)
 have P:Pos (fun c=>pf (k.ld c)) (fun c=>!(s.f c==-1)) (k.pl s).1.f k.a.N k.T (k.pl s).2:=P;have b:(k.pl s).1.td=s.td:=b;have d:(k.pl s).1.ep=s.ep:=d;have f:k.lost (k.pl s).1<=k.lost s:=by
  unfold b_.lost;rw[<-List.countP_eq_length_filter,<-List.countP_eq_length_filter];refine List.countP_mono_left (fun c hc e=>?_)
  cases q:(s.f c==-1)
  ·have:=(P.bd (fun c=>(dp _).1) c hc (by rw[q];rfl)).1;have e:(k.pl s).1.f c=-1:=by simpa using e
   omega
  ·rfl
 have:=h.sum;exact⟨h.nd,h.ps,by rw[b];exact h.td,by rw[d];exact h.ep,h.tl,by rw[b,d];omega⟩
theorem qL {b c:Type}(g:b->c)(fm:b->Int->Int)(st:b->Int->b)(h:∀t a,g (st t a)=g t):∀(l:List Int)(t:b),g (gQ fm st t l)=g t
 |[],_=>rfl
 |a::l,t=>by
  have e:gQ fm st t (a::l)=gQ fm st (e9 fm st t a) l:=rfl;rw[e,qL g fm st h l];unfold e9;split
  ·rfl
  ·exact h t a
theorem zz (k:b_)(s:cu):∀n,(k.fO s n).a=k.a
 |0=>rfl
 |n+1=>zz k s n
theorem zA (k:b_)(s:cu)(a:Int):∀n,(k.gI s a n).a=k.a
 |0=>rfl
 |n+1=>zA k s a n
theorem G8 (k:b_)(s:cu):(k.e4 s).a=k.a:=by
 unfold b_.e4 b_.nP;rw[qL (fun k:b_=>k.a) _ _ (fun t a=>?_)]
 ·exact zz k s 12
 ·unfold b_.jC;rw[zA];exact(tO t s a).1
theorem G9 (k:b_)(s:cu):(k.sl s).a=k.a:=by
 have b:(k.k9 s k.G).1.a=k.a:=qL (fun t:b_×Int=>t.1.a) (fun _ a=>s.f a) (b_.iW s) (fun _ _=>rfl) k.G (k,0)
 have c:(k.sl2 s).a=(k.sl1 s).a:=qL (fun t:b_=>t.a) (fun(_:b_) a=>s.f a) (fun k a=>k.cop a) (fun _ _=>rfl) k.Y (k.sl1 s)
 have d:(k.sl s).a=(k.sl2 s).a:=rfl;have e:(k.sl1 s).a=(k.k9 s k.G).1.a:=rfl;rw[d,c,e,b]
theorem zB {c:e7}{k:b_}{vt e:Value}{F:Nat->Prop}{s:cu}{w:aw}(h:(cW c k vt e).J F s w):∃d,(d5 k.a).J d k.s w/\∀b,d b->F b:=by obtain⟨d,own,h,f⟩:=h;exact⟨d,h.wd,fun b g=>(f b).2 (by rw[(h.w1 b).1 g];decide)⟩
section
variable {a:Wc}{F:Nat->Prop}{S:co}{w:aw}
theorem G_ (h:(fB a).J F S w)(hq:S.q.length+S.r.length<=90000)(c9:S.fI a=false->∃G,ir (S.k5 a) (S.dI a) G/\G 0 (S.k5 a,0)):
 Calls prog 37 #[am a.pw] w fun e w'=>∃f,e=.returned (ak (S.it a))/\(fB a).J f (S.dE a) w'/\ce F w f w':=by
 obtain⟨da,ar,bl,ca,ag,B,g⟩:=h;obtain⟨u,aT,aV,g1,g2,g3,i,g5,ai,v,bn⟩:=ca;have db:=hide c9;have eh:=(jX g1).1;have N:=Bp g1 g2 g3 ag i g5 ai;have cw:=iZ v bn B g;have dc:=GP (S:=S) g1 ⟨g2,ag,g3⟩ aa aa;have cx:ay (S.it a=if S.fI a=true then 3 else 0):=rfl;have cz:ay (S.dE a=if S.fI a=true then S else⟨(S.k6 a).s,(S.k5 a).tR (S.cD a,S.q3 a) (S.r3 a),(S.k5 a).hZ (S.cD a,S.q3 a) (S.r3 a)⟩):=rfl;go_enter func37,ntmps37;go_wp2_with fail;refine dc.mono ?_;rintro e w1 ⟨c,br,al,cA,rfl,dd,df,dg,dh,di⟩
 have dj:ay (ce u w cA w1):=⟨Fr.of di,dh⟩
 have bo:=dq df dg;obtain⟨dk,⟨dl,bp⟩,dm⟩:=iV dd;have bp:=bp;have dn:=FV dl bp;have dp:ay (∀j t w',(eM c (S.s.j0 a)).J j t w'->cX (S.s.j0 a) t->ce dk w1 j w'->∃f,(de (dQ c (S.s.j0 a)) c.bs (.slice br S.r.length al)).J f (t,S.q) w'/\ce cA w1 f w'):=fun j t w' q1 W q3=>dm (dQ c (S.s.j0 a)) j t w' ⟨q1,W⟩ q3;have dr:=hide (dz.cK bp 12).eZ;go_wp2_with fail;refine dn.mono ?_;rintro e ds ⟨j,rfl,du,dv⟩
 obtain⟨ei,dw,cB⟩:=dp.o j _ ds du dr.o dv;have cC:=yQ (c:=c) rfl dw (by show S.q.length<=90000;omega)
 have cb:=dq (dj.o.trans cB) cB;go_wp2_with fail;refine cC.mono ?_;clear cC;rintro e w3 ⟨cc,rfl,a0,cd⟩
 have a0:=a0;obtain⟨ej,⟨⟨ek,el,dx⟩,em⟩,_⟩:=iV a0;obtain⟨_,_,_,_,cD,_⟩:=eE dx;have dy:=aM w3 _ cD;have hd:=(au w3).drew;have ab:ay ((de (dQ c (S.s.j0 a)) c.bs (.slice br S.r.length al)).J cc (S.j2 a) w3.drew/\ce u w cc w3.drew/\w3.drew.ownsRow 0 103 2 (.slice br S.r.length al) S.r.length (ev S.r)/\(∀b,cc b->b<w3.heap.size)/\w.heap.size<=w3.heap.size):=by
  have cE:=cb.o.2.trans cd;refine⟨(de (dQ c (S.s.j0 a)) c.bs (.slice br S.r.length al)).below a0 hd,(cb.o.1.trans cd).below hd,?_,(de (dQ c (S.s.j0 a)) c.bs (.slice br S.r.length al)).lt a0,(cb.o.1.trans cd).fr.size⟩
  exact cy bo.o.1 (fun b e=>(hd.block b (aO (cg bo.o.1 b e).2 cE.fr.size)).trans (cE.fr.block b (cg bo.o.1 b e).2 (bo.o.2 b e).1))
 have dA:(S.j2 a).2.length+S.r.length<=90000:=by have:(S.j2 a).2.length=S.q.length:=o9 _ _ _;omega
 have dB:ay (∀m,Below w3.drew.heap.size w3.drew m->m.heap[w3.heap.size]?=some (dt c)->m.heap[w3.heap.size+1]?=some (jj (lR c))->Calls prog 78 #[am c.bs,.agg #[(iO w3.heap.size).v,(hQ (w3.heap.size+1)).v,(i5 c).v]] m fun e w'=>∃a1 c1 f,e=.returned (.tuple #[])/\(de (dQ c (S.s.j0 a)) c.bs (.slice a1 (S.r3 a).length c1)).J f (S.cA a,S.q3 a) w'/\w'.ownsRow 0 103 2 (.slice a1 (S.r3 a).length c1) (S.r3 a).length (ev (S.r3 a))/\(∀b,some b=(Value.slice a1 (S.r3 a).length c1).ownBlock->¬f b/\m.heap.size<=b)/\ce u w f w'/\w.heap.size<=m.heap.size):=fun m ad cf ch=>by
  have hs:w3.drew.heap.size=w3.heap.size:=rfl;refine(FU (t:=S.j2 a) (r:=S.r) rfl ((de (dQ c (S.s.j0 a)) c.bs (.slice br S.r.length al)).below ab.o.1 ad) (cy ab.o.2.2.1 (fun b e=>ad.block b (cg ab.o.2.2.1 b e).2)) dA w3.heap.size (w3.heap.size+1) aa cf ch (fun d=>by have:=ab.o.2.2.2.1 _ d;omega) (fun d=>by have:=ab.o.2.2.2.1 _ d;omega)).mono ?_;rintro e w' ⟨a1,c1,f,rfl,q1,W,q3,dC,dD⟩
  have ci:=ab.o.2.1.below ad;have en:=ab.o.2.2.2.2;have eo:=ad.size;refine⟨a1,c1,f,rfl,q1,W,q3,⟨ci.fr.trans dC (fun b d=>?_),fun b d=>?_⟩,aa⟩
  ·rcases d with d|d|d
   ·exact ci.sub b d
   ·exact aK aa
   ·exact aK aa
  ·exact(dD b d).elim (ci.sub b) (fun d=>aK aa)
 go_wp2_with fail
 go_region_held3 (fun w'=>w'.cell? (ao c.pk 4)=some (am c.bs)) (go_keep)
  (first
    |(go_at_call 79;refine(tF (lR c) w3.drew c.pk).mono ?_;rintro e m ⟨rfl,cf,ch,ad⟩;have ep:=(ad.cell (p:=ao c.pk 4) dy).trans cD;have cj:=gM cf ch ad)
    |(go_at_call 78;refine(dB.o m cj.o.2.2 cj.o.1 cj.o.2.1).mono ?_;rintro e dE ⟨a1,c1,dF,rfl,cF,dG,cG,dH,dI⟩;obtain⟨_,⟨⟨cH,cI,a3⟩,_⟩,_⟩:=iV cF;obtain⟨_,_,_,_,eq,_⟩:=eE a3;have ap:ay (_/\_/\(∀b,some b=(Value.slice a1 (S.r3 a).length c1).ownBlock->¬dF b/\w.heap.size<=b)/\_):=⟨cF,dG,fun b e=>⟨(cG b e).1,aS dI (cG b e).2⟩,dH⟩))
 all_goals
  obtain⟨Fm,⟨⟨cH,cI,a3⟩,bb⟩,dJ⟩:=iV ap.o.1;have bb:=bb;have a3:=a3;have cJ:=F4 a3 bb.tl bb.ps;have dK:=hide (bb.pl aa)
  have cK:ay (((S.s.j0 a).pl (S.cA a)).2-(S.s.j0 a).a.N=S.n4 a/\((S.s.j0 a).pl (S.cA a)).1=S.cD a):=⟨rfl,rfl⟩
  rw[cK.o.1,cK.o.2] at cJ;have dL:ay (∀j w' vt ax,(cW c (S.s.j0 a) vt ax).J j (S.cD a) w'->ce Fm dE j w'->_):=fun j w' vt ax q1 q3=>dJ (dQ c (S.s.j0 a)) j (S.cD a) w' ⟨⟨vt,ax,q1⟩,dK.o⟩ q3;go_wp2_with fail;refine cJ.mono ?_;rintro e bs ⟨dN,rfl,cL,dO⟩
  obtain⟨bt,dP,ck⟩:=dL.o dN bs cH cI cL dO;have cM:=FY cL;have dR:ay ((S.s.j0 a).a.O=a.O):=rfl;rw[dR.o] at cM;have bd:ay ((de (dQ c (S.s.j0 a)) c.bs (.slice a1 (S.r3 a).length c1)).J bt (S.cD a,S.q3 a) bs/\ce u w bt bs/\bs.ownsRow 0 103 2 (.slice a1 (S.r3 a).length c1) (S.r3 a).length (ev (S.r3 a))/\∀b,some b=(Value.slice a1 (S.r3 a).length c1).ownBlock->¬bt b):=by refine⟨dP,ap.o.2.2.2.trans ck,gN ap.o.2.1 ck.fr (fun b e=>(ap.o.2.2.1 b e).1),fun b e d=>(ck.sub b d).elim (ap.o.2.2.1 b e).1 (fun d=>by have:=(cg ap.o.2.1 b e).2;omega)⟩
  go_wp2_with fail;refine cM.mono ?_;rintro e bx ⟨rfl,cl⟩
  have n:=iZ ((de (dQ c (S.s.j0 a)) c.bs (.slice a1 (S.r3 a).length c1)).below bd.o.1 cl) (bd.o.2.1.below cl) (cy bd.o.2.2.1 (fun b e=>cl.block b (cg bd.o.2.2.1 b e).2)) bd.o.2.2.2;by_cases cm:(a.O:Int)<S.n4 a
  ·have aB:S.fI a=true:=bq cm;have cn:ay (∃f,(fB a).J f (S.dE a) bx/\ce F w f bx):=by
    have be:=cz.o;rw[aJ aB] at be;rw[be];obtain⟨_,⟨⟨vt,ax,cN⟩,_⟩,_⟩:=iV n.o.1;obtain⟨er,es,et,⟨⟨vt,ax,cN⟩,_⟩,_,_,co,_⟩:=n.o.1;obtain⟨l,q1,W⟩:=zB cN;have q1:=q1;have T:ce u w l bx:=n.o.2.1.less (fun b d=>co b (W b d))
    obtain⟨g1,g2,g3,ag,i,g5,ai⟩:=N.o;obtain⟨v,bn,B,g⟩:=cw.o;obtain⟨eu,_,ew⟩:=iV (o:=d5 a) (F:=da) (t:=(S.s,S.q)) (w:=w) (p:=a.sd) (vr:=.slice ar S.r.length bl) ⟨u,aT,aV,g1,g2,g3,i,g5,ai,v,bn⟩
    have cO:=lt_of_some g2;refine⟨fun b=>(l b\/b=a.sd\/some b=(Value.slice aT S.q.length aV).ownBlock)\/some b=(Value.slice ar S.r.length bl).ownBlock,⟨fun b=>l b\/b=a.sd\/some b=(Value.slice aT S.q.length aV).ownBlock,ar,bl,⟨l,aT,aV,q1,(T.fr.block _ cO ai).trans g2,gN g3 T.fr (fun b e=>(v b e).2),fun b d=>aL d,aK (aL rfl),fun d=>(T.sub _ d).elim ai (fun d=>by omega),fun b e=>⟨aK (aK e),fun d=>(T.sub b d).elim (v b e).2 (fun d=>by have:=(cg g3 b e).2;omega)⟩,fun b d=>?_⟩,gN ag T.fr (fun b e d=>B b e (i b d)),fun b e d=>?_,fun b=>Iff.rfl⟩,⟨T.fr.mono (fun b d=>(g b).2 (aL (i b d))),fun b d=>?_⟩⟩
    ·rcases d with d|d|d
     ·exact(d5 a).lt q1 b d
     ·have:=T.fr.size;omega
     ·have:=(cg g3 b d).2;have:=T.fr.size;omega
    ·have ex:=(cg ag b e).2;rcases d with d|d|d
     ·exact(T.sub b d).elim (fun d=>B b e (i b d)) (fun d=>by omega)
     ·exact B b e (by rw[d];exact g5)
     ·exact B b e (v b d).1
    ·rcases d with(d|d|d)|d
     ·exact(T.sub b d).imp (fun d=>(g b).2 (aL (i b d))) id
     ·exact aL ((g b).2 (aL (by rw[d];exact g5)))
     ·exact aL ((g b).2 (aL (v b d).1))
     ·exact aL ((g b).2 (aK d))
   have bg:=cx.o;rw[aJ aB] at bg;have cp:=hide bg;have ey:decide ((a.O:Int)<S.n4 a)=true:=bq cm;go_wp2_with fail;go_ret;obtain⟨f,cq,j2⟩:=cn.o;exact⟨f,by rw[cp.o];rfl,cq,j2⟩
  ·have aB:S.fI a=false:=bA cm;obtain⟨cP,dS,dT⟩:=db.o aB;have cQ:ay (ir (S.k5 a) (S.dI a) cP/\cP 0 (S.k5 a,0)):=⟨dS,dT⟩
   have dU:(S.q3 a).length+(S.r3 a).length<=90000:=by have ca:=qK (dM cu) (fun s x=>(S.s.j0 a).al s.1 x) (S.s.j0 a).ke (fun s x=>(S.s.j0 a).nw s.1 x) (fun s x=>qC (S.s.j0 a) s x) (S.j2 a) S.r;have dV:(dM cu).wt (S.j2 a)=(S.j2 a).2:=rfl;have dW:S.r3 a=eV (dM cu) (fun s x=>(S.s.j0 a).al s.1 x) (S.s.j0 a).ke (fun s x=>(S.s.j0 a).nw s.1 x) (S.j2 a) S.r:=rfl;have dX:S.q3 a=eW (dM cu) (fun s x=>(S.s.j0 a).al s.1 x) (S.s.j0 a).ke (fun s x=>(S.s.j0 a).nw s.1 x) (S.j2 a) S.r:=rfl;rw[dV,<-dW,<-dX] at ca;omega
   have dY:¬bt a.sd:=fun d=>(n.o.2.1.sub _ d).elim N.o.2.2.2.2.2.2 (fun d=>by have:=lt_of_some N.o.2.1;omega)
   have cR:=Gj (k:=S.s.j0 a) (t:=(S.cD a,S.q3 a)) rfl n.o.1 n.o.2.2.1 n.o.2.2.2 dU (v1:=.slice ar S.r.length bl) (v2:=.slice aT S.q.length aV) ((n.o.2.1.fr.block a.sd (lt_of_some N.o.2.1) N.o.2.2.2.2.2.2).trans N.o.2.1) dY;have dZ:ay ((S.s.j0 a).e4 (S.cD a)=S.k5 a):=rfl;rw[dZ.o] at cR;go_wp2_with fail;refine cR.mono ?_;rintro e cS ⟨a2,c2,d0,rfl,d1,cT,cU,d2,d3,d4,d6⟩
   have d7:ay (Fr (fun b=>u b\/b=a.sd) w cS/\(∀b,d0 b->u b\/w.heap.size<=b)/\w.heap.size<=bx.heap.size):=by
    have T:=n.o.2.1;have z:=T.fr.size;refine⟨(T.fr.mono (fun b d=>aL d)).trans d4 (fun b d=>?_),fun b d=>(d6 b d).elim (T.sub b) (fun d=>aK aa),z⟩
    rcases d with d|d
    ·exact(T.sub b d).imp aL id
    ·exact aL (aK d)
   obtain⟨cV,b0,b7,⟨⟨vt,ax,cr⟩,b8⟩,cs,cY,co,ez,eA,cZ,d8⟩:=d1;have cr:=cr;have b8:=b8;have c0:=GF cQ.o.1 cQ.o.2 cr b8.tl b8.ps;have d9:ay ((S.k5 a).sl (S.dI a)=S.k6 a):=rfl;rw[d9.o] at c0;obtain⟨bi,c3⟩:∃bi,(S.k5 a).tR (S.cD a,S.q3 a) (S.r3 a)=bi:=⟨_,rfl⟩
   obtain⟨aF,c4⟩:∃aF,(S.k5 a).hZ (S.cD a,S.q3 a) (S.r3 a)=aF:=⟨_,rfl⟩
   rw[c3] at cT cU cs;rw[c4] at cs cY cZ;have eb:=Bo (d2.trans cs) cY co d3 cZ d8;have ec:=dq cT cU;have c5:ay ((S.k5 a).tR (S.cD a,S.q3 a) (S.r3 a)=bi/\(S.k5 a).hZ (S.cD a,S.q3 a) (S.r3 a)=aF):=⟨c3,c4⟩
   go_wp2_with fail;refine c0.mono ?_;rintro e c6 ⟨eB,rfl,ed,aR⟩
   have cn:ay (∃f,(fB a).J f (S.dE a) c6/\ce F w f c6):=by
    have be:=cz.o;rw[aH (by rw[aB];simp),c5.o.1,c5.o.2] at be;rw[be];obtain⟨l,q1,W⟩:=zB ed;have ea:(S.k6 a).a=a:=by have ee:S.k6 a=(S.k5 a).sl (S.dI a):=rfl;have ef:S.k5 a=(S.s.j0 a).e4 (S.cD a):=rfl;rw[ee,G9,ef,G8];rfl
    rw[ea] at q1;obtain⟨b1,b2,b3,b4,b5,b6⟩:=eb.o;obtain⟨r1,ct⟩:=ec.o;obtain⟨c7,cv,t3⟩:=d7.o;obtain⟨g1,g2,g3,ag,i,g5,ai⟩:=N.o;obtain⟨v,bn,B,g⟩:=cw.o;have cO:=lt_of_some g2;have eC:=c7.size;have eD:=aR.fr.size;have b9:∀b,l b->cV b\/cS.heap.size<=b:=fun b d=>aR.sub b (W b d)
    have c8:¬cV a.sd:=fun d=>b4 (b3 _ d)
    have eg:∀b,some b=(Value.slice a2 bi.length c2).ownBlock->¬(l b\/b=a.sd\/some b=(Value.slice b0 aF.length b7).ownBlock):=fun b e d=>by
     have q:=ct b e;rcases d with d|d|d
     ·exact(b9 b d).elim (fun d=>q.1 (b3 b d)) (fun d=>by have:=(cg r1 b e).2;omega)
     ·omega
     ·exact q.1 (b5 b d).1
    refine⟨fun b=>(l b\/b=a.sd\/some b=(Value.slice b0 aF.length b7).ownBlock)\/some b=(Value.slice a2 bi.length c2).ownBlock,⟨fun b=>l b\/b=a.sd\/some b=(Value.slice b0 aF.length b7).ownBlock,a2,c2,⟨l,b0,b7,q1,(aR.fr.block _ aa c8).trans b1,gN b2 aR.fr (fun b e=>(b5 b e).2),fun b d=>aL d,aK (aL rfl),fun d=>(b9 _ d).elim c8 (fun d=>by omega),fun b e=>⟨aK (aK e),fun d=>(b9 b d).elim (b5 b e).2 (fun d=>by have:=(cg b2 b e).2;omega)⟩,fun b d=>?_⟩,gN r1 aR.fr (fun b e d=>(ct b e).1 (b3 b d)),eg,fun b=>Iff.rfl⟩,⟨(c7.trans aR.fr (fun b d=>(cv b (b3 b d)).imp aL id)).mono (fun b d=>?_),fun b d=>?_⟩⟩
    ·rcases d with d|d|d
     ·exact(d5 a).lt q1 b d
     ·omega
     ·have:=(cg b2 b d).2;omega
    ·rcases d with d|d
     ·exact(g b).2 (aL (i b d))
     ·exact(g b).2 (aL (by rw[d];exact g5))
    ·rcases d with(d|d|d)|d
     ·rcases b9 b d with d|d
      ·exact(cv b (b3 b d)).imp (fun d=>(g b).2 (aL (i b d))) id
      ·exact aK aa
     ·exact aL ((g b).2 (aL (by rw[d];exact g5)))
     ·exact(cv b (b5 b d).1).imp (fun d=>(g b).2 (aL (i b d))) id
     ·have:=(ct b d).2;exact aK aa
   have bg:=cx.o;rw[aH (by rw[aB];simp)] at bg;have cp:=hide bg;go_wp2_with fail;go_ret;obtain⟨f,cq,j2⟩:=cn.o;exact⟨f,by rw[cp.o];rfl,cq,j2⟩
end
theorem d9.next {L:Int->Int}{hi:Int}:∀{l:List Int}{a:Int},d9 L hi a l->∀x∈l,x+(1+pf (L x))∈l\/x+(1+pf (L x))=hi
 |[],_,_,x,b=>by cases b
 |y::l,a,h,x,b=>by
  obtain⟨e,_,_,ht⟩:=h;rcases List.mem_cons.1 b with c|c
  ·subst c;subst e
   match l,ht with
   |[],ht=>exact aK ht
   |f::g,ht=>
    obtain⟨d,_⟩:=ht;exact aL (by rw[<-d];simp)
  ·exact(d9.next ht x c).imp (aQ _) id
theorem zC {L:Int->Int}{hi:Int}:∀{l m:List Int}{a x y:Int},d9 L hi a (l++m)->x∈l->y∈m->x<y
 |[],_,_,_,_,_,b,_=>by cases b
 |u::l,m,a,x,y,h,b,hy=>by
  obtain⟨e,_,_,ht⟩:=h;have hp:=dp (L a)
  rcases List.mem_cons.1 b with c|c
  ·have:=(ht.mem y (bm l hy)).1;omega
  ·exact zC ht c hy
structure LI (k:cf)(z:C0)(s:ck)(H D:List Int):Prop where
 mi:dH k z s H
 bo:s.nx∈H\/s.nx=(k.N:Int)+s.g
 lo:∀b∈H,b<s.nx->Lo k s b
 ld:∀b∈D,Lo k s b
 dg:∀b∈D,b∈z.G
section
variable {k:cf}{z:C0}{s t:ck}{H D:List Int}
theorem LI.kC (h:LI k z s H D)(v:hB k.N s.g s.nx=true):∃d,LI k z {k.lk s s.nx with nx:=s.nx+(1+pf (k.ld s s.nx))} d D/\df k s {k.lk s s.nx with nx:=s.nx+(1+pf (k.ld s s.nx))}/\∃g,d=H++g:=by
 have hb:=jc v;have e:=h.bo.resolve_right aa;obtain⟨a,j⟩:=h.mi.from (bm z.G e)
 have S:=dp (k.ld s s.nx)
 have hg:=h.mi.ci.hg;obtain⟨d,m1,f,⟨g,i⟩,w,x,B⟩:=h.mi.lk j;have n:=h.mi.hd a _ j;have p:=m1.hd a _ (f.or j)
 have hlo:=h.mi.hlo _ e;have F:∀b∈g,s.nx<b:=fun b c=>zC (by have:=m1.full.ej;rw[i,<-bj] at this;exact this) (bm z.G e) c;have q:∀b,b∈H->b∈d:=fun b c=>by rw[i];exact a7 _ c
 have keep:∀b,(∃a,k.or z s a b)->Lo k s b->Lo k {k.lk s s.nx with nx:=s.nx+(1+pf (k.ld s s.nx))} b:=fun b ⟨a,o⟩ l=>by
  have l2:=Lo.go l h.mi m1 f o (x b) (B b)
  exact l2
 refine⟨d,⟨(m1.turn _ _ _ _ m1.ci.ip m1.ci.hL aa aa),?_,fun b c lt=>?_,fun b c=>keep b ⟨b,aL ⟨rfl,h.dg b c⟩⟩ (h.ld b c),h.dg⟩,⟨f.f,f.g,f.cl⟩,g,i⟩
 ·have t:=d9.next m1.full.ej s.nx (bm z.G (q _ e))
  have m:Proofs.YtpkjkjhanlbcoaaGreat.ld k.N k.y (k.lk s s.nx).g (k.lk s s.nx).ws s.nx=k.ld s s.nx:=p.trans n.symm;rw[m] at t;rcases t with c|c
  ·rcases List.mem_append.1 c with c|c
   ·have:=h.mi.kD _ c;omega
   ·exact aL c
  ·exact aK c
 ·dsimp only at lt;by_cases N:b=s.nx
  ·subst N;exact w
  ·by_cases lb:b<s.nx
   ·have u:b∈H:=by
     rw[i] at c;rcases List.mem_append.1 c with c|c
     ·exact c
     ·exact absurd (F b c) aa
    exact keep b (h.mi.from (bm z.G u)) (h.lo b u lb)
   ·have ap:=m1.full.ej.apart s.nx (bm z.G (q _ e)) b (bm z.G c) aa;have m:Proofs.YtpkjkjhanlbcoaaGreat.ld k.N k.y (k.lk s s.nx).g (k.lk s s.nx).ws s.nx=k.ld s s.nx:=p.trans n.symm;rw[m] at ap;omega
end
section
variable {k:cf}{z:C0}{s t:ck}{H D:List Int}
theorem LI.lift (h:LI k z s H D){K:List Int}(ht:dH k z t K)(p:df k s t)(hw:t.wk=s.wk)(he:t.ep=s.ep)(f:t.nx=s.nx)(hb:t.nx∈K\/t.nx=(k.N:Int)+t.g)(g:∀b∈K,b<t.nx->b∈H):LI k z t K D:=
 ⟨ht,hb,fun b d lt=>by
  have e:=g b d lt;obtain⟨a,o⟩:=h.mi.from (bm z.G e)
  exact Lo.go (h.lo b e (by rw[<-f];exact lt)) h.mi ht p o (fun c=>by rw[hw];exact c) (fun c=>by rw[he];exact c),fun b d=>Lo.go (h.ld b d) h.mi ht p (aL ⟨rfl,h.dg b d⟩) (fun c=>by rw[hw];exact c) (fun c=>by rw[he];exact c),h.dg⟩
theorem LI.zD (h:LI k z s H D):s.nx<=(k.N:Int)+s.g:=by
 rcases h.bo with b|b
 ·have:=(h.mi.iX b).2;omega
 ·omega
theorem LI.cp (h:LI k z s H D){a:Int}(ha:a∈k.T)(e:s.f a=-1):LI k z (k.cp s a) (H++[((k.N+s.g:Nat):Int)]) D/\df k s (k.cp s a):=by
 obtain⟨m1,d,_⟩:=h.mi.cp ha e;have f:=h.zD;refine⟨h.lift m1 d rfl rfl rfl ?_ (fun b c lt=>?_),d⟩
 ·show s.nx∈_\/_;rcases h.bo with c|c
  ·exact aL (a7 _ c)
  ·exact aL (bm _ (by rw[c];simp))
 ·have g:b<s.nx:=lt;rcases List.mem_append.1 c with c|c
  ·exact c
  ·rw[List.mem_singleton] at c;omega
theorem LI.br (h:LI k z s H D)(x:Int):∃f,LI k z (k.br s x).2 f D/\df k s (k.br s x).2/\(∃j,f=H++j)/\k.cL (k.br s x).1=false/\(∀g,k.ml s g x->k.ml (k.br s x).2 g (k.br s x).1):=by
 obtain⟨_,_,_,i,_,b,_⟩:=h.mi.br x;cases hls:k.ls s x
 ·have e:(k.br s x).2=s:=by unfold cf.br;rw[hls];rfl
  rw[e] at b⊢;exact⟨H,h,df.refl _ _,⟨[],ac⟩,i,b⟩
 ·have e:(k.br s x).2=k.cp s (cj x):=by unfold cf.br;rw[aJ hls]
  have c:=hls;unfold cf.ls at c;rw[bh] at c;have d:=c.1;unfold cf.cL at d;rw[bh] at d;obtain⟨l,j2⟩:=h.cp (by simpa using d.2) (by simpa using c.2)
  rw[e] at b⊢;exact⟨_,l,j2,⟨_,rfl⟩,i,b⟩
theorem LI.kf (h:LI k z s H D){a b i:Int}(d:k.or z s a b)(e:0<=i)(f:i<pf (k.l0 z a)):∃c,LI k z (k.kf s (b+1+i)) c D/\df k s (k.kf s (b+1+i))/\k.cL (k.ld (k.kf s (b+1+i)) (b+1+i))=false/\∃l,c=H++l:=by
 obtain⟨c,m1,g,m,j,n⟩:=h.br _;obtain⟨s1,s2,q⟩:=m1.mi.st (g.or d) e f (n _ (h.mi.fd a b d i e f))
 have p:=df.st (a:=b+1+i) m1.mi.ci j;refine⟨c,m1.lift s1 p rfl rfl rfl m1.bo (fun b o _=>o),g.trans p,?_,m⟩
 unfold cf.kf;rw[s2];exact j
end
section
variable {k:cf}{z:C0}{s t:ck}{H D:List Int}
theorem lV (k:cf)(s:ck)(x:Int):(k.br s x).2.rs=s.rs/\(k.br s x).2.wk=s.wk/\(k.br s x).2.ep=s.ep/\(k.br s x).2.nx=s.nx:=by unfold cf.br;split<;>exact⟨rfl,rfl,rfl,rfl⟩
theorem LI.roots (h:LI k z s H D)(rs:List Int):LI k z {s with rs:=rs} H D:=
 h.lift (h.mi.turn s.wk s.ep rs s.nx h.mi.ci.ip h.mi.ci.hL h.mi.ci.g7 h.mi.ci.gG) (df.turn k s s.wk s.ep rs s.nx) rfl rfl rfl h.bo (fun _ b _=>b)
theorem LI.cK (h:LI k z s H D):∀n:Nat,n<=s.rs.length->∃d,LI k z (k.cK s n) d D/\df k s (k.cK s n)/\(∃b,d=H++b)/\(k.cK s n).rs.length=s.rs.length/\(∀i,i<n->k.cL ((k.cK s n).rs.getD i 0)=false)/\(∀i,n<=i->(k.cK s n).rs.getD i 0=s.rs.getD i 0)/\∀i,i<n->k.ml (k.cK s n) (s.rs.getD i 0) ((k.cK s n).rs.getD i 0)
 |0,_=>⟨H,h,df.refl _ _,⟨[],ac⟩,rfl,fun i hi=>aa,fun _ _=>rfl,fun i hi=>aa⟩
 |n+1,v=>by
  obtain⟨w,m1,l,⟨b,m⟩,f,o,g,p⟩:=LI.cK h n aa;obtain⟨q,t,j2,⟨u,cA⟩,cD,dI⟩:=m1.br _;obtain⟨r1,_⟩:=lV k _ _;have hl:n<(k.br (k.cK s n) ((k.cK s n).rs.getD n 0)).2.rs.length:=by rw[r1,f];omega
  have c:∀i,((k.br (k.cK s n) ((k.cK s n).rs.getD n 0)).2.rs.set n (k.br (k.cK s n) ((k.cK s n).rs.getD n 0)).1).getD i 0=if n=i then(k.br (k.cK s n) ((k.cK s n).rs.getD n 0)).1 else(k.cK s n).rs.getD i 0:=fun i=>by rw[kQ _ _ _ _ hl,r1]
  have j:=df.turn k (k.br (k.cK s n) ((k.cK s n).rs.getD n 0)).2 (k.br (k.cK s n) ((k.cK s n).rs.getD n 0)).2.wk (k.br (k.cK s n) ((k.cK s n).rs.getD n 0)).2.ep ((k.br (k.cK s n) ((k.cK s n).rs.getD n 0)).2.rs.set n (k.br (k.cK s n) ((k.cK s n).rs.getD n 0)).1) (k.br (k.cK s n) ((k.cK s n).rs.getD n 0)).2.nx;refine⟨q,t.roots _,l.trans (j2.trans j),⟨b++u,by rw[cA,m,bj]⟩,?_,fun i hi=>?_,fun i hi=>?_,fun i hi=>?_⟩
  ·show(List.set _ _ _).length=_;rw[bf,r1,f]
  ·show k.cL ((List.set _ _ _).getD i 0)=false;rw[c];split
   ·exact cD
   ·exact o i aa
  ·show(List.set _ _ _).getD i 0=_;rw[c,aH aa];exact g i aa
  ·show k.ml _ _ ((List.set _ _ _).getD i 0)
   rw[c];by_cases e:n=i
   ·rw[aJ e];subst e;exact dI _ (aL (g n bY))
   ·rw[aH e];exact(j2.trans j).ml (p i aa)
end
theorem zE {L c:Int->Int}{hi d:Int}:∀{l m:List Int}{a:Int},d9 L hi a l->d9 c d a (l++m)->(∀x∈l,c x=L x)->(hi∈m\/hi=d)/\∀y∈m,hi<=y
 |[],m,a,h,b,_=>by
  have e:=h;subst e;refine⟨?_,fun y hy=>(b.mem y hy).1⟩
  match m,b with
  |[],b=>exact aK b
  |y::k,b=>
   obtain⟨i,_⟩:=b;exact aL (by rw[<-i];simp)
 |u::l,m,a,h,b,he=>by obtain⟨e,_,_,ht⟩:=h;obtain⟨_,_,_,f⟩:=b;have g:=he u ac;rw[e] at g;rw[g] at f;exact zE ht f (fun x j=>he x (aQ _ j))
section
variable {k:cf}{z:C0}{s t:ck}{H D:List Int}
theorem LI.lk (h:LI k z s H D){b:Int}(hb:b∈z.G):∃g,LI k z (k.lk s b) g (b::D)/\df k s (k.lk s b)/\∃j,g=H++j:=by
 obtain⟨g,m1,i,⟨j,f⟩,t,l,m⟩:=h.mi.lk (aL ⟨rfl,hb⟩)
 obtain⟨n,v⟩:=qI k s b;have p:=zE h.mi.full.ej (by have:=m1.full.ej;rw[f,<-bj] at this;exact this) (fun x u=>by obtain⟨a,o⟩:=h.mi.from u;exact(m1.hd a x (i.or o)).trans (h.mi.hd a x o).symm)
 have w:=h.zD;refine⟨g,⟨m1,?_,fun c d lt=>?_,fun c d=>?_,fun c d=>?_⟩,i,j,f⟩
 ·rw[n];rcases h.bo with d|d
  ·exact aL (by rw[f];exact a7 _ d)
  ·rw[d];exact p.1.imp (fun e=>by rw[f];exact bm _ e) id
 ·rw[n] at lt;have q:c∈H:=by
   rw[f] at d;rcases List.mem_append.1 d with d|d
   ·exact d
   ·have:=p.2 c d;omega
  obtain⟨a,o⟩:=h.mi.from (bm z.G q)
  exact Lo.go (h.lo c q lt) h.mi m1 i o (l c) (m c)
 ·rcases List.mem_cons.1 d with d|d
  ·rw[d];exact t
  ·exact Lo.go (h.ld c d) h.mi m1 i (aL ⟨rfl,h.dg c d⟩) (l c) (m c)
 ·rcases List.mem_cons.1 d with d|d
  ·rw[d];exact hb
  ·exact h.dg c d
end
structure dN (k:cf)(z:C0)(s:ck)(H:List Int):Prop where
 wk:∀a∈s.wk,a∈z.G++H/\pk (k.ld s a)=3
 ep:∀a∈s.ep,a∈z.G++H/\pk (k.ld s a)=4
section
variable {k:cf}{z:C0}{s t:ck}{H K D:List Int}
theorem df.hd (p:df k s t)(h:dH k z s H)(ht:dH k z t K){b:Int}(hb:b∈z.G++H):k.ld t b=k.ld s b:=by obtain⟨a,o⟩:=h.from hb;exact(ht.hd a b (p.or o)).trans (h.hd a b o).symm
theorem kF {G H K:List Int}{x:Int}(h:∃b,K=H++b)(c:x∈G++H):x∈G++K:=by obtain⟨b,e⟩:=h;rw[e,<-bj];exact a7 _ c
theorem dN.go (w:dN k z s H)(h:dH k z s H)(ht:dH k z t K)(p:df k s t)(c:∃d,K=H++d)(e:t.wk=s.wk)(f:t.ep=s.ep):dN k z t K:=
 ⟨fun a ha=>by
  rw[e] at ha;obtain⟨m1,b⟩:=w.wk a ha;exact⟨kF c m1,by rw[p.hd h ht m1];exact b⟩,fun a ha=>by
  rw[f] at ha;obtain⟨m1,b⟩:=w.ep a ha;exact⟨kF c m1,by rw[p.hd h ht m1];exact b⟩⟩
theorem zF (k:cf)(s:ck)(b:Int):((k.lk s b).wk=s.wk\/(pk (k.ld s b)=3/\(k.lk s b).wk=s.wk++[b]))/\((k.lk s b).ep=s.ep\/(pk (k.ld s b)=4/\(k.lk s b).ep=s.ep++[b])):=by
 unfold cf.lk;split
 ·exact⟨aL (mX _ _ _ _).1,aL (mX _ _ _ _).2.1⟩
 ·split
  ·rename_i e;exact⟨aK ⟨e,(jF _ _ _).1⟩,aL (jF _ _ _).2.1⟩
  ·split
   ·rename_i e;exact⟨aL rfl,aK ⟨e,rfl⟩⟩
   ·exact⟨aL rfl,aL rfl⟩
theorem dN.lk (w:dN k z s H)(h:dH k z s H){b:Int}(hb:b∈z.G++H)(ht:dH k z (k.lk s b) K)(p:df k s (k.lk s b))(f:∃i,K=H++i):dN k z (k.lk s b) K:=by
 obtain⟨c1,c2⟩:=zF k s b;refine⟨fun a ha=>?_,fun a ha=>?_⟩
 ·rcases c1 with e|⟨g,e⟩
  ·rw[e] at ha;obtain⟨m1,d⟩:=w.wk a ha;exact⟨kF f m1,by rw[p.hd h ht m1];exact d⟩
  ·rw[e] at ha;rcases List.mem_append.1 ha with c|c
   ·obtain⟨m1,d⟩:=w.wk a c;exact⟨kF f m1,by rw[p.hd h ht m1];exact d⟩
   ·rw[List.mem_singleton] at c;subst c;exact⟨kF f hb,by rw[p.hd h ht hb];exact g⟩
 ·rcases c2 with e|⟨g,e⟩
  ·rw[e] at ha;obtain⟨m1,d⟩:=w.ep a ha;exact⟨kF f m1,by rw[p.hd h ht m1];exact d⟩
  ·rw[e] at ha;rcases List.mem_append.1 ha with c|c
   ·obtain⟨m1,d⟩:=w.ep a c;exact⟨kF f m1,by rw[p.hd h ht m1];exact d⟩
   ·rw[List.mem_singleton] at c;subst c;exact⟨kF f hb,by rw[p.hd h ht hb];exact g⟩
theorem LI.qM (h:LI k z s H D){b:Int}(hb:b∈z.G++H)(l:pk (k.ld s b)=4):∃f,LI k z (k.kf (k.kf s (b+1)) (b+2)) f D/\df k s (k.kf (k.kf s (b+1)) (b+2))/\(∃d,f=H++d)/\k.cL (k.ld (k.kf (k.kf s (b+1)) (b+2)) (b+1))=false/\k.cL (k.ld (k.kf (k.kf s (b+1)) (b+2)) (b+2))=false:=by
 obtain⟨a,o⟩:=h.mi.from hb;have m:=h.mi.bd hb;have v:=h8 m.2.2 (aK (aK l))
 have g:=h.mi.hd a b o;obtain⟨w,m1,c,j,⟨d,n⟩⟩:=h.kf (i:=0) o aa (by rw[<-g];omega)
 obtain⟨p,e,j2,cA,⟨q,cD⟩⟩:=m1.kf (i:=1) (c.or o) aa (by rw[<-g];omega)
 have t:b+1+0=b+1:=aa;have u:b+1+1=b+2:=aa;rw[t] at m1 c j e j2 cA;rw[u] at e j2 cA;exact⟨p,e,c.trans j2,⟨d++q,by rw[cD,n,bj]⟩,j2.cl _ aa (by have:=c.g;omega) j,cA⟩
theorem LI.dT:∀(l left:List Int){s:ck}{H:List Int},LI k z s H D->(∀a∈l,a∈z.G++H/\pk (k.ld s a)=4)->∃n,LI k z (l.foldl k.cS (left,s)).2 n D/\df k s (l.foldl k.cS (left,s)).2/\(∃t,n=H++t)/\(l.foldl k.cS (left,s)).2.wk=s.wk/\(l.foldl k.cS (left,s)).2.ep=s.ep/\(∀a∈l,a∈(l.foldl k.cS (left,s)).1\/(k.cL (k.ld (l.foldl k.cS (left,s)).2 (a+1))=false/\k.cL (k.ld (l.foldl k.cS (left,s)).2 (a+2))=false))/\(∀a∈left,a∈(l.foldl k.cS (left,s)).1)/\∀a∈(l.foldl k.cS (left,s)).1,a∈left\/a∈l
 |[],left,s,H,h,_=>⟨H,h,df.refl _ _,⟨[],ac⟩,rfl,rfl,fun a ha=>(by cases ha),fun _ c=>c,fun _ c=>aL c⟩
 |b::l,left,s,H,h,hl=>by
  rw[a9];cases hls:k.ls s _
  ·have e:k.cS (left,s) b=(left,k.kf (k.kf s (b+1)) (b+2)):=by unfold cf.cS;rw[aH (by rw[hls];simp)]
   rw[e];obtain⟨o,p⟩:=hl b ac;obtain⟨ad,m1,f,q,u,v⟩:=h.qM o p;obtain⟨g,i,j2,cA,cD,dI,j,d,m⟩:=LI.dT l left m1 (fun a ha=>by
    obtain⟨n1,w⟩:=hl a (aQ _ ha)
    exact⟨kF q n1,by rw[f.hd h.mi m1.mi n1];exact w⟩)
   obtain⟨w1,x,_⟩:=jF k s (b+1)
   obtain⟨w3,B,_⟩:=jF k _ (b+2)
   have F:=h.mi.bd o;have ag:=h8 F.2.2 (aK (aK p))
   have hg:=f.g;refine⟨g,i,f.trans j2,?_,cD.trans (w3.trans w1),dI.trans (B.trans x),fun a ha=>?_,d,fun a ha=>(m a ha).imp id (aQ _)⟩
   ·obtain⟨N,S⟩:=q;obtain⟨W,ab⟩:=cA;exact⟨N++W,by rw[ab,S,bj]⟩
   ·rcases List.mem_cons.1 ha with c|c
    ·subst c;exact aK ⟨j2.cl _ aa aa u,j2.cl _ aa aa v⟩
    ·exact j a c
  ·have e:k.cS (left,s) b=(left++[b],s):=by unfold cf.cS;rw[aJ hls]
   rw[e];obtain⟨g,i,j2,cA,cD,dI,j,d,m⟩:=LI.dT l _ h (fun a ha=>hl a (aQ _ ha))
   refine⟨g,i,j2,cA,cD,dI,fun a ha=>?_,fun a c=>d a (a7 _ c),fun a ha=>?_⟩
   ·rcases List.mem_cons.1 ha with c|c
    ·exact aL (d a (by rw[c];simp))
    ·exact j a c
   ·rcases m a ha with c|c
    ·rcases List.mem_append.1 c with c|c
     ·exact aL c
     ·rw[List.mem_singleton] at c;exact aK (by rw[c];simp)
    ·exact aK (aQ _ c)
end
section
variable {k:cf}{z:C0}{s t:ck}{H K D:List Int}
theorem dN.kC (w:dN k z s H)(h:LI k z s H D)(d:hB k.N s.g s.nx=true)(ht:dH k z {k.lk s s.nx with nx:=s.nx+(1+pf (k.ld s s.nx))} K)(p:df k s {k.lk s s.nx with nx:=s.nx+(1+pf (k.ld s s.nx))})(e:∃f,K=H++f):dN k z {k.lk s s.nx with nx:=s.nx+(1+pf (k.ld s s.nx))} K:=by have hb:=jc d;obtain⟨b,_⟩:=qI k s s.nx;have c:=w.lk h.mi (bm z.G (h.bo.resolve_right aa)) (ht.turn (k.lk s s.nx).wk _ _ (k.lk s s.nx).nx ht.ci.ip ht.ci.hL (by rw[b];exact h.mi.ci.g7) (by rw[b];exact h.mi.ci.gG)) ⟨p.f,p.g,p.cl⟩ e;exact⟨c.wk,c.ep⟩
theorem LI.pj:∀(n:Nat){s:ck}{H:List Int},LI k z s H D->dN k z s H->∃c,LI k z (k.lb n s) c D/\dN k z (k.lb n s) c/\df k s (k.lb n s)/\(∃d,c=H++d)/\(((k.N:Int)+k.O-s.nx).toNat<n->hB k.N (k.lb n s).g (k.lb n s).nx=false)
 |0,s,H,h,w=>⟨H,h,w,df.refl _ _,⟨[],ac⟩,fun e=>absurd e aa⟩
 |n+1,s,H,h,w=>by
  unfold cf.lb;cases hn:hB k.N s.g s.nx
  ·rw[aH ac];exact⟨H,h,w,df.refl _ _,⟨[],ac⟩,fun _=>hn⟩
  ·obtain⟨l,m1,f,b⟩:=h.kC hn;have w1:=w.kC h hn m1.mi f b;obtain⟨d,b⟩:=b;obtain⟨g,i,j_,j2,⟨j,cA⟩,cD⟩:=LI.pj n m1 w1;refine⟨g,i,j_,f.trans j2,⟨d++j,by rw[cA,b,bj]⟩,fun e=>cD ?_⟩
   have m:=dp (k.ld s s.nx)
   have hb:=jc hn;have hg:=h.mi.ci.hg;dsimp only;omega
theorem Lo.ep {b:Int}(l:Lo k t b)(e:List Int)(hc:b∈t.ep->b∈e\/(k.cL (k.ld t (b+1))=false/\k.cL (k.ld t (b+2))=false))(o:pk (k.ld t b)=4->pf (k.ld t b)=2):Lo k {t with ep:=e} b:=by
 intro i f g;have j:i<pf (k.ld t b):=g;rcases l i f j with d|d|⟨m,n⟩
 ·exact aL d
 ·exact aK (aL d)
 ·rcases hc n with c|⟨c1,c2⟩
  ·exact aK (aK ⟨m,c⟩)
  ·left;rcases(by omega:i=0\/i=1) with e|e
   ·rw[e,show b+1+0=b+1 by omega];exact c1
   ·rw[e,show b+1+1=b+2 by omega];exact c2
theorem LI.kv (h:LI k z s H D)(w:dN k z s H):∃f,LI k z (k.kv s).2 f D/\dN k z (k.kv s).2 f/\df k s (k.kv s).2/\∃i,f=H++i:=by
 obtain⟨f,c,j2,cA,cD,dI,j,_,l⟩:=LI.dT s.ep [] h w.ep;have sub:_:=fun a ha=>(l a ha).elim (fun d=>by cases d) id;have g:=w.go h.mi c.mi j2 cA cD dI;have cl:∀b,b∈(s.ep.foldl k.cS ([],s)).2.ep->_:=fun b hb=>j b (by rw[<-dI];exact hb)
 have two:∀b,b∈z.G++f->pk (k.ld (s.ep.foldl k.cS ([],s)).2 b)=4->_=_:=fun b hb e=>h8 (c.mi.bd hb).2.2 (aK (aK e))
 refine⟨f,⟨(c.mi.turn _ _ _ _ c.mi.ci.ip (fun a ha=>h.mi.ci.hL a (sub a ha)) c.mi.ci.g7 c.mi.ci.gG),c.bo,fun b d lt=>?_,fun b d=>?_,c.dg⟩,⟨g.wk,fun a ha=>g.ep a (by rw[dI];exact sub a ha)⟩,⟨j2.f,j2.g,j2.cl⟩,cA⟩
 ·exact(c.lo b d lt).ep _ (cl b) (two b (bm _ d))
 ·exact(c.ld b d).ep _ (cl b) (two b (a7 _ (c.dg b d)))
end
def cZ (k:cf)(z:C0)(D:List Int)(s t:ck):Prop:=∀H,LI k z s H D->dN k z s H->∃b,LI k z t b D/\dN k z t b/\df k s t/\∃c,b=H++c
section
variable {k:cf}{z:C0}{s t u:ck}{D:List Int}
theorem cZ.refl:cZ k z D s s:=fun H h w=>⟨H,h,w,df.refl _ _,⟨[],ac⟩⟩
theorem cZ.trans (h:cZ k z D s t)(j:cZ k z D t u):cZ k z D s u:=fun H l w=>by obtain⟨b,m1,c,d,⟨A,e⟩⟩:=h H l w;obtain⟨f,g,j2,cA,⟨B,cD⟩⟩:=j b m1 c;exact⟨f,g,j2,d.trans cA,⟨A++B,by rw[cD,e,bj]⟩⟩
theorem cZ.br (x:Int):cZ k z D s (k.br s x).2:=fun _ h w=>by obtain⟨d,m1,b,c,_,_⟩:=h.br x;obtain⟨_,e,f,_⟩:=lV k s x;exact⟨d,m1,w.go h.mi m1.mi b c e f,b,c⟩
theorem cZ.lb (n:Nat):cZ k z D s (k.lb n s):=fun _ h w=>by obtain⟨b,m1,c,d,e,_⟩:=LI.pj n h w;exact⟨b,m1,c,d,e⟩
theorem cZ.kv:cZ k z D s (k.kv s).2:=fun _ h w=>h.kv w
theorem cZ.kG:∀(l:List Nat)(t:(ck×List b9)×Bool),cZ k z D t.1.1 (l.foldl (dF k.al k.br) t).1.1
 |[],t=>cZ.refl
 |i::l,t=>by
  refine cZ.trans ?_ (cZ.kG l _)
  unfold dF;split
  ·exact cZ.refl
  ·exact cZ.br _
theorem cZ.wa (t:ck×List b9):cZ k z D t.1 (k.wa t).1.1:=cZ.kG (List.range t.2.length) (t,false)
theorem cZ.cY:∀(n:Nat)(t:ck×List b9),cZ k z D t.1 (k.cY n t).1
 |0,t=>cZ.refl
 |n+1,t=>by
  have b:cZ k z D t.1 (k.kv (k.lb (k.O+1) t.1)).2:=(cZ.lb (k.O+1)).trans cZ.kv;unfold cf.cY;split
  ·exact b.trans (cZ.cY n ((k.kv (k.lb (k.O+1) t.1)).2,t.2))
  ·split
   ·exact(b.trans (cZ.wa ((k.kv (k.lb (k.O+1) t.1)).2,t.2))).trans (cZ.cY n (k.wa ((k.kv (k.lb (k.O+1) t.1)).2,t.2)).1)
   ·exact b.trans (cZ.wa ((k.kv (k.lb (k.O+1) t.1)).2,t.2))
theorem cZ.sp (t:ck×List b9):cZ k z D t.1 (k.sp t).1:=cZ.cY _ t
theorem cZ.ke (t:ck×List b9)(x:Int):cZ k z D t.1 (k.ke t x).2.1:=(cZ.br x).trans (cZ.sp ((k.br t.1 x).2,t.2))
theorem cZ.one (t:ck×List b9)(e:b9):cZ k z D t.1 (cm (dM ck) (fun s x=>k.al s.1 x) k.ke t e).2.1:=by
 unfold cm;split
 ·exact cZ.ke t e.2
 ·exact cZ.refl
theorem cZ.part (l:List b9)(t:ck×List b9):cZ k z D t.1 (pts (cm (dM ck) (fun s x=>k.al s.1 x) k.ke) t l).2.2.1:=by
 have key:∀(l:List b9)(p:List b9×List b9×(ck×List b9)),cZ k z D p.2.2.1 (l.foldl (eu (cm (dM ck) (fun s x=>k.al s.1 x) k.ke)) p).2.2.1:=by
  intro l
  induction l with
  |nil=>exact fun p=>cZ.refl
  |cons e l c=>
   intro p;refine cZ.trans ?_ (c _)
   have b:=cZ.one (k:=k) (z:=z) (D:=D) p.2.2 e;unfold eu;split
   ·exact b
   ·exact b
 exact key l ([],[],t)
theorem cZ.turn:∀(n:Nat)(t:ck×List b9)(b:List b9),cZ k z D t.1 (eJ (cm (dM ck) (fun s x=>k.al s.1 x) k.ke) n t b).1.1
 |0,t,b=>cZ.refl
 |n+1,t,b=>by
  unfold eJ;split
  ·exact cZ.part b t
  ·exact(cZ.part b t).trans (cZ.turn n _ _)
theorem cZ.eT (t:ck×List b9)(r:List b9):cZ k z D t.1 (k.eT t r).1:=cZ.turn _ _ _
end
section
variable {k:cf}{z:C0}{s t:ck}{D:List Int}
theorem qN (k:cf):∀(l left:List Int)(s:ck),(l.foldl k.cS (left,s)).1.length<=left.length+l.length/\((l.foldl k.cS (left,s)).1.length=left.length+l.length->(l.foldl k.cS (left,s)).2=s)
 |[],left,s=>⟨ac,fun _=>rfl⟩
 |b::l,left,s=>by
  rw[a9];cases hls:k.ls s _
  ·have c:k.cS (left,s) b=(left,k.kf (k.kf s (b+1)) (b+2)):=by unfold cf.cS;rw[aH (by rw[hls];simp)]
   rw[c];have d:=(qN k l left (k.kf (k.kf s (b+1)) (b+2))).1;rw[List.length_cons];exact⟨aa,fun e=>aa⟩
  ·have c:k.cS (left,s) b=(left++[b],s):=by unfold cf.cS;rw[aJ hls]
   rw[c];obtain⟨d,f⟩:=qN k l (left++[b]) s;rw[aZ,List.length_singleton] at d f;rw[List.length_cons];exact⟨aa,fun e=>f aa⟩
theorem Ha (k:cf)(s:ck)(h:(k.kv s).1=false):(k.kv s).2.g=s.g/\(k.kv s).2.nx=s.nx:=by unfold cf.kv cf.dT at h⊢;obtain⟨c,b⟩:=qN k s.ep [] s;have d:=of_decide_eq_false h;rw[List.length_nil,Nat.zero_add] at c b;rw[b aa];exact⟨rfl,rfl⟩
theorem t7 (k:cf):∀(l:List Nat)(t:(ck×List b9)×Bool),(l.foldl (dF k.al k.br) t).2=false->(l.foldl (dF k.al k.br) t).1=t.1/\t.2=false
 |[],t,h=>⟨rfl,h⟩
 |i::l,t,h=>by
  rw[a9] at h⊢;obtain⟨c,b⟩:=t7 k l _ h;unfold dF at c b⊢;split at b
  ·rename_i e;rw[aJ e] at c⊢;exact⟨c,b⟩
  ·cases b
theorem t8 (k:cf)(t:ck×List b9)(h:(k.wa t).2=false):(k.wa t).1=t:=(t7 k (List.range t.2.length) (t,false) h).1
theorem qO:∀(n:Nat)(t:ck×List b9)(H:List Int),LI k z t.1 H D->dN k z t.1 H->ez k t.1->k.mu t.1<n->hB k.N (k.cY n t).1.g (k.cY n t).1.nx=false
 |0,t,H,_,_,_,e=>absurd e aa
 |n+1,t,H,h,w,hb,e=>by
  obtain⟨q,l1,w1,_,_,g⟩:=LI.pj (k.O+1) h w;have g7:=h.mi.ci.g7;obtain⟨c1,c2,c3⟩:=CI.lb h.mi.ci hb (k.O+1)
  obtain⟨i,b,u,j⟩:=CI.kv c1 c2;obtain⟨c,l2,d,_,_⟩:=l1.kv w1;unfold cf.cY;cases hk:(k.kv _).1
  ·rw[aH ac];obtain⟨g1,g2⟩:=Ha k _ hk;obtain⟨v,l,x,B,m⟩:=CI.wa (s:=((k.kv _).2,t.2)) i b;cases hw:(k.wa ((k.kv _).2,t.2)).2
   ·rw[aH ac,t8 k _ hw];rw[g1,g2];exact g aa
   ·obtain⟨o,p,w3,_,_⟩:=cZ.wa ((k.kv _).2,t.2) c l2 d;have f:=m hw;dsimp only at f;exact qO n _ o p w3 l aa
  ·rw[aJ rfl];have f:=j hk;exact qO n ((k.kv _).2,t.2) c l2 d b (by dsimp only;omega)
end
section
variable {k:cf}{z:C0}{s:ck}{H D:List Int}
theorem LI.fields (h:LI k z s H D)(he:hB k.N s.g s.nx=false)
 (hz:∀v,(v∈k.T\/v∈z.G)->∀i,0<=i->i<pf (k.l0 z v)->c7 (k.l0 z (v+1+i))=true->cj (k.l0 z (v+1+i))∈k.T\/cj (k.l0 z (v+1+i))∈z.G)
 (hc:∀v∈z.G,v∉D->∀i,0<=i->i<pf (k.l0 z v)->k.cL (k.l0 z (v+1+i))=false)
 {b:Int}(hb:b∈z.G++H){i:Int}(g:0<=i)(f:i<pf (k.ld s b))(ha:c7 (k.ld s (b+1+i))=true):
 cj (k.ld s (b+1+i))∈z.G++H\/(pk (k.ld s b)=3/\i=0/\b∈s.wk)\/(pk (k.ld s b)=4/\b∈s.ep):=by
 obtain⟨a,o⟩:=h.mi.from hb;have j:=h.mi.hd a b o;rw[j] at f;have hm:=h.mi.fd a b o i g f;have m:a∈k.T\/a∈z.G:=by
  rcases o with⟨e,d⟩|⟨d,_⟩
  ·exact aK (by rw[e];exact d)
  ·exact aL d
 have p:s.nx=(k.N:Int)+s.g:=by
  rcases h.bo with d|d
  ·have q:=h.mi.iX d;unfold hB at he;have:=of_decide_eq_false he;omega
  ·exact d
 have key:k.cL (k.ld s (b+1+i))=false->cj (k.ld s (b+1+i))∈z.G++H:=fun hy=>by
  rcases hm with e|⟨g1,g2,g3⟩
  ·rw[e] at ha hy⊢;rcases hz a m i g f ha with d|d
   ·unfold cf.cL at hy;rw[ha] at hy;simp at hy;exact absurd d hy
   ·exact a7 _ d
  ·have hT:cj (k.l0 z (a+1+i))∈k.T:=by exact t6
   exact zy
 rcases List.mem_append.1 hb with d|d
 ·by_cases hD:b∈D
  ·rcases h.ld b hD i g (by rw[j];exact f) with c|c|c
   ·exact aL (key c)
   ·exact aK (aL c)
   ·exact aK (aK c)
  ·have ea:a=b:=by
    rcases o with⟨e,_⟩|⟨o1,l,t⟩
    ·exact e
    ·have q:=h.mi.hlo b (by rw[<-l];exact h.mi.fh a o1 (by rw[l];exact t))
     have u:=h.mi.kD b d;omega
   subst ea;have hy:=hc a d hD i g f;refine aL (key ?_)
   rcases hm with e|⟨g1,_⟩
   ·rw[e];exact hy
   ·rw[hy] at g1;cases g1
 ·rcases h.lo b d (by rw[p];exact(h.mi.iX d).2) i g (by rw[j];exact f) with c|c|c
  ·exact aL (key c)
  ·exact aK (aL c)
  ·exact aK (aK c)
end
def jG (k:cf)(G:List Int)(x:Int):Prop:=c7 x=true->k.cL x=false/\cj x∈G
structure gK (k:cf)(G:List Int)(P:Int->Int->Prop)(s:ck):Prop where
 full:d_ k.N k.y s.g s.ws k.T G
 len:s.ws.length=k.N+k.O
 hy:k.y<=k.N
 hg:s.g<=k.O
 fd:∀b∈G,∀i,0<=i->i<pf (k.ld s b)->jG k G (k.ld s (b+1+i))\/P b i
 fy:∀b∈G,∀i,0<=i->i<pf (k.ld s b)->k.cL (k.ld s (b+1+i))=false->jG k G (k.ld s (b+1+i))
section
variable {k:cf}{G:List Int}{P:Int->Int->Prop}{s:ck}
theorem gK.st (h:gK k G P s){b i v:Int}(hb:b∈G)(g:0<=i)(l:i<pf (k.ld s b))(m:jG k G v):gK k G (fun c j=>P c j/\¬(c=b/\j=i)) (k.st s (b+1+i) v)/\∀c∈G,k.ld (k.st s (b+1+i) v) c=k.ld s c:=by
 have hi:=jE h.full (aK hb) g l;have w:=jd hi h.hy h.hg;obtain⟨o,hk⟩:=h.full.set h.len h.hy h.hg (aK hb) g l;have e:k.st s (b+1+i) v={s with ws:=s.ws.set (b+1+i).toNat v}:=by unfold cf.st;rw[aJ hi]
 have f:∀c∈G,k.ld (k.st s (b+1+i) v) c=k.ld s c:=fun c hc=>by rw[e];exact hk c (aK hc)
 have hld:∀c∈G,∀j,0<=j->j<pf (k.ld s c)->k.ld (k.st s (b+1+i) v) (c+1+j)=if(b+1+i).toNat=(c+1+j).toNat then v else k.ld s (c+1+j):=fun c hc j j0 d=>by
  have n:=jE h.full (aK hc) j0 d;rw[e];show ld k.N k.y s.g _ _=if _ then v else ld k.N k.y s.g s.ws _
  have hl:=h.len;rw[ee n,ee n,kQ _ _ _ _ aa]
 refine⟨⟨by rw[e];exact o,by rw[e];show(List.set _ _ _).length=_;rw[bf];exact h.len,h.hy,by rw[e];exact h.hg,fun c hc j j0 d=>?_,fun c hc j j0 d=>?_⟩,f⟩
 ·rw[f c hc] at d;rw[hld c hc j j0 d];by_cases q:(b+1+i).toNat=(c+1+j).toNat
  ·rw[aJ q];exact aL m
  ·rw[aH q];exact(h.fd c hc j j0 d).imp id (fun p=>⟨p,fun⟨t,u⟩=>q (by rw[t,u])⟩)
 ·rw[f c hc] at d;rw[hld c hc j j0 d];by_cases q:(b+1+i).toNat=(c+1+j).toNat
  ·rw[aJ q];exact fun _=>m
  ·rw[aH q];exact h.fy c hc j j0 d
theorem gK.imp {Q:Int->Int->Prop}(h:gK k G P s)(hp:∀b i,P b i->Q b i):gK k G Q s:=⟨h.full,h.len,h.hy,h.hg,fun b hb i c d=>(h.fd b hb i c d).imp id (hp b i),h.fy⟩
theorem jG.gone:jG k G 3:=fun h=>absurd h ae
theorem gK.told (h:gK k G P s)(hN:k.N<=256)(hO:k.O<=1024){n:Int}(b:n∈G):jG k G (ew 3 n):=fun _=>by
 have hb:=h.full.io n b;have hg:=h.hg;have hy:=h.hy;obtain⟨m,rfl⟩:∃m:Nat,n=m:=⟨n.toNat,aa⟩
 obtain⟨d,c⟩:=mS m aa;refine⟨?_,by rw[c];exact b⟩
 unfold cf.cL;rw[d,c];cases hc:k.T.contains (m:Int)
 ·rfl
 ·have e:(m:Int)∈k.T:=by simpa using hc
  have:=h.full.im _ e;omega
theorem gK.mw (hN:k.N<=256)(hO:k.O<=1024):∀(l:List Int){P:Int->Int->Prop}{s:ck},gK k G P s->(∀a∈l,a∈G/\pk (k.ld s a)=3)->(∀a∈k.T,s.f a≠-1->s.f a∈G)->gK k G (fun b i=>P b i/\¬(b∈l/\i=0)) (l.foldl k.eL s)/\(∀c∈G,k.ld (l.foldl k.eL s) c=k.ld s c)/\(l.foldl k.eL s).g=s.g/\(l.foldl k.eL s).rs=s.rs/\(l.foldl k.eL s).ep=s.ep
 |[],P,s,h,_,_=>⟨h.imp (fun b i p=>⟨p,fun⟨d,_⟩=>by cases d⟩),fun _ _=>rfl,rfl,rfl,rfl⟩
 |a::l,P,s,h,hl,g=>by
  rw[a9];obtain⟨ha,o⟩:=hl a ac;have j:=h8 (h.full.ej.mem a ha).2.2 (aK (aL o))
  have j:pf (k.ld s a)=2:=j;have m:a+1+0=a+1:=aa;have fy:=h.fy a ha 0 aa aa;rw[m] at fy;obtain⟨v,ev,q⟩:∃v,k.eL s a=k.st s (a+1) v/\jG k G v:=by
   unfold cf.eL;cases hls:k.ls s _
   ·refine⟨k.nw s _,by rw[aH ac],?_⟩
    cases hy:k.cL _
    ·have e:k.nw s (k.ld s (a+1))=k.ld s (a+1):=by unfold cf.nw;rw[hy];rfl
     rw[e];exact fy hy
    ·unfold cf.ls at hls;rw[hy,Bool.true_and] at hls;have e:k.nw s (k.ld s (a+1))=ew 3 (s.f (cj (k.ld s (a+1)))):=by unfold cf.nw;rw[hy,hls];rfl
     rw[e];unfold cf.cL at hy;rw[bh] at hy;exact h.told hN hO (g _ (by simpa using hy.2) (by simpa using hls))
   ·exact⟨3,by rw[aJ rfl],jG.gone⟩
  obtain⟨m1,f⟩:=h.st ha (i:=0) aa aa q;rw[m] at m1 f;rw[ev];obtain⟨t,j2,cA,cD,dI⟩:=gK.mw hN hO l m1 (fun c hc=>by
   obtain⟨n1,u⟩:=hl c (aQ _ hc)
   exact⟨n1,by rw[f c n1];exact u⟩) g
  refine⟨t.imp (fun b i ⟨⟨w,x⟩,B⟩=>⟨w,fun⟨F,n⟩=>?_⟩),fun c hc=>(j2 c hc).trans (f c hc),cA,cD,dI⟩
  rcases List.mem_cons.1 F with d|d
  ·exact x ⟨d,n⟩
  ·exact B ⟨d,n⟩
end
section
variable {k:cf}{G:List Int}
theorem gK.be:∀(l:List Int){P:Int->Int->Prop}{s:ck},gK k G P s->(∀a∈l,a∈G/\pk (k.ld s a)=4)->gK k G (fun b i=>P b i/\¬(b∈l/\(i=0\/i=1))) (l.foldl k.gy s)/\(∀c∈G,k.ld (l.foldl k.gy s) c=k.ld s c)/\(l.foldl k.gy s).g=s.g/\(l.foldl k.gy s).rs=s.rs
 |[],P,s,h,_=>⟨h.imp (fun b i p=>⟨p,fun⟨d,_⟩=>by cases d⟩),fun _ _=>rfl,rfl,rfl⟩
 |a::l,P,s,h,hl=>by
  obtain⟨ha,j⟩:=hl a ac;have F:pf (k.ld s a)=2:=h8 (h.full.ej.mem a ha).2.2 (aK (aK j))
  have m:a+1+0=a+1:=aa;have n:a+1+1=a+2:=aa;obtain⟨m1,f⟩:=h.st ha (i:=0) (v:=3) aa aa jG.gone;rw[m] at m1 f;obtain⟨n1,g⟩:=m1.st ha (i:=1) (v:=3) aa (by rw[f a ha];omega) jG.gone;rw[n] at n1 g;obtain⟨o,j2,cA,cD⟩:=gK.be l n1 (fun c hc=>by
   obtain⟨q1,q⟩:=hl c (aQ _ hc)
   exact⟨q1,by rw[g c q1,f c q1];exact q⟩)
  refine⟨o.imp (fun b i ⟨⟨⟨t,u⟩,w⟩,x⟩=>⟨t,fun⟨B,e⟩=>?_⟩),fun c hc=>((j2 c hc).trans (g c hc)).trans (f c hc),cA,cD⟩
  rcases List.mem_cons.1 B with d|d
  ·rcases e with e|e
   ·exact u ⟨d,e⟩
   ·exact w ⟨d,e⟩
  ·exact x ⟨d,e⟩
theorem t9 {N y g:Nat}{ws:List Int}{a:Int}(ha:(N:Int)<=a)(hy:y<=N):ld N 0 g ws a=ld N y g ws a:=by
 have e:dm N 0 g a=dm N y g a:=by unfold dm hB;have b:decide ((0:Int)<=a/\a<0+(y:Int))=false:=bA aa;rw[(bA aa),b]
 unfold ld;rw[e]
theorem gK.done {s:ck}{rs:List Int}(h:gK k G (fun _ _=>False) s)(f:∀x∈rs,jG k G x):h7 k.N 0 s.g s.ws [] G rs:=by
 have io:=h.full.io;have eq:∀a,(k.N:Int)<=a->ld k.N 0 s.g s.ws a=ld k.N k.y s.g s.ws a:=fun a ha=>t9 ha h.hy;refine⟨⟨by simpa using d9.done,h.full.ej.heads (fun x c=>eq x (io x c).1)⟩,fun x c ha=>aK (f x c ha).2,fun v d i g e ha=>?_⟩
 rcases d with b|b
 ·cases b
 ·have d:=io v b;rw[eq v d.1] at e;rw[eq (v+1+i) aa] at ha⊢;exact aK (((h.fd v b i g e).resolve_right id) ha).2
end
theorem zG (ws:List Int)(t f n i:Nat)(b:t+n<=ws.length)(d:f+n<=ws.length):
 (splice ws t ((ws.drop f).take n)).getD i 0=if t<=i/\i<t+n then ws.getD (f+i-t) 0 else ws.getD i 0:=by
 have hl:((ws.drop f).take n).length=n:=by simp;omega
 unfold splice;rw[hl];simp;exact xU
theorem Hb (k:b_)(hl:k.s.ws.length=k.a.N+k.a.O)(hy:k.s.y<=k.a.N)(hg:k.s.g<=k.a.O)(t f n:Nat)(t0:k.a.N<=t)(b:t+n<=k.a.N+k.s.g)(d:k.a.N<=f)(g:f+n<=k.a.N+k.s.g)(x:Int):
 (k.k8 t f n).ld x=if(t:Int)<=x/\x<(t:Int)+n then k.ld (f+(x-t)) else k.ld x:=by
 have e:(k.k8 t f n).ld x=ld k.a.N k.s.y k.s.g (splice k.s.ws t ((k.s.ws.drop f).take n)) x:=rfl;rw[e];unfold b_.ld;by_cases c:(t:Int)<=x/\x<(t:Int)+n
 ·rw[aJ c,ee (hK aa aa),ee (hK aa aa),zG _ _ _ _ _ aa aa,aJ aa]
  congr 1
  omega
 ·rw[aH c];cases hb:dm k.a.N k.s.y k.s.g x
  ·unfold ld;rw[hb];rfl
  ·have i:=(nK _ _ _ _).1 hb;rw[ee hb,ee hb,zG _ _ _ _ _ aa aa,aH aa]
structure ka (k k':b_):Prop where
 a:k'.a=k.a
 y:k'.s.y=k.s.y
 rs:k'.s.rs=k.s.rs
 len:k'.s.ws.length=k.s.ws.length
theorem ka.refl (k:b_):ka k k:=⟨rfl,rfl,rfl,rfl⟩
theorem ka.trans {k b c:b_}(h:ka k b)(j:ka b c):ka k c:=⟨j.a.trans h.a,j.y.trans h.y,j.rs.trans h.rs,j.len.trans h.len⟩
structure i7 (k:b_)(al:Int->Bool)(f:Int->Int)(m:Int)(D l:List Int)(t:b_×Int):Prop where
 sm:ka k t.1
 g:t.1.s.g=k.s.g
 u0:0<=t.2
 pos:Pos (fun a=>pf (k.ld a)) al f (k.a.N+t.2) l m
 tl:∃b:Int,d9 k.ld (k.a.N+k.s.g) b l/\k.a.N+t.2<=b/\∀x:Int,b<=x->x<k.a.N+k.s.g->t.1.ld x=k.ld x
 cL:∀x:Int,0<=x->x<k.s.y->t.1.ld x=k.ld x
 rel:∀c∈D,al c=true->f c+pf (k.ld c)<k.a.N+t.2/\∀i:Int,0<=i->i<=pf (k.ld c)->t.1.ld (f c+i)=k.ld (c+i)
section
variable {k:b_}{al:Int->Bool}{s:cu}{m:Int}
theorem i7.step (hl:k.s.ws.length=k.a.N+k.a.O)(hy:k.s.y<=k.a.N)(hg:k.s.g<=k.a.O){D l:List Int}{a:Int}{t:b_×Int}(h:i7 k al s.f m D (a::l) t)(hs:al a=!(s.f a==-1)):i7 k al s.f m (D++[a]) l (e9 (fun _ a=>s.f a) (b_.iW s) t a):=by
 obtain⟨b,⟨e,ad,ag,ht⟩,hb,g⟩:=h.tl;have ai:=dp (k.ld b)
 have u0:=h.u0;cases c:al a
 ·rw[c] at hs;have c2:s.f a=-1:=by simpa using hs
  have n:e9 (fun _ a=>s.f a) (b_.iW s) t a=t:=by unfold e9;rw[aJ c2]
  rw[n];refine⟨h.sm,h.g,h.u0,(h.pos.2 c).2,⟨b+(1+pf (k.ld b)),ht,aa,fun x f d=>g x aa d⟩,h.cL,fun o hd p=>?_⟩
  rcases List.mem_append.1 hd with hd|hd
  ·exact h.rel o hd p
  ·simp_all
 ·rw[c] at hs;have c2:s.f a≠-1:=by simp_all
  obtain⟨ap,F⟩:=h.pos.1 c;have n:e9 (fun _ a=>s.f a) (b_.iW s) t a=b_.iW s t a:=by unfold e9;rw[aH c2]
  rw[n];have N:b_.iW s t a=(t.1.k8 (s.f a).toNat a.toNat (1+(pf (k.ld a)).toNat),t.2+(1+pf (k.ld a))):=by unfold b_.iW;rw[(g a aa (by rw[e];omega))]
  have hz:pf (k.ld a)=pf (k.ld b):=by rw[e]
  have hN:=h.sm.a;have u:=h.g;have v:=h.sm.len;have M:=Hb t.1 (by simp_all) (by rw[h.sm.y,hN];exact hy) (by simp_all) (s.f a).toNat a.toNat (1+(pf (k.ld a)).toNat) (by rw[hN];omega) (by rw[hN,u];omega) (by rw[hN];omega) (by rw[hN,u];omega)
  have q:ka t.1 (t.1.k8 (s.f a).toNat a.toNat (1+(pf (k.ld a)).toNat))/\(t.1.k8 (s.f a).toNat a.toNat (1+(pf (k.ld a)).toNat)).s.g=t.1.s.g:=by
   refine⟨⟨rfl,rfl,rfl,?_⟩,rfl⟩
   refine tf _ _ _ ?_;rw[v,hl,bu,List.length_drop,v,hl];omega
  rw[N];generalize t.1.k8 (s.f a).toNat a.toNat _=S at M q⊢;have j:∀x,S.ld x=if s.f a<=x/\x<s.f a+(1+pf (k.ld a)) then t.1.ld (a+(x-s.f a)) else t.1.ld x:=fun x=>by rw[M x];have f:((s.f a).toNat:Int)=s.f a:=aa;have d:(a.toNat:Int)=a:=aa;have W:((1+(pf (k.ld a)).toNat:Nat):Int)=1+pf (k.ld a):=aa;rw[f,d,W]
  refine⟨h.sm.trans q.1,q.2.trans h.g,aa,by rw[<-Int.add_assoc];exact F,⟨b+(1+pf (k.ld b)),ht,aa,fun x f d=>?_⟩,fun x f d=>?_,fun o hd p=>?_⟩
  ·rw[j,aH aa];exact g x aa d
  ·rw[j,aH aa];exact h.cL x f d
  ·rcases List.mem_append.1 hd with hd|hd
   ·obtain⟨r1,ab⟩:=h.rel o hd p;refine⟨aa,fun i w B=>?_⟩
    rw[j,aH aa];exact ab i w B
   ·rw[List.mem_singleton.1 hd];refine⟨aa,fun i w B=>?_⟩
    rw[j,aJ aa,show a+(s.f a+i-s.f a)=a+i from by omega];exact g (a+i) aa aa
theorem i7.qP (hl:k.s.ws.length=k.a.N+k.a.O)(hy:k.s.y<=k.a.N)(hg:k.s.g<=k.a.O)(hN:k.a.N<=256)(hO:k.a.O<=1024)(hs:∀a∈k.G,al a=!(s.f a==-1))(hm:m<=k.a.N+k.a.O):ir k s (fun j t=>i7 k al s.f m (k.G.take j) (k.G.drop j) t):=by
 have hz:∀a,0<=(fun a=>pf (k.ld a)) a:=fun a=>(dp _).1;refine⟨fun j t c h l=>?_,fun j t c h=>?_,fun t h=>?_⟩
 ·have e:k.G.drop j=k.G.getD j 0::k.G.drop (j+1):=by simp_all
  have d:k.G.getD j 0∈k.G:=by rw[aG,aI c];exact a_ c
  generalize k.G.getD j 0=a at e l d⊢;have h:i7 k al s.f m (k.G.take j) (k.G.drop j) t:=h;rw[e] at h;have ha:al a=true:=by simp_all
  obtain⟨b,⟨i,q,u,ht⟩,hb,n⟩:=h.tl;have v:=dp (k.ld b)
  have u0:=h.u0;obtain⟨o,p⟩:=h.pos.1 ha;have f:=p.le hz;have f:=f;rw[(n a aa (by rw[i];omega)),o];rw[i] at f⊢;omega
 ·have e:k.G.drop j=k.G.getD j 0::k.G.drop (j+1):=by simp_all
  have d:k.G.getD j 0∈k.G:=by rw[aG,aI c];exact a_ c
  have h:i7 k al s.f m (k.G.take j) (k.G.drop j) t:=h;rw[e] at h;have g:=h.step hl hy hg (hs _ d)
  rw[<-(fE k.G j c 0)] at g;exact g
 ·have h:=h;have u0:=h.u0;have g:=h.pos.le hz;omega
theorem i7.all (hl:k.s.ws.length=k.a.N+k.a.O)(hy:k.s.y<=k.a.N)(hg:k.s.g<=k.a.O)(hs:∀a∈k.G,al a=!(s.f a==-1)):∀(l D:List Int)(t:b_×Int),(∀a∈l,a∈k.G)->i7 k al s.f m D l t->i7 k al s.f m (D++l) [] (gQ (fun _ a=>s.f a) (b_.iW s) t l)
 |[],D,t,_,h=>by rw[List.append_nil];exact h
 |a::l,D,t,c,h=>by
  have d:=i7.all hl hy hg hs l _ _ (fun b hb=>c b (aQ _ hb)) (h.step hl hy hg (hs a (c a ac)))
  rw[bj] at d;exact d
structure k_ (k:b_)(al:Int->Bool)(f:Int->Int)(m:Int)(D l:List Int)(t:b_):Prop where
 sm:ka k t
 g:t.s.g<=k.a.O
 pos:Pos (fun a=>pf (k.ld a)) al f (k.a.N+t.s.g) l m
 cL:∀x:Int,0<=x->x<k.s.y->t.ld x=k.ld x
 rel:∀c∈D,al c=true->(k.a.N:Int)<=f c/\f c+pf (k.ld c)<k.a.N+t.s.g/\∀i:Int,0<=i->i<=pf (k.ld c)->t.ld (f c+i)=k.ld (c+i)
theorem k_.step (hl:k.s.ws.length=k.a.N+k.a.O)(hy:k.s.y<=k.a.N)(hm:m<=k.a.N+k.a.O){D l:List Int}{a:Int}{t:b_}(h:k_ k al s.f m D (a::l) t)(hs:al a=!(s.f a==-1))(h0:0<=a)(ag:a+(1+pf (k.ld a))<=k.s.y)(v:pc (k.ld a)=0):k_ k al s.f m (D++[a]) l (e9 (fun(_:b_) a=>s.f a) (fun k a=>k.cop a) t a):=by
 have hz:∀a,0<=(fun a=>pf (k.ld a)) a:=fun a=>(dp _).1;have ai:=dp (k.ld a)
 cases c:al a
 ·rw[c] at hs;have c2:s.f a=-1:=by simpa using hs
  have f:e9 (fun(_:b_) a=>s.f a) (fun k a=>k.cop a) t a=t:=by unfold e9;rw[aJ c2]
  rw[f];refine⟨h.sm,h.g,(h.pos.2 c).2,h.cL,fun g hd j=>?_⟩
  rcases List.mem_append.1 hd with hd|hd
  ·exact h.rel g hd j
  ·simp_all
 ·rw[c] at hs;have c2:s.f a≠-1:=by simp_all
  obtain⟨ap,d⟩:=h.pos.1 c;have d:Pos (fun a=>pf (k.ld a)) al s.f (k.a.N+t.s.g+(1+pf (k.ld a))) l m:=d;have ar:=d.le hz;have f:e9 (fun(_:b_) a=>s.f a) (fun k a=>k.cop a) t a=t.cop a:=by unfold e9;rw[aH c2]
  rw[f];have hN:=h.sm.a;have ax:=h.sm.y;have n:=h.sm.len;have b:ld t.a.N t.s.y t.s.g t.s.ws a=k.ld a:=h.cL a h0 aa;have w:gg t.a.N t.s.y t.s.g a=t.s.y:=by
   unfold gg;have o:hB (0:Int) t.s.y a=true:=by unfold hB;exact bq ⟨h0,aa⟩
   first|rw[aJ o]|(simp[o])
  have hc:ih t.a.N t.a.O t.s.y t.s.g t.s.ws a=true:=by unfold ih;rw[b,w];exact bq ⟨v,aa,by rw[hN];omega⟩
  have M:=cf.ti (k:=⟨t.a.N,t.a.O,t.s.y,[]⟩) (s:=⟨t.s.g,t.s.ws,fun _=>-1,0,[],[],[]⟩) (by simp_all) (by simp_all) ((hN▸h.g)) (a:=a) h0 (by show a+1+pf (ld t.a.N t.s.y t.s.g t.s.ws a)<=t.s.y;rw[b];omega) hc;have e:∀x,(t.cop a).ld x=if(k.a.N:Int)+t.s.g<=x/\x<(k.a.N:Int)+t.s.g+(1+pf (k.ld a)) then t.ld (a+(x-(k.a.N+t.s.g))) else t.ld x:=fun x=>by have:=M x;rw[<-hN,<-b];exact this
  have B:(t.cop a).s.g=t.s.g+(1+(pf (k.ld a)).toNat):=by show js _ _ _ _ _ _=_;unfold js;rw[aJ hc,b]
  have F:(t.cop a).s.ws.length=t.s.ws.length:=by show(ju _ _ _ _ _ _).length=_;unfold ju;rw[aJ hc,b];refine tf _ _ _ ?_;rw[n,hl,hN,bu,List.length_drop,n,hl];omega
  have p:ka t (t.cop a):=⟨rfl,rfl,rfl,F⟩
  generalize t.cop a=N at e B p⊢;have S:(N.s.g:Int)=t.s.g+(1+pf (k.ld a)):=aa;refine⟨h.sm.trans p,aa,by rw[S,<-Int.add_assoc];exact d,fun x W ab=>?_,fun g hd j=>?_⟩
  ·rw[e,aH aa];exact h.cL x W ab
  ·rcases List.mem_append.1 hd with hd|hd
   ·obtain⟨r0,r1,ad⟩:=h.rel g hd j;refine⟨r0,aa,fun i q u=>?_⟩
    rw[e,aH aa];exact ad i q u
   ·rw[List.mem_singleton.1 hd];refine⟨aa,aa,fun i q u=>?_⟩
    rw[e,aJ aa,show a+(s.f a+i-(k.a.N+t.s.g))=a+i from by omega];exact h.cL (a+i) aa aa
theorem k_.all (hl:k.s.ws.length=k.a.N+k.a.O)(hy:k.s.y<=k.a.N)(hm:m<=k.a.N+k.a.O):∀(l D:List Int)(t:b_),(∀a∈l,al a=!(s.f a==-1)/\0<=a/\a+(1+pf (k.ld a))<=k.s.y/\pc (k.ld a)=0)->k_ k al s.f m D l t->k_ k al s.f m (D++l) [] (t.pa s l)
 |[],D,t,_,h=>by rw[List.append_nil];exact h
 |a::l,D,t,c,h=>by
  obtain⟨g1,g2,g3,e⟩:=c a ac;have d:=k_.all hl hy hm l _ _ (fun b hb=>c b (aQ _ hb)) (h.step hl hy hm g1 g2 g3 e)
  rw[bj] at d;exact d
end
structure g9 (k k':b_):Prop where
 a:k'.a=k.a
 y:k'.s.y=k.s.y
 g:k'.s.g=k.s.g
 rs:k'.s.rs=k.s.rs
 Y:k'.Y=k.Y
 G:k'.G=k.G
 len:k'.s.ws.length=k.s.ws.length
theorem g9.refl (k:b_):g9 k k:=⟨rfl,rfl,rfl,rfl,rfl,rfl,rfl⟩
theorem g9.trans {k b c:b_}(h:g9 k b)(j:g9 b c):g9 k c:=⟨j.a.trans h.a,j.y.trans h.y,j.g.trans h.g,j.rs.trans h.rs,j.Y.trans h.Y,j.G.trans h.G,j.len.trans h.len⟩
structure jH (k:b_):Prop where
 l:k.s.ws.length=k.a.N+k.a.O
 y:k.s.y<=k.a.N
 g:k.s.g<=k.a.O
theorem g9.bd {k c:b_}(h:g9 k c)(b:jH k):jH c:=⟨by rw[h.len,h.a];exact b.l,by rw[h.y,h.a];exact b.y,by rw[h.g,h.a];exact b.g⟩
theorem g9.T {k b:b_}(h:g9 k b):b.T=k.T:=by unfold b_.T;rw[h.Y,h.G]
section
variable {k:b_}{s:cu}
theorem pm (k:b_)(p x:Int):g9 k (k.hX p x):=⟨rfl,rfl,rfl,rfl,rfl,rfl,by
 show(if _ then _ else _:List Int).length=_;split
 ·simp_all
 ·rfl⟩
theorem t_ (b:jH k){p:Int}(hp:dm k.a.N k.s.y k.s.g p=true)(x q:Int):(k.hX p x).ld q=if q=p then x else k.ld q:=by
 have hb:=jd hp b.y b.g;have e:(k.hX p x).ld q=ld k.a.N k.s.y k.s.g (k.s.ws.set p.toNat x) q:=by unfold b_.hX;rw[aJ hp];rfl
 rw[e];unfold b_.ld;by_cases c:q=p
 ·rw[aJ c,c,ee hp,aG,List.getElem?_set_self (by rw[b.l];omega)];rfl
 ·rw[aH c];cases hq:dm k.a.N k.s.y k.s.g q
  ·unfold ld;rw[hq];rfl
  ·have d:=jd hq b.y b.g;rw[ee hq,ee hq,aG,List.getElem?_set_ne aa,aG]
def b_.h_ (k:b_)(s:cu)(a i:Int):Int:=if((pk (k.ld a)=3\/pk (k.ld a)=4)/\k.cV s (k.ld (a+1))=true)/\(i=0\/(pk (k.ld a)=4/\i=1)) then 3 else k.ld (a+1+i)
structure kH (k:b_)(a:Int):Prop where
 c:pc (k.ld a)=0
 i:∀i,0<=i->i<=pf (k.ld a)->dm k.a.N k.s.y k.s.g (a+i)=true
theorem g9.zH {k b:b_}(h:g9 k b){a:Int}(e:b.ld a=k.ld a)(w:kH k a):kH b a:=⟨(e▸w.c),fun i d c=>by rw[h.a,h.y,h.g];rw[e] at c;exact w.i i d c⟩
theorem Hc (b:jH k){a:Int}(w:kH k a):g9 k (k.brk s a)/\(∀q,(q<=a\/a+pf (k.ld a)<q)->(k.brk s a).ld q=k.ld q)/\∀i,0<=i->i<pf (k.ld a)->(k.brk s a).ld (a+1+i)=k.h_ s a i:=by
 unfold b_.brk;by_cases c:(pk (k.ld a)=3\/pk (k.ld a)=4)/\k.cV s (k.ld (a+1))=true
 ·rw[aJ c];have m:=h8 w.c aa;have f:=w.i 1 aa aa;have d:=t_ b f 3;by_cases e:pk (k.ld a)=4
  ·rw[aJ e];have g:=t_ ((pm k (a+1) 3).bd b) (w.i 2 aa aa) 3;refine⟨(pm k (a+1) 3).trans (pm _ _ _),fun q hq=>?_,fun i j l=>?_⟩
   ·rw[g,aH aa,d,aH aa]
   ·unfold b_.h_;rw[g,d];by_cases z:i=0
    ·simp_all
    ·by_cases o:i=1
     ·rw[aJ aa,aJ ⟨c,aK ⟨e,o⟩⟩]
     ·omega
  ·rw[aH e];refine⟨pm k (a+1) 3,fun q hq=>?_,fun i j l=>?_⟩
   ·rw[d,aH aa]
   ·unfold b_.h_;rw[d];by_cases z:i=0
    ·simp_all
    ·omega
 ·rw[aH c];refine⟨g9.refl k,fun q hq=>rfl,fun i j f=>?_⟩
  unfold b_.h_;rw[aH (fun h=>c h.1)]
theorem zI (b:jH k){a:Int}(w:kH k a):∀n:Nat,(n:Int)<=pf (k.ld a)->g9 k (k.gI s a n)/\(∀q,(q<=a\/a+n<q)->(k.gI s a n).ld q=k.ld q)/\∀i:Int,0<=i->i<n->(k.gI s a n).ld (a+1+i)=k.nw s (k.ld (a+1+i))
 |0,_=>⟨g9.refl k,fun _ _=>rfl,fun i d g=>aa⟩
 |n+1,m=>by
  obtain⟨c,f,j⟩:=zI b w n aa;have hi:dm (k.gI s a n).a.N (k.gI s a n).s.y (k.gI s a n).s.g (a+1+n)=true:=by rw[c.a,c.y,c.g,show a+1+(n:Int)=a+(1+n) from by omega];exact w.i _ aa aa
  have e:=t_ (c.bd b) hi (k.nw s ((k.gI s a n).ld (a+1+n)))
  have l:k.gI s a (n+1)=(k.gI s a n).hX (a+1+n) (k.nw s ((k.gI s a n).ld (a+1+n))):=rfl;rw[l];refine⟨c.trans (pm _ _ _),fun q hq=>?_,fun i d g=>?_⟩
  ·rw[e,aH aa];exact f q aa
  ·rw[e];by_cases z:i=n
   ·rw[aJ aa,f _ aa,z]
   ·rw[aH aa];exact j i d aa
theorem Hd (b:jH k){a:Int}(w:kH k a):g9 k (k.jC s a)/\(∀q,(q<=a\/a+pf (k.ld a)<q)->(k.jC s a).ld q=k.ld q)/\∀i,0<=i->i<pf (k.ld a)->(k.jC s a).ld (a+1+i)=k.nw s (k.h_ s a i):=by
 obtain⟨c,d,f⟩:=Hc b w;have hp:=dp (k.ld a)
 have ea:=d a (aL (Int.le_refl _))
 obtain⟨g,j2,cA⟩:=zI (c.bd b) (c.zH ea w) (pf (k.ld a)).toNat (by rw[ea];omega)
 unfold b_.jC;refine⟨c.trans g,fun q hq=>?_,fun i e j=>?_⟩
 ·rw[j2 q aa];exact d q hq
 ·rw[cA i e aa,f i e j];exact b_.j6 s _ c.Y c.G
structure lW (k0:b_)(s:cu)(D:List Int)(t:b_):Prop where
 st:g9 k0 t
 hd:∀c∈k0.T,t.ld c=k0.ld c
 dA:∀c∈D,s.f c≠-1->∀i,0<=i->i<pf (k0.ld c)->t.ld (c+1+i)=k0.nw s (k0.h_ s c i)
 td:∀c∈k0.T,c∉D->∀i,0<=i->i<pf (k0.ld c)->t.ld (c+1+i)=k0.ld (c+1+i)
theorem lW.step {k0:b_}(b:jH k0)(w:∀c∈k0.T,kH k0 c)(ap:∀c∈k0.T,∀d∈k0.T,c<d->c+(1+pf (k0.ld c))<=d){D:List Int}{t:b_}(h:lW k0 s D t){a:Int}(ha:a∈k0.T)(hD:a∉D)(x:∀c∈D,c∈k0.T):lW k0 s (D++[a]) (e9 (fun(_:b_) a=>s.f a) (fun k a=>k.jC s a) t a):=by
 by_cases c:s.f a=-1
 ·have n:e9 (fun(_:b_) a=>s.f a) (fun k a=>k.jC s a) t a=t:=by unfold e9;rw[aJ c]
  rw[n];refine⟨h.st,h.hd,fun d hd o=>?_,fun d hd l=>h.td d hd (fun m=>l (a7 _ m))⟩
  rcases List.mem_append.1 hd with hd|hd
  ·exact h.dA d hd o
  ·simp_all
 ·have n:e9 (fun(_:b_) a=>s.f a) (fun k a=>k.jC s a) t a=t.jC s a:=by unfold e9;rw[aH c]
  rw[n];have ea:=h.hd a ha;obtain⟨B,u,v⟩:=Hd (h.st.bd b) (h.st.zH ea (w a ha))
  rw[ea] at u v;have p:∀d∈k0.T,d≠a->∀i,0<=i->i<=pf (k0.ld d)->(t.jC s a).ld (d+i)=t.ld (d+i):=fun d hd j i g f=>u _ (by
   rcases Int.lt_or_gt_of_ne j with q|q
   ·have:=ap d hd a ha q;omega
   ·have:=ap a ha d hd q;omega)
  have F:∀i,0<=i->i<pf (k0.ld a)->t.h_ s a i=k0.h_ s a i:=fun i g f=>by unfold b_.h_ b_.cV b_.jt;rw[ea,h.st.T];have q0:=h.td a ha hD 0 aa aa;rw[Int.add_zero] at q0;rw[q0,h.td a ha hD i g f]
  refine⟨h.st.trans B,fun d hd=>?_,fun d hd o i g f=>?_,fun d hd l i g f=>?_⟩
  ·by_cases e:d=a
   ·simp_all
   ·have:=p d hd e 0 aa (dp _).1;rw[Int.add_zero] at this
    rw[this];exact h.hd d hd
  ·rcases List.mem_append.1 hd with hd|hd
   ·have j:d≠a:=fun e=>hD (e▸hd)
    have:=p d (x d hd) j (1+i) aa aa;rw[<-Int.add_assoc] at this
    rw[this];exact h.dA d hd o i g f
   ·have e:=List.mem_singleton.1 hd;rw[e] at f⊢;rw[v i g f,F i g f];exact b_.j6 s _ h.st.Y h.st.G
  ·have j:d≠a:=fun e=>l (by rw[e];simp)
   have:=p d hd j (1+i) aa aa;rw[<-Int.add_assoc] at this
   rw[this];exact h.td d hd (fun m=>l (a7 _ m)) i g f
theorem lW.all {k0:b_}(b:jH k0)(w:∀c∈k0.T,kH k0 c)(ap:∀c∈k0.T,∀g∈k0.T,c<g->c+(1+pf (k0.ld c))<=g):∀(l D:List Int)(t:b_),(D++l).Nodup->(∀c∈D++l,c∈k0.T)->lW k0 s D t->lW k0 s (D++l) (t.nP s l)
 |[],D,t,_,_,h=>by rw[List.append_nil];exact h
 |a::l,D,t,f,d,h=>by
  have e:D++a::l=(D++[a])++l:=ac;have hD:_:=fun m=>(List.nodup_append.1 f).2.2 a m a ac rfl;have i:=h.step b w ap (d a ac) hD (fun c hc=>d c (a7 _ hc))
  rw[e] at f d⊢;exact lW.all b w ap l _ _ f d i
theorem zJ (k:b_)(s:cu):∀n,n<=k.s.rs.length->(k.fO s n).a=k.a/\(k.fO s n).Y=k.Y/\(k.fO s n).G=k.G/\(k.fO s n).s.y=k.s.y/\(k.fO s n).s.g=k.s.g/\(k.fO s n).s.ws=k.s.ws/\(k.fO s n).s.rs.length=k.s.rs.length/\∀i,i<k.s.rs.length->(k.fO s n).s.rs.getD i 0=if i<n then k.nw s (k.s.rs.getD i 0) else k.s.rs.getD i 0
 |0,_=>⟨rfl,rfl,rfl,rfl,rfl,rfl,rfl,fun i _=>af⟩
 |n+1,o=>by
  obtain⟨b,c,d,f,g,j,l,m⟩:=zJ k s n aa;refine⟨b,c,d,f,g,j,?_,fun i hi=>?_⟩
  ·show(List.set _ _ _).length=_;rw[bf];exact l
  ·show(List.set _ n _).getD i 0=_;by_cases e:i=n
   ·simp_all
   ·rw[aG,List.getElem?_set_ne aa,<-aG,m i hi];by_cases p:i<n
    ·omega
    ·omega
theorem pn (b:jH k)(N:k.s.rs.length=12)(ad:k.T.Nodup)(w:∀c∈k.T,kH k c)(ap:∀c∈k.T,∀n∈k.T,c<n->c+(1+pf (k.ld c))<=n):
 (k.e4 s).a=k.a/\(k.e4 s).Y=k.Y/\(k.e4 s).G=k.G/\(k.e4 s).s.y=k.s.y/\(k.e4 s).s.g=k.s.g/\jH (k.e4 s)/\(k.e4 s).s.rs.length=12/\(∀i,i<12->(k.e4 s).s.rs.getD i 0=k.nw s (k.s.rs.getD i 0))/\
 (∀c∈k.T,(k.e4 s).ld c=k.ld c)/\∀c∈k.T,s.f c≠-1->∀i,0<=i->i<pf (k.ld c)->(k.e4 s).ld (c+1+i)=k.nw s (k.h_ s c i):=by
 obtain⟨d,j,l,f,g,o,u,v⟩:=zJ k s 12 aa;obtain⟨k0,B⟩:∃k0,k.fO s 12=k0:=⟨_,rfl⟩
 rw[B] at d j l f g o u v;have e:∀x,k0.ld x=k.ld x:=fun x=>by unfold b_.ld;rw[d,f,g,o]
 have m:k0.T=k.T:=by unfold b_.T;rw[j,l]
 have F:jH k0:=⟨by rw[o,d];exact b.l,by rw[f,d];exact b.y,by rw[g,d];exact b.g⟩
 have w0:∀c∈k0.T,kH k0 c:=fun c hc=>by rw[m] at hc;exact⟨by rw[e];exact(w c hc).c,fun i p t=>by rw[e] at t;rw[d,f,g];exact(w c hc).i i p t⟩
 have key:=lW.all (s:=s) F w0 (fun c hc n hd q=>by simp_all) k0.T [] k0 (by simp_all) (fun c hc=>hc) ⟨g9.refl _,fun _ _=>rfl,(fun c hc=>by cases hc),fun _ _ _ _ _ _=>rfl⟩
 have S:k.e4 s=k0.nP s k0.T:=by unfold b_.e4;rw[B,m]
 rw[S];refine⟨key.st.a.trans d,key.st.Y.trans j,key.st.G.trans l,key.st.y.trans f,key.st.g.trans g,key.st.bd F,by rw[key.st.rs,u];exact N,fun i hi=>by rw[key.st.rs,v i aa,aJ hi],fun c hc=>?_,fun c hc W i p t=>?_⟩
 ·rw[key.hd c (by simp_all),e]
 ·rw[key.dA c ((m▸hc)) W i p (by simp_all)];have ab:k0.h_ s c i=k.h_ s c i:=by unfold b_.h_ b_.cV b_.jt;rw[m,e,e,e]
  rw[ab];exact b_.j6 s _ j l
end
section
variable {k:cf}{z:C0}{s t:ck}{H K D:List Int}
theorem lg (k:cf)(s:ck):∀n,(k.cK s n).wk=s.wk/\(k.cK s n).ep=s.ep/\(k.cK s n).nx=s.nx
 |0=>⟨rfl,rfl,rfl⟩
 |n+1=>by obtain⟨b,c,d⟩:=lg k s n;obtain⟨_,e,j2,cA⟩:=lV k _ _;exact⟨e.trans b,j2.trans c,cA.trans d⟩
theorem dN.cK (w:dN k z s H)(h:dH k z s H)(n:Nat)(ht:dH k z (k.cK s n) K)(p:df k s (k.cK s n))(b:∃c,K=H++c):dN k z (k.cK s n) K:=
 w.go h ht p b (lg k s n).1 (lg k s n).2.1
theorem LI.po (c:Int)(M:List Int)(hz:d9 (k.l0 z) ((k.N:Int)+z.g) k.N z.G):∀(l:List Int){s:ck}{H D:List Int},LI k z s H D->dN k z s H->(∀a∈l,a∈z.G\/(k.N:Int)+z.g<=a)->∃i j,LI k z (l.foldl (k.f_ ((k.N:Int)+z.g) c M) s) i j/\dN k z (l.foldl (k.f_ ((k.N:Int)+z.g) c M) s) i/\df k s (l.foldl (k.f_ ((k.N:Int)+z.g) c M) s)/\(∃g,i=H++g)/\(∀a∈D,a∈j)/\∀a∈l,a∈z.G->(fU k.N c a&&M.contains (cN k.N a))=true->a∈j
 |[],s,H,D,h,w,_=>⟨H,D,h,w,df.refl _ _,⟨[],ac⟩,fun _ d=>d,fun a ha=>by cases ha⟩
 |b::l,s,H,D,h,w,hl=>by
  rw[a9];have x:=dp (k.ld s b)
  by_cases f:b∈z.G/\(fU k.N c b&&M.contains (cN k.N b))=true
  ·have hb:=(hz.mem b f.1).2.1;have m:k.f_ ((k.N:Int)+z.g) c M s b=k.lk s b:=by unfold cf.f_;rw[aJ (by rw[(h.mi.hd b b (aL ⟨rfl,f.1⟩))];omega),aJ f.2]
   rw[m];obtain⟨B,m1,q,⟨g,t⟩⟩:=h.lk f.1;obtain⟨n,o,p,j_,j2,⟨v,cA⟩,cD,dI⟩:=LI.po c M hz l m1 (w.lk h.mi (a7 H f.1) m1.mi q ⟨g,t⟩) (fun a ha=>hl a (aQ _ ha))
   refine⟨n,o,p,j_,q.trans j2,⟨g++v,by rw[cA,t,bj]⟩,fun a d=>cD a (aQ _ d),fun a ha hg hm=>?_⟩
   rcases List.mem_cons.1 ha with d|d
   ·exact cD a (by rw[d];simp)
   ·exact dI a d hg hm
  ·have m:k.f_ ((k.N:Int)+z.g) c M s b=s:=by
    unfold cf.f_;by_cases u:b∈z.G
    ·split
     ·rw[aH (fun e=>f ⟨u,e⟩)]
     ·rfl
    ·have:=(hl b ac).resolve_left u;rw[aH aa]
   rw[m];obtain⟨n,o,p,j_,j2,cA,cD,dI⟩:=LI.po c M hz l h w (fun a ha=>hl a (aQ _ ha))
   refine⟨n,o,p,j_,j2,cA,cD,fun a ha hg hm=>?_⟩
   rcases List.mem_cons.1 ha with d|d
   ·exact absurd ⟨by rw[<-d];exact hg,by rw[<-d];exact hm⟩ f
   ·exact dI a d hg hm
end
def Rest (k:cf)(z:C0)(D:List Int)(H:List Int)(s:ck):Prop:=∃K,LI k z s K D/\dN k z s K/\ez k s/\hB k.N s.g s.nx=false/\∃b,K=H++b
section
variable {k:cf}{z:C0}{D H:List Int}
theorem pr:∀(n:Nat)(t:ck×List b9),CI k t.1->ez k t.1->CI k (k.cY n t).1/\ez k (k.cY n t).1
 |0,t,h,hb=>⟨h,hb⟩
 |n+1,t,h,hb=>by
  obtain⟨c1,c2,c3⟩:=CI.lb h hb (k.O+1)
  obtain⟨b,c,f,g⟩:=CI.kv c1 c2;obtain⟨d,e,_⟩:=CI.wa (s:=((k.kv _).2,t.2)) b c;unfold cf.cY;split
  ·exact pr n ((k.kv _).2,t.2) b c
  ·split
   ·exact pr n _ d e
   ·exact⟨d,e⟩
theorem Rest.sp {t:ck×List b9}{b:List Int}(h:LI k z t.1 b D)(w:dN k z t.1 b)(hb:ez k t.1)(e:∃c,b=H++c):Rest k z D H (k.sp t).1:=by obtain⟨K,m1,d,_,⟨B,f⟩⟩:=cZ.sp t b h w;obtain⟨A,e⟩:=e;exact⟨K,m1,d,(pr _ t h.mi.ci hb).2,qO _ t b h w hb aa,⟨A++B,by rw[f,e,bj]⟩⟩
theorem Rest.ke {t:ck×List b9}(h:Rest k z D H t.1)(x:Int):Rest k z D H (k.ke t x).2.1:=by
 obtain⟨K,m1,d,b,_,⟨A,e⟩⟩:=h;obtain⟨j,f,j2,_,⟨B,cD⟩⟩:=cZ.br x K m1 d;obtain⟨_,g,i,c⟩:=lV k t.1 x;have hb:ez k (k.br t.1 x).2:=⟨by rw[g,c];exact b.wk,by rw[i,c];exact b.ep⟩
 exact Rest.sp f j2 hb ⟨A++B,by rw[cD,e,bj]⟩
theorem Rest.one {t:ck×List b9}(h:Rest k z D H t.1)(e:b9):Rest k z D H (cm (dM ck) (fun s x=>k.al s.1 x) k.ke t e).2.1:=by
 unfold cm;split
 ·exact h.ke e.2
 ·exact h
theorem Rest.part (l:List b9){t:ck×List b9}(h:Rest k z D H t.1):Rest k z D H (pts (cm (dM ck) (fun s x=>k.al s.1 x) k.ke) t l).2.2.1:=by
 have key:∀(l:List b9)(p:List b9×List b9×(ck×List b9)),Rest k z D H p.2.2.1->Rest k z D H (l.foldl (eu (cm (dM ck) (fun s x=>k.al s.1 x) k.ke)) p).2.2.1:=by
  intro l
  induction l with
  |nil=>exact fun p h=>h
  |cons e l c=>
   intro p hp;refine c _ ?_;have b:=hp.one e;unfold eu;split
   ·exact b
   ·exact b
 exact key l ([],[],t) h
theorem Rest.turn:∀(n:Nat){t:ck×List b9}(b:List b9),Rest k z D H t.1->Rest k z D H (eJ (cm (dM ck) (fun s x=>k.al s.1 x) k.ke) n t b).1.1
 |0,t,b,h=>h
 |n+1,t,b,h=>by
  unfold eJ;split
  ·exact h.part b
  ·exact Rest.turn n _ (h.part b)
theorem Rest.eT {t:ck×List b9}(h:Rest k z D H t.1)(r:List b9):Rest k z D H (k.eT t r).1:=Rest.turn _ _ h
end
end Go.Proofs.YtpkjkjhanlbcoaaGreat
