import Derived.Test.YtjckpdepffejnaaGreatDoorJ22
open Array renaming size->I
open Bool renaming and_comm->Mg,eq_false_iff->wo,false->O4,false_and->En,true->C
open Go renaming Calls->M
open Go.Ending renaming returned->Q
open Go.IntKind renaming i64->OW
open Go.Obj renaming cells->OX
open Go.Proofs.Tryz renaming prog->J
open Go.RowKit renaming Below->O
open Go.Value renaming agg->bz,int->U,pointer->bq,slice->Z,tuple->ay
open Go.World renaming alloc->bu,cell?->V,frozen?->bF,heap->OT,setCell->O8
open Int renaming le_refl->wI,natCast_nonneg->nC,toNat->K,toNat_natCast->bD
open List renaming filter_eq_self->nX,filter_filter->Cg,getD->X,length->L,map_map->yo,mem_append->bw,mem_filter->bK,mem_map->bS
open Option renaming none->O0,some->H
namespace Go.Proofs.YtjckpdepffejnaaGreatDoor
set_option maxRecDepth 100000
set_option maxHeartbeats 8000000
open Tryz
open Go.RowKit W Kp ch
theorem C6 {P:Prop}(h:P:=by
 refine List.map_congr_left (λe he=>?_)
 obtain⟨z1,z2⟩:=List.mem_filter.1 he;have h5:=hE e z1;refine xy e h5 z2 ?_;rcases List.mem_append.1 z1 with d|d
 ·exact hcl _ h5.g.1 z2 (3,e.2) (aI (aI (aI ⟨h5.k,e,d,by have:=h5.g0;omega,rfl⟩))) rfl
 ·exact(hs.c e d).2):P:=h
theorem C7 {P:Prop}(h:P:=by
 refine List.map_congr_left (λe he=>?_)
 obtain⟨z1,z2⟩:=List.mem_filter.1 he;rw[Bool.and_eq_true] at z2;exact xy e (hR.gv e z1) z2.2 (hup _ z2.1)):P:=h
section
variable {a:Wc}{S:cv}{W:ck}{m:Nat->Int}{Y G:List Int}
theorem M1 (h:eA a S.s Y G)(hb:cL a S.s)(i:S.gD a=O4):(S.dR a).r=((S.r.filter (λe=>(S.s.j0 a).al (S.j2 a).1 e.2)).filter (λe=>(S.s.j0 a).al (S.cI a) e.1)).map (λe=>((S.s.j0 a).nw (S.cM a) e.1,(S.s.j0 a).nw (S.cM a) e.2)):=by
 have f:=c8.start hb.n1 hb.o1 hb.y1 hb.g1;obtain⟨d1,u,v⟩:=pF (S:=S) f;obtain⟨_,l2,m⟩:=my h.inv.full hb;obtain⟨_,g,w⟩:=nE h hb i;obtain⟨_,b,t3,_⟩:=qR (s:=S.cM a) (k:=S.s.j0 a) ⟨hb.l1,hb.y1,hb.g1⟩ hb.r1 f.nd (pJ h.inv.full hb) (qX h.inv.full hb)
 have b:(S.k5 a).Y=(S.s.j0 a).Y:=b;have t3:(S.k5 a).G=(S.s.j0 a).G:=t3;have n:(S.k5 a).T=(S.s.j0 a).T:=by unfold b_.T;rw[b,t3]
 have j:∀x,(S.k5 a).al (S.cM a) x=(S.s.j0 a).al (S.cI a) x:=λx=>by
  have q0:(S.k5 a).dd (S.cM a) x=(S.s.j0 a).dd (S.cM a) x:=by unfold b_.dd b_.jt;rw[n]
  unfold b_.al;rw[q0];cases hj:(S.s.j0 a).jt x
  ·unfold b_.dd;rw[hj];rfl
  ·have l:=qN hj;rw[m] at l;have q:=g.iff _ l;unfold b_.dd;by_cases c:(S.cI a).f (cq x)=-1
   ·rw[c,q.2 c]
   ·rw[beq_false_of_ne c,beq_false_of_ne (λd=>c (q.1 d))]
 have r3:S.r3 a=(S.r.filter (λe=>(S.s.j0 a).al (S.j2 a).1 e.2)).filter (λe=>(S.s.j0 a).al (S.cI a) e.1):=by show(((S.r.filter (λe=>(S.s.j0 a).al _ e.2)).filter (λe=>(S.s.j0 a).al (S.cI a) e.1)).map λe=>((S.s.j0 a).nw (S.cI a) e.1,(S.s.j0 a).nw (S.cI a) e.2))=_;exact AZ
 have o:(S.k5 a).tS (S.cM a,S.q3 a) (S.r3 a)=(S.cM a,S.q3 a):=wm (λe he=>by rw[j];exact sO f e he)
 unfold cv.dR;rw[i,aJ ac];show fp (et cy) (λs x=>(S.k5 a).al s.1 x) _ (λs x=>(S.k5 a).nw s.1 x) (S.cM a,S.q3 a) (S.r3 a)=_;unfold fp;have e:gu (et cy) (λs x=>(S.k5 a).al s.1 x) (S.k5 a).ct (S.cM a,S.q3 a) (S.r3 a)=(S.cM a,S.q3 a):=o;rw[e];show(((S.r3 a).filter (λe=>(S.k5 a).al (S.cM a) e.2)).filter (λe=>(S.k5 a).al (S.cM a) e.1)).map (λe=>((S.k5 a).nw (S.cM a) e.1,(S.k5 a).nw (S.cM a) e.2))=_;have p:(S.r3 a).filter (λe=>(S.k5 a).al (S.cM a) e.2)=S.r3 a:=nX.2 (λe he=>by rw[j];exact sO (S:=S) f e he)
 have t:(S.r3 a).filter (λe=>(S.k5 a).al (S.cM a) e.1)=S.r3 a:=nX.2 (λe he=>by simp_all)
 rw[p,t,r3];refine List.map_congr_left (λe _=>?_)
 rw[b_.me _ _ b t3,b_.me _ _ b t3]
theorem cE.n4 (b:cE a S W m Y G)(hb:cL a S.s){g:List Bool->List Bool}(hg:dS W.T W.wt g):S.n4 a=jg W.T (W.cR g C).1 (L W.T):=by
 have f:=c8.start hb.n1 hb.o1 hb.y1 hb.g1;have hs:=Rg.settled b hb hg;obtain⟨k,_⟩:=qP (S.s.j0 a) (λc=>!((S.cI a).f c==-1)) _ (S.cI a,(a.N:Int)) f.nd (by grind)
 have d:=k.sum (by simp[du])
 have d:(iI (oE (ld a.N S.s.y S.s.g S.s.ws)) ((S.s.j0 a).T.filter (λc=>!((S.cI a).f c==-1))):Int)=S.n4 a:=d;rw[xo,<-d,xn (λi _ hp=>b.size (hs.ok.al i hp)) (f.nd.filter _) (λi j _ _ hp hq e=>b.inj i j (hs.ok.al i hp) (hs.ok.al j hq) e) (λv=>?_)];rw[bK];constructor
 ·rintro⟨l,n⟩
  obtain⟨i,hi,rfl⟩:=b.xr hb l;exact⟨i,hi.1,(hs.gO i hi).1 (by grind),rfl⟩
 ·rintro⟨i,_,hp,rfl⟩
  have hi:=hs.ok.al i hp;exact⟨b.memT hb hi,by simpa using(hs.gO i hi).2 hp⟩
theorem cE.C8 (b:cE a S W m Y G)(hb:cL a S.s){g:List Bool->List Bool}(hg:dS W.T W.wt g):S.gD a=W.cF g a.O C:=by grind [n4,cv.gD,ck.cF]
theorem cE.jf (b:cE a S W m Y G)(hb:cL a S.s){g:List Bool->List Bool}(hg:dS W.T W.wt g):S.jf a=W.hP g a.O C:=by grind [C8,cv.jf,ck.hP]
theorem cE.ru (b:cE a S W m Y G)(hb:cL a S.s){j:cy}{v:Int×Int}(hv:dL W.T v)(c:v.1=3->j.f (m (K v.2))≠-1):(S.s.j0 a).nw j (wv m v)=wv (λi=>j.f (m i)) v:=by grind [jt,vt,jJ,oQ,b_.nw]
theorem xz {c:Type}(d:c){l b:List c}(h:L l=L b)(he:∀i,i<L l->X l i d=X b i d):l=b:=by grind [List.ext_getElem]
theorem xA {m:Nat->Int}:wv m (2,0)=3:=by rw[oQ ae];decide
theorem cE.M2 (hR:cE a S W m Y G)(hb:cL a S.s){g:List Bool->List Bool}(hg:dS W.T W.wt g)(u:S.gD a=O4):
 tT a S W m (W.c0 g C) (W.cR g C).1 (W.cR g C).2.1 (S.dR a) (λi=>(S.cM a).f (m i)) ((S.cM a).lf (G++Y)):=by
 have hs:=Rg.settled hR hb hg;have h0:=Rg.start hR hb hg;obtain⟨_,w,_⟩:=nE hR.kv hb u;obtain⟨s1,s2,aF⟩:=pF (S:=S) (c8.start hb.n1 hb.o1 hb.y1 hb.g1)
 have N:=hR.T hb;have o:∀{i:Nat},cz W.T i->m i∈G++Y:=λhi=>(N▸hR.memT hb hi)
 have B:∀i,cz W.T i->((S.cM a).f (m i)≠-1↔cx (W.cR g C).1 i):=λi hi=>by rw[<-hs.gO i hi];exact not_congr (w.iff _ (o hi))
 have l:∀i,cx (W.cR g C).1 i->_:=λi b=>(B i (hs.ok.al i b)).2 b;have hcl:iM W.T W.wt (cx (W.cR g C).1):=by
  have hc:=hR.marked hb hs.dp (λx al=>(hs.q▸List.mem_map_of_mem (List.mem_append_left _ al)))
  intro i hi hX v hv n;have ab:∀j,cx (W.cR g C).1 j->_/\_:=λj p=>⟨hs.ok.al j p,(hs.gO j (hs.ok.al j p)).2 p⟩
  obtain⟨q1,f⟩:=hc i hi (ab i hX) v (hv.mono ab) n;exact(hs.gO _ q1).1 f
 have hup:∀i,cx (W.c0 g C) i->cx (W.cR g C).1 i:=λi hi=>by have ha:=h0.ok.al i hi;have ad:=(h0.gO i ha).2 hi;refine(hs.gO i ha).1 ?_;rw[s2.f _ ad];exact ad
 have s:∀i,cx (W.cR g C).1 i->((X W.T i t0).1=3\/(X W.T i t0).1=4->_=_):=λi hi q=>hR.two (hs.ok.al i hi) (aI q)
 have xy:∀e,gP W.T e->cx (W.cR g C).1 (K e.1)->cx (W.cR g C).1 (K e.2)->((S.s.j0 a).nw (S.cM a) (we m e).1,(S.s.j0 a).nw (S.cM a) (we m e).2)=we (λi=>(S.cM a).f (m i)) e:=λe he am s=>by
  have q1:=hR.ru hb (j:=S.cM a) (v:=(3,e.1)) ⟨λ_=>⟨he.g0,he.g⟩,λc=>absurd rfl c⟩ (λ_=>l _ am)
  have f:=hR.ru hb (j:=S.cM a) (v:=(3,e.2)) ⟨λ_=>⟨he.h0,he.h⟩,λc=>absurd rfl c⟩ (λ_=>l _ s)
  exact Prod.ext q1 f
 have gc:=w.gc;have ag:(S.dR a).s.y=0:=gc.y;refine
 {
  kv:=(gc.inv hR.kv hb w.al).1,ok:=hs.ok,cl:=hcl,up:=hup,rr:=hs.r,cc:=hs.c
  rs:=?_,pl:=λi b=>?_,inj:=λi j hi p e=>?_,gV:=λv hv=>?_,hd:=λi b=>?_,fd:=λi b k hk=>?_,rg:=?_,wt:=?_}
 ·refine xz 0 (by rw[a5,hR.rl];exact gc.rl) (λi hi=>?_)
  have hi:i<12:=by rw[gc.rl] at hi;exact hi
  obtain⟨er,hv⟩:=hR.root hi;rw[gc.rs i hi,er,oP (wv (λi=>(S.cM a).f (m i))) W.rs i (0,0) 0 ((hR.rl▸hi))];exact hR.ru hb hv (λn=>l _ (hs.r _ (fL ((hR.rl▸hi))) n))
 ·exact bS.2 ⟨m i,bK.2 ⟨o (hs.ok.al i b),by simp_all⟩,rfl⟩
 ·have:=gc.pos.inj (λc=>(du _).1) (m i) (o (hs.ok.al i hi)) (m j) (o (hs.ok.al j p)) (by simp_all) (by simp_all) e;exact hR.inj i j (hs.ok.al i hi) (hs.ok.al j p) this
 ·obtain⟨c,hc,rfl⟩:=bS.1 hv;obtain⟨q1,f⟩:=bK.1 hc;rw[<-N] at q1;obtain⟨i,hi,rfl⟩:=hR.xr hb q1;exact⟨i,(B i hi).1 (by simpa using f),rfl⟩
 ·rw[ag];exact gc.hd _ (o (hs.ok.al i b)) (l i b)
 ·have ha:=hs.ok.al i b;obtain⟨an,ao,_⟩:=hR.parts ha;rw[ag,gc.fd _ (o ha) (l i b) k (nC k) (by rw[ao];omega),nU b (s i b) hk];unfold b_.jx;have ap:pk ((S.s.j0 a).ld (m i))=(X W.T i t0).1:=an;rw[ap];have ai:(S.s.j0 a).ld (m i+1+k)=wv m (X (X W.T i t0).2.1 k (0,0)):=hR.fd i ha k hk;have key:(X W.T i t0).1=3\/(X W.T i t0).1=4->((S.s.j0 a).dd (S.cM a) ((S.s.j0 a).ld (m i+1))=C↔eN (W.cR g C).1 (X (X W.T i t0).2.1 0 (0,0))=O4):=λq=>by
   have ar:(S.s.j0 a).ld (m i+1)=wv m (X (X W.T i t0).2.1 0 (0,0)):=by
    have:=hR.fd i ha 0 aa;show ld a.N S.s.y S.s.g S.s.ws (m i+1)=_;rw[<-this]
    congr 1
    omega
   have F:=hR.fv i ha _ (fL (x:=((0,0):Int×Int)) (show 0<L (X W.T i t0).2.1 by omega))
   rw[ar];by_cases c3:(X (X W.T i t0).2.1 0 (0,0)).1=3
   ·have q1:=hR.pW hb (S.cM a) F c3;have f:=B _ (F.t c3).2;rw[C5 c3];constructor
    ·intro d;cases e:X (W.cR g C).1 _ O4
     ·rfl
     ·rw[q1.2 (f.2 e)] at d;cases d
    ·intro d;cases e:(S.s.j0 a).dd (S.cM a) _
     ·have:=f.1 (q1.1 e)
      unfold cx at this
      rw[d] at this
      cases this
     ·rfl
   ·rw[M0 c3];have:(S.s.j0 a).dd (S.cM a) (wv m (X (X W.T i t0).2.1 0 (0,0)))=O4:=by
     unfold b_.dd;rw[hR.jt hb F];have:((X (X W.T i t0).2.1 0 (0,0)).1==3)=O4:=by simpa using c3
     rw[this];rfl
    rw[this];simp
  by_cases cb:((X W.T i t0).1=3\/(X W.T i t0).1=4)/\eN (W.cR g C).1 (X (X W.T i t0).2.1 0 (0,0))=O4
  ·by_cases t:k=0\/((X W.T i t0).1=4/\k=1)
   ·rw[aN ⟨⟨cb.1,(key cb.1).2 cb.2⟩,t.imp (λe=>by omega) (λe=>⟨e.1,aa⟩)⟩,aN ⟨cb,t⟩,xA];unfold b_.nw b_.jt;rw[show di 3=O4 by decide,En,En,aJ ac]
   ·rw[aJ (λq=>t (q.2.imp (λe=>by omega) (λe=>⟨e.1,aa⟩))),aJ (λq=>t q.2),ai];refine hR.ru hb (hR.fv i ha _ (fL hk)) (λn=>l _ ?_)
    have hl:=hR.led hs.ok hcl b hk;rw[nU b (s i b) hk,aJ (λq=>t q.2)] at hl;exact hl n
  ·rw[aJ (λq=>cb ⟨q.1.1,(key q.1.1).1 q.1.2⟩),aJ (λq=>cb q.1),ai];refine hR.ru hb (hR.fv i ha _ (fL hk)) (λn=>l _ ?_)
   have hl:=hR.led hs.ok hcl b hk;rw[nU b (s i b) hk,aJ (λq=>cb q.1)] at hl;exact hl n
 ·rw[M1 hR.kv hb u,hR.rg,Cg];rw[m5 (we m) _ (λe=>cZ (W.c0 g C) e.2&&cZ (W.cR g C).1 e.1) W.rg (λe he=>by have q1:=Rg.is hR hb h0 (hR.gv e he).h;have f:=Rg.is hR hb hs (hR.gv e he).g;have q1:(S.s.j0 a).al (S.j2 a).1 (we m e).2=cZ (W.c0 g C) e.2:=q1;have f:(S.s.j0 a).al (S.cI a) (we m e).1=cZ (W.cR g C).1 e.1:=f;rw[q1,f,Mg]),yo];exact C7
 ·rw[Ba hR.kv hb u];have hE:∀e∈W.wt++(W.cR g C).2.1,gP W.T e:=λe he=>by
   rcases bw.1 he with d|d
   ·exact hR.dH e d
   ·exact hR.gv e (hs.c e d).1
  rw[hs.q,m5 (we m) _ (λe=>cZ (W.cR g C).1 e.1) _ (λe he=>Rg.is hR hb hs (hE e he).g),yo];exact C6
theorem cE.dR (b:cE a S W m Y G)(hb:cL a S.s){g:List Bool->List Bool}(hg:dS W.T W.wt g):∃c d e,cE a (S.dR a) (W.cut g a.O C) c d e:=by
 unfold ck.cut;rw[<-b.C8 hb hg];cases hf:S.gD a
 ·rw[aJ ac];exact⟨_,_,_,(b.M2 hb hg hf).done b⟩
 ·refine⟨m,Y,G,?_⟩
  unfold cv.dR;rw[hf,aN rfl];exact b
end
theorem C9 (k:cf):∀(l:List Int)(s:cn),(l.foldl k.e8 s).rs=s.rs
 |[],_=>rfl
 |x::l,s=>by rw[a8,C9 k l];unfold cf.e8;split<;>rfl
theorem C_ (k:cf):∀(l:List Int)(s:cn),(l.foldl k.ie s).rs=s.rs
 |[],_=>rfl
 |x::l,s=>by rw[a8,C_ k l];rfl
theorem ga.told {k:cf}{s:cn}(ci:CI k s)(fC:Fo k s){q0 q:List b8}(h:ga k s q0 q)(p:Int->Bool):(q.filter (λe=>p e.1)).map (λe=>(k.nw s e.1,k.nw s e.2))=(q0.filter (λe=>p e.1)).map (λe=>(k.nw s e.1,k.nw s e.2)):=by
 have f:q.map (λe=>(e.1,k.nw s e.2))=q0.map (λe=>(e.1,k.nw s e.2)):=by
  refine xz (0,0) (by grind [len]) (λn hn=>?_)
  rw[a5] at hn;have b:n<L q0:=(h.len▸hn)
  obtain⟨c,d⟩:=h.eq n b;rw[oP (λe:b8=>(e.1,k.nw s e.2)) q n (0,0) (0,0) hn,oP (λe:b8=>(e.1,k.nw s e.2)) q0 n (0,0) (0,0) b,c,C2 ci fC d]
 have key:∀l:List b8,(l.filter (λe=>p e.1)).map (λe=>(k.nw s e.1,k.nw s e.2))=((l.map (λe=>(e.1,k.nw s e.2))).filter (λe=>p e.1)).map (λe=>(k.nw s e.1,e.2)):=λl=>by rw[m5 (λe:b8=>(e.1,k.nw s e.2)) (λe=>p e.1) (λe=>p e.1) l (by grind),yo];rfl
 grind
section
variable {a:Wc}{S:cv}{W:ck}{m:Nat->Int}{Y G:List Int}
def g6 (a:Wc)(S:cv)(m:Nat->Int)(G:List Int)(i:Nat):Int:=if m i∈G then m i else(S.s4 a).f (m i)
theorem cE.M3 (hR:cE a S W m Y G)(hb:cL a S.s)(hr:S.s.y<=a.O-S.s.g){g:List Bool->List Bool}(hg:dS W.T W.wt g):
 ∃K,tT a S W m (W.c0 g O4) (W.cR g O4).1 (W.cR g O4).2.1 ⟨⟨0,(S.s6 a).g,(S.s6 a).ws,[],(S.s6 a).rs⟩,(S.s.k0 a).sR (S.t3 a) S.r,(S.s.k0 a).j8 (S.t3 a) S.r⟩ (g6 a S m G) (G++K):=by
 obtain⟨D,hc,h0⟩:=kk.start hR hb hr hg;have hs:=kk.settled hR hb hc hg h0;obtain⟨K,li,F⟩:=hs.dp.li;have li:=li;have F:=F;obtain⟨bd,ce,c⟩:=sL hR.kv hb hr;have bp:bd=K:=by have l2:=(c.li.mi.full.lists (O:=a.O) hb.n1 hb.y1 hb.o1 c.li.mi.ci.hg).2;have ap:=((li.mi.full.lists (O:=a.O) hb.n1 hb.y1 hb.o1 li.mi.ci.hg).2).symm.trans l2;exact(List.append_cancel_left ap).symm
 subst bp;refine⟨bd,?_⟩
 have ci:=li.mi.ci;have fC:=li.mi.fC;have am:=hR.gM hb;have hz:∀v,(v∈(S.s.k0 a).T\/v∈(S.s.z0 G).G)->∀i,0<=i->i<pf ((S.s.k0 a).l0 (S.s.z0 G) v)->di ((S.s.k0 a).l0 (S.s.z0 G) (v+1+i))=C->cq ((S.s.k0 a).l0 (S.s.z0 G) (v+1+i))∈(S.s.k0 a).T\/cq ((S.s.k0 a).l0 (S.s.z0 G) (v+1+i))∈(S.s.z0 G).G:=λv hv i br ad ha=>by rw[am] at hv⊢;exact hR.kv.inv.fd v hv i br ad ha
 have gO:=hs.gO;have ok:=hs.ok;have ag:∀i,cx (W.cR g O4).1 i->(S.s.k0 a).or (S.s.z0 G) (S.s4 a) (m i) (g6 a S m G i):=λi b=>by
  have ha:=ok.al i b;unfold g6;by_cases d:m i∈G
  ·rw[aN d];exact aK ⟨rfl,d⟩
  ·rw[aJ d];have hy:=(hR.mem ha).resolve_right d;exact aI ⟨by rw[am];exact hy,rfl,((hR.lj hb _ ha).1 ((gO i ha).2 b)).resolve_left d⟩
 have hcl:iM W.T W.wt (cx (W.cR g O4).1):=by
  intro i hi hX v hv l;have be:∀j,cx (W.cR g O4).1 j->_/\_:=λj N=>⟨ok.al j N,(gO j (ok.al j N)).2 N⟩
  obtain⟨q1,s⟩:=hR.xt hb hc hs.dp xu i hi (be i hX) v (hv.mono be) l;exact(gO _ q1).1 s
 have bs:c_ (S.s.k0 a) (S.t3 a).1 (S.s4 a):=by obtain⟨bt,ap,bx⟩:=h0.dp.li;obtain⟨_,_,_,cI,_⟩:=df.fB (k:=S.s.k0 a) (z:=S.s.z0 G) (D:=D) (S.t3 a) S.r bt ap bx;exact cI
 have hup:∀i,cx (W.c0 g O4) i->cx (W.cR g O4).1 i:=λi hi=>by have ha:=h0.ok.al i hi;exact(gO i ha).1 (qZ bs ((h0.gO i ha).2 hi))
 have B:∀i,cx (W.cR g O4).1 i->((X W.T i t0).1=3\/(X W.T i t0).1=4->_=_):=λi hi q=>hR.two (ok.al i hi) (aI q)
 have ai:∀v,dL W.T v->(v.1=3->cx (W.cR g O4).1 v.2.toNat)->(S.s.k0 a).nw (S.s4 a) (wv m v)=wv (g6 a S m G) v:=λv hv b=>by
  by_cases l:v.1=3
  ·have ha:=(hv.t l).2;rw[jJ l,jJ l];unfold g6;by_cases d:m v.2.toNat∈G
   ·rw[aN d];refine pY ?_;rw[wo];intro hy;exact hR.lS hb ((hR.pX hb ha).1 hy) d
   ·rw[aJ d];have hy:=(hR.mem ha).resolve_right d;have e:=(hR.word hb ha).2.2;rw[tO ((hR.pX hb ha).2 hy) (by rw[e];exact((hR.lj hb _ ha).1 ((gO _ ha).2 (b l))).resolve_left d),e]
  ·rw[oQ l,oQ l];refine pY ?_;unfold cf.cP;rw[(o4 _ _ (hv.o l)).1];have:(v.1==3)=O4:=by simpa using l
   rw[this];rfl
 have xy:∀e,gP W.T e->cx (W.cR g O4).1 e.1.toNat->cx (W.cR g O4).1 e.2.toNat->((S.s.k0 a).nw (S.s4 a) (we m e).1,(S.s.k0 a).nw (S.s4 a) (we m e).2)=we (g6 a S m G) e:=λe he b0 B=>by
  have q1:=ai (3,e.1) ⟨λ_=>⟨he.g0,he.g⟩,λc=>absurd rfl c⟩ (λ_=>b0)
  have s:=ai (3,e.2) ⟨λ_=>⟨he.h0,he.h⟩,λc=>absurd rfl c⟩ (λ_=>B)
  rw[jJ rfl,jJ rfl] at q1 s;unfold we;exact Prod.ext q1 s
 have lo:∀{p:Int},(a.N:Int)<=p->ld a.N 0 (S.s6 a).g (S.s6 a).ws p=(S.s.k0 a).ld ((S.s.k0 a).be ((S.s.k0 a).mw (S.s4 a) (S.s4 a).wk) ((S.s.k0 a).mw (S.s4 a) (S.s4 a).wk).ep) p:=λhp=>v8 hp hb.y1;refine
 {
  kv:=⟨c.done hR.kv hb,λv _ i _ _ _ hy=>(by cases hy)⟩,ok:=ok,cl:=hcl,up:=hup,rr:=hs.r,cc:=hs.c
  rs:=?_,pl:=λi b=>li.mi.mem (ag i b),inj:=λi j hi N e=>?_,gV:=λv hv=>?_,hd:=λi b=>?_,fd:=λi b k hk=>?_,rg:=?_,wt:=?_}
 ·have b4:(S.s6 a).rs=(S.s4 a).rs:=(C_ _ _ _).trans (C9 _ _ _)
  show(S.s6 a).rs=_;rw[b4];refine xz 0 (by rw[a5,hR.rl];exact c.rl) (λi hi=>?_)
  have hi:i<12:=by rw[c.rl] at hi;exact hi
  obtain⟨er,hv⟩:=hR.root hi;have hm:=c.rm i hi;rw[er] at hm;rw[C3 hm (c.A6 i hi),oP (wv (g6 a S m G)) W.rs i (0,0) 0 (by rw[hR.rl];exact hi)];exact ai _ hv (hs.r _ (fL (by rw[hR.rl];exact hi)))
 ·have o1:=ag i hi;have bg:=ag j N;rw[<-e] at bg;refine hR.inj i j (ok.al i hi) (ok.al j N) ?_;rcases o1 with⟨a1,a2⟩|⟨a1,a2,an⟩<;>rcases bg with⟨b1,b2⟩|⟨b1,b2,b3⟩
  ·exact a1.trans b1.symm
  ·have q1:=li.mi.mf _ a2;have s:=li.mi.hlo _ (li.mi.fh _ b1 (by rw[b2];exact b3))
   rw[b2] at s;omega
  ·have q1:=li.mi.mf _ b2;have s:=li.mi.hlo _ (li.mi.fh _ a1 (by rw[a2];exact an))
   rw[a2] at s;omega
  ·exact li.mi.inj _ a1 _ b1 (by rw[a2];exact an) (a2.trans b2.symm)
 ·obtain⟨x,o⟩:=li.mi.from hv;have hm:x∈Y\/x∈G:=by
   have:=xp o;rw[am] at this
   exact this
  obtain⟨i,hi,rfl⟩:=hR.gV x hm;have b:cx (W.cR g O4).1 i:=(gO i hi).1 ((hR.lj hb _ hi).2 (by
   rcases o with⟨a1,a2⟩|⟨a1,a2,an⟩
   ·exact aK (by rw[a1];exact a2)
   ·omega))
  refine⟨i,b,?_⟩
  unfold g6;rcases o with⟨a1,a2⟩|⟨a1,a2,an⟩
  ·rw[aN (by rw[a1];exact a2)];exact a1
  ·rw[am] at a1;rw[aJ (hR.lS hb a1)];exact a2
 ·have o:=ag i b;have b5:=li.mi.bd (li.mi.mem o)
  show ld a.N 0 (S.s6 a).g (S.s6 a).ws (g6 a S m G i)=_;rw[lo b5.1];exact(MZ li F o).1
 ·have o:=ag i b;have ha:=ok.al i b;obtain⟨ar,aF,_⟩:=hR.parts ha;have al:(S.s.k0 a).ld (S.s4 a) (g6 a S m G i)=ld a.N S.s.y S.s.g S.s.ws (m i):=li.mi.hd _ _ o;have ad:(k:Int)<pf ((S.s.k0 a).l0 (S.s.z0 G) (m i)):=by
   show(k:Int)<pf (ld a.N S.s.y S.s.g S.s.ws (m i))
   rw[aF];omega
  have b6:(k:Int)<pf ((S.s.k0 a).ld (S.s4 a) (g6 a S m G i)):=by rw[al,aF];omega
  have ao:∀n,n<L (X W.T i t0).2.1->(S.s.k0 a).l0 (S.s.z0 G) (m i+1+n)=wv m (X (X W.T i t0).2.1 n (0,0)):=λn hn=>hR.fd i ha n hn;have aR:=li.mi.fd (m i) _ o k (nC k) ad;rw[ao k hk] at aR;have bi:=hR.fv i ha _ (fL (x:=((0,0):Int×Int)) hk)
  show ld a.N 0 (S.s6 a).g (S.s6 a).ws (g6 a S m G i+1+k)=_;have hN:(a.N:Int)<=g6 a S m G i:=(li.mi.bd (li.mi.mem o)).1;rw[lo aa,MY li F o (nC k) ad,nU b (B i b) hk];have lost:(X W.T i t0).1=3\/(X W.T i t0).1=4->(eN (W.cR g O4).1 (X (X W.T i t0).2.1 0 (0,0))=O4↔(S.s.k0 a).ls (S.s4 a) (wv m (X (X W.T i t0).2.1 0 (0,0)))=C):=λq=>by
   have l2:=B i b q;have a0:=hR.fv i ha _ (fL (x:=((0,0):Int×Int)) (show 0<L (X W.T i t0).2.1 by omega))
   constructor
   ·intro d;obtain⟨bl,b7⟩:=oG d;have b8:=(a0.t bl).2;have:¬(S.s.k0 a).al (S.s4 a) (ew 3 (m (X (X W.T i t0).2.1 0 (0,0)).2.toNat))=C:=λw=>by
     have:=(gO _ b8).1 w;unfold cx at this
     rw[b7] at this
     cases this
    rw[jJ bl];unfold cf.al at this
    simpa using this
   ·intro d;obtain⟨k3,_⟩:=hR.tN hb a0 (nR d)
    rw[jJ k3] at d;rw[C5 k3];cases w:X (W.cR g O4).1 (X (X W.T i t0).2.1 0 (0,0)).2.toNat O4
    ·rfl
    ·have:=(gO _ (a0.t k3).2).2 w;unfold cf.al at this
     rw[d] at this
     cases this
  have met:(X W.T i t0).1=3\/(X W.T i t0).1=4->(S.s.k0 a).ls (S.s4 a) (wv m (X (X W.T i t0).2.1 0 (0,0)))=C->(S.s.k0 a).ld (S.s4 a) (g6 a S m G i+1+0)=wv m (X (X W.T i t0).2.1 0 (0,0))/\((X W.T i t0).1=3->g6 a S m G i∈(S.s4 a).wk)/\((X W.T i t0).1=4->g6 a S m G i∈(S.s4 a).ep):=λq d=>by
   have l2:=B i b q;have bb:(0:Int)<pf ((S.s.k0 a).l0 (S.s.z0 G) (m i)):=aa;have j2:(0:Int)<pf ((S.s.k0 a).ld (S.s4 a) (g6 a S m G i)):=by rw[al,aF];omega
   have bn:=li.mi.fd (m i) _ o 0 (wI 0) bb;have ex:(S.s.k0 a).l0 (S.s.z0 G) (m i+1+0)=wv m (X (X W.T i t0).2.1 0 (0,0)):=ao 0 aa;rw[ex] at bn;have u:(S.s.k0 a).ld (S.s4 a) (g6 a S m G i+1+0)=wv m (X (X W.T i t0).2.1 0 (0,0)):=by
    rcases bn with w|⟨_,w,_⟩
    ·exact w
    ·exact absurd (cf.oi d).2.2 w
   have f:=li.fields hs.dp.he hz hc (li.mi.mem o) (wI 0) j2 ((u▸(cf.oi d).1))
   rw[al,ar] at f;refine⟨u,λk3=>?_,λk4=>?_⟩
   ·rcases f with w|⟨_,_,w⟩|⟨w,_⟩
    ·have:=li.mi.qU w;rw[u,nR d] at this
     cases this
    ·exact w
    ·omega
   ·rcases f with w|⟨w,_,_⟩|⟨_,w⟩
    ·have:=li.mi.qU w;rw[u,nR d] at this
     cases this
    ·omega
    ·exact w
  by_cases ab:g6 a S m G i∈(S.s4 a).ep
  ·have k4:(X W.T i t0).1=4:=by
    have:=(F.ep _ ab).2;rw[al,ar] at this
    exact this
   have l2:=B i b (aI k4)
   have t:=hs.dp.ep _ ab;have t:=t;have bb:(0:Int)<pf ((S.s.k0 a).l0 (S.s.z0 G) (m i)):=aa;have b9:g6 a S m G i+1+0=g6 a S m G i+1:=aa;rw[<-b9] at t;have ea:=li.mi.tM o (wI 0) bb (nR t)
   have ex:(S.s.k0 a).l0 (S.s.z0 G) (m i+1+0)=wv m (X (X W.T i t0).2.1 0 (0,0)):=ao 0 aa;rw[ea,ex] at t;rw[aN ab,aN ⟨⟨aI k4,(lost (aI k4)).2 t⟩,aa⟩,xA]
  ·rw[aJ ab];by_cases bo:g6 a S m G i∈(S.s4 a).wk/\(k:Int)=0
   ·obtain⟨hw,cg⟩:=bo;have k3:(X W.T i t0).1=3:=by
     have:=(F.wk _ hw).2;rw[al,ar] at this
     exact this
    have gS:k=0:=aa;subst gS;rw[aN ⟨hw,rfl⟩];cases t:eN (W.cR g O4).1 (X (X W.T i t0).2.1 0 (0,0))
    ·have q:=(lost (aK k3)).1 t;have u:=(met (aK k3) q).1;have u:(S.s.k0 a).ld (S.s4 a) (g6 a S m G i+1+((0:Nat):Int))=wv m (X (X W.T i t0).2.1 0 (0,0)):=u;rw[aN ⟨⟨aK k3,rfl⟩,aK rfl⟩,xA,u];unfold cf.cJ;rw[aN q]
    ·rw[aJ (λq=>by simp_all)];have ca:(S.s.k0 a).ls (S.s4 a) ((S.s.k0 a).ld (S.s4 a) (g6 a S m G i+1+((0:Nat):Int)))=O4:=by rw[wo];intro w;rw[(li.mi.tM o (nC 0) ad (nR w)),ao 0 hk] at w;rw[(lost (aK k3)).2 w] at t;cases t
     unfold cf.cJ;rw[ca,aJ ac,C2 ci fC aR];refine ai _ bi (λl=>?_)
     exact oH t l
   ·rw[aJ bo];have cb:(S.s.k0 a).cP ((S.s.k0 a).ld (S.s4 a) (g6 a S m G i+1+k))=O4:=by
     cases hab:di ((S.s.k0 a).ld (S.s4 a) (g6 a S m G i+1+k))
     ·unfold cf.cP;rw[hab];rfl
     ·rcases li.fields hs.dp.he hz hc (li.mi.mem o) (nC k) b6 hab with w|⟨_,w1,ch⟩|⟨_,w⟩
      ·exact li.mi.qU w
      ·simp_all
      ·exact absurd w ab
    have nb:¬((((X W.T i t0).1=3\/(X W.T i t0).1=4)/\eN (W.cR g O4).1 (X (X W.T i t0).2.1 0 (0,0))=O4)/\(k=0\/((X W.T i t0).1=4/\k=1))):=by
     rintro⟨⟨q1,s⟩,q3⟩
     obtain⟨_,cj,cd⟩:=met q1 ((lost q1).1 s)
     rcases q1 with k3|k4
     ·simp_all
     ·exact ab (cd k4)
    rw[aJ nb,C3 aR cb];refine ai _ bi (λl=>?_)
    have hl:=hR.led ok hcl b hk;rw[nU b (B i b) hk,aJ nb] at hl;exact hl l
 ·show(((S.r.filter (λe=>(S.s.k0 a).al (S.t3 a).1 e.2)).filter (λe=>(S.s.k0 a).al (S.s4 a) e.1)).map (λe=>((S.s.k0 a).nw (S.s4 a) e.1,(S.s.k0 a).nw (S.s4 a) e.2)))=_;rw[hR.rg,Cg];rw[m5 (we m) _ (λe=>cZ (W.c0 g O4) e.2&&cZ (W.cR g O4).1 e.1) W.rg (λe he=>by have q1:(S.s.k0 a).al (S.t3 a).1 (we m e).2=cZ (W.c0 g O4) e.2:=h0.is (hR.gv e he).h;have s:(S.s.k0 a).al (S.s4 a) (we m e).1=cZ (W.cR g O4).1 e.1:=hs.is (hR.gv e he).g;rw[q1,s,Mg]),yo];exact C7
 ·show((((S.s.k0 a).fB (S.t3 a) S.r).2.filter (λe=>(S.s.k0 a).al (S.s4 a) e.1)).map (λe=>((S.s.k0 a).nw (S.s4 a) e.1,(S.s.k0 a).nw (S.s4 a) e.2)))=_;rw[hs.dp.q.told ci fC ((S.s.k0 a).al (S.s4 a))];have hE:∀e∈W.wt++(W.cR g O4).2.1,gP W.T e:=λe he=>by
   rcases bw.1 he with d|d
   ·exact hR.dH e d
   ·exact hR.gv e (hs.c e d).1
  rw[m5 (we m) _ (λe=>cZ (W.cR g O4).1 e.1) _ (λe he=>hs.is (hE e he).g),yo];exact C6
theorem cE.Da (d:cE a S W m Y G)(hb:cL a S.s){g:List Bool->List Bool}(hg:dS W.T W.wt g):S.full a=W.cF g a.O O4:=by
 have b:=d.us hb;have e:=hb.g1;unfold cv.full ck.cF;rw[b];by_cases c:a.O-S.s.g<S.s.y
 ·rw[bm c,bm (show(a.O:Int)-(S.s.g:Int)<(S.s.y:Int) by omega)];rfl
 ·rw[bk c,bk (show¬(a.O:Int)-(S.s.g:Int)<(S.s.y:Int) by omega)];obtain⟨D,hc,h0⟩:=kk.start d hb aa hg;have f:gF (λi=>X (W.cR g O4).1 i O4) (jh W.T) (L W.T)<=gF (λi=>kj W.T i||oB W.T i) (jh W.T) (L W.T):=CT _ (λi hi hp=>by unfold kj oB;rw[((kk.settled d hb hc hg h0).ok.al i hp).2];cases (X W.T i t0).2.2.1<;>rfl)
  have j:=CU (R:=λi=>kj W.T i||oB W.T i) (z:=jh W.T) (L W.T) (λi _=>⟨rfl,by unfold kj oB;cases (X W.T i t0).2.2.2<;>cases (X W.T i t0).2.2.1<;>rfl⟩)
  rw[CW] at b;have k:=congrArg Prod.fst b;have l:=congrArg Prod.snd b;rw[bk (by rw[(xo W.T (W.cR g O4).1 (L W.T))];omega)];rfl
theorem cE.Db (b:cE a S W m Y G)(hb:cL a S.s){g:List Bool->List Bool}(hg:dS W.T W.wt g):S.code a=W.hP g a.O O4:=by unfold cv.code ck.hP;rw[b.Da hb hg]
theorem cE.cut (b:cE a S W m Y G)(hb:cL a S.s){g:List Bool->List Bool}(hg:dS W.T W.wt g):∃d e f,cE a (S.cut a) (W.cut g a.O O4) d e f:=by
 unfold ck.cut;rw[<-b.Da hb hg];cases hf:S.full a
 ·rw[aJ ac];have hr:S.s.y<=a.O-S.s.g:=by unfold cv.full at hf;have:=of_decide_eq_false hf;omega
  obtain⟨K,c⟩:=b.M3 hb hr hg;unfold cv.cut;rw[hf,aJ ac];exact⟨_,_,_,c.done b⟩
 ·refine⟨m,Y,G,?_⟩
  unfold cv.cut;rw[hf,aN rfl];exact b
end
theorem Dc (rs:List Int)(y:Nat)(ws:List Int)(rl:List Nat):∀k,L (jP rs y ws rl k)=L ws
 |0=>rfl
 |k+1=>by show L ((jP rs y ws rl k).set _ _)=_;rw[List.length_set];exact Dc rs y ws rl k
theorem xB (rs:List Int)(y:Nat)(ws:List Int)(rl:List Nat):∀k,y+k<L ws->∀q,X (jP rs y ws rl k) q 0=if y+1<=q/\q<y+1+k then X rs (X rl (q-y-1) 0) 0 else X ws q 0
 |0,_,q=>by rw[aJ aa];rfl
 |k+1,h,q=>by
  show X ((jP rs y ws rl k).set _ _) q 0=_;rw[xk _ _ _ _ _ (by rw[Dc];omega),xB rs y ws rl k aa q]
  grind
theorem M4 (W:ck)(g:fM)(ce grow m:Int):(W.room g ce grow m).2.rs=W.rs:=by grind [ck.room,ck.cut]
section
variable {a:Wc}{S:cv}{W:ck}{m:Nat->Int}{Y G:List Int}{j:Nat}{g:fM}
theorem cE.made (h:cE a S W m Y G)(hb:cL a S.s){kd:Int}{rl:List Nat}(hk:hc kd (L rl)=0)(hr:S.s.y+1+L rl<=a.N)(e:∀q∈rl,q<12):
 cE a (S.put a kd rl) {W with T:=W.T++[(kd,rl.map (λq=>X W.rs q (0,0)),O4,O4)]} (oR m (L W.T) S.s.y) (Y++[(S.s.y:Int)]) G:=by
 have p:=wy h.kv hb hk hr (L rl) aa;have b:L (rl.map (λq=>X W.rs q (0,0)))=L rl:=a5 ..;have hl:=hb.l1;have f:jo a.N S.s.y kd (L rl)=C:=by grind [jo]
 have c:gH a.N S.s.y kd (L rl) S.s.ws=gs S.s.ws S.s.y (hw kd (L rl)) (L rl):=by grind [gH]
 have g:L (gH a.N S.s.y kd (L rl) S.s.ws)=L S.s.ws:=by rw[c,ww]
 have i:S.s.y+L rl<L S.s.ws:=aa;have keep:∀q:Int,((0<=q/\q<S.s.y)\/((a.N:Int)<=q/\q<a.N+S.s.g))->ld a.N (S.s.y+1+L rl) S.s.g (jP S.s.rs S.s.y (gH a.N S.s.y kd (L rl) S.s.ws) rl (L rl)) q=ld a.N S.s.y S.s.g S.s.ws q:=λq hq=>by grind [gg,jE,xB,j6,iZ]
 refine h.new (((by grind))) (λv hv=>?_) rfl hr p.k ((b▸p.p)) (λk hk=>?_) p.h (λv hv k hk=>?_)
 ·obtain⟨q,hq,rfl⟩:=bS.1 hv;exact(h.root (by grind)).2
 ·grind [jE,xB,root,ld]
 ·exact keep _ (hv.imp (λd=>oz h.kv.inv.full d aa hk) (λd=>oA h.kv.inv.full d aa hk))
theorem cE.M5 (h:cE a S W m Y G)(hb:cL a S.s)(hg:∀T wt,e6 T wt->dS T wt (g T wt))(mm:Int):(S.room a mm).1=(W.room g a.N a.O mm).1/\∃b c d,cE a (S.room a mm).2 (W.room g a.N a.O mm).2 b c d:=by
 have e:=hg _ _ h.iv;unfold cv.room ck.room;rw[h.us hb]
 grind [Db,cut,jf,dR]
def nV (a:Wc)(t:Int×Int×cv)(u:(Int×Int)×Int×ck):Prop:=t.2.1=u.2.1/\∃b c d,cE a t.2.2 u.2.2 b c d/\(t.2.1=0->t.1=wv b u.1/\dL u.2.2.T u.1)
theorem cE.grown (h:cE a S W m Y G)(ok:ed a S j)(hb:cL a S.s)(hg:∀T wt,e6 T wt->dS T wt (g T wt)){kd:Int}{rl:List Nat}(hk:hc kd (L rl)=0)(b:∀q∈rl,q<12):nV a (S.grow a kd rl) (W.grow g a.N a.O kd (rl.map (λq=>X W.rs q (0,0)))):=by
 obtain⟨d,k,l,n,f⟩:=h.M5 hb hg _;obtain⟨ok',i,hr,_⟩:=ok.room hb _;have hl:=jK kd (L rl) hk;unfold nV cv.grow ck.grow;rw[a5];by_cases c:(S.room a (1+L rl)).1=0
 ·rw[aN c,aN (d.symm.trans c)];rw[<-(M4 W g a.N a.O (1+L rl))];refine⟨rfl,_,_,_,(f.made i hk aa b),λ_=>⟨?_,⟨λ_=>⟨ac,?_⟩,λe=>(by grind)⟩⟩⟩
  ·grind [jJ,oR]
  grind [CR,ck.put]
 grind
theorem cE.kx (h:cE a S W m Y G)(hb:cL a S.s){v:Int×Int}(hv:dL W.T v):(S.kx a (wv m v)=5↔jy W.T v=C)/\((S.ex a (wv m v)=0/\S.kx a (wv m v)≠5)↔lN W.T v=C)/\(S.ex a (wv m v)=0↔v.1=3)/\(v.1≠3->S.ex a (wv m v)=2)/\(v.1=3->S.fx a (wv m v)=(L (X W.T (K v.2) t0).2.1:Int)):=by
 rw[s3,k_];unfold cv.kx cv.ex cv.fx;rw[h.tB hb hv];by_cases c:v.1=3
 ·have b:(v.1==3)=C:=by grind
  obtain⟨d,e,f⟩:=h.parts (hv.t c).2
  grind [vt]
 grind
theorem cE.Dd (h:cE a S W m Y G){A:Nat}(e:A<12)(I:Int):W.fc (X W.rs A (0,0)) I=W.gc A I:=by
 obtain⟨_,hv⟩:=h.root e;unfold ck.fc ck.gc ck.th;by_cases c:(X W.rs A (0,0)).1=3
 ·rw[aN c];by_cases b:(X W.T (K (X W.rs A (0,0)).2) t0).1=5
  ·rw[aJ (by grind [k_]),aN (aI (show(X W.T (K (X W.rs A (0,0)).2) (0,[],O4,O4)).1=5 from b))]
  ·have f:¬((X W.rs A (0,0)).2<0\/(X W.T (K (X W.rs A (0,0)).2) (0,[],O4,O4)).1=5):=λd=>d.elim (λd=>absurd (hv.t c).1 aa) b;rw[aN (k_.2 aa),aJ f];rfl
 grind [k_]
theorem cE.cW (h:cE a S W m Y G)(hb:cL a S.s){v:Int×Int}(hv:dL W.T v)(c:v.1=3):eh (wv m v) S.q=eh v.2 W.wt:=by
 unfold eh;rw[h.wt,List.findIdx_map];have b:∀e∈W.wt,((we m e).1==wv m v)=(e.1==v.2):=λe he=>by
  have ho:=h.dH e he;have f:dL W.T (3,e.1):=⟨λ_=>⟨ho.g0,ho.g⟩,λd=>aa⟩
  grind [CQ,we,wv]
 generalize W.wt=l at b
 induction l with
 |nil=>rfl
 |cons e l g=>
  grind
theorem cE.popped (h:cE a S W m Y G)(hb:cL a S.s){v:Int×Int}(hv:dL W.T v):nV a (S.pop a (wv m v)) (W.pop v):=by
 obtain⟨k1,_⟩:=h.kx hb hv;unfold nV cv.pop ck.pop;by_cases c:jy W.T v=C
 ·rw[aN (k1.2 c),aN c,h.cW hb hv (s3.1 c).1];have b:L S.q=L W.wt:=by rw[h.wt,a5]
  rw[b];generalize eh v.2 W.wt=i;by_cases d:i<L W.wt
  ·rw[aN d,aN d];have ho:=h.dH _ (fL (x:=(0,0)) d)
   refine⟨rfl,m,Y,G,?_,λ_=>⟨?_,⟨λ_=>⟨ho.h0,ho.h⟩,λe=>(by grind)⟩⟩⟩
   ·have f:=h.beside (q:=W.wt.take i++W.wt.drop (i+1)) h.gv (by grind [dH])
    grind [wt,rg,List.map_drop,List.map_take]
   ·show(X S.q i (0,0)).2=wv m (3,(X W.wt i (0,0)).2)
    rw[h.wt,oP (we m) W.wt i (0,0) (0,0) d,jJ rfl];rfl
  ·rw[aJ d,aJ d]
   grind
 ·rw[aJ (by grind),aJ c]
  grind
theorem cE.M6 (h:cE a S W m Y G)(hb:cL a S.s){v:Int×Int}(hv:dL W.T v):nV a (S.len a (wv m v)) (if lN W.T v=C then((1,(L (X W.T (K v.2) t0).2.1:Int)),0,W) else((0,0),2,W)):=by
 obtain⟨_,k2,_,_,k5⟩:=h.kx hb hv;unfold nV cv.len;by_cases c:lN W.T v=C
 ·have hl:=h.tl (K v.2);have ev:vc 1 (L (X W.T (K v.2) t0).2.1:Int)=0:=by generalize L (X W.T (K v.2) t0).2.1=n at hl;have:∀n:Fin 13,vc 1 ((n.val:Nat):Int)=0:=ae;exact this ⟨n,aa⟩
  rw[aN (k2.2 c),aN c,k5 (by grind)];exact⟨ev,m,Y,G,h,λ_=>⟨af,dL.of ae ev⟩⟩
 ·rw[aJ (by grind),aJ c]
  grind
theorem cE.got (h:cE a S W m Y G)(hb:cL a S.s){A:Nat}(b:A<12)(I:Int):nV a ((if eV a.N S.s.y S.s.g S.s.ws (X S.s.rs A 0) I=0 then ld a.N S.s.y S.s.g S.s.ws (cq (X S.s.rs A 0)+1+I) else 0),eV a.N S.s.y S.s.g S.s.ws (X S.s.rs A 0) I,S)
 ((if W.fc (X W.rs A (0,0)) I=0 then X (X W.T (K (X W.rs A (0,0)).2) t0).2.1 (K I) (0,0) else(0,0)),W.fc (X W.rs A (0,0)) I,W):=by
 have code:=h.code hb b I;rw[h.Dd b];refine⟨code,m,Y,G,h,λe=>?_⟩
 have c:=e;obtain⟨er,hv⟩:=h.root b;obtain⟨d,g,t3,f⟩:=ox c;rw[er,h.tB hb hv] at d;have c3:(X W.rs A (0,0)).1=3:=by grind
 obtain⟨z,al⟩:=hv.t c3;rw[er,(h.vt hb hv c3).2,h.kv.inv.full.mN hb.y1 (h.mem al),(h.parts al).2.1] at f;have hB:K I<L (X W.T (K (X W.rs A (0,0)).2) t0).2.1:=aa;have i:=h.fd _ al (K I) hB
 grind [vt,fv]
def lU (a:Wc)(t:Int×cv)(u:Int×ck):Prop:=t.1=u.1/\∃b c d,cE a t.2 u.2 b c d
theorem cE.M7 (h:cE a S W m Y G)(hb:cL a S.s){v u:Int×Int}(hv:dL W.T v)(b:dL W.T u):lU a (S.reg a (wv m v) (wv m u)) (W.reg v u):=by
 obtain⟨_,_,i,n,_⟩:=h.kx hb hv;obtain⟨k1,_⟩:=h.kx hb b;have j:L S.r+L S.q=L W.rg+L W.wt:=by rw[h.rg,h.wt,a5,a5]
 unfold lU cv.reg ck.reg;rw[j];by_cases c:v.1=3
 ·rw[aN (i.2 c)];by_cases d:jy W.T u=C
  ·rw[aN (k1.2 d),aN (show v.1=3/\jy W.T u=C from⟨c,d⟩)];by_cases f:24<=L W.rg+L W.wt
   ·grind
   ·rw[aJ f,aJ f];obtain⟨g,k⟩:=s3.1 d;have l:gP W.T (u.2,v.2):=⟨(b.t g).1,(b.t g).2,k,(hv.t c).1,(hv.t c).2⟩
    have o:=h.beside (λe he=>by
     rcases bw.1 he with q|q
     ·exact h.gv e q
     ·rw[List.mem_singleton.1 q];exact l) h.dH
    grind [rg,wt,we,wv]
  grind
 grind
theorem cE.M8 (h:cE a S W m Y G)(hb:cL a S.s){A B:Nat}(c:A<12)(hB:B<12)(I:Int):lU a (eV a.N S.s.y S.s.g S.s.ws (X S.s.rs A 0) I,S.set a (X S.s.rs A 0) I (X S.s.rs B 0)) (W.set (X W.rs A (0,0)) I (X W.rs B (0,0))):=by
 have code:=h.code hb c I;unfold lU ck.set cv.set;rw[h.Dd c];refine⟨code,m,Y,G,?_⟩
 by_cases c0:W.gc A I=0
 ·rw[aN c0];have b:=code.trans c0;obtain⟨er,hv⟩:=h.root c;obtain⟨d,k⟩:=h.root hB;obtain⟨f,l,t3,g⟩:=ox b;rw[er,h.tB hb hv] at f;have c3:(X W.rs A (0,0)).1=3:=by grind
  obtain⟨z,al⟩:=hv.t c3;rw[er,(h.vt hb hv c3).2,h.kv.inv.full.mN hb.y1 (h.mem al),(h.parts al).2.1] at g;have hw:hI a.N S.s.y S.s.g S.s.ws (X S.s.rs A 0) I (X S.s.rs B 0)=S.s.ws.set (K (m (K (X W.rs A (0,0)).2)+1+(K I:Nat))) (wv m (X W.rs B (0,0))):=by unfold hI;rw[aN b,er,(h.vt hb hv c3).2,d];rw[aN (lK h.kv.inv.full (h.mem al) t3 (by grind [parts])),Int.toNat_of_nonneg t3]
  grind [store,eA.set,kv]
 ·rw[aJ c0];have b:_:=λe=>c0 (code.symm.trans e)
  obtain⟨i,j⟩:=pG b;rw[i,j];omega
theorem M9 (n:Nat)(h:n<=12):hc 2 (n:Int)=0:=by grind [hc]
theorem cE.rt (h:cE a S W m Y G)(ok:ed a S j)(hb:cL a S.s)(hg:∀T wt,e6 T wt->dS T wt (g T wt)){k R A B n:Int}(I:Int)(s:dY k R A B n=0):nV a (S.rt a k (K A) (K B) I n) (W.rt g a.N a.O k (K A) (K B) I n):=by
 have b:cS k=3\/cS k=6\/cS k=7->K A<12:=λt=>by have:=mS s t;omega
 have hB:cS k=6\/cS k=7->K B<12:=λt=>by have:=nt s t;omega
 have two:∀q∈[K A,K B],cS k=7->q<12:=λq hq t=>by simp at hq;omega
 unfold cv.rt ck.rt;by_cases e:k=1
 ·rw[aN e,aN e];subst e;have ev:=CO s;exact⟨ev,m,Y,G,h,λ_=>⟨af,dL.of ae ev⟩⟩
 rw[aJ e,aJ e];by_cases f:k=3
 ·rw[aN f,aN f];subst f;obtain⟨er,hv⟩:=h.root (b ae)
  exact⟨rfl,m,Y,G,h,λ_=>⟨er,hv⟩⟩
 rw[aJ f,aJ f];by_cases v:k=4
 ·subst v;exact h.grown ok hb hg (show hc 1 2=0 by decide) (λq hq=>two q hq ae)
 rw[aJ v,aJ v];by_cases w:k=5
 ·subst w;have hn:=CN s;have:=h.grown ok hb hg (kd:=2) (rl:=List.replicate (K n) (K A)) ((List.length_replicate▸M9 _ aa)) (λq hq=>(List.eq_of_mem_replicate hq▸b ae))
  rw[List.map_replicate] at this
  exact this
 rw[aJ w,aJ w];by_cases x:k=6
 ·subst x;exact h.grown ok hb hg (show hc 3 2=0 by decide) (λq hq=>two q hq ae)
 rw[aJ x,aJ x];by_cases F:k=7
 ·subst F;exact h.grown ok hb hg (show hc 4 2=0 by decide) (λq hq=>two q hq ae)
 rw[aJ F,aJ F];by_cases u:k=8
 ·rw[aN u,aN u];exact h.grown ok hb hg ae (λq hq=>by cases hq)
 rw[aJ u,aJ u];by_cases i:k=10
 ·rw[aN i,aN i];subst i;obtain⟨er,hv⟩:=h.root (b ae)
  rw[er];exact h.popped hb hv
 rw[aJ i,aJ i];by_cases l:k=11
 ·rw[aN l,aN l];subst l;exact h.got hb (b ae) I
 rw[aJ l,aJ l];by_cases o:k=13
 ·rw[aN o,aN o];subst o;obtain⟨er,hv⟩:=h.root (b ae)
  rw[er];exact h.M6 hb hv
 rw[aJ o,aJ o];by_cases p:k=14
 ·rw[aN p,aN p];subst p;obtain⟨er,hv⟩:=h.root (b ae)
  obtain⟨N,ab⟩:=h.root (hB ae)
  rw[er,N];by_cases c:X W.rs (K A) (0,0)=X W.rs (K B) (0,0)
  ·rw[aN (by rw[c]),aN c];exact⟨rfl,m,Y,G,h,λ_=>⟨af,dL.of ae ae⟩⟩
  ·rw[aJ (λd=>c (h.CQ hb hv ab d)),aJ c];exact⟨rfl,m,Y,G,h,λ_=>⟨by assumption,dL.of ae ae⟩⟩
 rw[aJ p,aJ p];exact⟨rfl,m,Y,G,h,λ_=>⟨af,dL.nil _⟩⟩
theorem cE.hds (h:cE a S W m Y G)(ok:ed a S j)(hb:cL a S.s)(hg:∀T wt,e6 T wt->dS T wt (g T wt))(k R A B I n:Int):lU a (S.hd a k R A B I n) (W.dI g a.N a.O k R A B I n):=by
 have f:=hg _ _ h.iv;unfold cv.hd ck.dI;by_cases b:dY k R A B n=0
 ·rw[aN b,aN b];have p:cS k=3\/cS k=6\/cS k=7->K A<12:=λl=>by have:=mS b l;omega
  have hB:cS k=6\/cS k=7->K B<12:=λl=>by have:=nt b l;omega
  by_cases d:k=9
  ·rw[aN d,aN d];subst d;obtain⟨er,hv⟩:=h.root (p ae)
   obtain⟨ad,ag⟩:=h.root (hB ae)
   grind [M7]
  rw[aJ d,aJ d];by_cases e:k=12
  ·rw[aN e,aN e];subst e;exact h.M8 hb (p ae) (hB ae) I
  rw[aJ e,aJ e];by_cases i:k=15
  ·rw[aN i,aN i];exact⟨h.Db hb f,h.cut hb f⟩
  rw[aJ i,aJ i];by_cases e16:k=16
  ·rw[aN e16,aN e16];exact⟨h.jf hb f,h.dR hb f⟩
  rw[aJ e16,aJ e16];have ht:=h.rt ok hb hg I b;obtain⟨o1,q,_⟩:=ok.rt hb (K A) (K B) I (xi b)
  generalize S.rt a k (K A) (K B) I n=t at*;generalize W.rt g a.N a.O k (K A) (K B) I n=u at*;obtain⟨x,cd,ai⟩:=t;obtain⟨v,al,am⟩:=u;obtain⟨s,w,F,N,o,ab⟩:=ht;dsimp only at s o ab q⊢;subst s;by_cases c:cd=0
  ·rw[aN c,aN c];obtain⟨ex,hv⟩:=ab c;subst ex;exact⟨rfl,w,F,N,o.put q (K R) hv⟩
  ·rw[aJ c,aJ c];exact⟨rfl,w,F,N,o⟩
 ·rw[aJ b,aJ b];exact⟨rfl,m,Y,G,h⟩
end
namespace rx
def begins (n:Nat):Code->Bool
 |.region m _ _=>m==n
 |.seq a _=>begins n a
 |_=>O4
def find (n:Nat):Code->Option Code
 |.seq a b=>match begins n a with
  |true=>H (.seq a b)
  |false=>match find n a with
   |some c=>H c
   |none=>find n b
 |.cond _ a b=>match find n a with
  |some c=>H c
  |none=>find n b
 |.block _ c=>find n c
 |.loop c=>find n c
 |.scope c=>find n c
 |_=>O0
theorem ib {c:Type}(l:List c)(i:Nat)(a b:c):(l.set i a).set i b=l.set i b:=ac
end rx
namespace ee
def begins:=rx.begins
abbrev find:=rx.find
end ee
namespace rx
end rx
namespace ee
end ee
namespace ee
end ee
namespace ee
end ee
section
variable {a:Wc}{S:cv}{W:ck}{m:Nat->Int}{Y G:List Int}
theorem dL.vq {T:List cH}{v:Int×Int}(hv:dL T v)(d:L T<=10000):fH T v:=by
 refine⟨?_,hv.t⟩
 by_cases b:v.1=3
 ·obtain⟨h0,c⟩:=hv.t b;have:=c.1
  grind [o5]
 grind [o]
abbrev tU (W:ck)(x:Int):Prop:=0<=x/\cz W.T (K x)
abbrev tW (m:Nat->Int)(x:Int):Int:=m (K x)
theorem cE.xC (h:cE a S W m Y G)(hb:cL a S.s)(b:L W.T<=10000){v:Int×Int}(hv:dL W.T v):m2 (tU W) (tW m) (ij v) (wv m v):=by
 obtain⟨c,d⟩:=pN (hv.vq b)
 grind [dec,dL.t,m2]
theorem cE.bi (h:cE a S W m Y G)(hb:cL a S.s)(g:L W.T<=10000):qW (tU W) (tW m) (tI (L W.T)) (iz W.T) (iA W.T W.wt) (Y++G) (λv=>pk (ld a.N S.s.y S.s.g S.s.ws v)) (fJ a.N S.s.y S.s.g S.s.ws S.q):=by
 refine⟨λx b=>rf.2 ⟨b.1,by have:=b.2.1;omega⟩,λx b=>bw.2 (h.mem b.2),λx y b hy e=>?_,λx b=>?_,λx b=>?_⟩
 ·have:=h.inj _ _ b.2 hy.2 e;omega
 ·exact(h.parts b.2).1
 ·obtain⟨j,hi⟩:=b;obtain⟨i,rfl⟩:=Int.eq_ofNat_of_zero_le j;rw[bD] at hi;obtain⟨p,n,_⟩:=h.parts hi;have hv:=h.mem hi;show kh _ _ (fJ a.N S.s.y S.s.g S.s.ws S.q (m (K ((i:Int)))))
  unfold iA;rw[bD];by_cases d:(X W.T i t0).1=5
  ·have hl:(X W.T i t0).2.1=[]:=by
    have q:=(h.hd i hi).1
    simp_all [hc]
   rw[aN d,hl,List.map_nil,List.nil_append];unfold fJ;rw[aN aa];unfold eS;rw[h.wt,m5 (we m) (λe=>e.1==ew 3 (m i)) (λe=>e.1==(i:Int)) W.wt (λe he=>?_),yo]
   ·have key:∀l:List b8,(∀e∈l,gP W.T e)->kh (m2 (tU W) (tW m)) (l.map (λe=>ew 3 e.2)) (l.map ((·.2)∘we m)):=by
     intro l
     induction l with
     |nil=>intro _;trivial
     |cons e l o=>
      intro hl;have he:=hl e ac;refine⟨?_,o (by grind)⟩
      have:=h.xC hb g (v:=(3,e.2)) ⟨λ_=>⟨he.h0,he.h⟩,λc=>aa⟩
      exact this
    grind [dH]
   ·have he:=h.dH e he;show(ew 3 _==ew 3 (m i))=(e.1==(i:Int))
    by_cases s:e.1=(i:Int)
    ·grind
    ·have n1:ew 3 (m (K e.1))≠ew 3 (m i):=λc=>by have c1:=(h.word hb he.g).2.2;rw[c,(h.word hb hi).2.2] at c1;have:=h.inj _ _ hi he.g c1;have:=he.g0;omega
     grind
  ·rw[aJ d,List.append_nil];have f:pk (ld a.N S.s.y S.s.g S.s.ws (m i))≠5:=aa;have l1:=AK h.kv.inv.full hb.y1 S.q hv f;rw[n] at l1;have l1:L (fJ a.N S.s.y S.s.g S.s.ws S.q (m i))=L (X W.T i t0).2.1:=aa;refine kh.of (by grind) (λk hk=>?_)
   rw[a5] at hk;rw[(IP h.kv.inv.full hb.y1 S.q hv f).1 k aa,oP ij _ k (0,0) 0 hk,h.fd i hi k hk]
   grind [xC,fv]
theorem cE.view (h:cE a S W m Y G)(hb:cL a S.s)(b:L W.T<=10000):(gN a.N S.s.y S.s.g S.s.ws S.q S.s.rs).1=(ee.eU W.T W.wt W.rs).1/\(gN a.N S.s.y S.s.g S.s.ws S.q S.s.rs).2.2=(ee.eU W.T W.wt W.rs).2.2:=by
 obtain⟨c,d⟩:=h.kv.inv.full.lists hb.n1 hb.y1 hb.o1 hb.g1;have hl:kh (m2 (tU W) (tW m)) (W.rs.map ij) S.s.rs:=by
  rw[h.rs]
  grind [kh.of,xC,rv,wv]
 unfold gN ee.eU;rw[c,d];obtain⟨b1,b2,_⟩:=IL (h.bi hb b) hl (by rw[oL];exact aG _) bY
 exact⟨b1.symm,b2⟩
end
structure pZ where
 hp:Nat
 b7:Nat
 rb:Nat
 tp:Nat
 n:Nat
 o:Nat
structure ej (w1:az)(c:Wc)(t:pZ)(F G:Nat->Prop)(S:cv)(W:ck)(i k:Nat)(w:az):Prop where
 g:(cD c t.hp).J F S w
 r:(cG t.b7 t.n t.o t.rb).J G W w
 tw:w.heap[t.tp]?=H (OX #[aq t.hp,aq t.b7,ak k,ak 0,ak 0] 116 (0,0))
 p0:¬F t.tp
 tG:¬G t.tp
 mH:I (OT w1)<=t.tp
 ok:ed c S i
 gi:eb W i
 rl:∃m Y X,cE c S W m Y X
 ap:∀b,F b->¬G b
 fN:∀b,F b->I (OT w1)<=b
 mI:∀b,G b->I (OT w1)<=b
 be:Below (I (OT w1)) w1 w
 sz:c.N=t.n/\c.O=t.o/\16<=t.n/\t.n<=256/\t.o<=1024
section
variable {w1 w w':az}{c:Wc}{t:pZ}{i k:Nat}{F G:Nat->Prop}{S:cv}{W:ck}
theorem ej.below (h:ej w1 c t F G S W i k w)(hb:O (I (OT w)) w w'):ej w1 c t F G S W i k w':=
 ⟨(cD c t.hp).below h.g hb,(cG t.b7 t.n t.o t.rb).below h.r hb,(hb.block t.tp (cj h.tw)).trans h.tw,h.p0,h.tG,h.mH,h.ok,h.gi,h.rl,h.ap,h.fN,h.mI,h.be.trans (hb.mono h.be.size),h.sz⟩
theorem ej.cells (h:ej w1 c t F G S W i k w):V w (av t.tp 0)=H (aq t.hp)/\V w (av t.tp 1)=H (aq t.b7)/\V w (av t.tp 2)=H (ak k)/\V w (av t.tp 3)=H (ak 0)/\V w (av t.tp 4)=H (ak 0)/\bF w (av t.tp 2)=O4:=by refine⟨?_,?_,?_,?_,?_,?_⟩<;>simp[World.cell?,World.frozen?,h.tw]
theorem ej.us (h:ej w1 c t F G S W i k w):ei W.T=((S.s.y:Int),(S.s.g:Int)):=by obtain⟨m,Y,X,b⟩:=h.rl;exact b.us (pL h.g)
theorem ej.cJ (h:ej w1 c t F G S W i k w)(hi:i<=10000):(gN c.N S.s.y S.s.g S.s.ws S.q S.s.rs).1=(ee.eU W.T W.wt W.rs).1/\(gN c.N S.s.y S.s.g S.s.ws S.q S.s.rs).2.2=(ee.eU W.T W.wt W.rs).2.2:=by obtain⟨m,Y,X,b⟩:=h.rl;exact b.view (pL h.g) (aQ h.gi.tj hi)
theorem ej.bd (h:ej w1 c t F G S W i k w)(hi:i<=10000):L (ee.eU W.T W.wt W.rs).1=12/\L (ee.eU W.T W.wt W.rs).2.2<=10000/\∀nd∈(ee.eU W.T W.wt W.rs).2.2,L nd.2<=20000:=by obtain⟨q1,b,q3⟩:=MK (h.gi.CK hi) W.rs;exact⟨q1.trans h.gi.rl,b,q3⟩
theorem ej.De (h:ej w1 c t F G S W i k w):M J 61 #[aq c.p] w λe w'=>e=Q (ay #[ak (ei W.T).1,ak (ei W.T).2])/\O (I (OT w)) w w':=by rw[h.us];exact JQ h.g
theorem ej.M_ (h:ej w1 c t F G S W i k w)(hi:i<=10000):M J 136 #[aq t.b7] w λe w'=>e=Q (ay #[ak (ei W.T).1,ak (ei W.T).2])/\O (I (OT w)) w w':=by obtain⟨gl,b,_⟩:=h.r;exact wY b h.gi.tl (aQ h.gi.tj hi)
theorem ej.Df (h:ej w1 c t F G S W i k w)(hi:i<=10000):M J 57 #[aq c.pw] w λe w'=>∃b f d g,e=Q (bz #[Z b 12 f,Z d (L (ee.eU W.T W.wt W.rs).2.2) g])/\lr w' (I (OT w)) b (ee.eU W.T W.wt W.rs).1/\jZ w' (I (OT w)) d (ee.eU W.T W.wt W.rs).2.2/\O (I (OT w)) w w':=by obtain⟨v1,v2⟩:=h.cJ hi;rw[<-v1,<-v2];exact JP h.g (by have:=h.ok.mA;omega)
theorem ej.Na (h:ej w1 c t F G S W i k w)(hi:i<=10000):M J 138 #[aq t.b7] w λe w'=>∃b f d g,e=Q (bz #[Z b 12 f,Z d (L (ee.eU W.T W.wt W.rs).2.2) g])/\lr w' (I (OT w)) b (ee.eU W.T W.wt W.rs).1/\jZ w' (I (OT w)) d (ee.eU W.T W.wt W.rs).2.2/\O (I (OT w)) w w':=by
 obtain⟨gl,j,_⟩:=h.r;refine(Mt j (h.gi.CK hi) h.gi.g5 h.gi.rv).mono ?_;rintro e w' ⟨b,f,d,o,g,rfl,l,m,rfl,n⟩
 exact⟨b,f,d,g,rfl,l,m,n⟩
theorem Nb (h:ej w1 c t F G S W i k w)(hi:i<=10000):M J 95 #[aq t.tp] w λe w'=>e=Q (.bool C)/\O (I (OT w)) w w':=by
 have j:=h.bd hi;have l:=cU h hi;obtain⟨q0,q1,_⟩:=ft h.g;obtain⟨q,s,_⟩:=h.cells;have P:=h.De;have ap:aA (∀(r1 m n1 n:Option Addr)(u v x B:Nat)(w':az),dQ w' r1 (ee.eU W.T W.wt W.rs).1->dQ w' m (ee.eU W.T W.wt W.rs).1->Ln w' n1 (ee.eU W.T W.wt W.rs).2.2->Ln w' n (ee.eU W.T W.wt W.rs).2.2->M J 137 #[bz #[Z r1 12 u,Z n1 (L (ee.eU W.T W.wt W.rs).2.2) x],bz #[Z m 12 v,Z n (L (ee.eU W.T W.wt W.rs).2.2) B]] w' λe ar=>e=Q (.bool C)/\O (I (OT w')) w' ar):=λr1 m n1 n u v x B w' aB aF aR aV=>by have:=ES r1 m n1 n u v x B _ _ w' (by rw[j.1];decide) (by have:=j.2.1;omega) (λnd a0=>by have:=j.2.2 nd a0;omega) aB aF aR aV;rwa [j.1] at this
 go_enter func95,ntmps95;go_wp2_with fail;refine P.mono ?_;rintro e bx ⟨rfl,ad⟩
 have d:=cU (l.o.1.below ad) ad;obtain⟨q,s,_⟩:=d.o.1.cells;go_wp2_with fail;refine(d.o.1.M_ l.o.2).mono ?_;rintro e ag ⟨rfl,ai⟩
 have f:=cU (d.o.1.below ai) (d.o.2.trans (ai.mono d.o.2.size))
 have o:=cU (f.o.1.below (aH _ ag).drew) (f.o.2.trans ((aH _ ag).drew.mono f.o.2.size))
 obtain⟨q,s,_⟩:=f.o.1.cells;obtain⟨q0,q1,_⟩:=ft f.o.1.g;have a1:=o.o.1.Df l.o.2;have a2:aA (∀w',ej w1 c t F G S W i k w'->_):=λw' h=>h.Na l.o.2;generalize (ei W.T).1=b0 at*;generalize (ei W.T).2=b1 at*;generalize ee.eU W.T W.wt W.rs=bb at*;obtain⟨b2,ms,b3⟩:=bb;go_wp2_with fail
 go_region_held3 (λw'=>V w' (av t.tp 0)=H (aq t.hp)/\V w' (av t.tp 1)=H (aq t.b7)/\V w' (av t.hp 0)=H (aq c.pw)) (first|exact⟨u0,al,am⟩|exact⟨z0,bd,be⟩|exact⟨q,s,q0⟩|(go_keep;done)) (first
  |(go_at_call 57;refine a1.mono ?_;rintro e N ⟨bg,bi,bl,bn,rfl,bo,bp,an⟩;have b:aA ((ej w1 c t F G S W i k N/\O (I (OT w)) w N)/\_/\_):=⟨⟨o.o.1.below an,o.o.2.trans (an.mono o.o.2.size)⟩,bo.1,bp.ln⟩;obtain⟨z0,bd,_⟩:=b.o.1.1.cells;obtain⟨be,_⟩:=ft b.o.1.1.g)
  |(go_at_call 138;refine(a2.o N b.o.1.1).mono ?_;rintro e br ⟨rc,dc,nd,ne,rfl,bs,bt,p⟩;have g:=cU (b.o.1.1.below p) (b.o.1.2.trans (p.mono b.o.1.2.size));obtain⟨u0,al,_⟩:=g.o.1.cells;obtain⟨am,_⟩:=ft g.o.1.g)
  |(go_at_call 137;refine(ap.o bg rc bl nd bi dc bn ne br (b.o.2.1.below p) bs.1 (b.o.2.2.below p) bt.ln).mono ?_;rintro e b4 ⟨rfl,ao⟩;have ab:=cU (g.o.1.below ao) (g.o.2.trans (ao.mono g.o.2.size));obtain⟨u0,al,_⟩:=ab.o.1.cells;obtain⟨am,_⟩:=ft ab.o.1.g))
 go_wp2_with fail;go_ret;exact⟨rfl,ab.o.2⟩
end
section
variable {w1 w w':az}{c:Wc}{t:pZ}{i k:Nat}{F G F' G':Nat->Prop}{S S2:cv}{W W2:ck}{g:fM}
theorem ej.gr (h:ej w1 c t F G S W i k w)(d:b9 F w F' w'):(cG t.b7 t.n t.o t.rb).J G W w'/\(∀b,F' b->¬G b)/\(∀b,F' b->I (OT w1)<=b)/\O (I (OT w1)) w1 w'/\w'.heap[t.tp]?=H (OX #[aq t.hp,aq t.b7,ak k,ak 0,ak 0] 116 (0,0))/\¬F' t.tp:=
 ⟨(cG t.b7 t.n t.o t.rb).fr h.r d.fr (λk g f=>h.ap k f g),λb f g=>(d.sub b f).elim (λc=>h.ap b c g) (λc=>by have:=(cG t.b7 t.n t.o t.rb).lt h.r b g;omega),λb f=>(d.sub b f).elim (h.fN b) (λc=>aQ h.be.size c),h.be.trans (d.fr.below h.be.size (λk e=>h.fN k e)),(d.fr.block t.tp (cj h.tw) h.p0).trans h.tw,λe=>(d.sub _ e).elim h.p0 (λc=>by have:=cj h.tw;omega)⟩
theorem ej.of {n:az}{j:Nat}(h:ej w1 c t F G S W i k w)(d:b9 F w F' w')(hg:(cD c t.hp).J F' S2 w')(f:b9 G w' G' n)(hr:(cG t.b7 t.n t.o t.rb).J G' W2 n)(ok:ed c S2 j)(hi:eb W2 j)(s:∃m Y X,cE c S2 W2 m Y X):ej w1 c t F' G' S2 W2 j k n:=by obtain⟨B,p,u,o,q,v⟩:=h.gr d;have x:=cj q;exact⟨(cD c t.hp).fr hg f.fr (λk l g=>p k l g),hr,(f.fr.block t.tp x h.tG).trans q,v,λe=>(f.sub _ e).elim h.tG (λe=>by omega),h.mH,ok,hi,s,λb l g=>(f.sub b g).elim (p b l) (λe=>by have:=(cD c t.hp).lt hg b l;omega),u,λb g=>(f.sub b g).elim (h.mI b) (λe=>aQ o.size e),o.trans (f.fr.below o.size (λk e=>h.mI k e)),h.sz⟩
theorem ej.hds (h:ej w1 c t F G S W i k w)(hg:∀T wt,e6 T wt->dS T wt (g T wt))(kd R A B I n:Int):lU c (S.hd c kd R A B I n) (W.dI g t.n t.o kd R A B I n):=by obtain⟨m,Y,X,b⟩:=h.rl;have:=b.hds h.ok (pL h.g) hg kd R A B I n;rwa [h.sz.1,h.sz.2.1] at this
theorem ej.step (h:ej w1 c t F G S W i k w){fb:Nat}{u v:Value}(l:I (OT w1)<=fb)(m:¬F fb)(n:¬G fb)(d:fb≠t.tp):ej w1 c t F G S W i (k+1) (O8 (O8 (O8 w ⟨t.tp,2,O0⟩ (U OW ((k:Int)+1))) ⟨fb,0,O0⟩ u) ⟨fb,1,O0⟩ v):=by
 have f:Fr (λb=>b=t.tp\/b=fb) w (O8 (O8 (O8 w ⟨t.tp,2,O0⟩ (U OW ((k:Int)+1))) ⟨fb,0,O0⟩ u) ⟨fb,1,O0⟩ v):=
  (((Fr.refl (λb=>b=t.tp\/b=fb) w).set t.tp 2 _ (aK rfl)).set fb 0 _ (aI rfl)).set fb 1 _ (aI rfl)
 refine⟨(cD c t.hp).fr h.g f (λb g e=>?_),(cG t.b7 t.n t.o t.rb).fr h.r f (λb j e=>?_),?_,h.p0,h.tG,h.mH,h.ok,h.gi,h.rl,h.ap,h.fN,h.mI,h.be.trans (f.below h.be.size (λb e=>?_)),h.sz⟩
 ·rcases e with rfl|rfl
  ·exact h.p0 g
  ·exact m g
 ·rcases e with rfl|rfl
  ·exact h.tG j
  ·exact n j
 ·rw[aW _ _ _ _ (show t.tp≠fb from λe=>d e.symm),aW _ _ _ _ (show t.tp≠fb from λe=>d e.symm)];simp only [World.setCell,Array.getElem?_modify,if_true,h.tw,Option.map_some];simp
 ·rcases e with rfl|rfl
  ·exact h.mH
  ·exact l
theorem Nc (h:ej w1 c t F G S W i i w)(hg:∀T wt,e6 T wt->dS T wt (g T wt))(hi:i<=8000)(kd R A B I n:Int):
 M prog 64 #[aq t.tp,dJ kd R A B I n] w λe w'=>∃F' G',e=Q (ay #[ak (W.dI g t.n t.o kd R A B I n).1,bz #[ak 0,ak 0]])/\ej w1 c t F' G' (S.hd c kd R A B I n).2 (W.dI g t.n t.o kd R A B I n).2 (i+1) (i+1) w'/\Fr (λb=>F b\/G b\/b=t.tp) w w'/\(∀b,F' b->F b\/w.heap.size<=b)/\(∀b,G' b->G b\/w.heap.size<=b):=by
 have aV:=pL h.g;have an:aA (lU c (S.hd c kd R A B I n) (W.dI g t.n t.o kd R A B I n)):=h.hds hg kd R A B I n;have a0:aA (ed c (S.hd c kd R A B I n).2 (i+1)):=(h.ok.hd aV kd R A B I n).1;have a1:aA (eb (W.dI g t.n t.o kd R A B I n).2 (i+1)):=h.gi.dI aa (hg _ _ h.gi.iv) kd R A B I n;have ad:=(aw w (cA kd R A B I n)).alloc ac (OX #[U OW 0,U OW 0] 33)
 have j:=qk (h.below ad) h.be.size ((cD c t.hp).lt h.g) ((cG t.b7 t.n t.o t.rb).lt h.r) (cj h.tw)
 have l:aA ((bu (w.alloc (cA kd R A B I n)) (OX #[U OW 0,U OW 0] 33)).heap[w.heap.size]?=H (cA kd R A B I n)/\(bu (w.alloc (cA kd R A B I n)) (OX #[U OW 0,U OW 0] 33)).heap[w.heap.size+1]?=H (OX #[ak 0,ak 0] 33 (0,0))):=⟨by rw[aU _ _ _ ac];exact aO _ _,jz _ _ _⟩
 have a2:aA (∀w',(cG t.b7 t.n t.o t.rb).J G W w'->_):=λw' bb=>L6 bb (h.gi.xh aa) (hg _ _ h.gi.iv) (by have:=h.sz;omega) (by have:=h.sz;omega) (by have:=h.sz;omega) (by have:=h.sz;omega) kd R A B I n;have bd:aA (Fr (λb=>F b\/G b\/b=t.tp) w (bu (w.alloc (cA kd R A B I n)) (OX #[U OW 0,U OW 0] 33))):=Fr.of ad;have P:=JL (((h.below ad).below bZ.drew).g) h.ok aa kd R A B I n;obtain⟨be,y1,bg,bi,bl,bn⟩:=dZ l.o.1;obtain⟨bo,bp,_,cs,_⟩:=j.o.1.cells;generalize S.hd c kd R A B I n=D at*;generalize W.dI g t.n t.o kd R A B I n=E at*;obtain⟨cd,ao⟩:=D;obtain⟨ct,ap⟩:=E;have br:=an.o.1;subst br;have bs:=cg an.o.2;go_enter func64,ntmps64;go_wp2_with fail;generalize bu (w.alloc (cA kd R A B I n)) (OX #[U OW 0,U OW 0] 33)=w0 at*;generalize bt:w.heap.size=f at*;have ar:=cg bt;have bx:=cg hi
 go_region_held3 (λw'=>V w' (av t.tp 0)=H (aq t.hp)/\V w' (av t.tp 1)=H (aq t.b7)/\V w' (av f 0)=H (ak kd)/\V w' (av f 1)=H (ak R)/\V w' (av f 2)=H (ak A)/\V w' (av f 3)=H (ak B)/\V w' (av f 4)=H (ak I)/\V w' (av f 5)=H (ak n)) (first|exact⟨v0,v1,u0,b0,b1,b2,b3,b4⟩|exact⟨q0,q1,z0,b5,b6,b7,b8,ca⟩|exact⟨bo,bp,be,y1,bg,bi,bl,bn⟩|(go_keep;done)) (first
  |(go_at_call 93;refine P.mono ?_;rintro e N ⟨m,rfl,cb,aB⟩;have cc:=cg cb;have o:aA (b9 F w0 m N):=⟨(Fr.of (ax w0).drew).trans aB.fr (λb c=>aK c),λb c=>aB.sub b c⟩;have ag:=cg (j.o.1.gr o.o);have p:=cU ((o.o.fr.block f (cj l.o.1) (λd=>by have:=j.o.2.2.1 f d;omega)).trans l.o.1) ((o.o.fr.block (f+1) (cj l.o.2) (λd=>by have:=j.o.2.2.1 (f+1) d;omega)).trans l.o.2);have ce:=a2.o N ag.o.1;obtain⟨z0,b5,b6,b7,b8,ca⟩:=dZ p.o.1;have q0:V N (av t.tp 0)=H (aq t.hp):=aD ag.o.2.2.2.2.1;have q1:V N (av t.tp 1)=H (aq t.b7):=(by simp[World.cell?,ag.o.2.2.2.2.1]))
  |(go_at_call 94;refine ce.mono ?_;rintro e cu ⟨G2,rfl,cf,q⟩;have ai:aA (_):=j.o.1.of o.o cc.o q cf a0.o a1.o bs.o;have u:aA (_/\_/\¬m (f+1)/\¬G2 (f+1)):=⟨(q.fr.block f (cj p.o.1) (λd=>by have:=j.o.2.2.2.1 f d;omega)).trans p.o.1,(q.fr.block (f+1) (cj p.o.2) (λd=>by have:=j.o.2.2.2.1 (f+1) d;omega)).trans p.o.2,λd=>(o.o.sub _ d).elim (λd=>by have:=j.o.2.2.1 (f+1) d;omega) (λd=>by have:=cj l.o.2;omega),λd=>(q.sub _ d).elim (λd=>by have:=j.o.2.2.2.1 (f+1) d;omega) (λd=>by have:=cj p.o.2;omega)⟩;have aF:aA (_/\(∀b,m b->F b\/f<=b)/\(∀b,G2 b->G b\/f<=b)):=⟨(bd.o.trans o.o.fr (λb d=>aK (aK d))).trans q.fr (λb d=>aK (aI (aK d))),λb d=>(o.o.sub b d).imp id (λd=>by have:=cj l.o.1;omega),λb d=>(q.sub b d).imp id (λd=>by have:=cj p.o.1;omega)⟩;obtain⟨u0,b0,b1,b2,b3,b4⟩:=dZ u.o.1;obtain⟨v0,v1,_⟩:=ai.o.cells))
 have ch:=Nb ai.o (by have:=bx.o;omega)
 go_wp2_with fail;refine ch.mono ?_;rintro e k ⟨rfl,al⟩
 have aR:aA (ej w1 c t m G2 ao ap (i+1) i k):=ai.o.below al;have ci:=cg ((al.block _ (cj u.o.2.1)).trans u.o.2.1)
 have ab:=jm u.o.2.2.1 u.o.2.2.2 j.o.2.1 j.o.2.2.2.2;have am:=cU (aF.o.1.trans (Fr.of (X:=λ_=>False) al) (λ_ d=>d.elim)) aF.o.2;obtain⟨_,_,cv,_,_,cw⟩:=aR.o.cells;obtain⟨ck,cl,cx,cy⟩:V k (av (f+1) 0)=H (ak 0)/\V k (av (f+1) 1)=H (ak 0)/\bF k (av (f+1) 0)=O4/\bF k (av (f+1) 1)=O4:=by refine⟨?_,?_,?_,?_⟩<;>simp[World.cell?,World.frozen?,ci.o]
 have ne:¬t.tp=f+1:=by have:=ab.o.2.2.2;omega
 have cm:¬f+1=t.tp:=aa;go_wp2_with fail;obtain⟨s,x⟩:∃s,s=O8 (O8 (O8 k ⟨t.tp,2,O0⟩ (U OW ((i:Int)+1))) ⟨f+1,0,O0⟩ (U OW 0)) ⟨f+1,1,O0⟩ (U OW 0):=⟨_,rfl⟩
 rw[<-x];have v0:V s (av (f+1) 0)=H (ak 0):=by rw[x,aY _ _ _ _ ac];exact a6 _ _ _ ((aY k ⟨t.tp,2,O0⟩ ⟨f+1,0,O0⟩ _ (λe=>absurd (congrArg Addr.block e) ne)).trans ck)
 have v1:V s (av (f+1) 1)=H (ak 0):=by rw[x];exact a6 _ _ _ ((aY _ ⟨f+1,0,O0⟩ ⟨f+1,1,O0⟩ _ ac).trans ((aY k ⟨t.tp,2,O0⟩ ⟨f+1,1,O0⟩ _ (λe=>absurd (congrArg Addr.block e) ne)).trans cl))
 have cn:ej w1 c t m G2 ao ap (i+1) (i+1) s:=by rw[x];exact aR.o.step (by have:=ab.o.2.2.1;omega) ab.o.1 ab.o.2.1 cm
 have co:Fr (λb=>F b\/G b\/b=t.tp) w s:=by
  refine am.o.1.trans (Y:=λb=>b=t.tp\/b=f+1) ?_ (λb d=>d.elim (λd=>aK (aI (aI d))) (λd=>aI (by have cp:=ar.o;omega)))
  rw[x];exact(((Fr.refl (λb=>b=t.tp\/b=f+1) k).set t.tp 2 _ (aK rfl)).set (f+1) 0 _ (aI rfl)).set (f+1) 1 _ (aI rfl)
 have cq:∀b,m b->F b\/w.heap.size<=b:=λb d=>(am.o.2.1 b d).imp id (λd=>by have cp:=ar.o;omega)
 have cr:∀b,G2 b->G b\/w.heap.size<=b:=λb d=>(am.o.2.2 b d).imp id (λd=>by omega)
 refine a3 (v:=ay #[ak cd,bz #[ak 0,ak 0]]) (by simp[results,results64,go_sem,v0,v1]) rfl ⟨m,G2,rfl,cn,co,cq,cr⟩
end
theorem xD {w:az}{b:Nat}{u v:Value}{T:TypeId}(h:w.heap[b]?=H (OX #[u,v] T (0,0))):V w (av b 0)=H u/\V w (av b 1)=H v/\bF w (av b 0)=O4/\bF w (av b 1)=O4:=by refine⟨?_,?_,?_,?_⟩<;>simp[World.cell?,World.frozen?,h]
theorem Nd (n o:Nat)(w:az)(h0:16<=n)(g:n<=256)(x:o<=1024):
 M prog 55 #[ak n,ak o] w λe w'=>∃c t F G,e=Q (ay #[aq t.tp,bz #[ak 0,ak 0]])/\(t.n=n/\t.o=o)/\ej w c t F G (jv n o).1 (jv n o).2 0 0 w':=by
 have ao:=aw w (OX #[U OW 0,U OW 0] 33)
 have P:=Hj n o (bu w (OX #[U OW 0,U OW 0] 33)) h0 g x;have ap:=aO w (OX #[U OW 0,U OW 0] 33)
 have ar:I (OT w)<I (OT (bu w (OX #[U OW 0,U OW 0] 33))):=ac;have aB:=cg ao;have ab:aA ((∀w',M prog 88 #[ak n,ak o] w' λe ad=>∃b7 rb F,e=Q (ay #[aq b7,bz #[ak 0,ak 0]])/\(cG b7 n o rb).J F oO ad/\(∀b,F b->I (OT w')<=b)/\O (I (OT w')) w' ad)/\_/\_/\_):=⟨λw'=>L_ n o w' h0 g x,h0,g,x⟩
 go_enter func55,ntmps55;go_wp2_with fail;generalize bu w (OX #[U OW 0,U OW 0] 33)=w0 at*;generalize aF:I (OT w)=fb at*;refine P.mono ?_;rintro e w1 ⟨c,hp,F,rfl,J,⟨aR,co⟩,lo,ag⟩
 have ai:=(ag.block fb ar).trans ap;have aV:=cj ai;have B:=aw w1 (OX #[U OW 0,U OW 0] 33)
 have a0:=aO w1 (OX #[U OW 0,U OW 0] 33)
 have al:=cU aR co;have u:aA (_/\(∀b,F b->fb<b/\b<I (OT w1))/\_):=⟨(cD c hp).below J B,λb d=>⟨by have:=lo b d;omega,(cD c hp).lt J b d⟩,(aB.o.trans (ag.mono aa)).trans (B.mono aa)⟩
 have l:=cU ((B.block fb aV).trans ai) a0;go_wp2_with fail;generalize bu w1 (OX #[U OW 0,U OW 0] 33)=a1 at*;generalize I (OT w1)=f at*;refine(ab.o.1 a1).mono ?_;rintro e i ⟨b7,rb,G,rfl,am,an,q⟩
 have N:=(q.block fb (cj l.o.1)).trans l.o.1;have S:=(q.block f (cj l.o.2)).trans l.o.2;obtain⟨bl,y1,z0,bn⟩:=xD S;obtain⟨u0,a2,t0,bo⟩:=xD N;have nx:f≠fb:=aa;have bp:=cj S;have br:=cj N;have bb:aA (_/\_/\_/\(∀b,G b->f<b)/\_):=⟨(cD c hp).below u.o.1 q,am,u.o.2.1,λb d=>by have g:=an b d;have bd:=cj l.o.2;omega,u.o.2.2.trans (q.mono (by have:=cj l.o.1;omega))⟩
 clear am an q N S l u;go_wp2_with fail;obtain⟨j,m⟩:∃j,j=O8 (O8 (O8 (O8 i ⟨f,0,O0⟩ (U OW 0)) ⟨f,1,O0⟩ (U OW 0)) ⟨fb,0,O0⟩ (U OW 0)) ⟨fb,1,O0⟩ (U OW 0):=⟨_,rfl⟩
 rw[<-m];have v0:V j (av fb 0)=H (ak 0):=by rw[m,aY _ _ _ _ ac];exact a6 _ _ _ ((aY _ ⟨f,1,O0⟩ ⟨fb,0,O0⟩ _ (λe=>absurd (congrArg Addr.block e) nx)).trans ((aY i ⟨f,0,O0⟩ ⟨fb,0,O0⟩ _ (λe=>absurd (congrArg Addr.block e) nx)).trans u0))
 have v1:V j (av fb 1)=H (ak 0):=by rw[m];exact a6 _ _ _ ((aY _ ⟨fb,0,O0⟩ ⟨fb,1,O0⟩ _ ac).trans ((aY _ ⟨f,1,O0⟩ ⟨fb,1,O0⟩ _ (λe=>absurd (congrArg Addr.block e) nx)).trans ((aY i ⟨f,0,O0⟩ ⟨fb,1,O0⟩ _ (λe=>absurd (congrArg Addr.block e) nx)).trans a2)))
 have W:Fr (λk=>k=f\/k=fb) i j:=by rw[m];exact((((Fr.refl (λk=>k=f\/k=fb) i).set f 0 _ (aK rfl)).set f 1 _ (aK rfl)).set fb 0 _ (aI rfl)).set fb 1 _ (aI rfl)
 have be:I (OT j)=I (OT i):=by rw[m];simp
 clear m;have s:=aw j (OX #[bq (H ⟨hp,0,O0⟩),bq (H ⟨b7,0,O0⟩),U OW 0,U OW 0,U OW 0] 116)
 have ht:=aO j (OX #[bq (H ⟨hp,0,O0⟩),bq (H ⟨b7,0,O0⟩),U OW 0,U OW 0,U OW 0] 116)
 rw[be] at ht;have g0:=(s.cell (p:=av fb 0) (by show fb<_;omega)).trans v0;have g1:=(s.cell (p:=av fb 1) (by show fb<_;omega)).trans v1;obtain⟨k1,k2,k3,k4,k5⟩:=bb.o;have bg:=k5.trans (W.below aa (λk e=>by rcases e with rfl|rfl<;>omega))
 have bi:ej w c ⟨hp,b7,rb,I (OT i),n,o⟩ F G (jv n o).1 (jv n o).2 0 0 (bu j (OX #[bq (H ⟨hp,0,O0⟩),bq (H ⟨b7,0,O0⟩),U OW 0,U OW 0,U OW 0] 116)):=
  ⟨(cD c hp).below ((cD c hp).fr k1 W (λb hd e=>by have:=k3 b hd;rcases e with rfl|rfl<;>omega)) s,(cG b7 n o rb).below ((cG b7 n o rb).fr k2 W (λb hd e=>by have:=k4 b hd;rcases e with rfl|rfl<;>omega)) s,ht,λd=>by have g:=k3 _ d;have g:I (OT i)<f:=g.2;omega,λd=>by have g:=(cG b7 n o rb).lt k2 _ d;exact absurd g (Nat.lt_irrefl _),by show I (OT w)<=I (OT i);omega,ed.start c n o,eb.start,⟨_,_,_,cE.start c n o⟩,λb d e=>by have g:=k3 b d;have bd:=k4 b e;omega,λb d=>by have g:=k3 b d;omega,λb d=>by have g:=k4 b d;omega,by rw[aF];exact bg.trans (s.mono aa),al.o.1,al.o.2,ab.o.2⟩
 refine a3 (v:=ay #[aq (I (OT i)),bz #[ak 0,ak 0]]) (by simp only [results,results55];simp[go_sem,g0,g1]) rfl ⟨c,⟨hp,b7,rb,I (OT i),n,o⟩,F,G,rfl,⟨rfl,rfl⟩,bi⟩
theorem Nf (n o:Int)(w:az)(h:n<16\/256<n\/o<0\/1024<o):
 M J 55 #[ak n,ak o] w λe w'=>e=Q (ay #[bq O0,bz #[ak 1,ak (-1)]])/\O (I (OT w)) w w':=by
 have f:=aw w (OX #[U OW 0,U OW 0] 33)
 have g:=aO w (OX #[U OW 0,U OW 0] 33)
 have P:=JN n o (bu w (OX #[U OW 0,U OW 0] 33)) h;go_enter func55,ntmps55;go_wp2_with fail;refine P.mono ?_;rintro e w1 ⟨rfl,c⟩
 have i:=(c.block (I (OT w)) ac).trans g;have hB1:=f.trans (c.mono ac)
 have j:=c.size;simp at j;obtain⟨y0,y1,q,s⟩:=xD i;have l1:I (OT w)<I (OT w1):=aa;clear c g f i;go_wp2_with fail
 go_region_law (fail)
 all_goals
  obtain⟨b,hW0⟩:∃b,b=O8 (O8 w1 ⟨I (OT w),0,O0⟩ (U OW 1)) ⟨I (OT w),1,O0⟩ (U OW (-1)):=⟨_,rfl⟩
  rw[<-hW0];have t:I (OT b)=I (OT w1):=by rw[hW0];simp[World.setCell]
  have g0:V b (av (I (OT w)) 0)=H (ak 1):=by exact py
  have g1:V b (av (I (OT w)) 1)=H (ak (-1)):=by exact vD
  have l:O (I (OT w)) w b:=by exact vC
  have d:=(aw b (OX #[U OW 1,U OW (-1)] 33)).drew;have r0:=(d.cell (p:=av (I (OT w)) 0) (by show I (OT w)<_;omega)).trans g0;have r1:=(d.cell (p:=av (I (OT w)) 1) (by show I (OT w)<_;omega)).trans g1;have m:=l.trans (d.mono aa)
  generalize (bu b (OX #[U OW 1,U OW (-1)] 33)).drew=u at*;go_wp2_with fail;refine a3 (v:=ay #[bq O0,bz #[U OW 1,U OW (-1)]]) (by simp[results,results55,go_sem,r0,r1]) rfl ⟨rfl,m⟩
end Go.Proofs.YtjckpdepffejnaaGreatDoor
