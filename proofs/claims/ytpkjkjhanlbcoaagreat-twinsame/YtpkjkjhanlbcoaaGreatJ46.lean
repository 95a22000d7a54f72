import Derived.Test.YtpkjkjhanlbcoaaGreatJ45
namespace Go.Proofs.YtpkjkjhanlbcoaaGreat
set_option maxRecDepth 100000
set_option maxHeartbeats 2000000
open Go.RowKit W Kp cf
theorem Bj (k:ce):∀(l:List Int)(s:cj),(l.foldl k.eF s).rs=s.rs
 |[],_=>rfl
 |x::l,s=>by rw[a8,Bj k l];unfold ce.eF;split<;>rfl
theorem Bk (k:ce):∀(l:List Int)(s:cj),(l.foldl k.gA s).rs=s.rs
 |[],_=>rfl
 |x::l,s=>by rw[a8,Bk k l];rfl
theorem fi.told {k:ce}{s:cj}(ci:CI k s)(eR:Fo k s){q0 q:List b7}(h:fi k s q0 q)(p:Int->Bool):(q.filter (fun e=>p e.1)).map (fun e=>(k.nw s e.1,k.nw s e.2))=(q0.filter (fun e=>p e.1)).map (fun e=>(k.nw s e.1,k.nw s e.2)):=by
 have c:q.map (fun e=>(e.1,k.nw s e.2))=q0.map (fun e=>(e.1,k.nw s e.2)):=by
  refine vg (0,0) (by rw[aW,aW,h.len]) (fun n hn=>?_)
  rw[aW] at hn;have b:n<q0.length:=by rw[<-h.len];exact hn
  obtain⟨d,f⟩:=h.eq n b;rw[jZ (fun e:b7=>(e.1,k.nw s e.2)) q n (0,0) (0,0) hn,jZ (fun e:b7=>(e.1,k.nw s e.2)) q0 n (0,0) (0,0) b,d,Bd ci eR f]
 have key:∀l:List b7,(l.filter (fun e=>p e.1)).map (fun e=>(k.nw s e.1,k.nw s e.2))=((l.map (fun e=>(e.1,k.nw s e.2))).filter (fun e=>p e.1)).map (fun e=>(k.nw s e.1,e.2)):=fun l=>by rw[lI (fun e:b7=>(e.1,k.nw s e.2)) (fun e=>p e.1) (fun e=>p e.1) l (fun _ _=>rfl),List.map_map];rfl
 rw[key q,key q0,c]
section
variable {a:Wc}{S:cq}{W:ck}{m:Nat->Int}{Y G:List Int}
def f9 (a:Wc)(S:cq)(m:Nat->Int)(G:List Int)(i:Nat):Int:=if m i∈G then m i else(S.s4 a).f (m i)
theorem cy.Kw (hR:cy a S W m Y G)(hb:cI a S.s)(hr:S.s.y<=a.O-S.s.g){g:List Bool->List Bool}(hg:dR W.T W.wt g):
 ∃K,rJ a S W m (W.c0 g false) (W.cR g false).1 (W.cR g false).2.1 ⟨⟨0,(S.s6 a).g,(S.s6 a).ws,[],(S.s6 a).rs⟩,(S.s.k0 a).sR (S.t3 a) S.r,(S.s.k0 a).jf (S.t3 a) S.r⟩ (f9 a S m G) (G++K):=by
 obtain⟨D,hc,h0⟩:=jq.start hR hb hr hg;have hs:=jq.settled hR hb hc hg h0;obtain⟨K,li,E⟩:=hs.de.li;have li:=li;have E:=E;obtain⟨am,b4,c⟩:=qL hR.kv hb hr;have aR:am=K:=by have l2:=(c.li.mi.full.lists (O:=a.O) hb.n1 hb.y1 hb.o1 c.li.mi.ci.hg).2;have ab:=((li.mi.full.lists (O:=a.O) hb.n1 hb.y1 hb.o1 li.mi.ci.hg).2).symm.trans l2;exact(List.append_cancel_left ab).symm
 subst aR;refine⟨am,?_⟩
 have ci:=li.mi.ci;have eR:=li.mi.eR;have R:=hR.fV hb;have hz:∀v,(v∈(S.s.k0 a).T\/v∈(S.s.z0 G).G)->∀i,0<=i->i<pf ((S.s.k0 a).l0 (S.s.z0 G) v)->cY ((S.s.k0 a).l0 (S.s.z0 G) (v+1+i))=true->cg ((S.s.k0 a).l0 (S.s.z0 G) (v+1+i))∈(S.s.k0 a).T\/cg ((S.s.k0 a).l0 (S.s.z0 G) (v+1+i))∈(S.s.z0 G).G:=fun v hv i a0 I ha=>by rw[R] at hv⊢;exact hR.kv.inv.fd v hv i a0 I ha
 have fX:=hs.fX;have ok:=hs.ok;have J:∀i,ct (W.cR g false).1 i->(S.s.k0 a).or (S.s.z0 G) (S.s4 a) (m i) (f9 a S m G i):=fun i b=>by
  have ha:=ok.al i b;unfold f9;by_cases d:m i∈G
  ·rw[aI d];exact aK ⟨rfl,d⟩
  ·rw[aG d];have hy:=(hR.mem ha).resolve_right d;exact aJ ⟨by rw[R];exact hy,rfl,((hR.j7 hb _ ha).1 ((fX i ha).2 b)).resolve_left d⟩
 have hcl:gX W.T W.wt (ct (W.cR g false).1):=by
  intro i hi bb v hv l;have an:∀j,ct (W.cR g false).1 j->_/\_:=fun j F=>⟨ok.al j F,(fX j (ok.al j F)).2 F⟩
  obtain⟨q1,s⟩:=hR.uX hb hc hs.de uY i hi (an i bb) v (hv.mono an) l;exact(fX _ q1).1 s
 have bd:dh (S.s.k0 a) (S.t3 a).1 (S.s4 a):=by obtain⟨be,ab,bg⟩:=h0.de.li;obtain⟨_,_,_,cA,_⟩:=cX.eW (k:=S.s.k0 a) (z:=S.s.z0 G) (D:=D) (S.t3 a) S.r be ab bg;exact cA
 have hup:∀i,ct (W.c0 g false) i->ct (W.cR g false).1 i:=fun i hi=>by have ha:=h0.ok.al i hi;exact(fX i ha).1 (pA bd ((h0.fX i ha).2 hi))
 have B:∀i,ct (W.cR g false).1 i->((W.T.getD i t0).1=3\/(W.T.getD i t0).1=4->_=_):=fun i hi q=>hR.two (ok.al i hi) (aJ q)
 have L:∀v,dM W.T v->(v.1=3->ct (W.cR g false).1 v.2.toNat)->(S.s.k0 a).nw (S.s4 a) (wv m v)=wv (f9 a S m G) v:=fun v hv b=>by
  by_cases l:v.1=3
  ·have ha:=(hv.t l).2;rw[im l,im l];unfold f9;by_cases d:m v.2.toNat∈G
   ·rw[aI d];refine oD ?_;rw[Bool.eq_false_iff];intro hy;exact hR.j6 hb ((hR.oC hb ha).1 hy) d
   ·rw[aG d];have hy:=(hR.mem ha).resolve_right d;have e:=(hR.word hb ha).2.2;rw[rH ((hR.oC hb ha).2 hy) (by rw[e];exact((hR.j7 hb _ ha).1 ((fX _ ha).2 (b l))).resolve_left d),e]
  ·rw[jo l,jo l];refine oD ?_;unfold ce.cK;rw[(nF _ _ (hv.o l)).1];have:(v.1==3)=false:=by simpa using l
   rw[this];rfl
 have uZ:∀e,iG W.T e->ct (W.cR g false).1 e.1.toNat->ct (W.cR g false).1 e.2.toNat->((S.s.k0 a).nw (S.s4 a) (we m e).1,(S.s.k0 a).nw (S.s4 a) (we m e).2)=we (f9 a S m G) e:=fun e he bi B=>by
  have q1:=L (3,e.1) ⟨fun _=>⟨he.g0,he.g⟩,fun c=>absurd rfl c⟩ (fun _=>bi)
  have s:=L (3,e.2) ⟨fun _=>⟨he.h0,he.h⟩,fun c=>absurd rfl c⟩ (fun _=>B)
  rw[im rfl,im rfl] at q1 s;unfold we;exact Prod.ext q1 s
 have lo:∀{p:Int},(a.N:Int)<=p->ld a.N 0 (S.s6 a).g (S.s6 a).ws p=(S.s.k0 a).ld ((S.s.k0 a).be ((S.s.k0 a).mw (S.s4 a) (S.s4 a).wk) ((S.s.k0 a).mw (S.s4 a) (S.s4 a).wk).ep) p:=fun hp=>tP hp hb.y1;refine
 {
  kv:=⟨c.done hR.kv hb,fun v _ i _ _ _ hy=>(by cases hy)⟩,ok:=ok,cl:=hcl,up:=hup,rr:=hs.r,cc:=hs.c
  rs:=?_,pl:=fun i b=>li.mi.mem (J i b),inj:=fun i j hi F e=>?_,f4:=fun v hv=>?_,hd:=fun i b=>?_,fd:=fun i b k hk=>?_,rg:=?_,wt:=?_}
 ·have bl:(S.s6 a).rs=(S.s4 a).rs:=(Bk _ _ _).trans (Bj _ _ _)
  show(S.s6 a).rs=_;rw[bl];refine vg 0 (by rw[aW,hR.rl];exact c.rl) (fun i hi=>?_)
  have hi:i<12:=by rw[c.rl] at hi;exact hi
  obtain⟨er,hv⟩:=hR.root hi;have hm:=c.rm i hi;rw[er] at hm;rw[Be hm (c.zf i hi),jZ (wv (f9 a S m G)) W.rs i (0,0) 0 (by rw[hR.rl];exact hi)];exact L _ hv (hs.r _ (getD_in (by rw[hR.rl];exact hi)))
 ·have o1:=J i hi;have ao:=J j F;rw[<-e] at ao;refine hR.inj i j (ok.al i hi) (ok.al j F) ?_;rcases o1 with⟨a1,a2⟩|⟨a1,a2,M⟩<;>rcases ao with⟨b1,b2⟩|⟨b1,b2,b3⟩
  ·exact a1.trans b1.symm
  ·have q1:=li.mi.kJ _ a2;have s:=li.mi.hlo _ (li.mi.fh _ b1 (by rw[b2];exact b3))
   rw[b2] at s;omega
  ·have q1:=li.mi.kJ _ b2;have s:=li.mi.hlo _ (li.mi.fh _ a1 (by rw[a2];exact M))
   rw[a2] at s;omega
  ·exact li.mi.inj _ a1 _ b1 (by rw[a2];exact M) (a2.trans b2.symm)
 ·obtain⟨x,o⟩:=li.mi.from hv;have hm:x∈Y\/x∈G:=by
   have:=uT o;rw[R] at this
   exact this
  obtain⟨i,hi,rfl⟩:=hR.f4 x hm;have b:ct (W.cR g false).1 i:=(fX i hi).1 ((hR.j7 hb _ hi).2 (by
   rcases o with⟨a1,a2⟩|⟨a1,a2,M⟩
   ·exact aK (by rw[a1];exact a2)
   ·exact aJ (by rw[a2];exact M)))
  refine⟨i,b,?_⟩
  unfold f9;rcases o with⟨a1,a2⟩|⟨a1,a2,M⟩
  ·rw[aI (by rw[a1];exact a2)];exact a1
  ·rw[R] at a1;rw[aG (hR.j6 hb a1)];exact a2
 ·have o:=J i b;have bn:=li.mi.bd (li.mi.mem o)
  show ld a.N 0 (S.s6 a).g (S.s6 a).ws (f9 a S m G i)=_;rw[lo bn.1];exact(Kr li E o).1
 ·have o:=J i b;have ha:=ok.al i b;obtain⟨ad,N,_⟩:=hR.parts ha;have Q:(S.s.k0 a).ld (S.s4 a) (f9 a S m G i)=ld a.N S.s.y S.s.g S.s.ws (m i):=li.mi.hd _ _ o;have I:(k:Int)<pf ((S.s.k0 a).l0 (S.s.z0 G) (m i)):=by
   show(k:Int)<pf (ld a.N S.s.y S.s.g S.s.ws (m i))
   rw[N];omega
  have bo:(k:Int)<pf ((S.s.k0 a).ld (S.s4 a) (f9 a S m G i)):=by rw[Q,N];omega
  have U:∀n,n<(W.T.getD i t0).2.1.length->(S.s.k0 a).l0 (S.s.z0 G) (m i+1+n)=wv m ((W.T.getD i t0).2.1.getD n (0,0)):=fun n hn=>hR.fd i ha n hn;have ag:=li.mi.fd (m i) _ o k (Int.natCast_nonneg k) I;rw[U k hk] at ag;have ap:=hR.fv i ha _ (getD_in (x:=((0,0):Int×Int)) hk)
  show ld a.N 0 (S.s6 a).g (S.s6 a).ws (f9 a S m G i+1+k)=_;have hN:(a.N:Int)<=f9 a S m G i:=(li.mi.bd (li.mi.mem o)).1;rw[lo V,Kq li E o (Int.natCast_nonneg k) I,mI b (B i b) hk];have lost:(W.T.getD i t0).1=3\/(W.T.getD i t0).1=4->(dH (W.cR g false).1 ((W.T.getD i t0).2.1.getD 0 (0,0))=false↔(S.s.k0 a).ls (S.s4 a) (wv m ((W.T.getD i t0).2.1.getD 0 (0,0)))=true):=fun q=>by
   have l2:=B i b q;have ai:=hR.fv i ha _ (getD_in (x:=((0,0):Int×Int)) (show 0<(W.T.getD i t0).2.1.length by omega))
   constructor
   ·intro d;obtain⟨ar,bp⟩:=me d;have br:=(ai.t ar).2;have:¬(S.s.k0 a).al (S.s4 a) (ew 3 (m ((W.T.getD i t0).2.1.getD 0 (0,0)).2.toNat))=true:=fun w=>by
     have:=(fX _ br).1 w;unfold ct at this
     rw[bp] at this
     cases this
    rw[im ar];unfold ce.al at this
    simpa using this
   ·intro d;obtain⟨t,_⟩:=hR.rG hb ai (mG d)
    rw[im t] at d;rw[Bg t];cases w:(W.cR g false).1.getD ((W.T.getD i t0).2.1.getD 0 (0,0)).2.toNat false
    ·rfl
    ·have:=(fX _ (ai.t t).2).2 w;unfold ce.al at this
     rw[d] at this
     cases this
  have met:(W.T.getD i t0).1=3\/(W.T.getD i t0).1=4->(S.s.k0 a).ls (S.s4 a) (wv m ((W.T.getD i t0).2.1.getD 0 (0,0)))=true->(S.s.k0 a).ld (S.s4 a) (f9 a S m G i+1+0)=wv m ((W.T.getD i t0).2.1.getD 0 (0,0))/\((W.T.getD i t0).1=3->f9 a S m G i∈(S.s4 a).wk)/\((W.T.getD i t0).1=4->f9 a S m G i∈(S.s4 a).ep):=fun q d=>by
   have l2:=B i b q;have al:(0:Int)<pf ((S.s.k0 a).l0 (S.s.z0 G) (m i)):=by
    show(0:Int)<pf (ld a.N S.s.y S.s.g S.s.ws (m i))
    rw[N];omega
   have j2:(0:Int)<pf ((S.s.k0 a).ld (S.s4 a) (f9 a S m G i)):=by rw[Q,N];omega
   have aF:=li.mi.fd (m i) _ o 0 (Int.le_refl 0) al;have ex:(S.s.k0 a).l0 (S.s.z0 G) (m i+1+0)=wv m ((W.T.getD i t0).2.1.getD 0 (0,0)):=U 0 V;rw[ex] at aF;have A:(S.s.k0 a).ld (S.s4 a) (f9 a S m G i+1+0)=wv m ((W.T.getD i t0).2.1.getD 0 (0,0)):=by
    rcases aF with w|⟨_,w,_⟩
    ·exact w
    ·exact absurd (ce.mV d).2.2 w
   have f:=li.fields hs.de.he hz hc (li.mi.mem o) (Int.le_refl 0) j2 (by rw[A];exact(ce.mV d).1)
   rw[Q,ad] at f;refine⟨A,fun t=>?_,fun C=>?_⟩
   ·rcases f with w|⟨_,_,w⟩|⟨w,_⟩
    ·have:=li.mi.om w;rw[A,mG d] at this
     cases this
    ·exact w
    ·omega
   ·rcases f with w|⟨w,_,_⟩|⟨_,w⟩
    ·have:=li.mi.om w;rw[A,mG d] at this
     cases this
    ·omega
    ·exact w
  by_cases H:f9 a S m G i∈(S.s4 a).ep
  ·have C:(W.T.getD i t0).1=4:=by
    have:=(E.ep _ H).2;rw[Q,ad] at this
    exact this
   have l2:=B i b (aJ C)
   have u:=hs.de.ep _ H;have u:=u;have al:(0:Int)<pf ((S.s.k0 a).l0 (S.s.z0 G) (m i)):=by
    show(0:Int)<pf (ld a.N S.s.y S.s.g S.s.ws (m i))
    rw[N];omega
   have bs:f9 a S m G i+1+0=f9 a S m G i+1:=V;rw[<-bs] at u;have ea:=li.mi.rF o (Int.le_refl 0) al (mG u)
   have ex:(S.s.k0 a).l0 (S.s.z0 G) (m i+1+0)=wv m ((W.T.getD i t0).2.1.getD 0 (0,0)):=U 0 V;rw[ea,ex] at u;rw[aI H,aI ⟨⟨aJ C,(lost (aJ C)).2 u⟩,by
    rcases(show k=0\/k=1 by omega) with e|e
    ·exact aK e
    ·exact aJ ⟨C,e⟩⟩,vh]
  ·rw[aG H];by_cases X:f9 a S m G i∈(S.s4 a).wk/\(k:Int)=0
   ·obtain⟨hw,b5⟩:=X;have t:(W.T.getD i t0).1=3:=by
     have:=(E.wk _ hw).2;rw[Q,ad] at this
     exact this
    have e6:k=0:=V;subst e6;rw[aI ⟨hw,rfl⟩];cases u:dH (W.cR g false).1 ((W.T.getD i t0).2.1.getD 0 (0,0))
    ·have q:=(lost (aK t)).1 u;have A:=(met (aK t) q).1;have A:(S.s.k0 a).ld (S.s4 a) (f9 a S m G i+1+((0:Nat):Int))=wv m ((W.T.getD i t0).2.1.getD 0 (0,0)):=A;rw[aI ⟨⟨aK t,rfl⟩,aK rfl⟩,vh,A];unfold ce.cG;rw[aI q]
    ·rw[aG (fun q=>by have:=q.1.2;simp at this)];have bt:(S.s.k0 a).ls (S.s4 a) ((S.s.k0 a).ld (S.s4 a) (f9 a S m G i+1+((0:Nat):Int)))=false:=by rw[Bool.eq_false_iff];intro w;rw[(li.mi.rF o (Int.natCast_nonneg 0) I (mG w)),U 0 hk] at w;rw[(lost (aK t)).2 w] at u;cases u
     unfold ce.cG;rw[bt,aG Z,Bd ci eR ag];refine L _ ap (fun l=>?_)
     exact ng u l
   ·rw[aG X];have bx:(S.s.k0 a).cK ((S.s.k0 a).ld (S.s4 a) (f9 a S m G i+1+k))=false:=by
     cases hab:cY ((S.s.k0 a).ld (S.s4 a) (f9 a S m G i+1+k))
     ·unfold ce.cK;rw[hab];rfl
     ·rcases li.fields hs.de.he hz hc (li.mi.mem o) (Int.natCast_nonneg k) bo hab with w|⟨_,w1,bY⟩|⟨_,w⟩
      ·exact li.mi.om w
      ·exact absurd ⟨bY,w1⟩ X
      ·exact absurd w H
    have nb:¬((((W.T.getD i t0).1=3\/(W.T.getD i t0).1=4)/\dH (W.cR g false).1 ((W.T.getD i t0).2.1.getD 0 (0,0))=false)/\(k=0\/((W.T.getD i t0).1=4/\k=1))):=by
     rintro⟨⟨q1,s⟩,q3⟩
     obtain⟨_,bZ,b0⟩:=met q1 ((lost q1).1 s)
     rcases q1 with t|C
     ·rcases q3 with e|⟨e,_⟩
      ·exact X ⟨bZ t,V⟩
      ·omega
     ·exact H (b0 C)
    rw[aG nb,Be ag bx];refine L _ ap (fun l=>?_)
    have hl:=hR.led ok hcl b hk;rw[mI b (B i b) hk,aG nb] at hl;exact hl l
 ·show(((S.r.filter (fun e=>(S.s.k0 a).al (S.t3 a).1 e.2)).filter (fun e=>(S.s.k0 a).al (S.s4 a) e.1)).map (fun e=>((S.s.k0 a).nw (S.s4 a) e.1,(S.s.k0 a).nw (S.s4 a) e.2)))=_;rw[hR.rg,List.filter_filter];rw[lI (we m) _ (fun e=>cL (W.c0 g false) e.2&&cL (W.cR g false).1 e.1) W.rg (fun e he=>by have q1:(S.s.k0 a).al (S.t3 a).1 (we m e).2=cL (W.c0 g false) e.2:=h0.is (hR.gv e he).h;have s:(S.s.k0 a).al (S.s4 a) (we m e).1=cL (W.cR g false).1 e.1:=hs.is (hR.gv e he).g;rw[q1,s,Bool.and_comm]),List.map_map];exact A9
 ·show((((S.s.k0 a).eW (S.t3 a) S.r).2.filter (fun e=>(S.s.k0 a).al (S.s4 a) e.1)).map (fun e=>((S.s.k0 a).nw (S.s4 a) e.1,(S.s.k0 a).nw (S.s4 a) e.2)))=_;rw[hs.de.q.told ci eR ((S.s.k0 a).al (S.s4 a))];have hE:∀e∈W.wt++(W.cR g false).2.1,iG W.T e:=fun e he=>by
   rcases List.mem_append.1 he with d|d
   ·exact hR.dx e d
   ·exact hR.gv e (hs.c e d).1
  rw[lI (we m) _ (fun e=>cL (W.cR g false).1 e.1) _ (fun e he=>hs.is (hE e he).g),List.map_map];exact A7
theorem cy.Bl (d:cy a S W m Y G)(hb:cI a S.s){g:List Bool->List Bool}(hg:dR W.T W.wt g):S.full a=W.cF g a.O false:=by
 have b:=d.us hb;have e:=hb.g1;unfold cq.full ck.cF;rw[b];by_cases c:a.O-S.s.g<S.s.y
 ·rw[bh c,bh (show(a.O:Int)-(S.s.g:Int)<(S.s.y:Int) by omega)];rfl
 ·rw[bq c,bq (show¬(a.O:Int)-(S.s.g:Int)<(S.s.y:Int) by omega)];obtain⟨D,hc,h0⟩:=jq.start d hb V hg;have f:fT (fun i=>(W.cR g false).1.getD i false) (iH W.T) W.T.length<=fT (fun i=>jp W.T i||oB W.T i) (iH W.T) W.T.length:=AY _ (fun i hi hp=>by unfold jp oB;rw[((jq.settled d hb hc hg h0).ok.al i hp).2];cases (W.T.getD i t0).2.2.1<;>rfl)
  have j:=AZ (R:=fun i=>jp W.T i||oB W.T i) (z:=iH W.T) W.T.length (fun i _=>⟨rfl,by unfold jp oB;cases (W.T.getD i t0).2.2.2<;>cases (W.T.getD i t0).2.2.1<;>rfl⟩)
  rw[A1] at b;have k:=congrArg Prod.fst b;have l:=congrArg Prod.snd b;rw[bq (by rw[(uS W.T (W.cR g false).1 W.T.length)];omega)];rfl
theorem cy.Bm (b:cy a S W m Y G)(hb:cI a S.s){g:List Bool->List Bool}(hg:dR W.T W.wt g):S.code a=W.gN g a.O false:=by unfold cq.code ck.gN;rw[b.Bl hb hg]
theorem cy.cut (b:cy a S W m Y G)(hb:cI a S.s){g:List Bool->List Bool}(hg:dR W.T W.wt g):∃d e f,cy a (S.cut a) (W.cut g a.O false) d e f:=by
 unfold ck.cut;rw[<-b.Bl hb hg];cases hf:S.full a
 ·rw[aG Z];have hr:S.s.y<=a.O-S.s.g:=by unfold cq.full at hf;have:=of_decide_eq_false hf;omega
  obtain⟨K,c⟩:=b.Kw hb hr hg;unfold cq.cut;rw[hf,aG Z];exact⟨_,_,_,c.done b⟩
 ·refine⟨m,Y,G,?_⟩
  unfold cq.cut;rw[hf,aI rfl];exact b
end
theorem Bn (rs:List Int)(y:Nat)(ws:List Int)(rl:List Nat):∀k,(iA rs y ws rl k).length=ws.length
 |0=>rfl
 |k+1=>by show((iA rs y ws rl k).set _ _).length=_;rw[a4];exact Bn rs y ws rl k
theorem rK (rs:List Int)(y:Nat)(ws:List Int)(rl:List Nat):∀k,y+k<ws.length->∀q,(iA rs y ws rl k).getD q 0=if y+1<=q/\q<y+1+k then rs.getD (rl.getD (q-y-1) 0) 0 else ws.getD q 0
 |0,_,q=>by rw[aG V];rfl
 |k+1,h,q=>by
  show((iA rs y ws rl k).set _ _).getD q 0=_;rw[pO _ _ _ _ _ (by rw[Bn];omega),rK rs y ws rl k V q];by_cases c:y+1+k=q
  ·rw[aI c,aI V,show q-y-1=k by omega]
  ·rw[aG c];by_cases b:y+1<=q/\q<y+1+k
   ·rw[aI b,aI V]
   ·rw[aG b,aG V]
theorem Kx (W:ck)(g:gO)(b_ bZ m:Int):(W.room g b_ bZ m).2.rs=W.rs:=by
 unfold ck.room;split
 ·rfl
 ·unfold ck.cut;split<;>rfl
section
variable {a:Wc}{S:cq}{W:ck}{m:Nat->Int}{Y G:List Int}{j:Nat}{g:gO}
theorem cy.made (h:cy a S W m Y G)(hb:cI a S.s){kd:Int}{rl:List Nat}(hk:hc kd rl.length=0)(hr:S.s.y+1+rl.length<=a.N)(g:∀q∈rl,q<12):
 cy a (S.put a kd rl) {W with T:=W.T++[(kd,rl.map (fun q=>W.rs.getD q (0,0)),false,false)]} (nB m W.T.length S.s.y) (Y++[(S.s.y:Int)]) G:=by
 have p:=t7 h.kv hb hk hr rl.length bW
 have c:(rl.map (fun q=>W.rs.getD q (0,0))).length=rl.length:=aW ..;have hl:=hb.l1;have i:iK a.N S.s.y kd rl.length=true:=by unfold iK;simp;omega
 have d:fq a.N S.s.y kd rl.length S.s.ws=fC S.s.ws S.s.y (hw kd rl.length) rl.length:=by unfold fq;rw[aI i];rfl
 have e:(fq a.N S.s.y kd rl.length S.s.ws).length=S.s.ws.length:=by rw[d,t6]
 have b:S.s.y+rl.length<S.s.ws.length:=V;have keep:∀q:Int,((0<=q/\q<S.s.y)\/((a.N:Int)<=q/\q<a.N+S.s.g))->ld a.N (S.s.y+1+rl.length) S.s.g (iA S.s.rs S.s.y (fq a.N S.s.y kd rl.length S.s.ws) rl rl.length) q=ld a.N S.s.y S.s.g S.s.ws q:=fun q hq=>by
  rcases hq with⟨q0,q1⟩|⟨q0,q1⟩
  ·rw[dW (iM q0 V),dW (iM q0 q1),rK _ _ _ _ _ (by rw[e];exact b),aG V,d,k8 _ _ _ _ _ b,aG V,aG V]
  ·rw[dW (hZ q0 q1),dW (hZ q0 q1),rK _ _ _ _ _ (by rw[e];exact b),aG V,d,k8 _ _ _ _ _ b,aG V,aG V]
 refine h.new (by rw[c];exact hk) (fun v hv=>?_) rfl hr p.k (by rw[c];exact p.p) (fun k hk=>?_) p.h (fun v hv k hk=>?_)
 ·obtain⟨q,hq,rfl⟩:=List.mem_map.1 hv;exact(h.root (g q hq)).2
 ·rw[c] at hk;show ld a.N (S.s.y+1+rl.length) S.s.g (iA S.s.rs S.s.y (fq a.N S.s.y kd rl.length S.s.ws) rl rl.length) _=_;rw[dW (iM V V),rK _ _ _ _ _ (by rw[e];exact b),aI V,jZ (fun q=>W.rs.getD q (0,0)) rl k 0 (0,0) hk,<-(h.root (g _ (getD_in hk))).1,show((S.s.y:Int)+1+k).toNat-S.s.y-1=k by omega]
 ·exact keep _ (hv.imp (fun f=>m7 h.kv.inv.full f (Int.natCast_nonneg k) hk) (fun f=>m8 h.kv.inv.full f (Int.natCast_nonneg k) hk))
theorem cy.Ky (h:cy a S W m Y G)(hb:cI a S.s)(hg:∀T wt,e4 T wt->dR T wt (g T wt))(mm:Int):(S.room a mm).1=(W.room g a.N a.O mm).1/\∃e f i,cy a (S.room a mm).2 (W.room g a.N a.O mm).2 e f i:=by
 have b:=hg _ _ h.iv;unfold cq.room ck.room;rw[h.us hb];by_cases c:mm<=(a.N:Int)-S.s.y
 ·rw[aI c,aI c];exact⟨rfl,m,Y,G,h⟩
 ·rw[aG c,aG c];by_cases d:(S.s.y:Int)<=(a.O:Int)-S.s.g
  ·rw[aI d,bq V];exact⟨h.Bm hb b,h.cut hb b⟩
  ·rw[aG d,bh V];exact⟨h.ig hb b,h.dy hb b⟩
def mJ (a:Wc)(t:Int×Int×cq)(b:(Int×Int)×Int×ck):Prop:=t.2.1=b.2.1/\∃c d e,cy a t.2.2 b.2.2 c d e/\(t.2.1=0->t.1=wv c b.1/\dM b.2.2.T b.1)
theorem cy.grown (h:cy a S W m Y G)(ok:dV a S j)(hb:cI a S.s)(hg:∀T wt,e4 T wt->dR T wt (g T wt)){kd:Int}{rl:List Nat}(hk:hc kd rl.length=0)(i:∀q∈rl,q<12):mJ a (S.bZ a kd rl) (W.bZ g a.N a.O kd (rl.map (fun q=>W.rs.getD q (0,0)))):=by
 obtain⟨b,k,l,n,f⟩:=h.Ky hb hg _;obtain⟨ok',o,hr,_⟩:=ok.room hb _;have hl:=iU kd rl.length hk;unfold mJ cq.bZ ck.bZ;rw[aW];by_cases c:(S.room a (1+rl.length)).1=0
 ·rw[aI c,aI (b.symm.trans c)];rw[<-(Kx W g a.N a.O (1+rl.length))];refine⟨rfl,_,_,_,(f.made o hk (by have:=hr c V;omega) i),fun _=>⟨?_,⟨fun _=>⟨by dsimp only;omega,?_⟩,fun e=>absurd rfl e⟩⟩⟩
  ·rw[im rfl];unfold nB;simp
  ·have:=(AW (t:=(kd,rl.map (fun q=>(W.room g a.N a.O (1+rl.length)).2.rs.getD q (0,0)),false,false)) rfl (W.room g a.N a.O (1+rl.length)).2.T.length).2 (aJ rfl)
   simpa[ck.put] using this
 ·rw[aG c,aG (fun d=>c (b.trans d))];exact⟨b,k,l,n,f,fun d=>absurd d c⟩
theorem cy.kx (h:cy a S W m Y G)(hb:cI a S.s){v:Int×Int}(hv:dM W.T v):(S.kx a (wv m v)=5↔iF W.T v=true)/\((S.ex a (wv m v)=0/\S.kx a (wv m v)≠5)↔jE W.T v=true)/\(S.ex a (wv m v)=0↔v.1=3)/\(v.1≠3->S.ex a (wv m v)=2)/\(v.1=3->S.fx a (wv m v)=((W.T.getD v.2.toNat t0).2.1.length:Int)):=by
 rw[qW,jF];unfold cq.kx cq.ex cq.fx;rw[h.tB hb hv];by_cases c:v.1=3
 ·have d:(v.1==3)=true:=by simpa using c
  obtain⟨e,f,g⟩:=h.parts (hv.t c).2;rw[d,aI rfl,aI rfl,aI rfl,(h.vt hb hv c).2,e,f,g];exact⟨⟨fun b=>⟨c,b⟩,fun b=>b.2⟩,⟨fun b=>⟨c,b.2⟩,fun b=>⟨rfl,b.2⟩⟩,⟨fun _=>c,fun _=>rfl⟩,fun b=>absurd c b,fun _=>rfl⟩
 ·have d:(v.1==3)=false:=by simpa using c
  rw[d,aG Z,aG Z,aG Z];exact⟨⟨fun b=>absurd b aa,fun b=>absurd b.1 c⟩,⟨fun b=>absurd b.1 aa,fun b=>absurd b.1 c⟩,⟨fun b=>absurd b aa,fun b=>absurd b c⟩,fun _=>rfl,fun b=>absurd b c⟩
theorem cy.Bo (h:cy a S W m Y G){A:Nat}(d:A<12)(I:Int):W.fc (W.rs.getD A (0,0)) I=W.gc A I:=by
 obtain⟨_,hv⟩:=h.root d;unfold ck.fc ck.gc ck.th;by_cases c:(W.rs.getD A (0,0)).1=3
 ·rw[aI c];by_cases c5:(W.T.getD (W.rs.getD A (0,0)).2.toNat t0).1=5
  ·rw[aG (fun b=>(jF.1 b).2 c5),aI (aJ (show(W.T.getD (W.rs.getD A (0,0)).2.toNat (0,[],false,false)).1=5 from c5))]
  ·have e:¬((W.rs.getD A (0,0)).2<0\/(W.T.getD (W.rs.getD A (0,0)).2.toNat (0,[],false,false)).1=5):=fun b=>b.elim (fun b=>absurd (hv.t c).1 V) c5;rw[aI (jF.2 ⟨c,c5⟩),aG e];rfl
 ·rw[aG c,aG (fun b=>c (jF.1 b).1),aI (aK aa)]
theorem cy.cO (h:cy a S W m Y G)(hb:cI a S.s){v:Int×Int}(hv:dM W.T v)(g:v.1=3):dO (wv m v) S.q=dO v.2 W.wt:=by
 unfold dO;rw[h.wt,List.findIdx_map];have b:∀e∈W.wt,((we m e).1==wv m v)=(e.1==v.2):=fun e he=>by
  have ho:=h.dx e he;have i:dM W.T (3,e.1):=⟨fun _=>⟨ho.g0,ho.g⟩,fun d=>absurd rfl d⟩
  have f:(we m e).1=wv m (3,e.1):=ac;rw[f];by_cases c:e.1=v.2
  ·have:((3,e.1):Int×Int)=v:=by rw[<-g,c]
   rw[this,c];simp
  ·have n1:_:=fun d=>c (by have:=h.AV hb i hv d;rw[<-this])
   rw[beq_eq_false_iff_ne.2 n1,beq_eq_false_iff_ne.2 c]
 generalize W.wt=l at b
 induction l with
 |nil=>rfl
 |cons e l j=>
  rw[List.findIdx_cons,List.findIdx_cons];have f:((fun e=>e.1==wv m v)∘we m) e=(e.1==v.2):=b e List.mem_cons_self;rw[f,j (fun x k=>b x (aO _ k))]
theorem cy.popped (h:cy a S W m Y G)(hb:cI a S.s){v:Int×Int}(hv:dM W.T v):mJ a (S.pop a (wv m v)) (W.pop v):=by
 obtain⟨k1,_⟩:=h.kx hb hv;unfold mJ cq.pop ck.pop;by_cases c:iF W.T v=true
 ·rw[aI (k1.2 c),aI c,h.cO hb hv (qW.1 c).1];have f:S.q.length=W.wt.length:=by rw[h.wt,aW]
  rw[f];generalize dO v.2 W.wt=i;by_cases b:i<W.wt.length
  ·rw[aI b,aI b];have ho:=h.dx _ (getD_in (x:=(0,0)) b)
   refine⟨rfl,m,Y,G,?_,fun _=>⟨?_,⟨fun _=>⟨ho.h0,ho.h⟩,fun e=>absurd rfl e⟩⟩⟩
   ·have d:=h.beside (q:=W.wt.take i++W.wt.drop (i+1)) h.gv (fun e he=>h.dx e ((List.mem_append.1 he).elim (fun b=>List.mem_of_mem_take b) (fun b=>List.mem_of_mem_drop b)))
    rw[List.map_append,List.map_take,List.map_drop,<-h.rg,<-h.wt] at d;exact d
   ·show(S.q.getD i (0,0)).2=wv m (3,(W.wt.getD i (0,0)).2)
    rw[h.wt,jZ (we m) W.wt i (0,0) (0,0) b,im rfl];rfl
  ·rw[aG b,aG b];exact⟨rfl,m,Y,G,h,fun e=>absurd (show(4:Int)=0 from e) aa⟩
 ·rw[aG (fun b=>c (k1.1 b)),aG c];exact⟨rfl,m,Y,G,h,fun e=>absurd (show(2:Int)=0 from e) aa⟩
theorem cy.Kz (h:cy a S W m Y G)(hb:cI a S.s){v:Int×Int}(hv:dM W.T v):mJ a (S.len a (wv m v)) (if jE W.T v=true then((1,((W.T.getD v.2.toNat t0).2.1.length:Int)),0,W) else((0,0),2,W)):=by
 obtain⟨_,b,_,_,k5⟩:=h.kx hb hv;unfold mJ cq.len;by_cases c:jE W.T v=true
 ·have hl:=h.tl v.2.toNat;have ev:vc 1 ((W.T.getD v.2.toNat t0).2.1.length:Int)=0:=by generalize (W.T.getD v.2.toNat t0).2.1.length=n at hl;have:∀n:Fin 13,vc 1 ((n.val:Nat):Int)=0:=aa;exact this ⟨n,V⟩
  rw[aI (b.2 c),aI c,k5 (jF.1 c).1];exact⟨ev,m,Y,G,h,fun _=>⟨by rw[jo (show(1:Int)≠3 by decide)],dM.of aa ev⟩⟩
 ·rw[aG (fun d=>c (b.1 d)),aG c];exact⟨rfl,m,Y,G,h,fun e=>absurd (show(2:Int)=0 from e) aa⟩
theorem cy.got (h:cy a S W m Y G)(hb:cI a S.s){A:Nat}(b:A<12)(I:Int):mJ a ((if ej a.N S.s.y S.s.g S.s.ws (S.s.rs.getD A 0) I=0 then ld a.N S.s.y S.s.g S.s.ws (cg (S.s.rs.getD A 0)+1+I) else 0),ej a.N S.s.y S.s.g S.s.ws (S.s.rs.getD A 0) I,S)
 ((if W.fc (W.rs.getD A (0,0)) I=0 then(W.T.getD (W.rs.getD A (0,0)).2.toNat t0).2.1.getD I.toNat (0,0) else(0,0)),W.fc (W.rs.getD A (0,0)) I,W):=by
 have code:=h.code hb b I;rw[h.Bo b];refine⟨code,m,Y,G,h,fun e=>?_⟩
 have c:=e;obtain⟨er,hv⟩:=h.root b;obtain⟨d,i,t3,g⟩:=m5 c;rw[er,h.tB hb hv] at d;have c3:(W.rs.getD A (0,0)).1=3:=by simpa using d
 obtain⟨z,al⟩:=hv.t c3;rw[er,(h.vt hb hv c3).2,h.kv.inv.full.stands hb.y1 (h.mem al),(h.parts al).2.1] at g;have hB:I.toNat<(W.T.getD (W.rs.getD A (0,0)).2.toNat t0).2.1.length:=V;have f:=h.fd _ al I.toNat hB;rw[Int.toNat_of_nonneg t3] at f;rw[aI c,aI (code.symm.trans c),er,(h.vt hb hv c3).2];exact⟨f,h.fv _ al _ (getD_in hB)⟩
end
section
variable {a:Wc}{S:cq}{W:ck}{m:Nat->Int}{Y G:List Int}{j:Nat}{g:gO}
def nE (a:Wc)(t:Int×cq)(b:Int×ck):Prop:=t.1=b.1/\∃c d e,cy a t.2 b.2 c d e
theorem cy.KB (h:cy a S W m Y G)(hb:cI a S.s){v b:Int×Int}(hv:dM W.T v)(g:dM W.T b):nE a (S.reg a (wv m v) (wv m b)) (W.reg v b):=by
 obtain⟨_,_,j,l,_⟩:=h.kx hb hv;obtain⟨k1,_⟩:=h.kx hb g;have n:S.r.length+S.q.length=W.rg.length+W.wt.length:=by rw[h.rg,h.wt,aW,aW]
 unfold nE cq.reg ck.reg;rw[n];by_cases c:v.1=3
 ·rw[aI (j.2 c)];by_cases d:iF W.T b=true
  ·rw[aI (k1.2 d),aI (show v.1=3/\iF W.T b=true from⟨c,d⟩)];by_cases f:24<=W.rg.length+W.wt.length
   ·rw[aI f,aI f];exact⟨rfl,m,Y,G,h⟩
   ·rw[aG f,aG f];obtain⟨i,o⟩:=qW.1 d;have p:iG W.T (b.2,v.2):=⟨(g.t i).1,(g.t i).2,o,(hv.t c).1,(hv.t c).2⟩
    have k:=h.beside (fun e he=>by
     rcases List.mem_append.1 he with q|q
     ·exact h.gv e q
     ·rw[List.mem_singleton.1 q];exact p) h.dx
    have s:(W.rg++[(b.2,v.2)]).map (we m)=S.r++[(wv m b,wv m v)]:=by rw[List.map_append,<-h.rg,im c,im i];rfl
    rw[s,<-h.wt] at k;exact⟨rfl,m,Y,G,k⟩
  ·rw[aG (fun q=>d (k1.1 q)),aG (fun q=>d q.2)];exact⟨rfl,m,Y,G,h⟩
 ·rw[aG (fun q=>c (j.1 q)),aG (fun q=>c q.1),l c];exact⟨rfl,m,Y,G,h⟩
theorem cy.KC (h:cy a S W m Y G)(hb:cI a S.s){A B:Nat}(b:A<12)(hB:B<12)(I:Int):nE a (ej a.N S.s.y S.s.g S.s.ws (S.s.rs.getD A 0) I,S.set a (S.s.rs.getD A 0) I (S.s.rs.getD B 0)) (W.set (W.rs.getD A (0,0)) I (W.rs.getD B (0,0))):=by
 have code:=h.code hb b I;unfold nE ck.set cq.set;rw[h.Bo b];refine⟨code,m,Y,G,?_⟩
 by_cases c0:W.gc A I=0
 ·rw[aI c0];have c:=code.trans c0;obtain⟨er,hv⟩:=h.root b;obtain⟨g,i⟩:=h.root hB;obtain⟨d,l,t3,f⟩:=m5 c;rw[er,h.tB hb hv] at d;have c3:(W.rs.getD A (0,0)).1=3:=by simpa using d
  obtain⟨z,al⟩:=hv.t c3;rw[er,(h.vt hb hv c3).2,h.kv.inv.full.stands hb.y1 (h.mem al),(h.parts al).2.1] at f;have hw:ge a.N S.s.y S.s.g S.s.ws (S.s.rs.getD A 0) I (S.s.rs.getD B 0)=S.s.ws.set (m (W.rs.getD A (0,0)).2.toNat+1+(I.toNat:Nat)).toNat (wv m (W.rs.getD B (0,0))):=by unfold ge;rw[aI c,er,(h.vt hb hv c3).2,g];rw[aI (jS h.kv.inv.full (h.mem al) t3 (by rw[(h.parts al).2.1];exact f)),Int.toNat_of_nonneg t3]
  exact h.store hb al V i hw (h.kv.set hb A B b I hB)
 ·rw[aG c0];have c:_:=fun e=>c0 (code.symm.trans e)
  obtain⟨j,k⟩:=oi c;rw[j,k];exact h
theorem KD (n:Nat)(h:n<=12):hc 2 (n:Int)=0:=by have:∀n:Fin 13,hc 2 ((n.val:Nat):Int)=0:=aa;exact this ⟨n,V⟩
theorem cy.rt (h:cy a S W m Y G)(ok:dV a S j)(hb:cI a S.s)(hg:∀T wt,e4 T wt->dR T wt (g T wt)){k R A B n:Int}(I:Int)(p:dJ k R A B n=0):mJ a (S.rt a k A.toNat B.toNat I n) (W.rt g a.N a.O k A.toNat B.toNat I n):=by
 have b:c8 k=3\/c8 k=6\/c8 k=7->A.toNat<12:=fun s=>by have:=lv p s;omega
 have hB:c8 k=6\/c8 k=7->B.toNat<12:=fun s=>by have:=l4 p s;omega
 have two:∀q∈[A.toNat,B.toNat],c8 k=7->q<12:=fun q hq s=>by simp at hq;omega
 unfold cq.rt ck.rt;by_cases d:k=1
 ·rw[aI d,aI d];subst d;have ev:=AS p;exact⟨ev,m,Y,G,h,fun _=>⟨by rw[jo (show(1:Int)≠3 by decide)],dM.of aa ev⟩⟩
 rw[aG d,aG d];by_cases e:k=3
 ·rw[aI e,aI e];subst e;obtain⟨er,hv⟩:=h.root (b aa)
  exact⟨rfl,m,Y,G,h,fun _=>⟨er,hv⟩⟩
 rw[aG e,aG e];by_cases u:k=4
 ·subst u;exact h.grown ok hb hg (show hc 1 2=0 by decide) (fun q hq=>two q hq aa)
 rw[aG u,aG u];by_cases v:k=5
 ·subst v;have hn:=AR p;have:=h.grown ok hb hg (kd:=2) (rl:=List.replicate n.toNat A.toNat) (by rw[List.length_replicate];exact KD _ V) (fun q hq=>by rw[List.eq_of_mem_replicate hq];exact b aa)
  rw[List.map_replicate] at this
  exact this
 rw[aG v,aG v];by_cases w:k=6
 ·subst w;exact h.grown ok hb hg (show hc 3 2=0 by decide) (fun q hq=>two q hq aa)
 rw[aG w,aG w];by_cases x:k=7
 ·subst x;exact h.grown ok hb hg (show hc 4 2=0 by decide) (fun q hq=>two q hq aa)
 rw[aG x,aG x];by_cases t:k=8
 ·rw[aI t,aI t];exact h.grown ok hb hg aa (fun q hq=>by cases hq)
 rw[aG t,aG t];by_cases f:k=10
 ·rw[aI f,aI f];subst f;obtain⟨er,hv⟩:=h.root (b aa)
  rw[er];exact h.popped hb hv
 rw[aG f,aG f];by_cases i:k=11
 ·rw[aI i,aI i];subst i;exact h.got hb (b aa) I
 rw[aG i,aG i];by_cases l:k=13
 ·rw[aI l,aI l];subst l;obtain⟨er,hv⟩:=h.root (b aa)
  rw[er];exact h.Kz hb hv
 rw[aG l,aG l];by_cases o:k=14
 ·rw[aI o,aI o];subst o;obtain⟨er,hv⟩:=h.root (b aa)
  obtain⟨C,D⟩:=h.root (hB aa)
  rw[er,C];by_cases c:W.rs.getD A.toNat (0,0)=W.rs.getD B.toNat (0,0)
  ·rw[aI (by rw[c]),aI c];exact⟨rfl,m,Y,G,h,fun _=>⟨by rw[jo (show(1:Int)≠3 by decide)],dM.of aa aa⟩⟩
  ·rw[aG (fun E=>c (h.AV hb hv D E)),aG c];exact⟨rfl,m,Y,G,h,fun _=>⟨by rw[jo (show(1:Int)≠3 by decide)],dM.of aa aa⟩⟩
 rw[aG o,aG o];exact⟨rfl,m,Y,G,h,fun _=>⟨by rw[jo (show(0:Int)≠3 by decide),Kh],dM.nil _⟩⟩
theorem cy.hds (h:cy a S W m Y G)(ok:dV a S j)(hb:cI a S.s)(hg:∀T wt,e4 T wt->dR T wt (g T wt))(k R A B I n:Int):nE a (S.hd a k R A B I n) (W.ik g a.N a.O k R A B I n):=by
 have f:=hg _ _ h.iv;unfold cq.hd ck.ik;by_cases b:dJ k R A B n=0
 ·rw[aI b,aI b];have p:c8 k=3\/c8 k=6\/c8 k=7->A.toNat<12:=fun l=>by have:=lv b l;omega
  have hB:c8 k=6\/c8 k=7->B.toNat<12:=fun l=>by have:=l4 b l;omega
  by_cases d:k=9
  ·rw[aI d,aI d];subst d;obtain⟨er,hv⟩:=h.root (p aa)
   obtain⟨E,F⟩:=h.root (hB aa)
   rw[er,E];exact h.KB hb hv F
  rw[aG d,aG d];by_cases e:k=12
  ·rw[aI e,aI e];subst e;exact h.KC hb (p aa) (hB aa) I
  rw[aG e,aG e];by_cases i:k=15
  ·rw[aI i,aI i];exact⟨h.Bm hb f,h.cut hb f⟩
  rw[aG i,aG i];by_cases e16:k=16
  ·rw[aI e16,aI e16];exact⟨h.ig hb f,h.dy hb f⟩
  rw[aG e16,aG e16];have ht:=h.rt ok hb hg I b;obtain⟨o1,q,_⟩:=ok.rt hb A.toNat B.toNat I (uN b)
  generalize S.rt a k A.toNat B.toNat I n=t at*;generalize W.rt g a.N a.O k A.toNat B.toNat I n=H at*;obtain⟨x,cd,J⟩:=t;obtain⟨v,K,L⟩:=H;obtain⟨s,u,w,C,o,D⟩:=ht;dsimp only at s o D q⊢;subst s;by_cases c:cd=0
  ·rw[aI c,aI c];obtain⟨ex,hv⟩:=D c;subst ex;exact⟨rfl,u,w,C,o.put q R.toNat hv⟩
  ·rw[aG c,aG c];exact⟨rfl,u,w,C,o⟩
 ·rw[aG b,aG b];exact⟨rfl,m,Y,G,h⟩
end
section
variable {B:Nat}{w w' w'':ax}
end
section
variable {w0 w w':ax}{mb bb vb fb:Nat}{s:cQ}{va vn vr:Value}{m:List dT}
end
section
variable {w0 w:ax}{mb bb vb fb:Nat}{s:cQ}{va vn vr:Value}{m:List dT}
end
section
variable {w0 w3 wr:ax}{mb bb vb fb:Nat}{vr va vn:Value}{m1 m':List dT}{P:List (Int×Int)×cQ}{la:Option Addr}{lc:Nat}
end
section
variable {rp rb:Nat}{b_ bZ:Int}{F:Nat->Prop}{s:ck}{w:ax}
end
namespace pR
def begins (n:Nat):Code->Bool
 |.region m _ _=>m==n
 |.seq a _=>begins n a
 |_=>false
def find (n:Nat):Code->Option Code
 |.seq a b=>match begins n a with
  |true=>some (.seq a b)
  |false=>match find n a with
   |some c=>some c
   |none=>find n b
 |.cond _ a b=>match find n a with
  |some c=>some c
  |none=>find n b
 |.block _ c=>find n c
 |.loop c=>find n c
 |.scope c=>find n c
 |_=>none
theorem gy {c:Type}(l:List c)(i:Nat)(a b:c):(l.set i a).set i b=l.set i b:=Z
section
variable {rp rb:Nat}{b_ bZ:Int}{F F':Nat->Prop}{s:ck}{w wr:ax}{Kc:Option Addr}{ci j:Nat}{L:List Bool}
end
section
variable {rp rb:Nat}{b_ bZ:Int}{F:Nat->Prop}{s:ck}{w:ax}
end
end pR
namespace dU
def begins:=pR.begins
abbrev find:=pR.find
section
variable {w0 w3 wb:ax}{mb bb vb fb:Nat}{vr:Value}
end
end dU
namespace pR
section
variable {rp rb:Nat}{b_ bZ:Int}{F:Nat->Prop}{s:ck}{w:ax}
end
end pR
namespace dU
section
variable {w0 w3 wb:ax}{mb bb vb fb:Nat}{vr:Value}
end
end dU
namespace dU
section
variable {w0 w:ax}{mb bb vb fb rp:Nat}{s:cQ}{va vn vr:Value}{m:List dT}{T:List cD}{wt:List b7}{n':Nat}
end
end dU
namespace dU
section
variable {w:ax}{rp:Nat}{T:List cD}{wt:List b7}{l:List (Int×Int)}{ra:Option Addr}{rc:Nat}
end
end dU
end Go.Proofs.YtpkjkjhanlbcoaaGreat
