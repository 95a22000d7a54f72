import Derived.Test.YtpkjkjhanlbcoaaGreatJ24
namespace Go.Proofs.YtpkjkjhanlbcoaaGreat
set_option maxRecDepth 100000
set_option maxHeartbeats 8000000
open Tryz
open Go.RowKit W Kp cf
theorem Bw (k:ce):∀(l:List Int)(s:cj),(l.foldl k.eF s).rs=s.rs
 |[],_=>rfl
 |x::l,s=>by rw[a8,Bw k l];unfold ce.eF;split<;>rfl
theorem Bx (k:ce):∀(l:List Int)(s:cj),(l.foldl k.gB s).rs=s.rs
 |[],_=>rfl
 |x::l,s=>by rw[a8,Bx k l];rfl
theorem fi.told {k:ce}{s:cj}(ci:CI k s)(eS:Fo k s){q0 q:List b7}(h:fi k s q0 q)(p:Int->Bool):(q.filter (fun e=>p e.1)).map (fun e=>(k.nw s e.1,k.nw s e.2))=(q0.filter (fun e=>p e.1)).map (fun e=>(k.nw s e.1,k.nw s e.2)):=by
 have c:q.map (fun e=>(e.1,k.nw s e.2))=q0.map (fun e=>(e.1,k.nw s e.2)):=by
  refine vv (0,0) (by rw[aW,aW,h.len]) (fun n hn=>?_)
  rw[aW] at hn;have b:n<q0.length:=by rw[<-h.len];exact hn
  obtain⟨d,f⟩:=h.eq n b;rw[j6 (fun e:b7=>(e.1,k.nw s e.2)) q n (0,0) (0,0) hn,j6 (fun e:b7=>(e.1,k.nw s e.2)) q0 n (0,0) (0,0) b,d,Bq ci eS f]
 have key:∀l:List b7,(l.filter (fun e=>p e.1)).map (fun e=>(k.nw s e.1,k.nw s e.2))=((l.map (fun e=>(e.1,k.nw s e.2))).filter (fun e=>p e.1)).map (fun e=>(k.nw s e.1,e.2)):=fun l=>by rw[lK (fun e:b7=>(e.1,k.nw s e.2)) (fun e=>p e.1) (fun e=>p e.1) l (fun _ _=>rfl),List.map_map];rfl
 rw[key q,key q0,c]
section
variable {a:Wc}{S:cq}{W:ck}{m:Nat->Int}{Y G:List Int}
def ga (a:Wc)(S:cq)(m:Nat->Int)(G:List Int)(i:Nat):Int:=if m i∈G then m i else(S.s4 a).f (m i)
theorem cy.KI (hR:cy a S W m Y G)(hb:cI a S.s)(hr:S.s.y<=a.O-S.s.g){g:List Bool->List Bool}(hg:dR W.T W.wt g):
 ∃K,rP a S W m (W.c0 g false) (W.cR g false).1 (W.cR g false).2.1 ⟨⟨0,(S.s6 a).g,(S.s6 a).ws,[],(S.s6 a).rs⟩,(S.s.k0 a).sR (S.t3 a) S.r,(S.s.k0 a).je (S.t3 a) S.r⟩ (ga a S m G) (G++K):=by
 obtain⟨D,hc,h0⟩:=jp.start hR hb hr hg;have hs:=jp.settled hR hb hc hg h0;obtain⟨K,li,E⟩:=hs.de.li;have li:=li;have E:=E;obtain⟨am,b4,c⟩:=qQ hR.kv hb hr;have aR:am=K:=by have l2:=(c.li.mi.full.lists (O:=a.O) hb.n1 hb.y1 hb.o1 c.li.mi.ci.hg).2;have ab:=((li.mi.full.lists (O:=a.O) hb.n1 hb.y1 hb.o1 li.mi.ci.hg).2).symm.trans l2;exact(List.append_cancel_left ab).symm
 subst aR;refine⟨am,?_⟩
 have ci:=li.mi.ci;have eS:=li.mi.eS;have R:=hR.fW hb;have hz:∀v,(v∈(S.s.k0 a).T\/v∈(S.s.z0 G).G)->∀i,0<=i->i<pf ((S.s.k0 a).l0 (S.s.z0 G) v)->cY ((S.s.k0 a).l0 (S.s.z0 G) (v+1+i))=true->cg ((S.s.k0 a).l0 (S.s.z0 G) (v+1+i))∈(S.s.k0 a).T\/cg ((S.s.k0 a).l0 (S.s.z0 G) (v+1+i))∈(S.s.z0 G).G:=fun v hv i a0 I ha=>by rw[R] at hv⊢;exact hR.kv.inv.fd v hv i a0 I ha
 have fY:=hs.fY;have ok:=hs.ok;have J:∀i,ct (W.cR g false).1 i->(S.s.k0 a).or (S.s.z0 G) (S.s4 a) (m i) (ga a S m G i):=fun i b=>by
  have ha:=ok.al i b;unfold ga;by_cases d:m i∈G
  ·rw[aI d];exact aK ⟨rfl,d⟩
  ·rw[aG d];have hy:=(hR.mem ha).resolve_right d;exact aJ ⟨by rw[R];exact hy,rfl,((hR.j8 hb _ ha).1 ((fY i ha).2 b)).resolve_left d⟩
 have hcl:gY W.T W.wt (ct (W.cR g false).1):=by
  intro i hi bb v hv l;have an:∀j,ct (W.cR g false).1 j->_/\_:=fun j F=>⟨ok.al j F,(fY j (ok.al j F)).2 F⟩
  obtain⟨q1,s⟩:=hR.vl hb hc hs.de vm i hi (an i bb) v (hv.mono an) l;exact(fY _ q1).1 s
 have bd:dh (S.s.k0 a) (S.t3 a).1 (S.s4 a):=by obtain⟨be,ab,bg⟩:=h0.de.li;obtain⟨_,_,_,cA,_⟩:=cX.eW (k:=S.s.k0 a) (z:=S.s.z0 G) (D:=D) (S.t3 a) S.r be ab bg;exact cA
 have hup:∀i,ct (W.c0 g false) i->ct (W.cR g false).1 i:=fun i hi=>by have ha:=h0.ok.al i hi;exact(fY i ha).1 (pC bd ((h0.fY i ha).2 hi))
 have B:∀i,ct (W.cR g false).1 i->((W.T.getD i t0).1=3\/(W.T.getD i t0).1=4->_=_):=fun i hi q=>hR.two (ok.al i hi) (aJ q)
 have L:∀v,dM W.T v->(v.1=3->ct (W.cR g false).1 v.2.toNat)->(S.s.k0 a).nw (S.s4 a) (wv m v)=wv (ga a S m G) v:=fun v hv b=>by
  by_cases l:v.1=3
  ·have ha:=(hv.t l).2;rw[ir l,ir l];unfold ga;by_cases d:m v.2.toNat∈G
   ·rw[aI d];refine oE ?_;rw[Bool.eq_false_iff];intro hy;exact hR.j7 hb ((hR.oD hb ha).1 hy) d
   ·rw[aG d];have hy:=(hR.mem ha).resolve_right d;have e:=(hR.word hb ha).2.2;rw[rN ((hR.oD hb ha).2 hy) (by rw[e];exact((hR.j8 hb _ ha).1 ((fY _ ha).2 (b l))).resolve_left d),e]
  ·rw[jn l,jn l];refine oE ?_;unfold ce.cK;rw[(nI _ _ (hv.o l)).1];have:(v.1==3)=false:=by simpa using l
   rw[this];rfl
 have vi:∀e,iH W.T e->ct (W.cR g false).1 e.1.toNat->ct (W.cR g false).1 e.2.toNat->((S.s.k0 a).nw (S.s4 a) (we m e).1,(S.s.k0 a).nw (S.s4 a) (we m e).2)=we (ga a S m G) e:=fun e he bi B=>by
  have q1:=L (3,e.1) ⟨fun _=>⟨he.g0,he.g⟩,fun c=>absurd rfl c⟩ (fun _=>bi)
  have s:=L (3,e.2) ⟨fun _=>⟨he.h0,he.h⟩,fun c=>absurd rfl c⟩ (fun _=>B)
  rw[ir rfl,ir rfl] at q1 s;unfold we;exact Prod.ext q1 s
 have lo:∀{p:Int},(a.N:Int)<=p->ld a.N 0 (S.s6 a).g (S.s6 a).ws p=(S.s.k0 a).ld ((S.s.k0 a).be ((S.s.k0 a).mw (S.s4 a) (S.s4 a).wk) ((S.s.k0 a).mw (S.s4 a) (S.s4 a).wk).ep) p:=fun hp=>t7 hp hb.y1;refine
 {
  kv:=⟨c.done hR.kv hb,fun v _ i _ _ _ hy=>(by cases hy)⟩,ok:=ok,cl:=hcl,up:=hup,rr:=hs.r,cc:=hs.c
  rs:=?_,pl:=fun i b=>li.mi.mem (J i b),inj:=fun i j hi F e=>?_,f6:=fun v hv=>?_,hd:=fun i b=>?_,fd:=fun i b k hk=>?_,rg:=?_,wt:=?_}
 ·have bl:(S.s6 a).rs=(S.s4 a).rs:=(Bx _ _ _).trans (Bw _ _ _)
  show(S.s6 a).rs=_;rw[bl];refine vv 0 (by rw[aW,hR.rl];exact c.rl) (fun i hi=>?_)
  have hi:i<12:=by rw[c.rl] at hi;exact hi
  obtain⟨er,hv⟩:=hR.root hi;have hm:=c.rm i hi;rw[er] at hm;rw[Br hm (c.zv i hi),j6 (wv (ga a S m G)) W.rs i (0,0) 0 (by rw[hR.rl];exact hi)];exact L _ hv (hs.r _ (getD_in (by rw[hR.rl];exact hi)))
 ·have o1:=J i hi;have ao:=J j F;rw[<-e] at ao;refine hR.inj i j (ok.al i hi) (ok.al j F) ?_;rcases o1 with⟨a1,a2⟩|⟨a1,a2,M⟩<;>rcases ao with⟨b1,b2⟩|⟨b1,b2,b3⟩
  ·exact a1.trans b1.symm
  ·have q1:=li.mi.kK _ a2;have s:=li.mi.hlo _ (li.mi.fh _ b1 (by rw[b2];exact b3))
   rw[b2] at s;omega
  ·have q1:=li.mi.kK _ b2;have s:=li.mi.hlo _ (li.mi.fh _ a1 (by rw[a2];exact M))
   rw[a2] at s;omega
  ·exact li.mi.inj _ a1 _ b1 (by rw[a2];exact M) (a2.trans b2.symm)
 ·obtain⟨x,o⟩:=li.mi.from hv;have hm:x∈Y\/x∈G:=by
   have:=vg o;rw[R] at this
   exact this
  obtain⟨i,hi,rfl⟩:=hR.f6 x hm;have b:ct (W.cR g false).1 i:=(fY i hi).1 ((hR.j8 hb _ hi).2 (by
   rcases o with⟨a1,a2⟩|⟨a1,a2,M⟩
   ·exact aK (by rw[a1];exact a2)
   ·exact aJ (by rw[a2];exact M)))
  refine⟨i,b,?_⟩
  unfold ga;rcases o with⟨a1,a2⟩|⟨a1,a2,M⟩
  ·rw[aI (by rw[a1];exact a2)];exact a1
  ·rw[R] at a1;rw[aG (hR.j7 hb a1)];exact a2
 ·have o:=J i b;have bn:=li.mi.bd (li.mi.mem o)
  show ld a.N 0 (S.s6 a).g (S.s6 a).ws (ga a S m G i)=_;rw[lo bn.1];exact(KE li E o).1
 ·have o:=J i b;have ha:=ok.al i b;obtain⟨ad,N,_⟩:=hR.parts ha;have Q:(S.s.k0 a).ld (S.s4 a) (ga a S m G i)=ld a.N S.s.y S.s.g S.s.ws (m i):=li.mi.hd _ _ o;have I:(k:Int)<pf ((S.s.k0 a).l0 (S.s.z0 G) (m i)):=by
   show(k:Int)<pf (ld a.N S.s.y S.s.g S.s.ws (m i))
   rw[N];omega
  have bo:(k:Int)<pf ((S.s.k0 a).ld (S.s4 a) (ga a S m G i)):=by rw[Q,N];omega
  have U:∀n,n<(W.T.getD i t0).2.1.length->(S.s.k0 a).l0 (S.s.z0 G) (m i+1+n)=wv m ((W.T.getD i t0).2.1.getD n (0,0)):=fun n hn=>hR.fd i ha n hn;have ag:=li.mi.fd (m i) _ o k (Int.natCast_nonneg k) I;rw[U k hk] at ag;have ap:=hR.fv i ha _ (getD_in (x:=((0,0):Int×Int)) hk)
  show ld a.N 0 (S.s6 a).g (S.s6 a).ws (ga a S m G i+1+k)=_;have hN:(a.N:Int)<=ga a S m G i:=(li.mi.bd (li.mi.mem o)).1;rw[lo V,KD li E o (Int.natCast_nonneg k) I,mJ b (B i b) hk];have lost:(W.T.getD i t0).1=3\/(W.T.getD i t0).1=4->(dH (W.cR g false).1 ((W.T.getD i t0).2.1.getD 0 (0,0))=false↔(S.s.k0 a).ls (S.s4 a) (wv m ((W.T.getD i t0).2.1.getD 0 (0,0)))=true):=fun q=>by
   have l2:=B i b q;have ai:=hR.fv i ha _ (getD_in (x:=((0,0):Int×Int)) (show 0<(W.T.getD i t0).2.1.length by omega))
   constructor
   ·intro d;obtain⟨ar,bp⟩:=mf d;have br:=(ai.t ar).2;have:¬(S.s.k0 a).al (S.s4 a) (ew 3 (m ((W.T.getD i t0).2.1.getD 0 (0,0)).2.toNat))=true:=fun w=>by
     have:=(fY _ br).1 w;unfold ct at this
     rw[bp] at this
     cases this
    rw[ir ar];unfold ce.al at this
    simpa using this
   ·intro d;obtain⟨t,_⟩:=hR.rM hb ai (mH d)
    rw[ir t] at d;rw[Bu t];cases w:(W.cR g false).1.getD ((W.T.getD i t0).2.1.getD 0 (0,0)).2.toNat false
    ·rfl
    ·have:=(fY _ (ai.t t).2).2 w;unfold ce.al at this
     rw[d] at this
     cases this
  have met:(W.T.getD i t0).1=3\/(W.T.getD i t0).1=4->(S.s.k0 a).ls (S.s4 a) (wv m ((W.T.getD i t0).2.1.getD 0 (0,0)))=true->(S.s.k0 a).ld (S.s4 a) (ga a S m G i+1+0)=wv m ((W.T.getD i t0).2.1.getD 0 (0,0))/\((W.T.getD i t0).1=3->ga a S m G i∈(S.s4 a).wk)/\((W.T.getD i t0).1=4->ga a S m G i∈(S.s4 a).ep):=fun q d=>by
   have l2:=B i b q;have al:(0:Int)<pf ((S.s.k0 a).l0 (S.s.z0 G) (m i)):=by
    show(0:Int)<pf (ld a.N S.s.y S.s.g S.s.ws (m i))
    rw[N];omega
   have j2:(0:Int)<pf ((S.s.k0 a).ld (S.s4 a) (ga a S m G i)):=by rw[Q,N];omega
   have aF:=li.mi.fd (m i) _ o 0 (Int.le_refl 0) al;have ex:(S.s.k0 a).l0 (S.s.z0 G) (m i+1+0)=wv m ((W.T.getD i t0).2.1.getD 0 (0,0)):=U 0 V;rw[ex] at aF;have A:(S.s.k0 a).ld (S.s4 a) (ga a S m G i+1+0)=wv m ((W.T.getD i t0).2.1.getD 0 (0,0)):=by
    rcases aF with w|⟨_,w,_⟩
    ·exact w
    ·exact absurd (ce.mY d).2.2 w
   have f:=li.fields hs.de.he hz hc (li.mi.mem o) (Int.le_refl 0) j2 (by rw[A];exact(ce.mY d).1)
   rw[Q,ad] at f;refine⟨A,fun t=>?_,fun C=>?_⟩
   ·rcases f with w|⟨_,_,w⟩|⟨w,_⟩
    ·have:=li.mi.om w;rw[A,mH d] at this
     cases this
    ·exact w
    ·omega
   ·rcases f with w|⟨w,_,_⟩|⟨_,w⟩
    ·have:=li.mi.om w;rw[A,mH d] at this
     cases this
    ·omega
    ·exact w
  by_cases H:ga a S m G i∈(S.s4 a).ep
  ·have C:(W.T.getD i t0).1=4:=by
    have:=(E.ep _ H).2;rw[Q,ad] at this
    exact this
   have l2:=B i b (aJ C)
   have u:=hs.de.ep _ H;have u:=u;have al:(0:Int)<pf ((S.s.k0 a).l0 (S.s.z0 G) (m i)):=by
    show(0:Int)<pf (ld a.N S.s.y S.s.g S.s.ws (m i))
    rw[N];omega
   have bs:ga a S m G i+1+0=ga a S m G i+1:=V;rw[<-bs] at u;have ea:=li.mi.rL o (Int.le_refl 0) al (mH u)
   have ex:(S.s.k0 a).l0 (S.s.z0 G) (m i+1+0)=wv m ((W.T.getD i t0).2.1.getD 0 (0,0)):=U 0 V;rw[ea,ex] at u;rw[aI H,aI ⟨⟨aJ C,(lost (aJ C)).2 u⟩,by
    rcases(show k=0\/k=1 by omega) with e|e
    ·exact aK e
    ·exact aJ ⟨C,e⟩⟩,vx]
  ·rw[aG H];by_cases X:ga a S m G i∈(S.s4 a).wk/\(k:Int)=0
   ·obtain⟨hw,b5⟩:=X;have t:(W.T.getD i t0).1=3:=by
     have:=(E.wk _ hw).2;rw[Q,ad] at this
     exact this
    have e7:k=0:=V;subst e7;rw[aI ⟨hw,rfl⟩];cases u:dH (W.cR g false).1 ((W.T.getD i t0).2.1.getD 0 (0,0))
    ·have q:=(lost (aK t)).1 u;have A:=(met (aK t) q).1;have A:(S.s.k0 a).ld (S.s4 a) (ga a S m G i+1+((0:Nat):Int))=wv m ((W.T.getD i t0).2.1.getD 0 (0,0)):=A;rw[aI ⟨⟨aK t,rfl⟩,aK rfl⟩,vx,A];unfold ce.cG;rw[aI q]
    ·rw[aG (fun q=>by have:=q.1.2;simp at this)];have bt:(S.s.k0 a).ls (S.s4 a) ((S.s.k0 a).ld (S.s4 a) (ga a S m G i+1+((0:Nat):Int)))=false:=by rw[Bool.eq_false_iff];intro w;rw[(li.mi.rL o (Int.natCast_nonneg 0) I (mH w)),U 0 hk] at w;rw[(lost (aK t)).2 w] at u;cases u
     unfold ce.cG;rw[bt,aG Z,Bq ci eS ag];refine L _ ap (fun l=>?_)
     exact nk u l
   ·rw[aG X];have bx:(S.s.k0 a).cK ((S.s.k0 a).ld (S.s4 a) (ga a S m G i+1+k))=false:=by
     cases hab:cY ((S.s.k0 a).ld (S.s4 a) (ga a S m G i+1+k))
     ·unfold ce.cK;rw[hab];rfl
     ·rcases li.fields hs.de.he hz hc (li.mi.mem o) (Int.natCast_nonneg k) bo hab with w|⟨_,w1,bY⟩|⟨_,w⟩
      ·exact li.mi.om w
      ·exact absurd ⟨bY,w1⟩ X
      ·exact absurd w H
    have nb:¬((((W.T.getD i t0).1=3\/(W.T.getD i t0).1=4)/\dH (W.cR g false).1 ((W.T.getD i t0).2.1.getD 0 (0,0))=false)/\(k=0\/((W.T.getD i t0).1=4/\k=1))):=by
     rintro⟨⟨q1,s⟩,q3⟩
     obtain⟨_,bZ,b0⟩:=met q1 ((lost q1).1 s)
     rcases q1 with t|C
     ·rcases q3 with e|⟨e,_⟩
      ·exact X ⟨bZ t,V⟩
      ·omega
     ·exact H (b0 C)
    rw[aG nb,Br ag bx];refine L _ ap (fun l=>?_)
    have hl:=hR.led ok hcl b hk;rw[mJ b (B i b) hk,aG nb] at hl;exact hl l
 ·show(((S.r.filter (fun e=>(S.s.k0 a).al (S.t3 a).1 e.2)).filter (fun e=>(S.s.k0 a).al (S.s4 a) e.1)).map (fun e=>((S.s.k0 a).nw (S.s4 a) e.1,(S.s.k0 a).nw (S.s4 a) e.2)))=_;rw[hR.rg,List.filter_filter];rw[lK (we m) _ (fun e=>cL (W.c0 g false) e.2&&cL (W.cR g false).1 e.1) W.rg (fun e he=>by have q1:(S.s.k0 a).al (S.t3 a).1 (we m e).2=cL (W.c0 g false) e.2:=h0.is (hR.gv e he).h;have s:(S.s.k0 a).al (S.s4 a) (we m e).1=cL (W.cR g false).1 e.1:=hs.is (hR.gv e he).g;rw[q1,s,Bool.and_comm]),List.map_map];exact Bj
 ·show((((S.s.k0 a).eW (S.t3 a) S.r).2.filter (fun e=>(S.s.k0 a).al (S.s4 a) e.1)).map (fun e=>((S.s.k0 a).nw (S.s4 a) e.1,(S.s.k0 a).nw (S.s4 a) e.2)))=_;rw[hs.de.q.told ci eS ((S.s.k0 a).al (S.s4 a))];have hE:∀e∈W.wt++(W.cR g false).2.1,iH W.T e:=fun e he=>by
   rcases List.mem_append.1 he with d|d
   ·exact hR.dy e d
   ·exact hR.gv e (hs.c e d).1
  rw[lK (we m) _ (fun e=>cL (W.cR g false).1 e.1) _ (fun e he=>hs.is (hE e he).g),List.map_map];exact Bg
theorem cy.By (d:cy a S W m Y G)(hb:cI a S.s){g:List Bool->List Bool}(hg:dR W.T W.wt g):S.full a=W.cF g a.O false:=by
 have b:=d.us hb;have e:=hb.g1;unfold cq.full ck.cF;rw[b];by_cases c:a.O-S.s.g<S.s.y
 ·rw[bh c,bh (show(a.O:Int)-(S.s.g:Int)<(S.s.y:Int) by omega)];rfl
 ·rw[bu c,bu (show¬(a.O:Int)-(S.s.g:Int)<(S.s.y:Int) by omega)];obtain⟨D,hc,h0⟩:=jp.start d hb V hg;have f:fU (fun i=>(W.cR g false).1.getD i false) (iI W.T) W.T.length<=fU (fun i=>jo W.T i||oB W.T i) (iI W.T) W.T.length:=Ba _ (fun i hi hp=>by unfold jo oB;rw[((jp.settled d hb hc hg h0).ok.al i hp).2];cases (W.T.getD i t0).2.2.1<;>rfl)
  have j:=Bb (R:=fun i=>jo W.T i||oB W.T i) (z:=iI W.T) W.T.length (fun i _=>⟨rfl,by unfold jo oB;cases (W.T.getD i t0).2.2.2<;>cases (W.T.getD i t0).2.2.1<;>rfl⟩)
  rw[Be] at b;have k:=congrArg Prod.fst b;have l:=congrArg Prod.snd b;rw[bu (by rw[(vf W.T (W.cR g false).1 W.T.length)];omega)];rfl
theorem cy.Bz (b:cy a S W m Y G)(hb:cI a S.s){g:List Bool->List Bool}(hg:dR W.T W.wt g):S.code a=W.gO g a.O false:=by unfold cq.code ck.gO;rw[b.By hb hg]
theorem cy.cut (b:cy a S W m Y G)(hb:cI a S.s){g:List Bool->List Bool}(hg:dR W.T W.wt g):∃d e f,cy a (S.cut a) (W.cut g a.O false) d e f:=by
 unfold ck.cut;rw[<-b.By hb hg];cases hf:S.full a
 ·rw[aG Z];have hr:S.s.y<=a.O-S.s.g:=by exact qr
  obtain⟨K,c⟩:=b.KI hb hr hg;unfold cq.cut;rw[hf,aG Z];exact⟨_,_,_,c.done b⟩
 ·refine⟨m,Y,G,?_⟩
  unfold cq.cut;rw[hf,aI rfl];exact b
end
theorem BA (rs:List Int)(y:Nat)(ws:List Int)(rl:List Nat):∀k,(iC rs y ws rl k).length=ws.length
 |0=>rfl
 |k+1=>by show((iC rs y ws rl k).set _ _).length=_;rw[a3];exact BA rs y ws rl k
theorem rQ (rs:List Int)(y:Nat)(ws:List Int)(rl:List Nat):∀k,y+k<ws.length->∀q,(iC rs y ws rl k).getD q 0=if y+1<=q/\q<y+1+k then rs.getD (rl.getD (q-y-1) 0) 0 else ws.getD q 0
 |0,_,q=>by rw[aG V];rfl
 |k+1,h,q=>by
  show((iC rs y ws rl k).set _ _).getD q 0=_;rw[pP _ _ _ _ _ (by rw[BA];omega),rQ rs y ws rl k V q];by_cases c:y+1+k=q
  ·rw[aI c,aI V,show q-y-1=k by omega]
  ·rw[aG c];by_cases b:y+1<=q/\q<y+1+k
   ·rw[aI b,aI V]
   ·rw[aG b,aG V]
theorem KJ (W:ck)(g:gP)(b_ bZ m:Int):(W.room g b_ bZ m).2.rs=W.rs:=by
 unfold ck.room;split
 ·rfl
 ·unfold ck.cut;split<;>rfl
section
variable {a:Wc}{S:cq}{W:ck}{m:Nat->Int}{Y G:List Int}{j:Nat}{g:gP}
theorem cy.made (h:cy a S W m Y G)(hb:cI a S.s){kd:Int}{rl:List Nat}(hk:hc kd rl.length=0)(hr:S.s.y+1+rl.length<=a.N)(g:∀q∈rl,q<12):
 cy a (S.put a kd rl) {W with T:=W.T++[(kd,rl.map (fun q=>W.rs.getD q (0,0)),false,false)]} (nF m W.T.length S.s.y) (Y++[(S.s.y:Int)]) G:=by
 have p:=uh h.kv hb hk hr rl.length bW
 have c:(rl.map (fun q=>W.rs.getD q (0,0))).length=rl.length:=aW ..;have hl:=hb.l1;have i:iL a.N S.s.y kd rl.length=true:=by unfold iL;simp;omega
 have d:fq a.N S.s.y kd rl.length S.s.ws=fD S.s.ws S.s.y (hw kd rl.length) rl.length:=by unfold fq;rw[aI i];rfl
 have e:(fq a.N S.s.y kd rl.length S.s.ws).length=S.s.ws.length:=by rw[d,ug]
 have b:S.s.y+rl.length<S.s.ws.length:=V;have keep:∀q:Int,((0<=q/\q<S.s.y)\/((a.N:Int)<=q/\q<a.N+S.s.g))->ld a.N (S.s.y+1+rl.length) S.s.g (iC S.s.rs S.s.y (fq a.N S.s.y kd rl.length S.s.ws) rl rl.length) q=ld a.N S.s.y S.s.g S.s.ws q:=fun q hq=>by
  rcases hq with⟨q0,q1⟩|⟨q0,q1⟩
  ·rw[dY (iM q0 V),dY (iM q0 q1),rQ _ _ _ _ _ (by rw[e];exact b),aG V,d,k_ _ _ _ _ _ b,aG V,aG V]
  ·rw[dY (h7 q0 q1),dY (h7 q0 q1),rQ _ _ _ _ _ (by rw[e];exact b),aG V,d,k_ _ _ _ _ _ b,aG V,aG V]
 refine h.new (by rw[c];exact hk) (fun v hv=>?_) rfl hr p.k (by rw[c];exact p.p) (fun k hk=>?_) p.h (fun v hv k hk=>?_)
 ·obtain⟨q,hq,rfl⟩:=List.mem_map.1 hv;exact(h.root (g q hq)).2
 ·rw[c] at hk;show ld a.N (S.s.y+1+rl.length) S.s.g (iC S.s.rs S.s.y (fq a.N S.s.y kd rl.length S.s.ws) rl rl.length) _=_;rw[dY (iM V V),rQ _ _ _ _ _ (by rw[e];exact b),aI V,j6 (fun q=>W.rs.getD q (0,0)) rl k 0 (0,0) hk,<-(h.root (g _ (getD_in hk))).1,show((S.s.y:Int)+1+k).toNat-S.s.y-1=k by omega]
 ·exact keep _ (hv.imp (fun f=>m_ h.kv.inv.full f (Int.natCast_nonneg k) hk) (fun f=>na h.kv.inv.full f (Int.natCast_nonneg k) hk))
theorem cy.KK (h:cy a S W m Y G)(hb:cI a S.s)(hg:∀T wt,e4 T wt->dR T wt (g T wt))(mm:Int):(S.room a mm).1=(W.room g a.N a.O mm).1/\∃e f i,cy a (S.room a mm).2 (W.room g a.N a.O mm).2 e f i:=by
 have b:=hg _ _ h.iv;unfold cq.room ck.room;rw[h.us hb];by_cases c:mm<=(a.N:Int)-S.s.y
 ·rw[aI c,aI c];exact⟨rfl,m,Y,G,h⟩
 ·rw[aG c,aG c];by_cases d:(S.s.y:Int)<=(a.O:Int)-S.s.g
  ·rw[aI d,bu V];exact⟨h.Bz hb b,h.cut hb b⟩
  ·rw[aG d,bh V];exact⟨h.ij hb b,h.dz hb b⟩
def mK (a:Wc)(t:Int×Int×cq)(b:(Int×Int)×Int×ck):Prop:=t.2.1=b.2.1/\∃c d e,cy a t.2.2 b.2.2 c d e/\(t.2.1=0->t.1=wv c b.1/\dM b.2.2.T b.1)
theorem cy.grown (h:cy a S W m Y G)(ok:dW a S j)(hb:cI a S.s)(hg:∀T wt,e4 T wt->dR T wt (g T wt)){kd:Int}{rl:List Nat}(hk:hc kd rl.length=0)(i:∀q∈rl,q<12):mK a (S.bZ a kd rl) (W.bZ g a.N a.O kd (rl.map (fun q=>W.rs.getD q (0,0)))):=by
 obtain⟨b,k,l,n,f⟩:=h.KK hb hg _;obtain⟨ok',o,hr,_⟩:=ok.room hb _;have hl:=iS kd rl.length hk;unfold mK cq.bZ ck.bZ;rw[aW];by_cases c:(S.room a (1+rl.length)).1=0
 ·rw[aI c,aI (b.symm.trans c)];rw[<-(KJ W g a.N a.O (1+rl.length))];refine⟨rfl,_,_,_,(f.made o hk (by have:=hr c V;omega) i),fun _=>⟨?_,⟨fun _=>⟨by dsimp only;omega,?_⟩,fun e=>absurd rfl e⟩⟩⟩
  ·rw[ir rfl];unfold nF;simp
  ·have:=(A9 (t:=(kd,rl.map (fun q=>(W.room g a.N a.O (1+rl.length)).2.rs.getD q (0,0)),false,false)) rfl (W.room g a.N a.O (1+rl.length)).2.T.length).2 (aJ rfl)
   simpa[ck.put] using this
 ·rw[aG c,aG (fun d=>c (b.trans d))];exact⟨b,k,l,n,f,fun d=>absurd d c⟩
theorem cy.kx (h:cy a S W m Y G)(hb:cI a S.s){v:Int×Int}(hv:dM W.T v):(S.kx a (wv m v)=5↔iG W.T v=true)/\((S.ex a (wv m v)=0/\S.kx a (wv m v)≠5)↔jE W.T v=true)/\(S.ex a (wv m v)=0↔v.1=3)/\(v.1≠3->S.ex a (wv m v)=2)/\(v.1=3->S.fx a (wv m v)=((W.T.getD v.2.toNat t0).2.1.length:Int)):=by
 rw[q8,jF];unfold cq.kx cq.ex cq.fx;rw[h.tB hb hv];by_cases c:v.1=3
 ·have d:(v.1==3)=true:=by simpa using c
  obtain⟨e,f,g⟩:=h.parts (hv.t c).2;rw[d,aI rfl,aI rfl,aI rfl,(h.vt hb hv c).2,e,f,g];exact⟨⟨fun b=>⟨c,b⟩,fun b=>b.2⟩,⟨fun b=>⟨c,b.2⟩,fun b=>⟨rfl,b.2⟩⟩,⟨fun _=>c,fun _=>rfl⟩,fun b=>absurd c b,fun _=>rfl⟩
 ·have d:(v.1==3)=false:=by simpa using c
  rw[d,aG Z,aG Z,aG Z];exact⟨⟨fun b=>absurd b aa,fun b=>absurd b.1 c⟩,⟨fun b=>absurd b.1 aa,fun b=>absurd b.1 c⟩,⟨fun b=>absurd b aa,fun b=>absurd b c⟩,fun _=>rfl,fun b=>absurd b c⟩
theorem cy.BB (h:cy a S W m Y G){A:Nat}(d:A<12)(I:Int):W.fc (W.rs.getD A (0,0)) I=W.gc A I:=by
 obtain⟨_,hv⟩:=h.root d;unfold ck.fc ck.gc ck.th;by_cases c:(W.rs.getD A (0,0)).1=3
 ·rw[aI c];by_cases c5:(W.T.getD (W.rs.getD A (0,0)).2.toNat t0).1=5
  ·rw[aG (fun b=>(jF.1 b).2 c5),aI (aJ (show(W.T.getD (W.rs.getD A (0,0)).2.toNat (0,[],false,false)).1=5 from c5))]
  ·have e:¬((W.rs.getD A (0,0)).2<0\/(W.T.getD (W.rs.getD A (0,0)).2.toNat (0,[],false,false)).1=5):=fun b=>b.elim (fun b=>absurd (hv.t c).1 V) c5;rw[aI (jF.2 ⟨c,c5⟩),aG e];rfl
 ·rw[aG c,aG (fun b=>c (jF.1 b).1),aI (aK aa)]
theorem cy.cO (h:cy a S W m Y G)(hb:cI a S.s){v:Int×Int}(hv:dM W.T v)(g:v.1=3):dO (wv m v) S.q=dO v.2 W.wt:=by
 unfold dO;rw[h.wt,List.findIdx_map];have b:∀e∈W.wt,((we m e).1==wv m v)=(e.1==v.2):=fun e he=>by
  have ho:=h.dy e he;have i:dM W.T (3,e.1):=⟨fun _=>⟨ho.g0,ho.g⟩,fun d=>absurd rfl d⟩
  have f:(we m e).1=wv m (3,e.1):=ac;rw[f];by_cases c:e.1=v.2
  ·have:((3,e.1):Int×Int)=v:=by rw[<-g,c]
   rw[this,c];simp
  ·have n1:_:=fun d=>c (by have:=h.A8 hb i hv d;rw[<-this])
   rw[beq_eq_false_iff_ne.2 n1,beq_eq_false_iff_ne.2 c]
 generalize W.wt=l at b
 induction l with
 |nil=>rfl
 |cons e l j=>
  rw[List.findIdx_cons,List.findIdx_cons];have f:((fun e=>e.1==wv m v)∘we m) e=(e.1==v.2):=b e List.mem_cons_self;rw[f,j (fun x k=>b x (aN _ k))]
theorem cy.popped (h:cy a S W m Y G)(hb:cI a S.s){v:Int×Int}(hv:dM W.T v):mK a (S.pop a (wv m v)) (W.pop v):=by
 obtain⟨k1,_⟩:=h.kx hb hv;unfold mK cq.pop ck.pop;by_cases c:iG W.T v=true
 ·rw[aI (k1.2 c),aI c,h.cO hb hv (q8.1 c).1];have f:S.q.length=W.wt.length:=by rw[h.wt,aW]
  rw[f];generalize dO v.2 W.wt=i;by_cases b:i<W.wt.length
  ·rw[aI b,aI b];have ho:=h.dy _ (getD_in (x:=(0,0)) b)
   refine⟨rfl,m,Y,G,?_,fun _=>⟨?_,⟨fun _=>⟨ho.h0,ho.h⟩,fun e=>absurd rfl e⟩⟩⟩
   ·have d:=h.beside (q:=W.wt.take i++W.wt.drop (i+1)) h.gv (fun e he=>h.dy e ((List.mem_append.1 he).elim (fun b=>bA b) (fun b=>List.mem_of_mem_drop b)))
    rw[List.map_append,List.map_take,List.map_drop,<-h.rg,<-h.wt] at d;exact d
   ·show(S.q.getD i (0,0)).2=wv m (3,(W.wt.getD i (0,0)).2)
    rw[h.wt,j6 (we m) W.wt i (0,0) (0,0) b,ir rfl];rfl
  ·rw[aG b,aG b];exact⟨rfl,m,Y,G,h,fun e=>absurd (show(4:Int)=0 from e) aa⟩
 ·rw[aG (fun b=>c (k1.1 b)),aG c];exact⟨rfl,m,Y,G,h,fun e=>absurd (show(2:Int)=0 from e) aa⟩
theorem cy.KL (h:cy a S W m Y G)(hb:cI a S.s){v:Int×Int}(hv:dM W.T v):mK a (S.len a (wv m v)) (if jE W.T v=true then((1,((W.T.getD v.2.toNat t0).2.1.length:Int)),0,W) else((0,0),2,W)):=by
 obtain⟨_,b,_,_,k5⟩:=h.kx hb hv;unfold mK cq.len;by_cases c:jE W.T v=true
 ·have hl:=h.tl v.2.toNat;have ev:vc 1 ((W.T.getD v.2.toNat t0).2.1.length:Int)=0:=by generalize (W.T.getD v.2.toNat t0).2.1.length=n at hl;have:∀n:Fin 13,vc 1 ((n.val:Nat):Int)=0:=aa;exact this ⟨n,V⟩
  rw[aI (b.2 c),aI c,k5 (jF.1 c).1];exact⟨ev,m,Y,G,h,fun _=>⟨by rw[jn (show(1:Int)≠3 by decide)],dM.of aa ev⟩⟩
 ·rw[aG (fun d=>c (b.1 d)),aG c];exact⟨rfl,m,Y,G,h,fun e=>absurd (show(2:Int)=0 from e) aa⟩
theorem cy.got (h:cy a S W m Y G)(hb:cI a S.s){A:Nat}(b:A<12)(I:Int):mK a ((if el a.N S.s.y S.s.g S.s.ws (S.s.rs.getD A 0) I=0 then ld a.N S.s.y S.s.g S.s.ws (cg (S.s.rs.getD A 0)+1+I) else 0),el a.N S.s.y S.s.g S.s.ws (S.s.rs.getD A 0) I,S)
 ((if W.fc (W.rs.getD A (0,0)) I=0 then(W.T.getD (W.rs.getD A (0,0)).2.toNat t0).2.1.getD I.toNat (0,0) else(0,0)),W.fc (W.rs.getD A (0,0)) I,W):=by
 have code:=h.code hb b I;rw[h.BB b];refine⟨code,m,Y,G,h,fun e=>?_⟩
 have c:=e;obtain⟨er,hv⟩:=h.root b;obtain⟨d,i,t3,g⟩:=m8 c;rw[er,h.tB hb hv] at d;have c3:(W.rs.getD A (0,0)).1=3:=by simpa using d
 obtain⟨z,al⟩:=hv.t c3;rw[er,(h.vt hb hv c3).2,h.kv.inv.full.stands hb.y1 (h.mem al),(h.parts al).2.1] at g;have hB:I.toNat<(W.T.getD (W.rs.getD A (0,0)).2.toNat t0).2.1.length:=V;have f:=h.fd _ al I.toNat hB;rw[Int.toNat_of_nonneg t3] at f;rw[aI c,aI (code.symm.trans c),er,(h.vt hb hv c3).2];exact⟨f,h.fv _ al _ (getD_in hB)⟩
end
section
variable {a:Wc}{S:cq}{W:ck}{m:Nat->Int}{Y G:List Int}{j:Nat}{g:gP}
def nH (a:Wc)(t:Int×cq)(b:Int×ck):Prop:=t.1=b.1/\∃c d e,cy a t.2 b.2 c d e
theorem cy.KM (h:cy a S W m Y G)(hb:cI a S.s){v b:Int×Int}(hv:dM W.T v)(g:dM W.T b):nH a (S.reg a (wv m v) (wv m b)) (W.reg v b):=by
 obtain⟨_,_,j,l,_⟩:=h.kx hb hv;obtain⟨k1,_⟩:=h.kx hb g;have n:S.r.length+S.q.length=W.rg.length+W.wt.length:=by rw[h.rg,h.wt,aW,aW]
 unfold nH cq.reg ck.reg;rw[n];by_cases c:v.1=3
 ·rw[aI (j.2 c)];by_cases d:iG W.T b=true
  ·rw[aI (k1.2 d),aI (show v.1=3/\iG W.T b=true from⟨c,d⟩)];by_cases f:24<=W.rg.length+W.wt.length
   ·rw[aI f,aI f];exact⟨rfl,m,Y,G,h⟩
   ·rw[aG f,aG f];obtain⟨i,o⟩:=q8.1 d;have p:iH W.T (b.2,v.2):=⟨(g.t i).1,(g.t i).2,o,(hv.t c).1,(hv.t c).2⟩
    have k:=h.beside (fun e he=>by
     rcases List.mem_append.1 he with q|q
     ·exact h.gv e q
     ·rw[List.mem_singleton.1 q];exact p) h.dy
    have s:(W.rg++[(b.2,v.2)]).map (we m)=S.r++[(wv m b,wv m v)]:=by rw[List.map_append,<-h.rg,ir c,ir i];rfl
    rw[s,<-h.wt] at k;exact⟨rfl,m,Y,G,k⟩
  ·rw[aG (fun q=>d (k1.1 q)),aG (fun q=>d q.2)];exact⟨rfl,m,Y,G,h⟩
 ·rw[aG (fun q=>c (j.1 q)),aG (fun q=>c q.1),l c];exact⟨rfl,m,Y,G,h⟩
theorem cy.KN (h:cy a S W m Y G)(hb:cI a S.s){A B:Nat}(b:A<12)(hB:B<12)(I:Int):nH a (el a.N S.s.y S.s.g S.s.ws (S.s.rs.getD A 0) I,S.set a (S.s.rs.getD A 0) I (S.s.rs.getD B 0)) (W.set (W.rs.getD A (0,0)) I (W.rs.getD B (0,0))):=by
 have code:=h.code hb b I;unfold nH ck.set cq.set;rw[h.BB b];refine⟨code,m,Y,G,?_⟩
 by_cases c0:W.gc A I=0
 ·rw[aI c0];have c:=code.trans c0;obtain⟨er,hv⟩:=h.root b;obtain⟨g,i⟩:=h.root hB;obtain⟨d,l,t3,f⟩:=m8 c;rw[er,h.tB hb hv] at d;have c3:(W.rs.getD A (0,0)).1=3:=by simpa using d
  obtain⟨z,al⟩:=hv.t c3;rw[er,(h.vt hb hv c3).2,h.kv.inv.full.stands hb.y1 (h.mem al),(h.parts al).2.1] at f;have hw:gg a.N S.s.y S.s.g S.s.ws (S.s.rs.getD A 0) I (S.s.rs.getD B 0)=S.s.ws.set (m (W.rs.getD A (0,0)).2.toNat+1+(I.toNat:Nat)).toNat (wv m (W.rs.getD B (0,0))):=by unfold gg;rw[aI c,er,(h.vt hb hv c3).2,g];rw[aI (jS h.kv.inv.full (h.mem al) t3 (by rw[(h.parts al).2.1];exact f)),Int.toNat_of_nonneg t3]
  exact h.store hb al V i hw (h.kv.set hb A B b I hB)
 ·rw[aG c0];have c:_:=fun e=>c0 (code.symm.trans e)
  obtain⟨j,k⟩:=oi c;rw[j,k];exact h
theorem KO (n:Nat)(h:n<=12):hc 2 (n:Int)=0:=by have:∀n:Fin 13,hc 2 ((n.val:Nat):Int)=0:=aa;exact this ⟨n,V⟩
theorem cy.rt (h:cy a S W m Y G)(ok:dW a S j)(hb:cI a S.s)(hg:∀T wt,e4 T wt->dR T wt (g T wt)){k R A B n:Int}(I:Int)(p:dJ k R A B n=0):mK a (S.rt a k A.toNat B.toNat I n) (W.rt g a.N a.O k A.toNat B.toNat I n):=by
 have b:c8 k=3\/c8 k=6\/c8 k=7->A.toNat<12:=fun s=>by have:=ly p s;omega
 have hB:c8 k=6\/c8 k=7->B.toNat<12:=fun s=>by have:=l5 p s;omega
 have two:∀q∈[A.toNat,B.toNat],c8 k=7->q<12:=fun q hq s=>by simp at hq;omega
 unfold cq.rt ck.rt;by_cases d:k=1
 ·rw[aI d,aI d];subst d;have ev:=A4 p;exact⟨ev,m,Y,G,h,fun _=>⟨by rw[jn (show(1:Int)≠3 by decide)],dM.of aa ev⟩⟩
 rw[aG d,aG d];by_cases e:k=3
 ·rw[aI e,aI e];subst e;obtain⟨er,hv⟩:=h.root (b aa)
  exact⟨rfl,m,Y,G,h,fun _=>⟨er,hv⟩⟩
 rw[aG e,aG e];by_cases u:k=4
 ·subst u;exact h.grown ok hb hg (show hc 1 2=0 by decide) (fun q hq=>two q hq aa)
 rw[aG u,aG u];by_cases v:k=5
 ·subst v;have hn:=A3 p;have:=h.grown ok hb hg (kd:=2) (rl:=List.replicate n.toNat A.toNat) (by rw[List.length_replicate];exact KO _ V) (fun q hq=>by rw[List.eq_of_mem_replicate hq];exact b aa)
  rw[List.map_replicate] at this
  exact this
 rw[aG v,aG v];by_cases w:k=6
 ·subst w;exact h.grown ok hb hg (show hc 3 2=0 by decide) (fun q hq=>two q hq aa)
 rw[aG w,aG w];by_cases x:k=7
 ·subst x;exact h.grown ok hb hg (show hc 4 2=0 by decide) (fun q hq=>two q hq aa)
 rw[aG x,aG x];by_cases t:k=8
 ·rw[aI t,aI t];exact h.grown ok hb hg aa (fun q hq=>by cases hq)
 rw[aG t,aG t];by_cases f:k=10
 ·rw[aI f,aI f];subst f;obtain⟨er,hv⟩:=h.root (b aa)
  rw[er];exact h.popped hb hv
 rw[aG f,aG f];by_cases i:k=11
 ·rw[aI i,aI i];subst i;exact h.got hb (b aa) I
 rw[aG i,aG i];by_cases l:k=13
 ·rw[aI l,aI l];subst l;obtain⟨er,hv⟩:=h.root (b aa)
  rw[er];exact h.KL hb hv
 rw[aG l,aG l];by_cases o:k=14
 ·rw[aI o,aI o];subst o;obtain⟨er,hv⟩:=h.root (b aa)
  obtain⟨C,D⟩:=h.root (hB aa)
  rw[er,C];by_cases c:W.rs.getD A.toNat (0,0)=W.rs.getD B.toNat (0,0)
  ·rw[aI (by rw[c]),aI c];exact⟨rfl,m,Y,G,h,fun _=>⟨by rw[jn (show(1:Int)≠3 by decide)],dM.of aa aa⟩⟩
  ·rw[aG (fun E=>c (h.A8 hb hv D E)),aG c];exact⟨rfl,m,Y,G,h,fun _=>⟨by rw[jn (show(1:Int)≠3 by decide)],dM.of aa aa⟩⟩
 rw[aG o,aG o];exact⟨rfl,m,Y,G,h,fun _=>⟨by rw[jn (show(0:Int)≠3 by decide),Kt],dM.nil _⟩⟩
theorem cy.hds (h:cy a S W m Y G)(ok:dW a S j)(hb:cI a S.s)(hg:∀T wt,e4 T wt->dR T wt (g T wt))(k R A B I n:Int):nH a (S.hd a k R A B I n) (W.ip g a.N a.O k R A B I n):=by
 have f:=hg _ _ h.iv;unfold cq.hd ck.ip;by_cases b:dJ k R A B n=0
 ·rw[aI b,aI b];have p:c8 k=3\/c8 k=6\/c8 k=7->A.toNat<12:=fun l=>by have:=ly b l;omega
  have hB:c8 k=6\/c8 k=7->B.toNat<12:=fun l=>by have:=l5 b l;omega
  by_cases d:k=9
  ·rw[aI d,aI d];subst d;obtain⟨er,hv⟩:=h.root (p aa)
   obtain⟨E,F⟩:=h.root (hB aa)
   rw[er,E];exact h.KM hb hv F
  rw[aG d,aG d];by_cases e:k=12
  ·rw[aI e,aI e];subst e;exact h.KN hb (p aa) (hB aa) I
  rw[aG e,aG e];by_cases i:k=15
  ·rw[aI i,aI i];exact⟨h.Bz hb f,h.cut hb f⟩
  rw[aG i,aG i];by_cases e16:k=16
  ·rw[aI e16,aI e16];exact⟨h.ij hb f,h.dz hb f⟩
  rw[aG e16,aG e16];have ht:=h.rt ok hb hg I b;obtain⟨o1,q,_⟩:=ok.rt hb A.toNat B.toNat I (uX b)
  generalize S.rt a k A.toNat B.toNat I n=t at*;generalize W.rt g a.N a.O k A.toNat B.toNat I n=H at*;obtain⟨x,cd,J⟩:=t;obtain⟨v,K,L⟩:=H;obtain⟨s,u,w,C,o,D⟩:=ht;dsimp only at s o D q⊢;subst s;by_cases c:cd=0
  ·rw[aI c,aI c];obtain⟨ex,hv⟩:=D c;subst ex;exact⟨rfl,u,w,C,o.put q R.toNat hv⟩
  ·rw[aG c,aG c];exact⟨rfl,u,w,C,o⟩
 ·rw[aG b,aG b];exact⟨rfl,m,Y,G,h⟩
end
section
variable {B:Nat}{w w' w'':ax}
end
section
variable {w0 w w':ax}{mb bb vb fb:Nat}{s:cQ}{va vn vr:Value}{m:List dT}
end
section
variable {w0 w:ax}{mb bb vb fb:Nat}{s:cQ}{va vn vr:Value}{m:List dT}
end
section
variable {w0 w3 wr:ax}{mb bb vb fb:Nat}{vr va vn:Value}{m1 m':List dT}{P:List (Int×Int)×cQ}{la:Option Addr}{lc:Nat}
end
section
variable {rp rb:Nat}{b_ bZ:Int}{F:Nat->Prop}{s:ck}{w:ax}
end
namespace pS
def begins (n:Nat):Code->Bool
 |.region m _ _=>m==n
 |.seq a _=>begins n a
 |_=>false
def find (n:Nat):Code->Option Code
 |.seq a b=>match begins n a with
  |true=>some (.seq a b)
  |false=>match find n a with
   |some c=>some c
   |none=>find n b
 |.cond _ a b=>match find n a with
  |some c=>some c
  |none=>find n b
 |.block _ c=>find n c
 |.loop c=>find n c
 |.scope c=>find n c
 |_=>none
theorem gz {c:Type}(l:List c)(i:Nat)(a b:c):(l.set i a).set i b=l.set i b:=Z
section
variable {rp rb:Nat}{b_ bZ:Int}{F F':Nat->Prop}{s:ck}{w wr:ax}{Kq:Option Addr}{ci j:Nat}{L:List Bool}
end
section
variable {rp rb:Nat}{b_ bZ:Int}{F:Nat->Prop}{s:ck}{w:ax}
end
end pS
namespace dV
def begins:=pS.begins
abbrev find:=pS.find
section
variable {w0 w3 wb:ax}{mb bb vb fb:Nat}{vr:Value}
end
end dV
namespace pS
section
variable {rp rb:Nat}{b_ bZ:Int}{F:Nat->Prop}{s:ck}{w:ax}
end
end pS
namespace dV
section
variable {w0 w3 wb:ax}{mb bb vb fb:Nat}{vr:Value}
end
end dV
namespace dV
section
variable {w0 w:ax}{mb bb vb fb rp:Nat}{s:cQ}{va vn vr:Value}{m:List dT}{T:List cD}{wt:List b7}{n':Nat}
end
end dV
namespace dV
section
variable {w:ax}{rp:Nat}{T:List cD}{wt:List b7}{l:List (Int×Int)}{ra:Option Addr}{rc:Nat}
end
end dV
section
variable {a:Wc}{S:cq}{W:ck}{m:Nat->Int}{Y G:List Int}
theorem dM.vq {T:List cD}{v:Int×Int}(hv:dM T v)(d:T.length<=10000):eZ T v:=by
 refine⟨?_,hv.t⟩
 by_cases b:v.1=3
 ·obtain⟨h0,c⟩:=hv.t b;have:=c.1;rw[b];exact nJ _ h0 V
 ·exact hv.o b
abbrev rR (W:ck)(x:Int):Prop:=0<=x/\cv W.T x.toNat
abbrev rS (m:Nat->Int)(x:Int):Int:=m x.toNat
theorem cy.vy (h:cy a S W m Y G)(hb:cI a S.s)(c:W.T.length<=10000){v:Int×Int}(hv:dM W.T v):lH (rR W) (rS m) (gu v) (wv m v):=by
 obtain⟨d,e⟩:=nu (hv.vq c)
 obtain⟨_,f,g⟩:=h.dec hb hv;unfold lH;rw[d,e,f,g];by_cases b:v.1=3
 ·rw[aI b];exact aK ⟨b,b,hv.t b,rfl⟩
 ·rw[aG b];exact aJ ⟨b,rfl,rfl⟩
theorem cy.bi (h:cy a S W m Y G)(hb:cI a S.s)(g:W.T.length<=10000):pz (rR W) (rS m) (tI W.T.length) (gQ W.T) (gR W.T W.wt) (Y++G) (fun v=>pk (ld a.N S.s.y S.s.g S.s.ws v)) (eQ a.N S.s.y S.s.g S.s.ws S.q):=by
 refine⟨fun x b=>pI.2 ⟨b.1,by have:=b.2.1;have:=b.1;omega⟩,fun x b=>List.mem_append.2 (h.mem b.2),fun x y b hy e=>?_,fun x b=>?_,fun x b=>?_⟩
 ·have:=h.inj _ _ b.2 hy.2 e;have:=b.1;have:=hy.1;omega
 ·exact(h.parts b.2).1
 ·obtain⟨p,hi⟩:=b;obtain⟨i,rfl⟩:=Int.eq_ofNat_of_zero_le p;rw[Int.toNat_natCast] at hi;obtain⟨j,q,_⟩:=h.parts hi;have hv:=h.mem hi;show jk _ _ (eQ a.N S.s.y S.s.g S.s.ws S.q (m ((i:Int)).toNat))
  unfold gR;rw[Int.toNat_natCast];by_cases d:(W.T.getD i t0).1=5
  ·have hl:(W.T.getD i t0).2.1=[]:=by have f:=(h.hd i hi).1;rw[d] at f;simp[hc] at f;exact f
   rw[aI d,hl,List.map_nil,List.nil_append];unfold eQ;rw[aI (by rw[j];exact d)];unfold eg;rw[h.wt,lK (we m) (fun e=>e.1==ew 3 (m i)) (fun e=>e.1==(i:Int)) W.wt (fun e he=>?_),List.map_map]
   ·have key:∀l:List b7,(∀e∈l,iH W.T e)->jk (lH (rR W) (rS m)) (l.map (fun e=>ew 3 e.2)) (l.map ((·.2)∘we m)):=by
     intro l
     induction l with
     |nil=>intro _;trivial
     |cons e l s=>
      intro hl;have he:=hl e Z;refine⟨?_,s (fun x b=>hl x (aN _ b))⟩
      have:=h.vy hb g (v:=(3,e.2)) ⟨fun _=>⟨he.h0,he.h⟩,fun c=>absurd rfl c⟩
      exact this
    exact key _ (fun e he=>h.dy e (List.mem_filter.1 he).1)
   ·have he:=h.dy e he;show(ew 3 _==ew 3 (m i))=(e.1==(i:Int))
    by_cases n:e.1=(i:Int)
    ·rw[n,Int.toNat_natCast];simp
    ·have n1:ew 3 (m e.1.toNat)≠ew 3 (m i):=fun c=>by have c1:=(h.word hb he.g).2.2;rw[c,(h.word hb hi).2.2] at c1;have:=h.inj _ _ hi he.g c1;have:=he.g0;omega
     rw[beq_false_of_ne n1,beq_false_of_ne n]
  ·rw[aG d,List.append_nil];have o:pk (ld a.N S.s.y S.s.g S.s.ws (m i))≠5:=by rw[j];exact d
   have l1:=t1 h.kv.inv.full hb.y1 S.q hv o;rw[q] at l1;have l1:(eQ a.N S.s.y S.s.g S.s.ws S.q (m i)).length=(W.T.getD i t0).2.1.length:=V;refine jk.of (by rw[aW];exact l1.symm) (fun k hk=>?_)
   rw[aW] at hk;rw[(GI h.kv.inv.full hb.y1 S.q hv o).1 k V,j6 gu _ k (0,0) 0 hk,h.fd i hi k hk];exact h.vy hb g (h.fv i hi _ (getD_in hk))
theorem cy.view (h:cy a S W m Y G)(hb:cI a S.s)(b:W.T.length<=10000):(fw a.N S.s.y S.s.g S.s.ws S.q S.s.rs).1=(dV.ez W.T W.wt W.rs).1/\(fw a.N S.s.y S.s.g S.s.ws S.q S.s.rs).2.2=(dV.ez W.T W.wt W.rs).2.2:=by
 obtain⟨c,d⟩:=h.kv.inv.full.lists hb.n1 hb.y1 hb.o1 hb.g1;have hl:jk (lH (rR W) (rS m)) (W.rs.map gu) S.s.rs:=by
  rw[h.rs];refine jk.of Z (fun i hi=>?_)
  rw[aW] at hi;rw[j6 gu _ i (0,0) 0 hi,j6 (wv m) _ i (0,0) 0 hi];exact h.vy hb b (h.rv _ (getD_in hi))
 unfold fw dV.ez;rw[c,d];obtain⟨b1,b2,_⟩:=GF (h.bi hb b) hl (by rw[ns];exact aD _) bW
 exact⟨b1.symm,b2⟩
end
structure vz where
 hp:Nat
 bY:Nat
 rb:Nat
 tp:Nat
 n:Nat
 o:Nat
structure du (w1:ax)(c:Wc)(t:vz)(F G:Nat->Prop)(S:cq)(W:ck)(i k:Nat)(w:ax):Prop where
 g:(cw c t.hp).J F S w
 r:(cx t.bY t.n t.o t.rb).J G W w
 tw:w.heap[t.tp]?=some (.cells #[aj t.hp,aj t.bY,ah k,ah 0,ah 0] 71 (0,0))
 pT:¬F t.tp
 tG:¬G t.tp
 rU:w1.heap.size<=t.tp
 ok:dW c S i
 gi:d5 W i
 rl:∃m Y X,cy c S W m Y X
 ap:∀b,F b->¬G b
 fT:∀b,F b->w1.heap.size<=b
 rV:∀b,G b->w1.heap.size<=b
 be:Below w1.heap.size w1 w
 sz:c.N=t.n/\c.O=t.o/\16<=t.n/\t.n<=256/\t.o<=1024
section
variable {w1 w w':ax}{c:Wc}{t:vz}{i k:Nat}{F G F' G':Nat->Prop}{S S2:cq}{W W2:ck}
theorem du.below (h:du w1 c t F G S W i k w)(hb:Below w.heap.size w w'):du w1 c t F G S W i k w':=
 ⟨(cw c t.hp).below h.g hb,(cx t.bY t.n t.o t.rb).below h.r hb,(hb.block t.tp (lt_of_some h.tw)).trans h.tw,h.pT,h.tG,h.rU,h.ok,h.gi,h.rl,h.ap,h.fT,h.rV,h.be.trans (hb.mono h.be.size),h.sz⟩
theorem du.cells (h:du w1 c t F G S W i k w):w.cell? (aq t.tp 0)=some (aj t.hp)/\w.cell? (aq t.tp 1)=some (aj t.bY)/\w.cell? (aq t.tp 2)=some (ah k)/\w.cell? (aq t.tp 3)=some (ah 0)/\w.cell? (aq t.tp 4)=some (ah 0)/\w.frozen? (aq t.tp 2)=false:=by refine⟨?_,?_,?_,?_,?_,?_⟩<;>simp[World.cell?,World.frozen?,h.tw]
theorem du.us (h:du w1 c t F G S W i k w):ec W.T=((S.s.y:Int),(S.s.g:Int)):=by obtain⟨m,Y,X,b⟩:=h.rl;exact b.us (ou h.g)
theorem du.cG (h:du w1 c t F G S W i k w)(hi:i<=10000):(fw c.N S.s.y S.s.g S.s.ws S.q S.s.rs).1=(dV.ez W.T W.wt W.rs).1/\(fw c.N S.s.y S.s.g S.s.ws S.q S.s.rs).2.2=(dV.ez W.T W.wt W.rs).2.2:=by obtain⟨m,Y,X,b⟩:=h.rl;exact b.view (ou h.g) (aT h.gi.tj hi)
theorem du.bd (h:du w1 c t F G S W i k w)(hi:i<=10000):(dV.ez W.T W.wt W.rs).1.length=12/\(dV.ez W.T W.wt W.rs).2.2.length<=10000/\∀nd∈(dV.ez W.T W.wt W.rs).2.2,nd.2.length<=20000:=by obtain⟨q1,b,q3⟩:=Ko (h.gi.A0 hi) W.rs;exact⟨q1.trans h.gi.rl,b,q3⟩
theorem du.KP (h:du w1 c t F G S W i k w):Calls prog 22 #[aj c.p] w fun e w'=>e=.returned (.tuple #[ah (ec W.T).1,ah (ec W.T).2])/\Below w.heap.size w w':=by rw[h.us];exact z6 h.g
theorem du.KQ (h:du w1 c t F G S W i k w)(hi:i<=10000):Calls prog 137 #[aj t.bY] w fun e w'=>e=.returned (.tuple #[ah (ec W.T).1,ah (ec W.T).2])/\Below w.heap.size w w':=by obtain⟨gl,b,_⟩:=h.r;exact uH b h.gi.tl (aT h.gi.tj hi)
theorem du.BC (h:du w1 c t F G S W i k w)(hi:i<=10000):Calls prog 25 #[aj c.pw] w fun e w'=>∃b f d g,e=.returned (.agg #[.slice b 12 f,.slice d (dV.ez W.T W.wt W.rs).2.2.length g])/\mM w' w.heap.size b (dV.ez W.T W.wt W.rs).1/\k4 w' w.heap.size d (dV.ez W.T W.wt W.rs).2.2/\Below w.heap.size w w':=by obtain⟨v1,v2⟩:=h.cG hi;rw[<-v1,<-v2];exact z5 h.g (by have:=h.ok.jX;omega)
theorem du.KR (h:du w1 c t F G S W i k w)(hi:i<=10000):Calls prog 138 #[aj t.bY] w fun e w'=>∃b f d g,e=.returned (.agg #[.slice b 12 f,.slice d (dV.ez W.T W.wt W.rs).2.2.length g])/\mM w' w.heap.size b (dV.ez W.T W.wt W.rs).1/\k4 w' w.heap.size d (dV.ez W.T W.wt W.rs).2.2/\Below w.heap.size w w':=by
 obtain⟨gl,j,_⟩:=h.r;refine(J_ j (h.gi.A0 hi) h.gi.g5 h.gi.rv).mono ?_;rintro e w' ⟨b,f,d,o,g,rfl,l,m,rfl,n⟩
 exact⟨b,f,d,g,rfl,l,m,n⟩
theorem KT (h:du w1 c t F G S W i k w)(hi:i<=10000):Calls prog 69 #[aj t.tp] w fun e w'=>e=.returned (.bool true)/\Below w.heap.size w w':=by
 have j:=h.bd hi;have x:ay (du w1 c t F G S W i k w/\i<=10000):=⟨h,hi⟩
 obtain⟨q0,q1,_⟩:=eh h.g;obtain⟨l,m,_⟩:=h.cells;have P:=h.KP;have U:ay (∀(r1 d n1 A:Option Addr)(C n D E:Nat)(w':ax),dw w' r1 (dV.ez W.T W.wt W.rs).1->dw w' d (dV.ez W.T W.wt W.rs).1->Ln w' n1 (dV.ez W.T W.wt W.rs).2.2->Ln w' A (dV.ez W.T W.wt W.rs).2.2->Calls prog 30 #[.agg #[.slice r1 12 C,.slice n1 (dV.ez W.T W.wt W.rs).2.2.length D],.agg #[.slice d 12 n,.slice A (dV.ez W.T W.wt W.rs).2.2.length E]] w' fun e o=>e=.returned (.bool true)/\Below w'.heap.size w' o):=fun r1 d n1 A C n D E w' ap ar aB aF=>by have:=wO r1 d n1 A C n D E _ _ w' (by rw[j.1];decide) (by have:=j.2.1;omega) (fun nd aR=>by have:=j.2.2 nd aR;omega) ap ar aB aF;rwa [j.1] at this
 clear h hi j;go_enter func69,ntmps69;go_wp2_with fail;refine P.mono ?_;clear P;rintro e X ⟨rfl,H⟩
 have f:ay (du w1 c t F G S W i k X/\Below w.heap.size w X):=⟨x.o.1.below H,H⟩
 have P:=f.o.1.KQ x.o.2;clear H q0 q1 l m;obtain⟨l,m,_⟩:=f.o.1.cells;go_wp2_with fail;refine P.mono ?_;clear P;rintro e g ⟨rfl,I⟩
 have p:ay (du w1 c t F G S W i k g/\Below w.heap.size w g):=⟨f.o.1.below I,f.o.2.trans (I.mono f.o.2.size)⟩
 have B:ay (du w1 c t F G S W i k g.drew/\Below w.heap.size w g.drew):=⟨p.o.1.below (aH _ g).drew,p.o.2.trans ((aH _ g).drew.mono p.o.2.size)⟩
 clear I l m f;obtain⟨l,m,_⟩:=p.o.1.cells;obtain⟨q0,q1,_⟩:=eh p.o.1.g;have J:=B.o.1.BC x.o.2;have Y:ay (∀w',du w1 c t F G S W i k w'->Calls prog 138 #[aj t.bY] w' fun e o=>∃d n q K,e=.returned (.agg #[.slice d 12 n,.slice q (dV.ez W.T W.wt W.rs).2.2.length K])/\mM o w'.heap.size d (dV.ez W.T W.wt W.rs).1/\k4 o w'.heap.size q (dV.ez W.T W.wt W.rs).2.2/\Below w'.heap.size w' o):=fun w' h=>h.KR x.o.2;generalize (ec W.T).1=be at*;generalize (ec W.T).2=bg at*;generalize dV.ez W.T W.wt W.rs=aV at*;obtain⟨a0,ms,a1⟩:=aV;dsimp only at J U Y;go_wp2_with fail
 go_region_held3 (fun w'=>w'.cell? (aq t.tp 0)=some (aj t.hp)/\w'.cell? (aq t.tp 1)=some (aj t.bY)/\w'.cell? (aq t.hp 0)=some (aj c.pw)) (first|exact⟨u0,L,M⟩|exact⟨z0,a2,bb⟩|exact⟨l,m,q0⟩|(go_keep;done)) (first
  |(go_at_call 25;refine J.mono ?_;clear J;rintro e s ⟨ab,bd,q,K,rfl,ad,ag,N⟩;have b:ay ((du w1 c t F G S W i k s/\Below w.heap.size w s)/\dw s ab a0/\Ln s q a1):=⟨⟨B.o.1.below N,B.o.2.trans (N.mono B.o.2.size)⟩,ad.1,ag.ln⟩;have ai:=Y.o s b.o.1.1;obtain⟨z0,a2,_⟩:=b.o.1.1.cells;obtain⟨bb,_⟩:=eh b.o.1.1.g;clear ad ag N)
  |(go_at_call 138;refine ai.mono ?_;clear ai;rintro e O ⟨rc,dc,nd,ne,rfl,al,am,u⟩;have v:ay (du w1 c t F G S W i k O/\Below w.heap.size w O):=⟨b.o.1.1.below u,b.o.1.2.trans (u.mono b.o.1.2.size)⟩;have an:=U.o ab rc q nd bd dc K ne O (b.o.2.1.below u) al.1 (b.o.2.2.below u) am.ln;obtain⟨u0,L,_⟩:=v.o.1.cells;obtain⟨M,_⟩:=eh v.o.1.g;clear al am u)
  |(go_at_call 30;refine an.mono ?_;clear an;rintro e ao ⟨rfl,Q⟩;have R:ay (du w1 c t F G S W i k ao/\Below w.heap.size w ao):=⟨v.o.1.below Q,v.o.2.trans (Q.mono v.o.2.size)⟩;clear u0 L M;obtain⟨u0,L,_⟩:=R.o.1.cells;obtain⟨M,_⟩:=eh R.o.1.g;clear Q))
 go_wp2_with fail;go_ret;exact⟨rfl,R.o.2⟩
end
theorem vA {w:ax}{b:Nat}{c v:Value}{T:TypeId}(h:w.heap[b]?=some (.cells #[c,v] T (0,0))):w.cell? (aq b 0)=some c/\w.cell? (aq b 1)=some v/\w.frozen? (aq b 0)=false/\w.frozen? (aq b 1)=false:=by refine⟨?_,?_,?_,?_⟩<;>simp[World.cell?,World.frozen?,h]
theorem BD (n o:Nat)(w:ax)(h0:16<=n)(g:n<=256)(A:o<=1024):
 Calls prog 28 #[ah n,ah o] w fun e w'=>∃c t F G,e=.returned (.tuple #[aj t.tp,.agg #[ah 0,ah 0]])/\(t.n=n/\t.o=o)/\du w c t F G (g_ n o).1 (g_ n o).2 0 0 w':=by
 have S:=au w (.cells #[.int .i64 0,.int .i64 0] 28)
 have P:=Fc n o (w.alloc (.cells #[.int .i64 0,.int .i64 0] 28)) h0 g A;have U:=aO w (.cells #[.int .i64 0,.int .i64 0] 28)
 have W:w.heap.size<(w.alloc (.cells #[.int .i64 0,.int .i64 0] 28)).heap.size:=Z;have X:=hide S;have I:ay ((∀w',Calls prog 67 #[ah n,ah o] w' fun e K=>∃bY rb F,e=.returned (.tuple #[aj bY,.agg #[ah 0,ah 0]])/\(cx bY n o rb).J F nD K/\(∀b,F b->w'.heap.size<=b)/\Below w'.heap.size w' K)/\_/\_/\_):=⟨fun w'=>JV n o w' h0 g A,h0,g,A⟩
 go_enter func28,ntmps28;go_wp2_with fail;generalize w.alloc (.cells #[.int .i64 0,.int .i64 0] 28)=w0 at*;generalize Y:w.heap.size=fb at*;refine P.mono ?_;rintro e w1 ⟨c,hp,F,rfl,J,⟨ab,co⟩,lo,L⟩
 have M:=(L.block fb W).trans U;have ad:=lt_of_some M;have B:=au w1 (.cells #[.int .i64 0,.int .i64 0] 28)
 have ag:=aO w1 (.cells #[.int .i64 0,.int .i64 0] 28)
 have N:=dq ab co;have u:ay (_/\(∀b,F b->fb<b/\b<w1.heap.size)/\_):=⟨(cw c hp).below J B,fun b d=>⟨by have:=lo b d;omega,(cw c hp).lt J b d⟩,(X.o.trans (L.mono V)).trans (B.mono V)⟩
 have l:=dq ((B.block fb ad).trans M) ag;go_wp2_with fail;generalize w1.alloc (.cells #[.int .i64 0,.int .i64 0] 28)=ai at*;generalize w1.heap.size=f at*;refine(I.o.1 ai).mono ?_;rintro e i ⟨bY,rb,G,rfl,O,Q,q⟩
 have C:=(q.block fb (lt_of_some l.o.1)).trans l.o.1;have D:=(q.block f (lt_of_some l.o.2)).trans l.o.2;obtain⟨aB,y1,z0,aF⟩:=vA D;obtain⟨u0,al,t0,aR⟩:=vA C;have nx:f≠fb:=V;have aV:=lt_of_some D;have a0:=lt_of_some C;have am:ay (_/\_/\_/\(∀b,G b->f<b)/\_):=⟨(cw c hp).below u.o.1 q,O,u.o.2.1,fun b d=>by have g:=Q b d;have an:=lt_of_some l.o.2;omega,u.o.2.2.trans (q.mono (by have:=lt_of_some l.o.1;omega))⟩
 clear O Q q C D l u;go_wp2_with fail;obtain⟨j,m⟩:∃j,j=(((i.setCell ⟨f,0,none⟩ (.int .i64 0)).setCell ⟨f,1,none⟩ (.int .i64 0)).setCell ⟨fb,0,none⟩ (.int .i64 0)).setCell ⟨fb,1,none⟩ (.int .i64 0):=⟨_,rfl⟩
 rw[<-m];have v0:j.cell? (aq fb 0)=some (ah 0):=by rw[m,a5 _ _ _ _ Z];exact bf _ _ _ ((a5 _ ⟨f,1,none⟩ ⟨fb,0,none⟩ _ (fun e=>absurd (congrArg Addr.block e) nx)).trans ((a5 i ⟨f,0,none⟩ ⟨fb,0,none⟩ _ (fun e=>absurd (congrArg Addr.block e) nx)).trans u0))
 have v1:j.cell? (aq fb 1)=some (ah 0):=by rw[m];exact bf _ _ _ ((a5 _ ⟨fb,0,none⟩ ⟨fb,1,none⟩ _ Z).trans ((a5 _ ⟨f,1,none⟩ ⟨fb,1,none⟩ _ (fun e=>absurd (congrArg Addr.block e) nx)).trans ((a5 i ⟨f,0,none⟩ ⟨fb,1,none⟩ _ (fun e=>absurd (congrArg Addr.block e) nx)).trans al)))
 have E:Fr (fun k=>k=f\/k=fb) i j:=by rw[m];exact((((Fr.refl (fun k=>k=f\/k=fb) i).set f 0 _ (aK rfl)).set f 1 _ (aK rfl)).set fb 0 _ (aJ rfl)).set fb 1 _ (aJ rfl)
 have ao:j.heap.size=i.heap.size:=by rw[m];simp
 clear m;have s:=au j (.cells #[.pointer (some ⟨hp,0,none⟩),.pointer (some ⟨bY,0,none⟩),.int .i64 0,.int .i64 0,.int .i64 0] 71)
 have ht:=aO j (.cells #[.pointer (some ⟨hp,0,none⟩),.pointer (some ⟨bY,0,none⟩),.int .i64 0,.int .i64 0,.int .i64 0] 71)
 rw[ao] at ht;have g0:=(s.cell (p:=aq fb 0) (by show fb<_;omega)).trans v0;have g1:=(s.cell (p:=aq fb 1) (by show fb<_;omega)).trans v1;obtain⟨k1,R,x,H,k5⟩:=am.o;have ap:=k5.trans (E.below V (fun k e=>by rcases e with rfl|rfl<;>omega))
 have ar:du w c ⟨hp,bY,rb,i.heap.size,n,o⟩ F G (g_ n o).1 (g_ n o).2 0 0 (j.alloc (.cells #[.pointer (some ⟨hp,0,none⟩),.pointer (some ⟨bY,0,none⟩),.int .i64 0,.int .i64 0,.int .i64 0] 71)):=
  ⟨(cw c hp).below ((cw c hp).fr k1 E (fun b hd e=>by have:=x b hd;rcases e with rfl|rfl<;>omega)) s,(cx bY n o rb).below ((cx bY n o rb).fr R E (fun b hd e=>by have:=H b hd;rcases e with rfl|rfl<;>omega)) s,ht,fun d=>by have g:=x _ d;have g:i.heap.size<f:=g.2;omega,fun d=>by have g:=(cx bY n o rb).lt R _ d;exact absurd g (Nat.lt_irrefl _),by show w.heap.size<=i.heap.size;omega,dW.start c n o,d5.start,⟨_,_,_,cy.start c n o⟩,fun b d e=>by have g:=x b d;have an:=H b e;omega,fun b d=>by have g:=x b d;omega,fun b d=>by have g:=H b d;omega,by rw[Y];exact ap.trans (s.mono V),N.o.1,N.o.2,I.o.2⟩
 refine a4 (v:=.tuple #[aj i.heap.size,.agg #[ah 0,ah 0]]) (by simp only [results,results28];simp[go_sem,g0,g1]) rfl ⟨c,⟨hp,bY,rb,i.heap.size,n,o⟩,F,G,rfl,⟨rfl,rfl⟩,ar⟩
theorem KU (n o:Int)(w:ax)(h:n<16\/256<n\/o<0\/1024<o):
 Calls prog 28 #[ah n,ah o] w fun e w'=>e=.returned (.tuple #[.pointer none,.agg #[ah 1,ah (-1)]])/\Below w.heap.size w w':=by
 have f:=au w (.cells #[.int .i64 0,.int .i64 0] 28)
 have g:=aO w (.cells #[.int .i64 0,.int .i64 0] 28)
 have P:=HL n o (w.alloc (.cells #[.int .i64 0,.int .i64 0] 28)) h;go_enter func28,ntmps28;go_wp2_with fail;refine P.mono ?_;rintro e w1 ⟨rfl,c⟩
 have i:=(c.block w.heap.size Z).trans g;have hB1:=f.trans (c.mono Z)
 have j:=c.size;simp at j;obtain⟨y0,y1,q,s⟩:=vA i;have l1:w.heap.size<w1.heap.size:=V;clear c g f i;go_wp2_with fail
 go_region_law (fail)
 all_goals
  obtain⟨b,hW0⟩:∃b,b=(w1.setCell ⟨w.heap.size,0,none⟩ (.int .i64 1)).setCell ⟨w.heap.size,1,none⟩ (.int .i64 (-1)):=⟨_,rfl⟩
  rw[<-hW0];have t:b.heap.size=w1.heap.size:=by rw[hW0];simp[World.setCell]
  have g0:b.cell? (aq w.heap.size 0)=some (ah 1):=by exact lu
  have g1:b.cell? (aq w.heap.size 1)=some (ah (-1)):=by exact qi
  have l:Below w.heap.size w b:=by exact te
  have d:=(au b (.cells #[.int .i64 1,.int .i64 (-1)] 28)).drew;have r0:=(d.cell (p:=aq w.heap.size 0) (by show w.heap.size<_;omega)).trans g0;have r1:=(d.cell (p:=aq w.heap.size 1) (by show w.heap.size<_;omega)).trans g1;have m:=l.trans (d.mono V)
  generalize (b.alloc (.cells #[.int .i64 1,.int .i64 (-1)] 28)).drew=u at*;go_wp2_with fail;refine a4 (v:=.tuple #[.pointer none,.agg #[.int .i64 1,.int .i64 (-1)]]) (by simp[results,results28,go_sem,r0,r1]) rfl ⟨rfl,m⟩
section
variable {w1 w w':ax}{c:Wc}{t:vz}{i k:Nat}{F G F' G':Nat->Prop}{S S2:cq}{W W2:ck}{g:gP}
theorem du.gr (h:du w1 c t F G S W i k w)(d:b8 F w F' w'):(cx t.bY t.n t.o t.rb).J G W w'/\(∀b,F' b->¬G b)/\(∀b,F' b->w1.heap.size<=b)/\Below w1.heap.size w1 w'/\w'.heap[t.tp]?=some (.cells #[aj t.hp,aj t.bY,ah k,ah 0,ah 0] 71 (0,0))/\¬F' t.tp:=
 ⟨(cx t.bY t.n t.o t.rb).fr h.r d.fr (fun k g f=>h.ap k f g),fun b f g=>(d.sub b f).elim (fun c=>h.ap b c g) (fun c=>by have:=(cx t.bY t.n t.o t.rb).lt h.r b g;omega),fun b f=>(d.sub b f).elim (h.fT b) (fun c=>aT h.be.size c),h.be.trans (d.fr.below h.be.size (fun k e=>h.fT k e)),(d.fr.block t.tp (lt_of_some h.tw) h.pT).trans h.tw,fun e=>(d.sub _ e).elim h.pT (fun c=>by have:=lt_of_some h.tw;omega)⟩
theorem du.of {l:ax}{j:Nat}(h:du w1 c t F G S W i k w)(q:b8 F w F' w')(hg:(cw c t.hp).J F' S2 w')(d:b8 G w' G' l)(hr:(cx t.bY t.n t.o t.rb).J G' W2 l)(ok:dW c S2 j)(hi:d5 W2 j)(s:∃m Y X,cy c S2 W2 m Y X):du w1 c t F' G' S2 W2 j k l:=by obtain⟨A,o,u,n,p,v⟩:=h.gr q;have x:=lt_of_some p;exact⟨(cw c t.hp).fr hg d.fr (fun k g f=>o k g f),hr,(d.fr.block t.tp x h.tG).trans p,v,fun e=>(d.sub _ e).elim h.tG (fun e=>by omega),h.rU,ok,hi,s,fun b g f=>(d.sub b f).elim (o b g) (fun e=>by have:=(cw c t.hp).lt hg b g;omega),u,fun b f=>(d.sub b f).elim (h.rV b) (fun e=>aT n.size e),n.trans (d.fr.below n.size (fun k e=>h.rV k e)),h.sz⟩
theorem du.hds (h:du w1 c t F G S W i k w)(hg:∀T wt,e4 T wt->dR T wt (g T wt))(kd R A B I n:Int):nH c (S.hd c kd R A B I n) (W.ip g t.n t.o kd R A B I n):=by obtain⟨m,Y,X,b⟩:=h.rl;have:=b.hds h.ok (ou h.g) hg kd R A B I n;rwa [h.sz.1,h.sz.2.1] at this
theorem du.step (h:du w1 c t F G S W i k w){fb:Nat}{d v:Value}(m:w1.heap.size<=fb)(n:¬F fb)(o:¬G fb)(g:fb≠t.tp):du w1 c t F G S W i (k+1) (((w.setCell ⟨t.tp,2,none⟩ (.int .i64 ((k:Int)+1))).setCell ⟨fb,0,none⟩ d).setCell ⟨fb,1,none⟩ v):=by
 have f:Fr (fun b=>b=t.tp\/b=fb) w (((w.setCell ⟨t.tp,2,none⟩ (.int .i64 ((k:Int)+1))).setCell ⟨fb,0,none⟩ d).setCell ⟨fb,1,none⟩ v):=
  (((Fr.refl (fun b=>b=t.tp\/b=fb) w).set t.tp 2 _ (aK rfl)).set fb 0 _ (aJ rfl)).set fb 1 _ (aJ rfl)
 refine⟨(cw c t.hp).fr h.g f (fun b j e=>?_),(cx t.bY t.n t.o t.rb).fr h.r f (fun b l e=>?_),?_,h.pT,h.tG,h.rU,h.ok,h.gi,h.rl,h.ap,h.fT,h.rV,h.be.trans (f.below h.be.size (fun b e=>?_)),h.sz⟩
 ·rcases e with rfl|rfl
  ·exact h.pT j
  ·exact n j
 ·rcases e with rfl|rfl
  ·exact h.tG l
  ·exact o l
 ·rw[aU _ _ _ _ (show t.tp≠fb from fun e=>g e.symm),aU _ _ _ _ (show t.tp≠fb from fun e=>g e.symm)];simp only [World.setCell,Array.getElem?_modify,if_true,h.tw,Option.map_some];simp
 ·rcases e with rfl|rfl
  ·exact h.rU
  ·exact m
theorem KV (h:du w1 c t F G S W i i w)(hg:∀T wt,e4 T wt->dR T wt (g T wt))(hi:i<=8000)(kd R A B I n:Int):
 Calls prog 29 #[aj t.tp,dK kd R A B I n] w fun e w'=>∃F' G',e=.returned (.tuple #[ah (W.ip g t.n t.o kd R A B I n).1,.agg #[ah 0,ah 0]])/\du w1 c t F' G' (S.hd c kd R A B I n).2 (W.ip g t.n t.o kd R A B I n).2 (i+1) (i+1) w'/\Fr (fun b=>F b\/G b\/b=t.tp) w w'/\(∀b,F' b->F b\/w.heap.size<=b)/\(∀b,G' b->G b\/w.heap.size<=b):=by
 have al:=ou h.g;have O:ay (nH c (S.hd c kd R A B I n) (W.ip g t.n t.o kd R A B I n)):=h.hds hg kd R A B I n;have am:ay (dW c (S.hd c kd R A B I n).2 (i+1)):=(h.ok.hd al kd R A B I n).1;have an:ay (d5 (W.ip g t.n t.o kd R A B I n).2 (i+1)):=h.gi.ip V (hg _ _ h.gi.iv) kd R A B I n;have J:=(au w (cz kd R A B I n)).alloc Z (.cells #[.int .i64 0,.int .i64 0] 28)
 have j:=vW (h.below J) h.be.size ((cw c t.hp).lt h.g) ((cx t.bY t.n t.o t.rb).lt h.r) (lt_of_some h.tw)
 have l:ay (((w.alloc (cz kd R A B I n)).alloc (.cells #[.int .i64 0,.int .i64 0] 28)).heap[w.heap.size]?=some (cz kd R A B I n)/\((w.alloc (cz kd R A B I n)).alloc (.cells #[.int .i64 0,.int .i64 0] 28)).heap[w.heap.size+1]?=some (.cells #[ah 0,ah 0] 28 (0,0))):=⟨by rw[aS _ _ _ Z];exact aO _ _,iP _ _ _⟩
 have ao:ay (∀w',(cx t.bY t.n t.o t.rb).J G W w'->_):=fun w' ap=>JR ap (h.gi.uW V) (hg _ _ h.gi.iv) (by have:=h.sz;omega) (by have:=h.sz;omega) (by have:=h.sz;omega) (by have:=h.sz;omega) kd R A B I n;have ar:ay (Fr (fun b=>F b\/G b\/b=t.tp) w ((w.alloc (cz kd R A B I n)).alloc (.cells #[.int .i64 0,.int .i64 0] 28))):=Fr.of J;have P:=HH (((h.below J).below bX.drew).g) h.ok V kd R A B I n;obtain⟨aB,y1,aF,aR,aV,a0⟩:=eu l.o.1;obtain⟨a1,a2,_,cf,_⟩:=j.o.1.cells;generalize S.hd c kd R A B I n=D at*;generalize W.ip g t.n t.o kd R A B I n=E at*;obtain⟨cd,Q⟩:=D;obtain⟨cg,U⟩:=E;have bb:=O.o.1;subst bb;have bd:=hide O.o.2;go_enter func29,ntmps29;go_wp2_with fail;generalize (w.alloc (cz kd R A B I n)).alloc (.cells #[.int .i64 0,.int .i64 0] 28)=w0 at*;generalize be:w.heap.size=f at*;have ab:=hide be;have bg:=hide hi
 go_region_held3 (fun w'=>w'.cell? (aq t.tp 0)=some (aj t.hp)/\w'.cell? (aq t.tp 1)=some (aj t.bY)/\w'.cell? (aq f 0)=some (ah kd)/\w'.cell? (aq f 1)=some (ah R)/\w'.cell? (aq f 2)=some (ah A)/\w'.cell? (aq f 3)=some (ah B)/\w'.cell? (aq f 4)=some (ah I)/\w'.cell? (aq f 5)=some (ah n)) (first|exact⟨v0,v1,u0,bi,bl,bn,bo,bp⟩|exact⟨q0,q1,z0,br,bs,bt,bx,bY⟩|exact⟨a1,a2,aB,y1,aF,aR,aV,a0⟩|(go_keep;done)) (first
  |(go_at_call 20;refine P.mono ?_;rintro e C ⟨m,rfl,bZ,ad⟩;have b0:=hide bZ;have o:ay (b8 F w0 m C):=⟨(Fr.of (av w0).drew).trans ad.fr (fun b c=>aK c),fun b c=>ad.sub b c⟩;have K:=hide (j.o.1.gr o.o);have p:=dq ((o.o.fr.block f (lt_of_some l.o.1) (fun d=>by have:=j.o.2.2.1 f d;omega)).trans l.o.1) ((o.o.fr.block (f+1) (lt_of_some l.o.2) (fun d=>by have:=j.o.2.2.1 (f+1) d;omega)).trans l.o.2);have b1:=ao.o C K.o.1;obtain⟨z0,br,bs,bt,bx,bY⟩:=eu p.o.1;have q0:C.cell? (aq t.tp 0)=some (aj t.hp):=aA K.o.2.2.2.2.1;have q1:C.cell? (aq t.tp 1)=some (aj t.bY):=(by simp[World.cell?,K.o.2.2.2.2.1]))
  |(go_at_call 68;refine b1.mono ?_;rintro e ch ⟨G2,rfl,b2,q⟩;have L:ay (_):=j.o.1.of o.o b0.o q b2 am.o an.o bd.o;have u:ay (_/\_/\¬m (f+1)/\¬G2 (f+1)):=⟨(q.fr.block f (lt_of_some p.o.1) (fun d=>by have:=j.o.2.2.2.1 f d;omega)).trans p.o.1,(q.fr.block (f+1) (lt_of_some p.o.2) (fun d=>by have:=j.o.2.2.2.1 (f+1) d;omega)).trans p.o.2,fun d=>(o.o.sub _ d).elim (fun d=>by have:=j.o.2.2.1 (f+1) d;omega) (fun d=>by have:=lt_of_some l.o.2;omega),fun d=>(q.sub _ d).elim (fun d=>by have:=j.o.2.2.2.1 (f+1) d;omega) (fun d=>by have:=lt_of_some p.o.2;omega)⟩;have ag:ay (_/\(∀b,m b->F b\/f<=b)/\(∀b,G2 b->G b\/f<=b)):=⟨(ar.o.trans o.o.fr (fun b d=>aK (aK d))).trans q.fr (fun b d=>aK (aJ (aK d))),fun b d=>(o.o.sub b d).imp id (fun d=>by have:=lt_of_some l.o.1;omega),fun b d=>(q.sub b d).imp id (fun d=>by have:=lt_of_some p.o.1;omega)⟩;obtain⟨u0,bi,bl,bn,bo,bp⟩:=eu u.o.1;obtain⟨v0,v1,_⟩:=L.o.cells))
 have b3:=KT L.o (by have:=bg.o;omega)
 go_wp2_with fail;refine b3.mono ?_;rintro e k ⟨rfl,M⟩
 have ai:ay (du w1 c t m G2 Q U (i+1) i k):=L.o.below M;have b4:=hide ((M.block _ (lt_of_some u.o.2.1)).trans u.o.2.1)
 have H:=jr u.o.2.2.1 u.o.2.2.2 j.o.2.1 j.o.2.2.2.2;have N:=dq (ag.o.1.trans (Fr.of (X:=fun _=>False) M) (fun _ d=>d.elim)) ag.o.2;obtain⟨_,_,ci,_,_,cj⟩:=ai.o.cells;obtain⟨b5,b6,ck,cl⟩:k.cell? (aq (f+1) 0)=some (ah 0)/\k.cell? (aq (f+1) 1)=some (ah 0)/\k.frozen? (aq (f+1) 0)=false/\k.frozen? (aq (f+1) 1)=false:=by refine⟨?_,?_,?_,?_⟩<;>simp[World.cell?,World.frozen?,b4.o]
 have ne:¬t.tp=f+1:=by have:=H.o.2.2.2;omega
 have b7:¬f+1=t.tp:=V;go_wp2_with fail;obtain⟨s,x⟩:∃s,s=((k.setCell ⟨t.tp,2,none⟩ (.int .i64 ((i:Int)+1))).setCell ⟨f+1,0,none⟩ (.int .i64 0)).setCell ⟨f+1,1,none⟩ (.int .i64 0):=⟨_,rfl⟩
 rw[<-x];have v0:s.cell? (aq (f+1) 0)=some (ah 0):=by rw[x,a5 _ _ _ _ Z];exact bf _ _ _ ((a5 k ⟨t.tp,2,none⟩ ⟨f+1,0,none⟩ _ (fun e=>absurd (congrArg Addr.block e) ne)).trans b5)
 have v1:s.cell? (aq (f+1) 1)=some (ah 0):=by rw[x];exact bf _ _ _ ((a5 _ ⟨f+1,0,none⟩ ⟨f+1,1,none⟩ _ Z).trans ((a5 k ⟨t.tp,2,none⟩ ⟨f+1,1,none⟩ _ (fun e=>absurd (congrArg Addr.block e) ne)).trans b6))
 have b9:du w1 c t m G2 Q U (i+1) (i+1) s:=by rw[x];exact ai.o.step (by have:=H.o.2.2.1;omega) H.o.1 H.o.2.1 b7
 have ca:Fr (fun b=>F b\/G b\/b=t.tp) w s:=by
  refine N.o.1.trans (Y:=fun b=>b=t.tp\/b=f+1) ?_ (fun b d=>d.elim (fun d=>aK (aJ (aJ d))) (fun d=>aJ (by have cb:=ab.o;omega)))
  rw[x];exact(((Fr.refl (fun b=>b=t.tp\/b=f+1) k).set t.tp 2 _ (aK rfl)).set (f+1) 0 _ (aJ rfl)).set (f+1) 1 _ (aJ rfl)
 have cc:∀b,m b->F b\/w.heap.size<=b:=fun b d=>(N.o.2.1 b d).imp id (fun d=>by have cb:=ab.o;omega)
 have ce:∀b,G2 b->G b\/w.heap.size<=b:=fun b d=>(N.o.2.2 b d).imp id (fun d=>by omega)
 refine a4 (v:=.tuple #[ah cd,.agg #[ah 0,ah 0]]) (by simp[results,results29,go_sem,v0,v1]) rfl ⟨m,G2,rfl,b9,ca,cc,ce⟩
theorem BE (h:du w1 c t F G S W i i w)(hg:∀T wt,e4 T wt->dR T wt (g T wt))(hi:i<=8000)(kd R A B I n:Int):
 Calls prog 29 #[aj t.tp,dK kd R A B I n] w fun e w'=>∃F' G',e=.returned (.tuple #[ah (W.ip g t.n t.o kd R A B I n).1,.agg #[ah 0,ah 0]])/\du w1 c t F' G' (S.hd c kd R A B I n).2 (W.ip g t.n t.o kd R A B I n).2 (i+1) (i+1) w':=by
 refine(KV h hg hi kd R A B I n).mono ?_;rintro e w' ⟨F',G',rfl,b,_⟩
 exact⟨F',G',rfl,b⟩
end
theorem KW (x y:Value)(w:ax):Sem.run prog (Instr.field 60 (.agg #[x,y]) 1) w=.ok y w:=by unfold Instr.field;simp[go_sem];rfl
theorem KX (g:gP):(g_ 16 8).2.ip g ((16:Nat):Int) ((8:Nat):Int) 4 0 0 0 0 0=(0,⟨[(1,[(0,0),(0,0)],false,false)],[(3,0),(0,0),(0,0),(0,0),(0,0),(0,0),(0,0),(0,0),(0,0),(0,0),(0,0),(0,0)],[],[]⟩):=rfl
theorem BF:(dV.ez [(1,[(0,0),(0,0)],false,false)] [] [(3,0),(0,0),(0,0),(0,0),(0,0),(0,0),(0,0),(0,0),(0,0),(0,0),(0,0),(0,0)]).2.2.length=1:=by decide+kernel
theorem vB (w:ax):Calls prog 27 #[] w fun e w'=>e=.returned (.bool true)/\Below w.heap.size w w':=by
 obtain⟨g,hg⟩:=AW;have bl:ay (∀T wt,e4 T wt->dR T wt (g T wt)):=hg;clear hg;go_enter func27,ntmps27;go_wp2_with fail;refine(BD 16 8 w aa aa aa).mono ?_;rintro e w1 ⟨c,t,F,G,rfl,⟨tn,tm⟩,U⟩
 have v:=au w1 (.cells #[.int .i64 0,.int .i64 0] 28)
 have bn:ay (du w c t F G (g_ 16 8).1 (g_ 16 8).2 0 0 (w1.alloc (.cells #[.int .i64 0,.int .i64 0] 28))):=U.below v;have P:=BE (U.below v) bl.o aa 4 0 0 0 0 0;rw[tn,tm,KX] at P;clear U v tn tm;go_wp2_with fail;refine P.mono ?_;clear P;rintro e n ⟨l,G2,rfl,W⟩
 have v:=au n (.cells #[.int .i64 0,.int .i64 0] 28)
 generalize ((g_ 16 8).1.hd c 4 0 0 0 0 0).2=m at*;obtain⟨x,o,X,Y,ar,I⟩:∃(x:List (Int×Int))(o:List (Int×List (Int×Int))),x.length=12/\o.length=1/\(∀nd∈o,nd.2.length<=20000)/\ay (∀w',du w c t l G2 m ⟨[(1,[(0,0),(0,0)],false,false)],[(3,0),(0,0),(0,0),(0,0),(0,0),(0,0),(0,0),(0,0),(0,0),(0,0),(0,0),(0,0)],[],[]⟩ 1 1 w'->Calls prog 25 #[.pointer (some ⟨c.pw,0,none⟩)] w' fun e A=>∃j p J ab,e=.returned (.agg #[.slice j 12 p,.slice J 1 ab])/\dw A j x/\Ln A J o/\Below w'.heap.size w' A):=by
  obtain⟨b1,b2,b3⟩:=W.bd aa;refine⟨_,_,b1,BF,b3,fun w' h=>?_⟩
  refine(h.BC aa).mono ?_;rintro e A ⟨j,p,J,ab,rfl,q1,bo,q3⟩
  exact⟨j,p,J,ab,by rw[BF],q1.1,bo.ln,q3⟩
 have bp:ay (∀(r1 j n1 K:Option Addr)(ad p ag L:Nat)(w':ax),dw w' r1 x->dw w' j x->Ln w' n1 o->Ln w' K o->Calls prog 30 #[.agg #[.slice r1 12 ad,.slice n1 1 ag],.agg #[.slice j 12 p,.slice K 1 L]] w' fun e A=>e=.returned (.bool true)/\Below w'.heap.size w' A):=fun r1 j n1 K ad p ag L w' br bs bt bx=>by have:=wO r1 j n1 K ad p ag L _ _ w' (by rw[X];decide) (by rw[Y];decide) (fun nd bY=>by have:=ar nd bY;omega) br bs bt bx;rwa [X,Y] at this
 have q:ay (du w c t l G2 m ⟨[(1,[(0,0),(0,0)],false,false)],[(3,0),(0,0),(0,0),(0,0),(0,0),(0,0),(0,0),(0,0),(0,0),(0,0),(0,0),(0,0)],[],[]⟩ 1 1 (n.alloc (.cells #[.int .i64 0,.int .i64 0] 28))/\(n.alloc (.cells #[.int .i64 0,.int .i64 0] 28)).heap[n.heap.size]?=some (.cells #[ah 0,ah 0] 28 (0,0))):=⟨W.below v,aO _ _⟩
 generalize (⟨[(1,[(0,0),(0,0)],false,false)],[(3,0),(0,0),(0,0),(0,0),(0,0),(0,0),(0,0),(0,0),(0,0),(0,0),(0,0),(0,0)],[],[]⟩:ck)=B at*;clear W v X Y ar bn;have cf:=KW
 go_upto_region 5 with fail
 generalize n.alloc (.cells #[.int .i64 0,.int .i64 0] 28)=M at*;generalize n.heap.size=b at*;have d:M.cell? ⟨b,0,none⟩=some (.int .i64 0):=by simp[World.cell?,q.o.2]
 obtain⟨f,_⟩:=q.o.1.cells;obtain⟨i,_⟩:=eh q.o.1.g;have aB:=I.o M.drew (q.o.1.below bX.drew)
 go_region_held3 (fun w'=>w'.cell? (aq b 0)=some (ah 0)/\w'.cell? (aq t.tp 0)=some (aj t.hp)/\w'.cell? (aq t.hp 0)=some (aj c.pw)) (first|exact⟨d,f,i⟩|(go_keep;done)) (first
  |(go_at_call 25;refine aB.mono ?_;clear aB;rintro e N ⟨cg,L,n4,c4,rfl,bZ,b0,ai⟩;have s:ay ((du w c t l G2 m B 1 1 N/\N.heap[b]?=some (.cells #[ah 0,ah 0] 28 (0,0)))):=⟨(q.o.1.below bX.drew).below ai,(((av M).drew.trans ai).block b (lt_of_some q.o.2)).trans q.o.2⟩;clear d f i;have d:N.cell? (aq b 0)=some (ah 0):=aA s.o.2;obtain⟨f,_⟩:=s.o.1.cells;obtain⟨i,_⟩:=eh s.o.1.g;have aF:=I.o N s.o.1;clear bZ b0 ai)
  |(go_at_call 25;refine aF.mono ?_;clear aF;rintro e C ⟨aR,b4,aV,c5,rfl,a0,a1,al⟩;have k:ay ((du w c t l G2 m B 1 1 C/\C.heap[b]?=some (.cells #[ah 0,ah 0] 28 (0,0)))/\dw C aR x/\Ln C aV o):=⟨⟨s.o.1.below al,(al.block b (lt_of_some s.o.2)).trans s.o.2⟩,a0,a1⟩;clear d f i;have d:C.cell? (aq b 0)=some (ah 0):=aA k.o.1.2;obtain⟨f,_⟩:=k.o.1.1.cells;obtain⟨i,_⟩:=eh k.o.1.1.g;have a2:=I.o C k.o.1.1;clear a0 a1 al)
  |(go_at_call 25;refine a2.mono ?_;clear a2;rintro e O ⟨b5,b6,b7,b8,rfl,bb,bd,H⟩;have D:ay (du w c t l G2 m B 1 1 O/\O.heap[b]?=some (.cells #[ah 0,ah 0] 28 (0,0))):=⟨k.o.1.1.below H,(H.block b (lt_of_some k.o.1.2)).trans k.o.1.2⟩;have be:=bp.o aR b5 aV b7 b4 b6 c5 b8 O (k.o.2.1.below H) bb (k.o.2.2.below H) bd;clear d f i;have d:O.cell? (aq b 0)=some (ah 0):=aA D.o.2;obtain⟨f,_⟩:=D.o.1.cells;obtain⟨i,_⟩:=eh D.o.1.g;clear bb bd H)
  |(go_at_call 30;refine be.mono ?_;clear be;rintro e Q ⟨rfl,am⟩;have u:ay (du w c t l G2 m B 1 1 Q/\Q.heap[b]?=some (.cells #[ah 0,ah 0] 28 (0,0))):=⟨D.o.1.below am,(am.block b (lt_of_some D.o.2)).trans D.o.2⟩;clear d f i;have d:Q.cell? (aq b 0)=some (ah 0):=aA u.o.2;obtain⟨f,_⟩:=u.o.1.cells;obtain⟨i,_⟩:=eh u.o.1.g;have bg:=I.o Q u.o.1;clear am)
  |(go_at_call 25;refine bg.mono ?_;clear bg;rintro e R ⟨b9,ca,cb,cc,rfl,cd,ce,an⟩;have E:ay (du w c t l G2 m B 1 1 R/\R.heap[b]?=some (.cells #[ah 0,ah 0] 28 (0,0))):=⟨u.o.1.below an,(an.block b (lt_of_some u.o.2)).trans u.o.2⟩;have bi:=CX b9 none cb none 12 0 1 0 ca 0 cc 0 R aa;clear d f i;have d:R.cell? (aq b 0)=some (ah 0):=aA E.o.2;obtain⟨f,_⟩:=E.o.1.cells;obtain⟨i,_⟩:=eh E.o.1.g;clear cd ce an)
  |(go_at_call 30;refine bi.mono ?_;clear bi;rintro e ao ⟨rfl,ap⟩;have S:ay (du w c t l G2 m B 1 1 ao/\ao.heap[b]?=some (.cells #[ah 0,ah 0] 28 (0,0))):=⟨E.o.1.below ap,(ap.block b (lt_of_some E.o.2)).trans E.o.2⟩;clear d f i;have d:ao.cell? (aq b 0)=some (ah 0):=aA S.o.2;obtain⟨f,_⟩:=S.o.1.cells;obtain⟨i,_⟩:=eh S.o.1.g;clear ap))
 go_wp2_with fail;go_ret;exact⟨rfl,S.o.1.be⟩
end Go.Proofs.YtpkjkjhanlbcoaaGreat
