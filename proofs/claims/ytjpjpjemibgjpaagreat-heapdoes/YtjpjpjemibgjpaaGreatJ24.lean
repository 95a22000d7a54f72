import Derived.Test.YtjpjpjemibgjpaaGreatJ23
namespace Go.Proofs.YtjpjpjemibgjpaaGreat
set_option maxRecDepth 100000
set_option maxHeartbeats 4000000
open Tryz
open Go.RowKit W Kp cg
theorem uI {P:Prop}(h:P:=by
 have P0:∀w,Calls prog 94 #[ah R] w fun e w'=>e=.returned (.bool false)/\w'=w:=fun w=>by have h:=jy R w;rw[hR] at h;exact h
 have hb0:=an w (.cells #[.int .i64 k,.int .i64 R,.int .i64 A,.int .i64 B,.int .i64 I,.int .i64 n] 44)
 clear hu;go_enter func38,ntmps38;go_wp2_with fail;refine(U _).mono ?_;rintro e w1 ⟨rfl,rfl⟩
 go_wp2_with fail;refine(P0 _).mono ?_;rintro e w1 ⟨rfl,rfl⟩
 go_wp2_with fail;go_ret;exact⟨rfl,hb0⟩):P:=h
theorem AH {P:Prop}(h:P:=by
 have P0:∀w,Calls prog 94 #[ah R] w fun e w'=>e=.returned (.bool true)/\w'=w:=fun w=>by have h:=jy R w;rw[hR] at h;exact h
 have P1:∀w,Calls prog 94 #[ah A] w fun e w'=>e=.returned (.bool false)/\w'=w:=fun w=>by have h:=jy A w;rw[hA] at h;exact h
 have hb0:=an w (.cells #[.int .i64 k,.int .i64 R,.int .i64 A,.int .i64 B,.int .i64 I,.int .i64 n] 44)
 clear hu;go_enter func38,ntmps38;go_wp2_with fail;refine(U _).mono ?_;rintro e w1 ⟨rfl,rfl⟩
 go_wp2_with fail;refine(P0 _).mono ?_;rintro e w1 ⟨rfl,rfl⟩
 go_wp2_with fail;refine(P1 _).mono ?_;rintro e w1 ⟨rfl,rfl⟩
 go_wp2_with fail;go_ret;exact⟨rfl,hb0⟩):P:=h
theorem AI {P:Prop}(h:P:=by
 go_wp2_with fail
 go_region_held3 (fun w'=>w'.cell? (am hp 0)=some (aj a.pw)/\w'.cell? (am a.pw 0)=some (aj a.p)/\w'.cell? (am a.pw 3)=some (.slice (ak a.nb) 12 12)/\w'.cell? (am a.nb r)=some (ah x)) (go_keep)
  (first
    |(go_at_call 68;refine ru.mono ?_;rintro e w5 ⟨rfl,AJ,s5⟩;obtain⟨rx,dG,t5⟩:=HA.o _ _ _ _ AJ s5;have oY:=dC dG (HT3.o.trans t5);obtain⟨g0,g1,g3,rz,_⟩:=eC dG;have gx:=HX.o rx w5 rz;clear AJ s5 dG t5 rz))
 clear h0 c0 c3 r1 g0 g1 g3 gx tc b6 b7;go_wp2_with fail;go_roundw
 case rel=>exact⟨j+1,rx,V,af,oY⟩
 case measure=>simp[intOf];omega):P:=h
theorem pF {P:Prop}(h:P:=by
 rintro e w1 ⟨rfl,rfl⟩
 go_wp2_with fail;refine(CT k R A B I n _).mono ?_;rintro e w2 ⟨rfl,hb2⟩
 go_wp2_with fail;go_ret;exact⟨rfl,hb0.trans (hb2.mono hb0.size)⟩):P:=h
theorem ja {P:Prop}(h:P:=by have h:=wX k w;rw[hu] at h;exact h):P:=h
theorem n9 {P:Prop}(h:P:=by have h:=jy A w;rw[hA] at h;exact h):P:=h
theorem AK (k:ca):∀(l:List Int)(s:ch),(l.foldl k.eF s).rs=s.rs
 |[],_=>rfl
 |x::l,s=>by rw[a8,AK k l];unfold ca.eF;split<;>rfl
theorem AL (k:ca):∀(l:List Int)(s:ch),(l.foldl k.gt s).rs=s.rs
 |[],_=>rfl
 |x::l,s=>by rw[a8,AL k l];rfl
theorem e7.told {k:ca}{s:ch}(ci:CI k s)(dh:Fo k s){q0 q:List bZ}(h:e7 k s q0 q)(p:Int->Bool):(q.filter (fun e=>p e.1)).map (fun e=>(k.nw s e.1,k.nw s e.2))=(q0.filter (fun e=>p e.1)).map (fun e=>(k.nw s e.1,k.nw s e.2)):=by
 have d:q.map (fun e=>(e.1,k.nw s e.2))=q0.map (fun e=>(e.1,k.nw s e.2)):=by
  refine uG (0,0) (by rw[aQ,aQ,h.len]) (fun n b=>?_)
  rw[aQ] at b;have c:n<q0.length:=by rw[<-h.len];exact b
  obtain⟨f,g⟩:=h.eq n c;rw[jK (fun e:bZ=>(e.1,k.nw s e.2)) q n (0,0) (0,0) b,jK (fun e:bZ=>(e.1,k.nw s e.2)) q0 n (0,0) (0,0) c,f,AC ci dh g]
 have key:∀l:List bZ,(l.filter (fun e=>p e.1)).map (fun e=>(k.nw s e.1,k.nw s e.2))=((l.map (fun e=>(e.1,k.nw s e.2))).filter (fun e=>p e.1)).map (fun e=>(k.nw s e.1,e.2)):=fun l=>by rw[kY (fun e:bZ=>(e.1,k.nw s e.2)) (fun e=>p e.1) (fun e=>p e.1) l (fun _ _=>rfl),List.map_map];rfl
 rw[key q,key q0,d]
section
variable {a:Wc}{S:ck}{W:cj}{m:Nat->Int}{Y G:List Int}
def fW (a:Wc)(S:ck)(m:Nat->Int)(G:List Int)(i:Nat):Int:=if m i∈G then m i else(S.s4 a).f (m i)
theorem cw.H7 (hR:cw a S W m Y G)(b:cI a S.s)(ax:S.s.y<=a.O-S.s.g){g:List Bool->List Bool}(hg:d9 W.T W.wt g):
 ∃K,rn a S W m (W.c0 g false) (W.cR g false).1 (W.cR g false).2.1 ⟨⟨0,(S.s6 a).g,(S.s6 a).ws,[],(S.s6 a).rs⟩,(S.s.k0 a).sR (S.t3 a) S.r,(S.s.k0 a).i5 (S.t3 a) S.r⟩ (fW a S m G) (G++K):=by
 obtain⟨D,hc,h0⟩:=i_.start hR b ax hg;have hs:=i_.settled hR b hc hg h0;obtain⟨K,li,H⟩:=hs.dv.li;have li:=li;have H:=H;obtain⟨aF,b7,c⟩:=qZ hR.kv b ax;have bd:aF=K:=by have l2:=(c.li.mi.full.lists (O:=a.O) b.n1 b.y1 b.o1 c.li.mi.ci.hg).2;have ag:=((li.mi.full.lists (O:=a.O) b.n1 b.y1 b.o1 li.mi.ci.hg).2).symm.trans l2;exact(List.append_cancel_left ag).symm
 subst bd;refine⟨aF,?_⟩
 have ci:=li.mi.ci;have dh:=li.mi.dh;have X:=hR.fO b;have hz:∀v,(v∈(S.s.k0 a).T\/v∈(S.s.z0 G).G)->∀i,0<=i->i<pf ((S.s.k0 a).l0 (S.s.z0 G) v)->cX ((S.s.k0 a).l0 (S.s.z0 G) (v+1+i))=true->cf ((S.s.k0 a).l0 (S.s.z0 G) (v+1+i))∈(S.s.k0 a).T\/cf ((S.s.k0 a).l0 (S.s.z0 G) (v+1+i))∈(S.s.z0 G).G:=fun v u i be L ha=>by rw[X] at u⊢;exact hR.kv.inv.fd v u i be L ha
 have f5:=hs.f5;have ok:=hs.ok;have M:∀i,cu (W.cR g false).1 i->(S.s.k0 a).or (S.s.z0 G) (S.s4 a) (m i) (fW a S m G i):=fun i l=>by
  have ha:=ok.al i l;unfold fW;by_cases d:m i∈G
  ·rw[aH d];exact aJ ⟨rfl,d⟩
  ·rw[aE d];have hy:=(hR.mem ha).resolve_right d;exact aI ⟨by rw[X];exact hy,rfl,((hR.jM b _ ha).1 ((f5 i ha).2 l)).resolve_left d⟩
 have hcl:fG W.T W.wt (cu (W.cR g false).1):=by
  intro i hi bg v u s;have aR:∀j,cu (W.cR g false).1 j->_/\_:=fun j I=>⟨ok.al j I,(f5 j (ok.al j I)).2 I⟩
  obtain⟨q1,t⟩:=hR.uB b hc hs.dv uC i hi (aR i bg) v (u.mono aR) s;exact(f5 _ q1).1 t
 have bi:df (S.s.k0 a) (S.t3 a).1 (S.s4 a):=by obtain⟨bl,ag,w3⟩:=h0.dv.li;obtain⟨_,_,_,cy,_⟩:=cW.eO (k:=S.s.k0 a) (z:=S.s.z0 G) (D:=D) (S.t3 a) S.r bl ag w3;exact cy
 have hup:∀i,cu (W.c0 g false) i->cu (W.cR g false).1 i:=fun i hi=>by have ha:=h0.ok.al i hi;exact(f5 i ha).1 (pB bi ((h0.f5 i ha).2 hi))
 have E:∀i,cu (W.cR g false).1 i->((W.T.getD i t0).1=3\/(W.T.getD i t0).1=4->_=_):=fun i hi q=>hR.two (ok.al i hi) (aI q)
 have N:∀v,dM W.T v->(v.1=3->cu (W.cR g false).1 v.2.toNat)->(S.s.k0 a).nw (S.s4 a) (wv m v)=wv (fW a S m G) v:=fun v u l=>by
  by_cases s:v.1=3
  ·have ha:=(u.t s).2;rw[h9 s,h9 s];unfold fW;by_cases d:m v.2.toNat∈G
   ·rw[aH d];refine n8 ?_;rw[Bool.eq_false_iff];intro hy;exact hR.jL b ((hR.n7 b ha).1 hy) d
   ·rw[aE d];have hy:=(hR.mem ha).resolve_right d;have e:=(hR.word b ha).2.2;rw[rj ((hR.n7 b ha).2 hy) (by rw[e];exact((hR.jM b _ ha).1 ((f5 _ ha).2 (l s))).resolve_left d),e]
  ·rw[i8 s,i8 s];refine n8 ?_;unfold ca.cK;rw[(m6 _ _ (u.o s)).1];have:(v.1==3)=false:=by simpa using s
   rw[this];rfl
 have uy:∀e,im W.T e->cu (W.cR g false).1 e.1.toNat->cu (W.cR g false).1 e.2.toNat->((S.s.k0 a).nw (S.s4 a) (we m e).1,(S.s.k0 a).nw (S.s4 a) (we m e).2)=we (fW a S m G) e:=fun e he bn E=>by
  have q1:=N (3,e.1) ⟨fun _=>⟨he.g0,he.g⟩,fun c=>absurd rfl c⟩ (fun _=>bn)
  have t:=N (3,e.2) ⟨fun _=>⟨he.h0,he.h⟩,fun c=>absurd rfl c⟩ (fun _=>E)
  rw[h9 rfl,h9 rfl] at q1 t;unfold we;exact Prod.ext q1 t
 have lo:∀{p:Int},(a.N:Int)<=p->ld a.N 0 (S.s6 a).g (S.s6 a).ws p=(S.s.k0 a).ld ((S.s.k0 a).be ((S.s.k0 a).mw (S.s4 a) (S.s4 a).wk) ((S.s.k0 a).mw (S.s4 a) (S.s4 a).wk).ep) p:=fun hp=>ug hp b.y1;refine
 {
  kv:=⟨c.done hR.kv b,fun v _ i _ _ _ hy=>(by cases hy)⟩,ok:=ok,cl:=hcl,up:=hup,rr:=hs.r,cc:=hs.c
  rs:=?_,pl:=fun i l=>li.mi.mem (M i l),inj:=fun i j hi I e=>?_,fV:=fun v u=>?_,hd:=fun i l=>?_,fd:=fun i l k hk=>?_,rg:=?_,wt:=?_}
 ·have bo:(S.s6 a).rs=(S.s4 a).rs:=(AL _ _ _).trans (AK _ _ _)
  show(S.s6 a).rs=_;rw[bo];refine uG 0 (by rw[aQ,hR.rl];exact c.rl) (fun i hi=>?_)
  have hi:i<12:=by rw[c.rl] at hi;exact hi
  obtain⟨er,u⟩:=hR.root hi;have hm:=c.rm i hi;rw[er] at hm;rw[AD hm (c.z8 i hi),jK (wv (fW a S m G)) W.rs i (0,0) 0 (by rw[hR.rl];exact hi)];exact N _ u (hs.r _ (getD_in (by rw[hR.rl];exact hi)))
 ·have o1:=M i hi;have aT:=M j I;rw[<-e] at aT;refine hR.inj i j (ok.al i hi) (ok.al j I) ?_;rcases o1 with⟨a1,a2⟩|⟨a1,a2,Q⟩<;>rcases aT with⟨b1,b2⟩|⟨b1,b2,b3⟩
  ·exact a1.trans b1.symm
  ·have q1:=li.mi.kF _ a2;have t:=li.mi.hlo _ (li.mi.fh _ b1 (by rw[b2];exact b3))
   rw[b2] at t;omega
  ·have q1:=li.mi.kF _ b2;have t:=li.mi.hlo _ (li.mi.fh _ a1 (by rw[a2];exact Q))
   rw[a2] at t;omega
  ·exact li.mi.inj _ a1 _ b1 (by rw[a2];exact Q) (a2.trans b2.symm)
 ·obtain⟨x,o⟩:=li.mi.from u;have hm:x∈Y\/x∈G:=by
   have:=uw o;rw[X] at this
   exact this
  obtain⟨i,hi,rfl⟩:=hR.fV x hm;have l:cu (W.cR g false).1 i:=(f5 i hi).1 ((hR.jM b _ hi).2 (by
   rcases o with⟨a1,a2⟩|⟨a1,a2,Q⟩
   ·exact aJ (by rw[a1];exact a2)
   ·exact aI (by rw[a2];exact Q)))
  refine⟨i,l,?_⟩
  unfold fW;rcases o with⟨a1,a2⟩|⟨a1,a2,Q⟩
  ·rw[aH (by rw[a1];exact a2)];exact a1
  ·rw[X] at a1;rw[aE (hR.jL b a1)];exact a2
 ·have o:=M i l;have bp:=li.mi.bd (li.mi.mem o)
  show ld a.N 0 (S.s6 a).g (S.s6 a).ws (fW a S m G i)=_;rw[lo bp.1];exact(H3 li H o).1
 ·have o:=M i l;have ha:=ok.al i l;obtain⟨ai,R,_⟩:=hR.parts ha;have U:(S.s.k0 a).ld (S.s4 a) (fW a S m G i)=ld a.N S.s.y S.s.g S.s.ws (m i):=li.mi.hd _ _ o;have L:(k:Int)<pf ((S.s.k0 a).l0 (S.s.z0 G) (m i)):=by
   show(k:Int)<pf (ld a.N S.s.y S.s.g S.s.ws (m i))
   rw[R];omega
  have br:(k:Int)<pf ((S.s.k0 a).ld (S.s4 a) (fW a S m G i)):=by rw[U,R];omega
  have ab:∀n,n<(W.T.getD i t0).2.1.length->(S.s.k0 a).l0 (S.s.z0 G) (m i+1+n)=wv m ((W.T.getD i t0).2.1.getD n (0,0)):=fun n bs=>hR.fd i ha n bs;have al:=li.mi.fd (m i) _ o k (Int.natCast_nonneg k) L;rw[ab k hk] at al;have a0:=hR.fv i ha _ (getD_in (x:=((0,0):Int×Int)) hk)
  show ld a.N 0 (S.s6 a).g (S.s6 a).ws (fW a S m G i+1+k)=_;have hN:(a.N:Int)<=fW a S m G i:=(li.mi.bd (li.mi.mem o)).1;rw[lo V,H2 li H o (Int.natCast_nonneg k) L,l8 l (E i l) hk];have lost:(W.T.getD i t0).1=3\/(W.T.getD i t0).1=4->(dq (W.cR g false).1 ((W.T.getD i t0).2.1.getD 0 (0,0))=false↔(S.s.k0 a).ls (S.s4 a) (wv m ((W.T.getD i t0).2.1.getD 0 (0,0)))=true):=fun q=>by
   have l2:=E i l q;have ap:=hR.fv i ha _ (getD_in (x:=((0,0):Int×Int)) (show 0<(W.T.getD i t0).2.1.length by omega))
   constructor
   ·intro d;obtain⟨a3,bt⟩:=oG d;have bx:=(ap.t a3).2;have:¬(S.s.k0 a).al (S.s4 a) (ew 3 (m ((W.T.getD i t0).2.1.getD 0 (0,0)).2.toNat))=true:=fun w=>by
     have:=(f5 _ bx).1 w;unfold cu at this
     rw[bt] at this
     cases this
    rw[h9 a3];unfold ca.al at this
    simpa using this
   ·intro d;obtain⟨A,_⟩:=hR.rh b ap (l6 d)
    rw[h9 A] at d;rw[AF A];cases w:(W.cR g false).1.getD ((W.T.getD i t0).2.1.getD 0 (0,0)).2.toNat false
    ·rfl
    ·have:=(f5 _ (ap.t A).2).2 w;unfold ca.al at this
     rw[d] at this
     cases this
  have met:(W.T.getD i t0).1=3\/(W.T.getD i t0).1=4->(S.s.k0 a).ls (S.s4 a) (wv m ((W.T.getD i t0).2.1.getD 0 (0,0)))=true->(S.s.k0 a).ld (S.s4 a) (fW a S m G i+1+0)=wv m ((W.T.getD i t0).2.1.getD 0 (0,0))/\((W.T.getD i t0).1=3->fW a S m G i∈(S.s4 a).wk)/\((W.T.getD i t0).1=4->fW a S m G i∈(S.s4 a).ep):=fun q d=>by
   have l2:=E i l q;have ar:(0:Int)<pf ((S.s.k0 a).l0 (S.s.z0 G) (m i)):=by
    show(0:Int)<pf (ld a.N S.s.y S.s.g S.s.ws (m i))
    rw[R];omega
   have j2:(0:Int)<pf ((S.s.k0 a).ld (S.s4 a) (fW a S m G i)):=by rw[U,R];omega
   have bb:=li.mi.fd (m i) _ o 0 (Int.le_refl 0) ar;have ex:(S.s.k0 a).l0 (S.s.z0 G) (m i+1+0)=wv m ((W.T.getD i t0).2.1.getD 0 (0,0)):=ab 0 V;rw[ex] at bb;have C:(S.s.k0 a).ld (S.s4 a) (fW a S m G i+1+0)=wv m ((W.T.getD i t0).2.1.getD 0 (0,0)):=by
    rcases bb with w|⟨_,w,_⟩
    ·exact w
    ·exact absurd (ca.mN d).2.2 w
   have f:=li.fields hs.dv.he hz hc (li.mi.mem o) (Int.le_refl 0) j2 (by rw[C];exact(ca.mN d).1)
   rw[U,ai] at f;refine⟨C,fun A=>?_,fun F=>?_⟩
   ·rcases f with w|⟨_,_,w⟩|⟨w,_⟩
    ·have:=li.mi.nZ w;rw[C,l6 d] at this
     cases this
    ·exact w
    ·omega
   ·rcases f with w|⟨w,_,_⟩|⟨_,w⟩
    ·have:=li.mi.nZ w;rw[C,l6 d] at this
     cases this
    ·omega
    ·exact w
  by_cases J:fW a S m G i∈(S.s4 a).ep
  ·have F:(W.T.getD i t0).1=4:=by
    have:=(H.ep _ J).2;rw[U,ai] at this
    exact this
   have l2:=E i l (aI F)
   have B:=hs.dv.ep _ J;have B:=B;have ar:(0:Int)<pf ((S.s.k0 a).l0 (S.s.z0 G) (m i)):=by
    show(0:Int)<pf (ld a.N S.s.y S.s.g S.s.ws (m i))
    rw[R];omega
   have bY:fW a S m G i+1+0=fW a S m G i+1:=V;rw[<-bY] at B;have ea:=li.mi.rf o (Int.le_refl 0) ar (l6 B)
   have ex:(S.s.k0 a).l0 (S.s.z0 G) (m i+1+0)=wv m ((W.T.getD i t0).2.1.getD 0 (0,0)):=ab 0 V;rw[ea,ex] at B;rw[aH J,aH ⟨⟨aI F,(lost (aI F)).2 B⟩,by
    rcases(show k=0\/k=1 by omega) with e|e
    ·exact aJ e
    ·exact aI ⟨F,e⟩⟩,uH]
  ·rw[aE J];by_cases ad:fW a S m G i∈(S.s4 a).wk/\(k:Int)=0
   ·obtain⟨hw,b8⟩:=ad;have A:(W.T.getD i t0).1=3:=by
     have:=(H.wk _ hw).2;rw[U,ai] at this
     exact this
    have eT:k=0:=V;subst eT;rw[aH ⟨hw,rfl⟩];cases B:dq (W.cR g false).1 ((W.T.getD i t0).2.1.getD 0 (0,0))
    ·have q:=(lost (aJ A)).1 B;have C:=(met (aJ A) q).1;have C:(S.s.k0 a).ld (S.s4 a) (fW a S m G i+1+((0:Nat):Int))=wv m ((W.T.getD i t0).2.1.getD 0 (0,0)):=C;rw[aH ⟨⟨aJ A,rfl⟩,aJ rfl⟩,uH,C];unfold ca.cA;rw[aH q]
    ·rw[aE (fun q=>by have:=q.1.2;simp at this)];have bZ:(S.s.k0 a).ls (S.s4 a) ((S.s.k0 a).ld (S.s4 a) (fW a S m G i+1+((0:Nat):Int)))=false:=by rw[Bool.eq_false_iff];intro w;rw[(li.mi.rf o (Int.natCast_nonneg 0) L (l6 w)),ab 0 hk] at w;rw[(lost (aJ A)).2 w] at B;cases B
     unfold ca.cA;rw[bZ,aE Z,AC ci dh al];refine N _ a0 (fun s=>?_)
     exact mC B s
   ·rw[aE ad];have b0:(S.s.k0 a).cK ((S.s.k0 a).ld (S.s4 a) (fW a S m G i+1+k))=false:=by
     cases hab:cX ((S.s.k0 a).ld (S.s4 a) (fW a S m G i+1+k))
     ·unfold ca.cK;rw[hab];rfl
     ·rcases li.fields hs.dv.he hz hc (li.mi.mem o) (Int.natCast_nonneg k) br hab with w|⟨_,w1,b4⟩|⟨_,w⟩
      ·exact li.mi.nZ w
      ·exact absurd ⟨b4,w1⟩ ad
      ·exact absurd w J
    have nb:¬((((W.T.getD i t0).1=3\/(W.T.getD i t0).1=4)/\dq (W.cR g false).1 ((W.T.getD i t0).2.1.getD 0 (0,0))=false)/\(k=0\/((W.T.getD i t0).1=4/\k=1))):=by
     rintro⟨⟨q1,t⟩,q3⟩
     obtain⟨_,b5,b6⟩:=met q1 ((lost q1).1 t)
     rcases q1 with A|F
     ·rcases q3 with e|⟨e,_⟩
      ·exact ad ⟨b5 A,V⟩
      ·omega
     ·exact J (b6 F)
    rw[aE nb,AD al b0];refine N _ a0 (fun s=>?_)
    have hl:=hR.led ok hcl l hk;rw[l8 l (E i l) hk,aE nb] at hl;exact hl s
 ·show(((S.r.filter (fun e=>(S.s.k0 a).al (S.t3 a).1 e.2)).filter (fun e=>(S.s.k0 a).al (S.s4 a) e.1)).map (fun e=>((S.s.k0 a).nw (S.s4 a) e.1,(S.s.k0 a).nw (S.s4 a) e.2)))=_;rw[hR.rg,List.filter_filter];rw[kY (we m) _ (fun e=>cD (W.c0 g false) e.2&&cD (W.cR g false).1 e.1) W.rg (fun e he=>by have q1:(S.s.k0 a).al (S.t3 a).1 (we m e).2=cD (W.c0 g false) e.2:=h0.is (hR.gv e he).h;have t:(S.s.k0 a).al (S.s4 a) (we m e).1=cD (W.cR g false).1 e.1:=hs.is (hR.gv e he).g;rw[q1,t,Bool.and_comm]),List.map_map];exact Av
 ·show((((S.s.k0 a).eO (S.t3 a) S.r).2.filter (fun e=>(S.s.k0 a).al (S.s4 a) e.1)).map (fun e=>((S.s.k0 a).nw (S.s4 a) e.1,(S.s.k0 a).nw (S.s4 a) e.2)))=_;rw[hs.dv.q.told ci dh ((S.s.k0 a).al (S.s4 a))];have hE:∀e∈W.wt++(W.cR g false).2.1,im W.T e:=fun e he=>by
   rcases List.mem_append.1 he with d|d
   ·exact hR.dz e d
   ·exact hR.gv e (hs.c e d).1
  rw[kY (we m) _ (fun e=>cD (W.cR g false).1 e.1) _ (fun e he=>hs.is (hE e he).g),List.map_map];exact As
theorem cw.AM (e:cw a S W m Y G)(b:cI a S.s){g:List Bool->List Bool}(hg:d9 W.T W.wt g):S.full a=W.cF g a.O false:=by
 have d:=e.us b;have f:=b.g1;unfold ck.full cj.cF;rw[d];by_cases c:a.O-S.s.g<S.s.y
 ·rw[bm c,bm (show(a.O:Int)-(S.s.g:Int)<(S.s.y:Int) by omega)];rfl
 ·rw[bz c,bz (show¬(a.O:Int)-(S.s.g:Int)<(S.s.y:Int) by omega)];obtain⟨D,hc,h0⟩:=i_.start e b V hg;have j:fL (fun i=>(W.cR g false).1.getD i false) (ip W.T) W.T.length<=fL (fun i=>i9 W.T i||oB W.T i) (ip W.T) W.T.length:=An _ (fun i hi hp=>by unfold i9 oB;rw[((i_.settled e b hc hg h0).ok.al i hp).2];cases (W.T.getD i t0).2.2.1<;>rfl)
  have k:=Ao (R:=fun i=>i9 W.T i||oB W.T i) (z:=ip W.T) W.T.length (fun i _=>⟨rfl,by unfold i9 oB;cases (W.T.getD i t0).2.2.2<;>cases (W.T.getD i t0).2.2.1<;>rfl⟩)
  rw[Aq] at d;have l:=congrArg Prod.fst d;have n:=congrArg Prod.snd d;rw[bz (by rw[(uv W.T (W.cR g false).1 W.T.length)];omega)];rfl
theorem cw.AN (b:cw a S W m Y G)(c:cI a S.s){g:List Bool->List Bool}(hg:d9 W.T W.wt g):S.code a=W.gz g a.O false:=by unfold ck.code cj.gz;rw[b.AM c hg]
theorem cw.cut (b:cw a S W m Y G)(d:cI a S.s){g:List Bool->List Bool}(hg:d9 W.T W.wt g):∃e f i,cw a (S.cut a) (W.cut g a.O false) e f i:=by
 unfold cj.cut;rw[<-b.AM d hg];cases hf:S.full a
 ·rw[aE Z];have j:S.s.y<=a.O-S.s.g:=by exact qL
  obtain⟨K,c⟩:=b.H7 d j hg;unfold ck.cut;rw[hf,aE Z];exact⟨_,_,_,c.done b⟩
 ·refine⟨m,Y,G,?_⟩
  unfold ck.cut;rw[hf,aH rfl];exact b
end
section
variable {k R A B I n:Int}{w:au}
theorem H8 (hu:cP k=1)(hR:dp R=false):Calls prog 38 #[.agg #[ah k,ah R,ah A,ah B,ah I,ah n]] w fun e w'=>e=.returned (ah (1))/\Below w.heap.size w w':=by
 have U:∀w,Calls prog 37 #[ah k] w fun e w'=>e=.returned (ah (1))/\w'=w:=fun w=>by exact ja
 exact uI
theorem H9 (hu:cP k=1)(b:dp R=true):Calls prog 38 #[.agg #[ah k,ah R,ah A,ah B,ah I,ah n]] w fun e w'=>e=.returned (ah (d8 k n))/\Below w.heap.size w w':=by
 have c:∀w,Calls prog 37 #[ah k] w fun e w'=>e=.returned (ah (1))/\w'=w:=fun w=>by exact ja
 have d:∀w,Calls prog 94 #[ah R] w fun e w'=>e=.returned (.bool true)/\w'=w:=fun w=>by have h:=jy R w;rw[b] at h;exact h
 have hb0:=an w (.cells #[.int .i64 k,.int .i64 R,.int .i64 A,.int .i64 B,.int .i64 I,.int .i64 n] 44)
 clear hu;go_enter func38,ntmps38;go_wp2_with fail;refine(c _).mono ?_;rintro e w1 ⟨rfl,rfl⟩
 go_wp2_with fail;refine(d _).mono ?_;exact pF
theorem H_ (hu:cP k=3)(hR:dp R=false):Calls prog 38 #[.agg #[ah k,ah R,ah A,ah B,ah I,ah n]] w fun e w'=>e=.returned (ah (1))/\Below w.heap.size w w':=by
 have U:∀w,Calls prog 37 #[ah k] w fun e w'=>e=.returned (ah (3))/\w'=w:=fun w=>by exact ja
 exact uI
theorem Ia (hu:cP k=3)(hR:dp R=true)(hA:dp A=false):Calls prog 38 #[.agg #[ah k,ah R,ah A,ah B,ah I,ah n]] w fun e w'=>e=.returned (ah (1))/\Below w.heap.size w w':=by
 have U:∀w,Calls prog 37 #[ah k] w fun e w'=>e=.returned (ah (3))/\w'=w:=fun w=>by exact ja
 exact AH
theorem Ib (hu:cP k=3)(b:dp R=true)(hA:dp A=true):Calls prog 38 #[.agg #[ah k,ah R,ah A,ah B,ah I,ah n]] w fun e w'=>e=.returned (ah (d8 k n))/\Below w.heap.size w w':=by
 have c:∀w,Calls prog 37 #[ah k] w fun e w'=>e=.returned (ah (3))/\w'=w:=fun w=>by exact ja
 have d:∀w,Calls prog 94 #[ah R] w fun e w'=>e=.returned (.bool true)/\w'=w:=fun w=>by have h:=jy R w;rw[b] at h;exact h
 have f:∀w,Calls prog 94 #[ah A] w fun e w'=>e=.returned (.bool true)/\w'=w:=fun w=>by exact n9
 have hb0:=an w (.cells #[.int .i64 k,.int .i64 R,.int .i64 A,.int .i64 B,.int .i64 I,.int .i64 n] 44)
 clear hu;go_enter func38,ntmps38;go_wp2_with fail;refine(c _).mono ?_;rintro e w1 ⟨rfl,rfl⟩
 go_wp2_with fail;refine(d _).mono ?_;rintro e w1 ⟨rfl,rfl⟩
 go_wp2_with fail;refine(f _).mono ?_;exact pF
theorem Ic (hu:cP k=7)(hR:dp R=false):Calls prog 38 #[.agg #[ah k,ah R,ah A,ah B,ah I,ah n]] w fun e w'=>e=.returned (ah (1))/\Below w.heap.size w w':=by
 have U:∀w,Calls prog 37 #[ah k] w fun e w'=>e=.returned (ah (7))/\w'=w:=fun w=>by exact ja
 exact uI
theorem Ie (hu:cP k=7)(hR:dp R=true)(hA:dp A=false):Calls prog 38 #[.agg #[ah k,ah R,ah A,ah B,ah I,ah n]] w fun e w'=>e=.returned (ah (1))/\Below w.heap.size w w':=by
 have U:∀w,Calls prog 37 #[ah k] w fun e w'=>e=.returned (ah (7))/\w'=w:=fun w=>by exact ja
 exact AH
theorem If (hu:cP k=7)(b:dp R=true)(hA:dp A=true)(hB:dp B=false):Calls prog 38 #[.agg #[ah k,ah R,ah A,ah B,ah I,ah n]] w fun e w'=>e=.returned (ah (1))/\Below w.heap.size w w':=by
 have c:∀w,Calls prog 37 #[ah k] w fun e w'=>e=.returned (ah (7))/\w'=w:=fun w=>by exact ja
 have d:∀w,Calls prog 94 #[ah R] w fun e w'=>e=.returned (.bool true)/\w'=w:=fun w=>by have h:=jy R w;rw[b] at h;exact h
 have f:∀w,Calls prog 94 #[ah A] w fun e w'=>e=.returned (.bool true)/\w'=w:=fun w=>by exact n9
 have g:∀w,Calls prog 94 #[ah B] w fun e w'=>e=.returned (.bool false)/\w'=w:=fun w=>by have h:=jy B w;rw[hB] at h;exact h
 have hb0:=an w (.cells #[.int .i64 k,.int .i64 R,.int .i64 A,.int .i64 B,.int .i64 I,.int .i64 n] 44)
 clear hu;go_enter func38,ntmps38;go_wp2_with fail;refine(c _).mono ?_;rintro e w1 ⟨rfl,rfl⟩
 go_wp2_with fail;refine(d _).mono ?_;rintro e w1 ⟨rfl,rfl⟩
 go_wp2_with fail;refine(f _).mono ?_;rintro e w1 ⟨rfl,rfl⟩
 go_wp2_with fail;refine(g _).mono ?_;exact p5
theorem Ig (hu:cP k=7)(b:dp R=true)(hA:dp A=true)(hB:dp B=true):Calls prog 38 #[.agg #[ah k,ah R,ah A,ah B,ah I,ah n]] w fun e w'=>e=.returned (ah (d8 k n))/\Below w.heap.size w w':=by
 have c:∀w,Calls prog 37 #[ah k] w fun e w'=>e=.returned (ah (7))/\w'=w:=fun w=>by exact ja
 have d:∀w,Calls prog 94 #[ah R] w fun e w'=>e=.returned (.bool true)/\w'=w:=fun w=>by have h:=jy R w;rw[b] at h;exact h
 have f:∀w,Calls prog 94 #[ah A] w fun e w'=>e=.returned (.bool true)/\w'=w:=fun w=>by exact n9
 have g:∀w,Calls prog 94 #[ah B] w fun e w'=>e=.returned (.bool true)/\w'=w:=fun w=>by have h:=jy B w;rw[hB] at h;exact h
 have hb0:=an w (.cells #[.int .i64 k,.int .i64 R,.int .i64 A,.int .i64 B,.int .i64 I,.int .i64 n] 44)
 clear hu;go_enter func38,ntmps38;go_wp2_with fail;refine(c _).mono ?_;rintro e w1 ⟨rfl,rfl⟩
 go_wp2_with fail;refine(d _).mono ?_;rintro e w1 ⟨rfl,rfl⟩
 go_wp2_with fail;refine(f _).mono ?_;rintro e w1 ⟨rfl,rfl⟩
 go_wp2_with fail;refine(g _).mono ?_;exact pF
theorem Ih (hu:cP k=6)(hA:dp A=false):Calls prog 38 #[.agg #[ah k,ah R,ah A,ah B,ah I,ah n]] w fun e w'=>e=.returned (ah (1))/\Below w.heap.size w w':=by
 have b:∀w,Calls prog 37 #[ah k] w fun e w'=>e=.returned (ah (6))/\w'=w:=fun w=>by exact ja
 have c:∀w,Calls prog 94 #[ah A] w fun e w'=>e=.returned (.bool false)/\w'=w:=fun w=>by exact n9
 have hb0:=an w (.cells #[.int .i64 k,.int .i64 R,.int .i64 A,.int .i64 B,.int .i64 I,.int .i64 n] 44)
 clear hu;go_enter func38,ntmps38;go_wp2_with fail;refine(b _).mono ?_;rintro e w1 ⟨rfl,rfl⟩
 go_wp2_with fail;refine(c _).mono ?_;exact p5
theorem Ii (hu:cP k=6)(hA:dp A=true)(hB:dp B=false):Calls prog 38 #[.agg #[ah k,ah R,ah A,ah B,ah I,ah n]] w fun e w'=>e=.returned (ah (1))/\Below w.heap.size w w':=by
 have b:∀w,Calls prog 37 #[ah k] w fun e w'=>e=.returned (ah (6))/\w'=w:=fun w=>by exact ja
 have c:∀w,Calls prog 94 #[ah A] w fun e w'=>e=.returned (.bool true)/\w'=w:=fun w=>by exact n9
 have d:∀w,Calls prog 94 #[ah B] w fun e w'=>e=.returned (.bool false)/\w'=w:=fun w=>by have h:=jy B w;rw[hB] at h;exact h
 have hb0:=an w (.cells #[.int .i64 k,.int .i64 R,.int .i64 A,.int .i64 B,.int .i64 I,.int .i64 n] 44)
 clear hu;go_enter func38,ntmps38;go_wp2_with fail;refine(b _).mono ?_;rintro e w1 ⟨rfl,rfl⟩
 go_wp2_with fail;refine(c _).mono ?_;rintro e w1 ⟨rfl,rfl⟩
 go_wp2_with fail;refine(d _).mono ?_;exact p5
theorem Ij (hu:cP k=6)(hA:dp A=true)(hB:dp B=true):Calls prog 38 #[.agg #[ah k,ah R,ah A,ah B,ah I,ah n]] w fun e w'=>e=.returned (ah (d8 k n))/\Below w.heap.size w w':=by
 have b:∀w,Calls prog 37 #[ah k] w fun e w'=>e=.returned (ah (6))/\w'=w:=fun w=>by exact ja
 have c:∀w,Calls prog 94 #[ah A] w fun e w'=>e=.returned (.bool true)/\w'=w:=fun w=>by exact n9
 have d:∀w,Calls prog 94 #[ah B] w fun e w'=>e=.returned (.bool true)/\w'=w:=fun w=>by have h:=jy B w;rw[hB] at h;exact h
 have hb0:=an w (.cells #[.int .i64 k,.int .i64 R,.int .i64 A,.int .i64 B,.int .i64 I,.int .i64 n] 44)
 clear hu;go_enter func38,ntmps38;go_wp2_with fail;refine(b _).mono ?_;rintro e w1 ⟨rfl,rfl⟩
 go_wp2_with fail;refine(c _).mono ?_;rintro e w1 ⟨rfl,rfl⟩
 go_wp2_with fail;refine(d _).mono ?_;exact pF
theorem Ik (hu:cP k=0):Calls prog 38 #[.agg #[ah k,ah R,ah A,ah B,ah I,ah n]] w fun e w'=>e=.returned (ah (d8 k n))/\Below w.heap.size w w':=by
 have b:∀w,Calls prog 37 #[ah k] w fun e w'=>e=.returned (ah (0))/\w'=w:=fun w=>by exact ja
 have hb0:=an w (.cells #[.int .i64 k,.int .i64 R,.int .i64 A,.int .i64 B,.int .i64 I,.int .i64 n] 44)
 clear hu;go_enter func38,ntmps38;go_wp2_with fail;refine(b _).mono ?_;exact pF
theorem Il (hu:cP k=-1):Calls prog 38 #[.agg #[ah k,ah R,ah A,ah B,ah I,ah n]] w fun e w'=>e=.returned (ah (2))/\Below w.heap.size w w':=by
 have b:∀w,Calls prog 37 #[ah k] w fun e w'=>e=.returned (ah (-1))/\w'=w:=fun w=>by exact ja
 go_enter func38,ntmps38;go_wp2_with fail;refine(b _).mono ?_;rintro e w1 ⟨rfl,rfl⟩
 go_wp2;go_ret;exact⟨rfl,(an w _)⟩
end
theorem lr (k R A B I n:Int)(w:au):Calls prog 38 #[.agg #[ah k,ah R,ah A,ah B,ah I,ah n]] w fun e w'=>e=.returned (ah (dF k R A B n))/\Below w.heap.size w w':=by
 unfold dF;rcases wY k with b|b|b|b|b|b
 ·rw[b,aE aa];cases hR:dp R
  ·rw[aH Z];exact H8 b hR
  ·rw[aE Z];exact H9 b hR
 ·rw[b,aE aa];cases hR:dp R
  ·rw[aH Z];exact H_ b hR
  ·cases hA:dp A
   ·rw[aH Z];exact Ia b hR hA
   ·rw[aE Z];exact Ib b hR hA
 ·rw[b,aE aa];cases hR:dp R
  ·rw[aH Z];exact Ic b hR
  ·cases hA:dp A
   ·rw[aH Z];exact Ie b hR hA
   ·cases hB:dp B
    ·rw[aH Z];exact If b hR hA hB
    ·rw[aE Z];exact Ig b hR hA hB
 ·rw[b,aE aa];cases hA:dp A
  ·rw[aH Z];exact Ih b hA
  ·cases hB:dp B
   ·rw[aH Z];exact Ii b hA hB
   ·rw[aE Z];exact Ij b hA hB
 ·rw[b,aE aa];rw[aE Z];exact Ik b
 ·rw[aH b];exact Il b
def cq (a:Wc)(hp:Nat):dP ck where
 J F S w:=∃c,(fq a).J c S w/\w.heap[hp]?=some (.cells #[aj a.pw] 49 (0,0))/\¬c hp/\∀b,F b↔(c b\/b=hp)
 lt:=by
  rintro F S w ⟨c,f,g,i,d⟩ b j;rcases(d b).1 j with e|e
  ·exact(fq a).lt f b e
  ·rw[e];exact lt_of_some g
 keep:=by rintro F S w w' ⟨c,f,g,i,d⟩ hs hk;exact⟨c,(fq a).keep f hs (fun b e=>hk b ((d b).2 (aJ e))),(hk _ ((d _).2 (aI rfl))).trans g,i,d⟩
section
variable {a:Wc}{hp:Nat}{F:Nat->Prop}{S:ck}{w:au}
theorem jN (h:(cq a hp).J F S w):∃d,(fq a).J d S w/\(∀b,d b->F b)/\∀e s1 w',(fq a).J e s1 w'->b_ d w e w'->∃i,(cq a hp).J i s1 w'/\b_ F w i w':=by
 obtain⟨d,l,j,k,f⟩:=h;refine⟨d,l,fun b c=>(f b).2 (aJ c),fun e s1 w' m g=>?_⟩
 have lp:=lt_of_some j;refine⟨fun b=>e b\/b=hp,⟨e,m,(g.fr.block _ lp k).trans j,fun c=>?_,fun b=>Iff.rfl⟩,⟨g.fr.mono (fun b c=>(f b).2 (aJ c)),fun b c=>?_⟩⟩
 ·rcases g.sub _ c with c|c
  ·exact k c
  ·omega
 ·rcases c with c|c
  ·exact(g.sub b c).imp (fun c=>(f b).2 (aJ c)) id
  ·exact aJ ((f b).2 (aI c))
structure Im (a:Wc)(hp:Nat)(s:ec)(w:au):Prop where
 h0:w.cell? (am hp 0)=some (aj a.pw)
 c0:w.cell? (am a.pw 0)=some (aj a.p)
 c3:w.cell? (am a.pw 3)=some (.slice (ak a.nb) 12 12)
 rt:∀i,i<12->w.cell? (am a.nb i)=some (ah (s.rs.getD i 0))/\w.frozen? (am a.nb i)=false
 rl:s.rs.length=12
 lp:hp<w.heap.size
 lw:a.pw<w.heap.size
 ln:a.nb<w.heap.size
theorem eC (h:(cq a hp).J F S w):Im a hp S.s w:=by
 have b:w.heap[hp]?=some (.cells #[aj a.pw] 49 (0,0)):=by obtain⟨c,_,b,_⟩:=h;exact b
 obtain⟨c,d,_⟩:=jN h;obtain⟨e,g1,_⟩:=lW d;obtain⟨c0,_,_,c3,lw,rl,ln,rt⟩:=jh g1;exact⟨by simp[World.cell?,b],c0,c3,rt,rl,lt_of_some b,lw,ln⟩
theorem jo (h:(cq a hp).J F S w):At w a.p a.q a.N a.O S.s.y S.s.g S.s.ws/\∀w' y g ws,At w' a.p a.q a.N a.O y g ws->c7 a.p a.q w w'->∃b,(cq a hp).J b ⟨{S.s with y:=y,g:=g,ws:=ws},S.r,S.q⟩ w'/\b_ F w b w':=by
 obtain⟨k,c,_,d⟩:=jN h;obtain⟨l,g1,g2⟩:=lW c;obtain⟨k1,e⟩:=jZ g1;refine⟨k1,fun w' y g ws ha f=>?_⟩
 obtain⟨m1,i⟩:=e w' y g ws ha f;obtain⟨m,n1,j⟩:=g2 _ _ _ m1 i;exact d _ _ _ n1 j
theorem AO (h:(cq a hp).J F S w)(i:Nat)(x:Int):∃b,(cq a hp).J b ⟨{S.s with rs:=S.s.rs.set i x},S.r,S.q⟩ (w.setCell ⟨a.nb,i,none⟩ (.int .i64 x))/\b_ F w b (w.setCell ⟨a.nb,i,none⟩ (.int .i64 x)):=by obtain⟨g,c,_,d⟩:=jN h;obtain⟨j,g1,g2⟩:=lW c;obtain⟨m1,e⟩:=yR g1 i x;obtain⟨k,n1,f⟩:=g2 _ _ _ m1 e;exact d _ _ _ n1 f
end
theorem AP {a:Wc}{hp:Nat}{F:Nat->Prop}{S:ck}{w:au}(h:(cq a hp).J F S w):a.nb≠hp/\a.nb≠a.pw:=by obtain⟨g,b,i,c,_⟩:=h;obtain⟨j,ar,k,⟨l,m,n,⟨own,cM,hM,hO⟩,o,p,d,_⟩,r0,r1,f⟩:=b;exact⟨fun e=>c (by rw[<-e];exact(f _).2 (aJ (d _ ((hO _).2 (by rw[hM.r1];decide))))),fun e=>by have b:=hM.r1;rw[e,hM.w1] at b;omega⟩
theorem AQ (n o:Nat)(w:au)(h0:16<=n)(x:n<=256)(H:o<=1024):
 Calls prog 11 #[ah n,ah o] w fun e w'=>∃a hp F,e=.returned (.tuple #[aj hp,.agg #[ah 0,ah 0]])/\(cq a hp).J F (iM n o).1 w'/\(a.N=n/\a.O=o)/\(∀b,F b->w.heap.size<=b)/\Below w.heap.size w w':=by
 have A:=an w (.cells #[.int .i64 0,.int .i64 0] 28)
 have P:=He n o (w.alloc (.cells #[.int .i64 0,.int .i64 0] 28)) h0 x H;have B:=aL w (.cells #[.int .i64 0,.int .i64 0] 28)
 have I:w.heap.size<(w.alloc (.cells #[.int .i64 0,.int .i64 0] 28)).heap.size:=Z;have C:=hide A;clear A;go_enter func11,ntmps11;go_wp2_with fail;generalize w.alloc (.cells #[.int .i64 0,.int .i64 0] 28)=w0 at*;generalize J:w.heap.size=fb at*;refine P.mono ?_;clear P;rintro e w1 ⟨pw,p,q,pc,cM,s,nb,rfl,D,hs,m,hg,j⟩
 obtain⟨t,E,g1⟩:=Hi (Hh D hs m j V) aa m hs;have f:=(j.block fb I).trans B;have K:w1.cell? (am fb 0)=some (ah 0):=ay f
 have y1:w1.cell? (am fb 1)=some (ah 0):=ay f
 have z0:w1.frozen? (am fb 0)=false:=az f
 have Q:w1.frozen? (am fb 1)=false:=az f
 have L:=lt_of_some f;have i:av (_/\(∀b,t b->fb<b)/\_):=⟨E,fun b c=>by obtain⟨R,g2,g3,S,g5,U,W⟩:=hg;rcases g1 b c with e|e|e|e|e|e|e<;>(rw[e];omega),C.o.trans (j.mono V)⟩
 clear D hs m hg j E g1 B C f;go_wp2_with fail;obtain⟨d,g⟩:∃d,d=(w1.setCell ⟨fb,0,none⟩ (.int .i64 0)).setCell ⟨fb,1,none⟩ (.int .i64 0):=⟨_,rfl⟩
 rw[<-g];have v0:d.cell? (am fb 0)=some (ah 0):=by rw[g,a5 _ _ _ _ Z];exact a9 _ _ _ K
 have v1:d.cell? (am fb 1)=some (ah 0):=by rw[g];exact a9 _ _ _ ((a5 w1 ⟨fb,0,none⟩ ⟨fb,1,none⟩ _ Z).trans y1)
 have u:Fr (fun k=>k=fb) w1 d:=by rw[g];exact((Fr.refl (fun k=>k=fb) w1).set fb 0 _ rfl).set fb 1 _ rfl
 have M:d.heap.size=w1.heap.size:=by rw[g];simp
 clear g;have j2:=(fq ⟨pw,p,q,pc,s,nb,n,o⟩).keep i.o.1 u.size (fun b c=>u.block b ((fq ⟨pw,p,q,pc,s,nb,n,o⟩).lt i.o.1 b c) (fun e=>by have x:=i.o.2.1 b c;have e:=e;omega))
 have l:=(an d (.cells #[.int .i64 0,.int .i64 0] 28)).alloc Z (.cells #[.pointer (some ⟨pw,0,none⟩)] 49)
 have G:=aL (d.alloc (.cells #[.int .i64 0,.int .i64 0] 28)) (.cells #[.pointer (some ⟨pw,0,none⟩)] 49)
 have N:(d.alloc (.cells #[.int .i64 0,.int .i64 0] 28)).heap.size=w1.heap.size+1:=by simp[M]
 rw[N] at G;have O:=i.o.2.2.trans (u.below (Nat.le_of_lt L) (fun k e=>Nat.le_of_eq (Eq.symm e)))
 refine bv (v:=.tuple #[aj (w1.heap.size+1),.agg #[ah 0,ah 0]]) (by simp only [results,results11];simp[go_sem,((l.cell (p:=am fb 0) (by show fb<_;omega)).trans v0),((l.cell (p:=am fb 1) (by show fb<_;omega)).trans v1)]) rfl ⟨⟨pw,p,q,pc,s,nb,n,o⟩,w1.heap.size+1,fun b=>t b\/b=w1.heap.size+1,rfl,⟨t,((fq ⟨pw,p,q,pc,s,nb,n,o⟩).below j2 l),G,fun c=>?_,fun b=>Iff.rfl⟩,⟨rfl,rfl⟩,fun b c=>?_,by rw[J];exact O.trans (l.mono V)⟩
 ·have:=(fq ⟨pw,p,q,pc,s,nb,n,o⟩).lt j2 _ c;omega
 ·rcases c with c|c
  ·have:=i.o.2.1 b c;omega
  ·omega
section
variable {a:Wc}{hp:Nat}{F:Nat->Prop}{S:ck}{w:au}
theorem In (R:Nat)(d:R<12)(n:Int)(b:vc 1 n=0):dF 1 R 0 0 n=0:=by
 have c:dp (R:Int)=true:=by unfold dp;rw[bm V,bm V];rfl
 have e:cP 1=1:=rfl;unfold dF;rw[e,aE aa,c,aE Z];unfold d8;rw[aH rfl,b]
theorem AR (R A B I n:Int)(w:au)(hp:Nat):Calls prog 40 #[aj hp,eU 1 R A B I n] w fun e w'=>e=.returned (.tuple #[ah (ew 1 n),ah (vc 1 n)])/\Below w.heap.size w w':=by
 have b:=an w (cE 1 R A B I n)
 go_enter func40,ntmps40;go_wp2_with fail;refine(oF n _).mono ?_;rintro e w1 ⟨rfl,c⟩
 go_wp2_with fail;go_ret2;exact⟨rfl,b.trans (c.mono b.size)⟩
theorem Io (h:(cq a hp).J F S w)(R:Nat)(l:R<12)(n:Int)(m:vc 1 n=0):
 Calls prog 13 #[aj hp,eU 1 R 0 0 0 n] w fun e w'=>∃o,e=.returned (ah 0)/\(cq a hp).J o ⟨{S.s with rs:=S.s.rs.set R (ew 1 n)},S.r,S.q⟩ w'/\b_ F w o w':=by
 have p:=an w (cE 1 R 0 0 0 n)
 have x:=aL w (.cells #[.int .i64 1,.int .i64 (R:Int),.int .i64 0,.int .i64 0,.int .i64 0,.int .i64 n] 44)
 have q:=lr 1 R 0 0 0 n (w.alloc (cE 1 R 0 0 0 n))
 rw[In R l n m] at q;have s:=fun w=>AR R 0 0 0 n w hp;have A:av (a.nb<w.heap.size):=(eC h).ln;rw[m] at s;have d:=jp ((cq a hp).below h p) p x ((cq a hp).lt h)
 go_enter func13,ntmps13;go_wp2_with fail;generalize w.alloc (cE 1 R 0 0 0 n)=w0 at*;generalize B:w.heap.size=c at*;refine q.mono ?_;rintro e w1 ⟨rfl,k⟩
 have f:av ((cq a hp).J F S w1/\Below c w w1/\w1.heap[c]?=some (cE 1 R 0 0 0 n)/\∀b,F b->b<c):=⟨(cq a hp).below d.o.1 k,d.o.2.1.trans (k.mono (by have:=lt_of_some d.o.2.2.1;omega)),(k.block c (lt_of_some d.o.2.2.1)).trans d.o.2.2.1,d.o.2.2.2⟩
 obtain⟨q0,q1,C,q3,D,E⟩:=fT f.o.2.2.1;go_wp2_with fail;refine(s w1).mono ?_;rintro e g ⟨rfl,i⟩
 have t:=(i.block c (lt_of_some f.o.2.2.1)).trans f.o.2.2.1;obtain⟨u0,H,_⟩:=fT t;have j:=(cq a hp).below f.o.1 i;obtain⟨h0,c0,c3,rt,rl,lp,lw,ln⟩:=eC j;obtain⟨r1,I⟩:=rt R l;have J:(R:Int)<12:=V;have K:=lt_of_some t;have nx:a.nb≠c:=by have:=A.o;omega
 obtain⟨n1,L⟩:=AP j;have u:av ((cq a hp).J F S g.drew/\b_ F w F g.drew):=⟨(cq a hp).below j (aD _ g).drew,((b_.of (by rw[B];exact f.o.2.1)).below i).below (aD _ g).drew⟩
 clear rt j i f q0 q1 C q3 D E;go_wp2_with fail
 go_region_held3 (fun w'=>w'.cell? (am hp 0)=some (aj a.pw)/\w'.cell? (am a.pw 3)=some (.slice (ak a.nb) 12 12)/\w'.cell? (am c 1)=some (ah (R:Int))) (go_keep) (fail)
 obtain⟨G,cy,t3⟩:=AO u.o.1 R (ew 1 n)
 have v:=dC cy (u.o.2.trans t3)
 go_wp2_with fail;go_ret;exact⟨rfl,G,v.o.1,v.o.2⟩
end
section
variable {a:Wc}{hp:Nat}{F:Nat->Prop}{S:ck}{w:au}
theorem AS (h:(cq a hp).J F S w)(m:Int)(hm:m<=(a.N:Int)-S.s.y):
 Calls prog 160 #[aj hp,ah m] w fun e w'=>e=.returned (ah 0)/\Below w.heap.size w w':=by
 obtain⟨h0,c0,_⟩:=eC h;have P:=ot w (jo h).1;go_enter func160,ntmps160;go_wp2_with fail;refine P.mono ?_;rintro e w1 ⟨rfl,hb1⟩
 exact lB
def gg (rs:List Int)(y:Nat)(ws:List Int)(rl:List Nat):Nat->List Int
 |0=>ws
 |j+1=>(gg rs y ws rl j).set (y+1+j) (rs.getD (rl.getD j 0) 0)
theorem Ip (h:(cq a hp).J F S w)(kd:Int)(rl:List Nat)(d W:Nat)(al:0<rl.length)(ap:rl.length<=12)(u:∀i,i<rl.length->w.cell? (am d i)=some (ah ((rl.getD i 0:Nat):Int)))(X:¬F d)(Y:d<w.heap.size)(v:∀i,i<rl.length->rl.getD i 0<12)(hk:hc kd rl.length=0)(room:S.s.y+1+rl.length<=a.N):
 Calls prog 98 #[aj hp,ah kd,.slice (ak d) rl.length W] w fun e w'=>∃b,e=.returned (.tuple #[ah (ew 3 S.s.y),ah 0])/\(cq a hp).J b ⟨{S.s with y:=S.s.y+1+rl.length,ws:=gg S.s.rs S.s.y (eM a.N S.s.y kd rl.length S.s.ws) rl rl.length},S.r,S.q⟩ w'/\b_ F w b w':=by
 have l:=(jo h).1;have n:gY a.N S.s.y kd rl.length=true:=by unfold gY;rw[hk];simp;omega
 have A:ix a.N S.s.y kd rl.length=S.s.y+1+rl.length:=by unfold ix;rw[aH n];omega
 have B:ns a.N S.s.y kd rl.length=S.s.y:=by unfold ns;rw[aH n]
 have C:=AS h (1+rl.length) V;obtain⟨h0,c0,_⟩:=eC h;have n1:=l.hN';have ar:=l.hy;have ax:=l.hg;have n4:=l.hO;have D:av (_):=h;have E:av (∀i,i<rl.length->_=_):=u;have ab:av (∀i,i<rl.length->_):=v;have G:av (_/\_):=⟨A,B⟩
 clear h u v l n A B hk;go_enter func98,ntmps98;go_wp2_with fail;refine C.mono ?_;clear C;rintro e w1 ⟨rfl,o⟩
 have p:=(cq a hp).below D.o o;obtain⟨h0,c0,_⟩:=eC p;obtain⟨f,k⟩:=jo p;have q:=wx kd rl.length w1 f;rw[G.o.1,G.o.2] at q;have HA:av (∀w' y g ws,At w' a.p a.q a.N a.O y g ws->c7 a.p a.q w1 w'->_):=k;have H:av (_):=o;clear p f k o;go_wp2_with fail;refine q.mono ?_;clear q;rintro e aB ⟨rfl,I,J⟩
 obtain⟨ad,j2,m⟩:=HA.o _ _ _ _ I J;have m:=(b_.of (F:=F) H.o).trans m;have K:∀(b:Nat->Prop)(w':au),b_ F w b w'->∀i,i<rl.length->_=_:=fun b w' t i hi=>(aU (a:=⟨d,i,none⟩) (t.fr.block d Y X)).trans (E.o i hi)
 have ag:av (∀(b:Nat->Prop)(w':au),b_ F w b w'->∀i,i<rl.length->_=_):=K;have L:av (_/\_):=⟨j2,m⟩
 clear I J j2 m HA E K H D h0 c0;go_wp2_with fail
 go_loopw [33] (fun iv wr=>∃(j:Nat)(b:Nat->Prop),j<=rl.length/\iv=ah j/\av ((cq a hp).J b ⟨{S.s with y:=S.s.y+1+rl.length,ws:=gg S.s.rs S.s.y (eM a.N S.s.y kd rl.length S.s.ws) rl j},S.r,S.q⟩ wr/\b_ F w b wr)) (fun iv _=>rl.length-(intOf iv).toNat)
 case atStart=>exact⟨0,ad,aS _,rfl,L⟩
 case round=>
  clear L;obtain⟨j,b,aF,rfl,c⟩:=hrel;by_cases M:j<rl.length
  ·have tc:=ag.o b wr c.o.2 j M;have N:=ab.o j M;have O:av (gg S.s.rs S.s.y (eM a.N S.s.y kd rl.length S.s.ws) rl (j+1)=(gg S.s.rs S.s.y (eM a.N S.s.y kd rl.length S.s.ws) rl j).set (S.s.y+1+j) (S.s.rs.getD (rl.getD j 0) 0)):=rfl;generalize rl.getD j 0=r at*;have HX:av (∀(rx:Nat->Prop)(w5:au),(∀i,i<12->w5.cell? (am a.nb i)=some (ah (S.s.rs.getD i 0))/\w5.frozen? (am a.nb i)=false)->_=_):=fun _ _ g=>(g r N).1;have Q:=(cq a hp).below c.o.1 (aD _ wr).drew;obtain⟨h0,c0,c3,rt,ai,lp,lw,ln⟩:=eC c.o.1;obtain⟨r1,_⟩:=rt r N;obtain⟨f,k⟩:=jo Q;dsimp only at r1 f k;have R:da a.N (S.s.y+1+rl.length) S.s.g ((S.s.y:Int)+1+j)=true:=ih V V;have ru:=kk ((S.s.y:Int)+1+j) (S.s.rs.getD r 0) wr.drew f;rw[R,aH rfl,show((S.s.y:Int)+1+j).toNat=S.s.y+1+j by omega,<-O.o] at ru;have HA:av (∀w' y g ws,At w' a.p a.q a.N a.O y g ws->c7 a.p a.q wr.drew w'->_):=k;have j0:(0:Int)<=(j:Int):=V;have aR:(j:Int)<(rl.length:Int):=V;have q0:(0:Int)<=(r:Int):=V;have q1:(r:Int)<12:=V;have b6:IntKind.i64.wrap ((S.s.y:Int)+1)=(S.s.y:Int)+1:=by rw[bu];omega
   have b7:IntKind.i64.wrap ((S.s.y:Int)+1+(j:Int))=(S.s.y:Int)+1+j:=by rw[bu];omega
   have HT3:av (_):=c.o.2.below (aD _ wr).drew;clear Q f k rt R O ai c;generalize S.s.rs.getD r 0=x at*;exact AI
  ·obtain rfl:j=rl.length:=V;go_wp2_with fail;refine(pP (S.s.y:Int) wr).mono ?_;rintro e aT ⟨rfl,s⟩
   have U:av (_/\_):=⟨(cq a hp).below c.o.1 s,c.o.2.below s⟩
   clear s c;go_wp2_with fail;go_ret2;exact⟨b,rfl,U.o.1,U.o.2⟩
end
def ck.kx (a:Wc)(S:ck)(x:Int):Int:=if tB a.N S.s.y S.s.g S.s.ws x=true then pk (ld a.N S.s.y S.s.g S.s.ws (cf x)) else 0
def ck.fx (a:Wc)(S:ck)(x:Int):Int:=if tB a.N S.s.y S.s.g S.s.ws x=true then pf (ld a.N S.s.y S.s.g S.s.ws (cf x)) else 0
def ck.ex (a:Wc)(S:ck)(x:Int):Int:=if tB a.N S.s.y S.s.g S.s.ws x=true then pc (ld a.N S.s.y S.s.g S.s.ws (cf x)) else 2
def ck.room (a:Wc)(S:ck)(m:Int):Int×ck:=if m<=(a.N:Int)-S.s.y then(0,S) else if(S.s.y:Int)<=(a.O:Int)-S.s.g then(S.code a,S.cut a) else(S.hQ a,S.dA a)
def ck.put (a:Wc)(S:ck)(kd:Int)(rl:List Nat):ck:=⟨{S.s with y:=S.s.y+1+rl.length,ws:=gg S.s.rs S.s.y (eM a.N S.s.y kd rl.length S.s.ws) rl rl.length},S.r,S.q⟩
def ck.bY (a:Wc)(S:ck)(kd:Int)(rl:List Nat):Int×Int×ck:=if(S.room a (1+rl.length)).1=0 then(ew 3 (S.room a (1+rl.length)).2.s.y,0,(S.room a (1+rl.length)).2.put a kd rl) else(0,(S.room a (1+rl.length)).1,(S.room a (1+rl.length)).2)
def ck.pop (a:Wc)(S:ck)(x:Int):Int×Int×ck:=
 if S.kx a x=5 then(if dR x S.q<S.q.length then((S.q.getD (dR x S.q) (0,0)).2,0,⟨S.s,S.r,S.q.take (dR x S.q)++S.q.drop (dR x S.q+1)⟩) else(0,4,S)) else(0,2,S)
def ck.len (a:Wc)(S:ck)(x:Int):Int×Int×ck:=if S.ex a x=0/\S.kx a x≠5 then(ew 1 (S.fx a x),vc 1 (S.fx a x),S) else(0,2,S)
def ck.rt (a:Wc)(S:ck)(k:Int)(A B:Nat)(I n:Int):Int×Int×ck:=
 if k=1 then(ew 1 n,vc 1 n,S) else if k=3 then(S.s.rs.getD A 0,0,S) else if k=4 then S.bY a 1 [A,B] else if k=5 then S.bY a 2 (List.replicate n.toNat A)
 else if k=6 then S.bY a 3 [A,B] else if k=7 then S.bY a 4 [A,B] else if k=8 then S.bY a 5 [] else if k=10 then S.pop a (S.s.rs.getD A 0)
 else if k=11 then((if dT a.N S.s.y S.s.g S.s.ws (S.s.rs.getD A 0) I=0 then ld a.N S.s.y S.s.g S.s.ws (cf (S.s.rs.getD A 0)+1+I) else 0),dT a.N S.s.y S.s.g S.s.ws (S.s.rs.getD A 0) I,S)
 else if k=13 then S.len a (S.s.rs.getD A 0) else if k=14 then(if S.s.rs.getD A 0=S.s.rs.getD B 0 then ew 1 1 else ew 1 0,0,S) else(2,0,S)
def ck.reg (a:Wc)(S:ck)(t g:Int):Int×ck:=
 if S.ex a t=0 then(if S.kx a g=5 then(if 24<=S.r.length+S.q.length then(3,S) else(0,⟨S.s,S.r++[(g,t)],S.q⟩)) else(2,S)) else(S.ex a t,S)
def ck.set (a:Wc)(S:ck)(x i z:Int):ck:=⟨{S.s with ws:=fZ a.N S.s.y S.s.g S.s.ws x i z,M:=stM a.N S.s.y S.s.g S.s.ws x i z (dU a.O) S.s.M},S.r,S.q⟩
def ck.st (S:ck)(R:Nat)(x:Int):ck:=⟨{S.s with rs:=S.s.rs.set R x},S.r,S.q⟩
def ck.hd (a:Wc)(S:ck)(k R A B I n:Int):Int×ck:=
 if dF k R A B n=0 then(if k=9 then S.reg a (S.s.rs.getD A.toNat 0) (S.s.rs.getD B.toNat 0) else if k=12 then(dT a.N S.s.y S.s.g S.s.ws (S.s.rs.getD A.toNat 0) I,S.set a (S.s.rs.getD A.toNat 0) I (S.s.rs.getD B.toNat 0))
  else if k=15 then(S.code a,S.cut a) else if k=16 then(S.hQ a,S.dA a)
  else if(S.rt a k A.toNat B.toNat I n).2.1=0 then(0,(S.rt a k A.toNat B.toNat I n).2.2.st R.toNat (S.rt a k A.toNat B.toNat I n).1) else((S.rt a k A.toNat B.toNat I n).2.1,(S.rt a k A.toNat B.toNat I n).2.2))
 else(dF k R A B n,S)
theorem AT (k:ca):∀(l:List Int)(s:ch),(l.foldl k.eF s).rs=s.rs
 |[],_=>rfl
 |x::l,s=>by rw[a8,AT k l];unfold ca.eF;split<;>rfl
theorem AU (k:ca):∀(l:List Int)(s:ch),(l.foldl k.gt s).rs=s.rs
 |[],_=>rfl
 |x::l,s=>by rw[a8,AU k l];rfl
section
variable {a:Wc}{S:ck}{Y G:List Int}
theorem em.Iq (h:em a S.s Y G)(b:cI a S.s):cI a (S.cut a).s:=by
 unfold ck.cut;cases hf:S.full a
 ·have g:S.s.y<=a.O-S.s.g:=by exact qL
  obtain⟨K,D,c⟩:=qZ h b g;rw[aE Z];have c4:=c.li.mi.ci;have c5:=(c4.mw (fun x d=>(c4.ij x d).1)).1;have f:=(c5.be (fun x d=>(c5.g_ x d).1)).1;have e:(S.s6 a).rs=(S.s4 a).rs:=(AU _ _ _).trans (AT _ _ _)
  exact⟨b.n0,b.n1,b.o1,aS _,f.hg,f.len,by rw[e];exact c.rl⟩
 ·exact b
theorem em.Ir (h:em a S.s Y G)(b:cI a S.s):cI a (S.dA a).s:=by
 cases hf:S.fD a
 ·obtain⟨_,g,_⟩:=l4 h b hf;exact(g.gc.inv h b g.al).2
 ·have c:S.dA a=S:=by unfold ck.dA;rw[aH hf]
  rw[c];exact b
theorem em.store {s:ec}(h:em a s Y G)(b:cI a s){v i z:Int}(e:v∈Y)(f:0<=i)(g:i<pf (ld a.N s.y s.g s.ws v))(hz:cX z=true->cf z∈Y\/cf z∈G):em a {s with ws:=s.ws.set (v+1+i).toNat z} Y G:=by
 refine⟨h.inv.set b.l1 b.y1 b.g1 (aJ e) f g hz,?_⟩
 obtain⟨_,hk⟩:=h.inv.full.set b.l1 b.y1 b.g1 (aJ e) f g;have m:=mV h.inv.full e f g;have n:=b.y1;have hl:=b.l1;intro u c j j0 d ha k;rw[hk u (aI c)] at d;have o:=mW h.inv.full c j0 d;have hi:=jF h.inv.full (aI c) j0 d;have l:ld a.N s.y s.g (s.ws.set (v+1+i).toNat z) (u+1+j)=ld a.N s.y s.g s.ws (u+1+j):=by rw[dX hi,dX hi,jS _ _ _ _ V,aE V]
 rw[l] at ha k;exact h.cd u c j j0 d ha k
end
theorem em.any {a:Wc}{s:ec}{Y G:List Int}(h:em a s Y G)(i:Nat)(ha:cX (s.rs.getD i 0)=true):cf (s.rs.getD i 0)∈Y\/cf (s.rs.getD i 0)∈G:=by
 by_cases hi:i<s.rs.length
 ·exact h.inv.at i hi ha
 ·rw[aC,List.getElem?_eq_none V] at ha;exact absurd ha aa
theorem uJ (ws:List Int)(y:Nat)(x:Int):∀k,(ff ws y x k).length=ws.length
 |0=>by simp[ff]
 |k+1=>by rw[ff,aX];exact uJ ws y x k
structure Is (a:Wc)(S:ck)(kd:Int)(rl:List Nat)(Y G:List Int)(ws:List Int):Prop where
 k:em a {S.s with y:=S.s.y+1+rl.length,ws:=ws} (Y++[(S.s.y:Int)]) G
 l:ws.length=a.N+a.O
 p:ld a.N (S.s.y+1+rl.length) S.s.g ws S.s.y=hw kd rl.length
 h:∀v,(v∈Y\/v∈G)->ld a.N (S.s.y+1+rl.length) S.s.g ws v=ld a.N S.s.y S.s.g S.s.ws v
theorem uK {a:Wc}{S:ck}{Y G:List Int}{kd:Int}{rl:List Nat}(h:em a S.s Y G)(b:cI a S.s)(hk:hc kd rl.length=0)(m:S.s.y+1+rl.length<=a.N):∀j,j<=rl.length->Is a S kd rl Y G (gg S.s.rs S.s.y (eM a.N S.s.y kd rl.length S.s.ws) rl j)
 |0,_=>by
  have hm:gY a.N S.s.y kd rl.length=true:=by unfold gY;simp;omega
  have p:ix a.N S.s.y kd rl.length=S.s.y+1+rl.length:=by unfold ix;rw[aH hm];omega
  have g:eM a.N S.s.y kd rl.length S.s.ws=ff S.s.ws S.s.y (hw kd rl.length) rl.length:=by unfold eM;rw[aH hm];rfl
  have q:=b.l1;have hlt:S.s.y+rl.length<S.s.ws.length:=V;have m1:=h.inv.make b.l1 hm;have n:=kG.make h.inv h.cd b.l1 hm;rw[p] at m1 n;have s:(eM a.N S.s.y kd rl.length S.s.ws).length=a.N+a.O:=by rw[g,uJ];exact q
  refine⟨⟨m1,n⟩,s,?_,fun v f=>?_⟩
  ·show ld a.N _ S.s.g (eM a.N S.s.y kd rl.length S.s.ws) S.s.y=_;rw[g,dX (ih V V),kS _ _ _ _ _ hlt,aH V]
  ·show ld a.N _ S.s.g (eM a.N S.s.y kd rl.length S.s.ws) v=_;rw[g];rcases f with i|i
   ·have hi:=h.inv.full.ii v i;exact tp
   ·have hi:=h.inv.full.io v i;exact qr
 |j+1,t=>by
  have d:=uK h b hk m j V;have e:gg S.s.rs S.s.y (eM a.N S.s.y kd rl.length S.s.ws) rl (j+1)=(gg S.s.rs S.s.y (eM a.N S.s.y kd rl.length S.s.ws) rl j).set (S.s.y+1+j) (S.s.rs.getD (rl.getD j 0) 0):=rfl;rw[e];generalize gg S.s.rs S.s.y _ rl j=ws at d⊢;have k:cI a {S.s with y:=S.s.y+1+rl.length,ws:=ws}:=⟨b.n0,b.n1,b.o1,m,b.g1,d.l,b.r1⟩
  have l:(S.s.y:Int)∈Y++[(S.s.y:Int)]:=Z;have o:((j:Nat):Int)<pf (ld a.N (S.s.y+1+rl.length) S.s.g ws S.s.y):=by rw[d.p,(pK kd rl.length hk).2.1];omega
  have st:=d.k.store k (z:=S.s.rs.getD (rl.getD j 0) 0) l V o (fun ha=>by exact(h.any _ ha).imp (fun c=>aZ _ c) id)
  have u:((S.s.y:Int)+1+(j:Nat)).toNat=S.s.y+1+j:=V;have hs:=(d.k.inv.full.set (z:=S.s.rs.getD (rl.getD j 0) 0) d.l k.y1 k.g1 (aJ l) (Int.natCast_nonneg j) o).2;refine⟨st,by rw[aX];exact d.l,(hs _ (aJ l)).trans d.p,fun v f=>(hs v (f.imp (fun c=>aZ _ c) id)).trans (d.h v f)⟩
structure dV (a:Wc)(S:ck)(j:Nat):Prop where
 kv:∃Y G,em a S.s Y G
 eo:jn a S
 m:S.s.M.length<=j
 ez:S.r.length+S.q.length<=24
def n_ (a:Wc)(S:ck)(v:Int):Prop:=cX v=true->tB a.N S.s.y S.s.g S.s.ws v=true
section
variable {a:Wc}{S:ck}{j:Nat}
theorem dV.start (a:Wc)(n o:Nat):dV a (iM n o).1 0:=by
 refine⟨⟨[],[],⟨d6.start,fun x c ha=>?_,fun v d=>?_⟩,fun v d=>(by cases d)⟩,fun e he=>?_,aA _,(show(0:Nat)<=24 by decide)⟩
 ·have c:x∈tw 2 12:=c;have e:x=2:=by simpa[tw] using c
  rw[e,Aa] at ha;cases ha
 ·rcases d with b|b<;>cases b
 ·rcases he with b|b<;>cases b
theorem dV.mono {i:Nat}(h:dV a S j)(hi:j<=i):dV a S i:=⟨h.kv,h.eo,aP h.m hi,h.ez⟩
theorem dV.cut (h:dV a S j)(b:cI a S.s):dV a (S.cut a) j/\cI a (S.cut a).s:=by
 obtain⟨Y,G,hk⟩:=h.kv;have l1:=Hj a S;have l2:=h.ez;refine⟨⟨hk.cut b,h.eo.cut hk b,?_,V⟩,hk.Iq b⟩
 have:=h.m;unfold ck.cut;split
 ·omega
 ·exact aS _
theorem dV.dA (h:dV a S j)(b:cI a S.s):dV a (S.dA a) j/\cI a (S.dA a).s:=by obtain⟨Y,G,hk⟩:=h.kv;obtain⟨_,g2,g3⟩:=hk.dA b;have l1:=HG a S;have l2:=h.ez;have c:=h.m;exact⟨⟨g2,h.eo.dA hk b,V,V⟩,hk.Ir b⟩
theorem dV.qW (h:dV a S j)(b:cI a S.s):S.fD a=false->∃F,il (S.k5 a) (S.dG a) F/\F 0 (S.k5 a,0):=by obtain⟨Y,G,hk⟩:=h.kv;exact(hk.dA b).1
theorem AV (h:S.code a≠0):S.cut a=S:=by
 unfold ck.code at h;unfold ck.cut;split at h
 ·rename_i c;rw[aH c]
 ·exact absurd rfl h
theorem AW (h:S.hQ a≠0):S.dA a=S:=by
 unfold ck.hQ at h;unfold ck.dA;split at h
 ·rename_i c;rw[aH c]
 ·exact absurd rfl h
theorem It (h:S.code a=0):(S.cut a).s.y=0:=by
 unfold ck.code at h;unfold ck.cut;split at h
 ·omega
 ·rename_i c;rw[aE c]
theorem Iu {Y G:List Int}(hk:em a S.s Y G)(b:cI a S.s)(h:S.hQ a=0):(S.dA a).s.y=0:=by
 have d:S.fD a=false:=by
  unfold ck.hQ at h;split at h
  ·omega
  ·rename_i c;simpa using c
 obtain⟨_,g,_⟩:=l4 hk b d;exact g.gc.y
theorem dV.room (h:dV a S j)(b:cI a S.s)(m:Int):dV a (S.room a m).2 j/\cI a (S.room a m).2.s/\((S.room a m).1=0->m<=16->m<=(a.N:Int)-(S.room a m).2.s.y)/\((S.room a m).1≠0->(S.room a m).2=S):=by
 obtain⟨Y,G,hk⟩:=h.kv;have n0:=b.n0;unfold ck.room;split
 ·rename_i c;exact⟨h,b,fun _ _=>c,fun q=>absurd rfl q⟩
 ·split
  ·obtain⟨d,e⟩:=h.cut b;refine⟨d,e,fun q _=>?_,fun q=>AV q⟩
   rw[It q];omega
  ·obtain⟨d,e⟩:=h.dA b;refine⟨d,e,fun q _=>?_,fun q=>AW q⟩
   rw[Iu hk b q];omega
theorem dV.put (h:dV a S j)(b:cI a S.s){kd:Int}{rl:List Nat}(hk:hc kd rl.length=0)(e:S.s.y+1+rl.length<=a.N):dV a (S.put a kd rl) j/\cI a (S.put a kd rl).s/\n_ a (S.put a kd rl) (ew 3 S.s.y):=by
 obtain⟨Y,G,kv⟩:=h.kv;have p:=uK kv b hk e rl.length bW
 have d:cI a (S.put a kd rl).s:=⟨b.n0,b.n1,b.o1,e,b.g1,p.l,b.r1⟩
 have n1:=b.n1;have y1:=b.y1;refine⟨⟨⟨_,_,p.k⟩,?_,h.m,h.ez⟩,d,fun _=>?_⟩
 ·exact h.eo.more kv b p.k.inv.full d.y1 d.g1 (fun v f=>f.imp (fun c=>aZ _ c) id)
 ·obtain⟨g,i⟩:=mU S.s.y V;exact(iW p.k.inv.full d.n1 d.y1 d.o1 d.g1).2 ⟨g,aJ (by rw[i];simp)⟩
theorem dV.bY (h:dV a S j)(e:cI a S.s){kd:Int}{rl:List Nat}(hk:hc kd rl.length=0):dV a (S.bY a kd rl).2.2 j/\cI a (S.bY a kd rl).2.2.s/\((S.bY a kd rl).2.1=0->n_ a (S.bY a kd rl).2.2 (S.bY a kd rl).1)/\((S.bY a kd rl).2.1≠0->(S.bY a kd rl).2.2=S):=by
 obtain⟨b,d,f,g⟩:=h.room e _;have hl:=iE kd rl.length hk;unfold ck.bY;split
 ·rename_i c;obtain⟨i,k,l⟩:=b.put d hk (by have:=f c V;omega)
  exact⟨i,k,fun _=>l,fun q=>absurd rfl q⟩
 ·rename_i c;exact⟨b,d,fun q=>absurd q c,fun _=>g c⟩
theorem dV.root (h:dV a S j)(b:cI a S.s)(i:Nat):n_ a S (S.s.rs.getD i 0):=fun ha=>by obtain⟨Y,G,kv⟩:=h.kv;exact(iW kv.inv.full b.n1 b.y1 b.o1 b.g1).2 ⟨ha,kv.any i ha⟩
theorem rA {n:Int}(h:vc 1 n=0):n_ a S (ew 1 n):=fun ha=>by rw[(m6 1 n h).1] at ha;exact absurd ha aa
theorem dV.rt (h:dV a S j)(b:cI a S.s){k n:Int}(A B:Nat)(I:Int)(hk:d8 k n=0):dV a (S.rt a k A B I n).2.2 j/\cI a (S.rt a k A B I n).2.2.s/\((S.rt a k A B I n).2.1=0->n_ a (S.rt a k A B I n).2.2 (S.rt a k A B I n).1)/\((S.rt a k A B I n).2.1≠0->(S.rt a k A B I n).2.2=S):=by
 unfold ck.rt;by_cases c:k=1
 ·rw[aH c];exact⟨h,b,fun q=>rA q,fun _=>rfl⟩
 rw[aE c];by_cases g:k=3
 ·rw[aH g];exact⟨h,b,fun _=>h.root b A,fun _=>rfl⟩
 rw[aE g];by_cases i:k=4
 ·rw[aH i];exact h.bY b rfl
 rw[aE i];by_cases d:k=5
 ·rw[aH d];refine h.bY b ?_;unfold d8 at hk;rw[aE c,aH d] at hk;have:=iE 2 n hk;rw[bw,show((n.toNat:Nat):Int)=n by omega];exact hk
 rw[aE d];by_cases l:k=6
 ·rw[aH l];exact h.bY b rfl
 rw[aE l];by_cases m:k=7
 ·rw[aH m];exact h.bY b rfl
 rw[aE m];by_cases o:k=8
 ·rw[aH o];exact h.bY b rfl
 rw[aE o];by_cases p:k=10
 ·rw[aH p];unfold ck.pop;generalize S.s.rs.getD A 0=x;split
  ·split
   ·rename_i hi;have C:S.q.getD (dR x S.q) (0,0)∈S.q:=by rw[aC,aG hi];exact a6 hi
    have sub:∀e,e∈S.q.take (dR x S.q)++S.q.drop (dR x S.q+1)->e∈S.q:=fun e he=>by
     rcases List.mem_append.1 he with f|f
     ·exact bE f
     ·exact List.mem_of_mem_drop f
    refine⟨⟨h.kv,fun e he=>h.eo e (he.imp id (sub e)),h.m,?_⟩,b,fun _ _=>(h.eo _ (aI C)).2,fun q=>absurd rfl q⟩
    have:=h.ez;dsimp only;rw[aW,bf,List.length_drop];omega
   ·exact⟨h,b,fun q=>absurd q (by dsimp only;omega),fun _=>rfl⟩
  ·exact⟨h,b,fun q=>absurd q (by dsimp only;omega),fun _=>rfl⟩
 rw[aE p];by_cases s:k=11
 ·rw[aH s];refine⟨h,b,fun q ha=>?_,fun _=>rfl⟩
  have q:=q;rw[aH q] at ha⊢;obtain⟨Y,G,kv⟩:=h.kv;obtain⟨D,E,t3,t⟩:=mT q;obtain⟨_,u⟩:=(iW kv.inv.full b.n1 b.y1 b.o1 b.g1).1 D;rw[kv.inv.full.stands b.y1 u] at t;exact(iW kv.inv.full b.n1 b.y1 b.o1 b.g1).2 ⟨ha,kv.inv.fd _ u I t3 t ha⟩
 rw[aE s];by_cases v:k=13
 ·rw[aH v];unfold ck.len;split
  ·exact⟨h,b,fun q=>rA q,fun _=>rfl⟩
  ·exact⟨h,b,fun q=>absurd q (by dsimp only;omega),fun _=>rfl⟩
 rw[aE v];by_cases w:k=14
 ·rw[aH w];refine⟨h,b,fun _=>?_,fun _=>rfl⟩
  dsimp only;split
  ·exact rA aa
  ·exact rA aa
 rw[aE w];exact⟨h,b,fun _ ha=>by have ha:cX 2=true:=ha;exact absurd ha aa,fun _=>rfl⟩
theorem dV.st (h:dV a S j)(b:cI a S.s){R:Nat}{x:Int}(c:n_ a S x):dV a (S.st R x) j/\cI a (S.st R x).s:=by
 obtain⟨Y,G,kv⟩:=h.kv;refine⟨⟨⟨Y,G,kv.root R x (fun ha=>(iW kv.inv.full b.n1 b.y1 b.o1 b.g1).1 (c ha) |>.2)⟩,fun e he=>h.eo e he,h.m,h.ez⟩,⟨b.n0,b.n1,b.o1,b.y1,b.g1,b.l1,?_⟩⟩
 show(S.s.rs.set R x).length=12;rw[aX];exact b.r1
theorem dV.set (h:dV a S j)(b:cI a S.s)(A B:Nat)(I:Int):dV a (S.set a (S.s.rs.getD A 0) I (S.s.rs.getD B 0)) (j+1)/\cI a (S.set a (S.s.rs.getD A 0) I (S.s.rs.getD B 0)).s:=by
 obtain⟨Y,G,kv⟩:=h.kv;refine⟨⟨⟨Y,G,?_,kG.set kv.inv kv.cd b.l1 b.n1 b.y1 b.o1 b.g1 _ _ _⟩,?_,?_,h.ez⟩,⟨b.n0,b.n1,b.o1,b.y1,b.g1,?_,b.r1⟩⟩
 ·show hX a.N S.s.y S.s.g (fZ a.N S.s.y S.s.g S.s.ws (S.s.rs.getD A 0) I (S.s.rs.getD B 0)) Y G S.s.rs;by_cases e:dT a.N S.s.y S.s.g S.s.ws (S.s.rs.getD A 0) I=0
  ·obtain⟨i,l,t3,f⟩:=mT e;obtain⟨_,d⟩:=(iW kv.inv.full b.n1 b.y1 b.o1 b.g1).1 i;rw[kv.inv.full.stands b.y1 d] at f;unfold fZ;rw[aH e,aH (jF kv.inv.full d t3 f)];exact kv.inv.set b.l1 b.y1 b.g1 d t3 f (fun k=>kv.any B k)
  ·rw[(nY (M:=S.s.M) (c:=dU a.O) e).1];exact kv.inv
 ·exact h.eo.more kv b (kv.inv.full.fZ b.l1 b.n1 b.y1 b.o1 b.g1 (S.s.rs.getD A 0) I (S.s.rs.getD B 0)) b.y1 b.g1 (fun v d=>d)
 ·have:=h.m;have:=G5 (N:=a.N) (y:=S.s.y) (g:=S.s.g) (ws:=S.s.ws) (S.s.rs.getD A 0) I (S.s.rs.getD B 0) (dU a.O) S.s.M;show(stM a.N S.s.y S.s.g S.s.ws _ I _ (dU a.O) S.s.M).length<=j+1;omega
 ·show(fZ a.N S.s.y S.s.g S.s.ws _ I _).length=a.N+a.O;unfold fZ;split
  ·split
   ·rw[aX];exact b.l1
   ·exact b.l1
  ·exact b.l1
theorem Iv {x i z:Int}(h:dT a.N S.s.y S.s.g S.s.ws x i≠0):S.set a x i z=S:=by unfold ck.set;rw[(nY (M:=S.s.M) (c:=dU a.O) h).1,(nY h).2]
theorem Iw {x:Int}(h:S.ex a x=0):tB a.N S.s.y S.s.g S.s.ws x=true:=by
 unfold ck.ex at h;split at h
 ·assumption
 ·omega
theorem Ix {x:Int}(h:S.kx a x=5):tB a.N S.s.y S.s.g S.s.ws x=true:=by
 unfold ck.kx at h;split at h
 ·assumption
 ·omega
theorem dV.reg (h:dV a S j)(c:cI a S.s)(t g:Int):dV a (S.reg a t g).2 j/\cI a (S.reg a t g).2.s/\((S.reg a t g).1≠0->(S.reg a t g).2=S):=by
 unfold ck.reg;split
 ·rename_i c1;split
  ·rename_i c2;split
   ·exact⟨h,c,fun _=>rfl⟩
   ·rename_i c3;refine⟨⟨h.kv,fun e he=>?_,h.m,?_⟩,c,fun q=>absurd rfl q⟩
    ·rcases he with b|b
     ·rcases List.mem_append.1 b with b|b
      ·exact h.eo e (aJ b)
      ·rw[List.mem_singleton.1 b];exact⟨Ix c2,Iw c1⟩
     ·exact h.eo e (aI b)
    ·dsimp only;rw[aW,List.length_singleton];omega
  ·exact⟨h,c,fun _=>rfl⟩
 ·exact⟨h,c,fun _=>rfl⟩
theorem AX {k R A B n:Int}(h:dF k R A B n=0):d8 k n=0:=by
 unfold dF at h;split at h
 ·omega
 ·split at h
  ·omega
  ·exact h
theorem dV.hd (h:dV a S j)(d:cI a S.s)(k R A B I n:Int):dV a (S.hd a k R A B I n).2 (j+1)/\cI a (S.hd a k R A B I n).2.s/\((S.hd a k R A B I n).1≠0->(S.hd a k R A B I n).2=S):=by
 unfold ck.hd;split
 ·rename_i hc;split
  ·obtain⟨r1,b,r3⟩:=h.reg d _ _;exact⟨r1.mono V,b,r3⟩
  ·split
   ·obtain⟨r1,b⟩:=h.set d A.toNat B.toNat I;exact⟨r1,b,fun q=>Iv q⟩
   ·split
    ·obtain⟨r1,b⟩:=h.cut d;exact⟨r1.mono V,b,fun q=>AV q⟩
    ·split
     ·obtain⟨r1,b⟩:=h.dA d;exact⟨r1.mono V,b,fun q=>AW q⟩
     ·obtain⟨r1,b,r3,e⟩:=h.rt d A.toNat B.toNat I (AX hc)
      split
      ·rename_i c;obtain⟨s1,s2⟩:=r1.st b (r3 c)
       exact⟨s1.mono V,s2,fun q=>absurd rfl q⟩
      ·rename_i c;exact⟨r1.mono V,b,fun _=>e c⟩
 ·exact⟨h.mono V,d,fun _=>rfl⟩
end
end Go.Proofs.YtjpjpjemibgjpaaGreat
