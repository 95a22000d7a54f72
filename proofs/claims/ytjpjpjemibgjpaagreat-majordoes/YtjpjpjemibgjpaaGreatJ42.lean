import Derived.Test.YtjpjpjemibgjpaaGreatJ41
import Derived.Test.YtjpjpjemibgjpaaGreatJ15
import Derived.Test.YtjpjpjemibgjpaaGreatJ36
import Derived.Test.YtjpjpjemibgjpaaGreatJ07
import Derived.Test.YtjpjpjemibgjpaaGreatJ37
import Derived.Test.YtjpjpjemibgjpaaGreatJ29
import Derived.Test.YtjpjpjemibgjpaaGreatJ00
import Derived.Test.YtjpjpjemibgjpaaGreatJ03
import Derived.Test.YtjpjpjemibgjpaaGreatJ19
import Derived.Test.YtjpjpjemibgjpaaGreatJ05
namespace Go.Proofs.YtjpjpjemibgjpaaGreat
open Go.RowKit W Kp bY
theorem vf (k:bP):∀(l:List Int)(s:bU),(l.foldl k.ex s).rs=s.rs
 |[],_=>rfl
 |x::l,s=>by rw[aI,vf k l];unfold bP.ex;split<;>rfl
theorem vg (k:bP):∀(l:List Int)(s:bU),(l.foldl k.gg s).rs=s.rs
 |[],_=>rfl
 |x::l,s=>by rw[aI,vg k l];rfl
theorem ez.told {k:bP}{s:bU}(ci:CI k s)(cV:Fo k s){q0 q:List bN}(h:ez k s q0 q)(p:Int->Bool):(q.filter (fun e=>p e.1)).map (fun e=>(k.nw s e.1,k.nw s e.2))=(q0.filter (fun e=>p e.1)).map (fun e=>(k.nw s e.1,k.nw s e.2)):=by
 have c:q.map (fun e=>(e.1,k.nw s e.2))=q0.map (fun e=>(e.1,k.nw s e.2)):=by
  refine qD (0,0) (by rw[aE,aE,h.len]) (fun n a=>?_)
  rw[aE] at a;have b:n<q0.length:=by rw[<-h.len];exact a
  obtain⟨d,f⟩:=h.eq n b;rw[iX (fun e:bN=>(e.1,k.nw s e.2)) q n (0,0) (0,0) a,iX (fun e:bN=>(e.1,k.nw s e.2)) q0 n (0,0) (0,0) b,d,u7 ci cV f]
 have key:∀l:List bN,(l.filter (fun e=>p e.1)).map (fun e=>(k.nw s e.1,k.nw s e.2))=((l.map (fun e=>(e.1,k.nw s e.2))).filter (fun e=>p e.1)).map (fun e=>(k.nw s e.1,e.2)):=fun l=>by rw[jJ (fun e:bN=>(e.1,k.nw s e.2)) (fun e=>p e.1) (fun e=>p e.1) l (fun _ _=>rfl),List.map_map];rfl
 rw[key q,key q0,c]
section
variable {a:Wc}{S:bZ}{W:b_}{m:Nat->Int}{Y G:List Int}
def e1 (a:Wc)(S:bZ)(m:Nat->Int)(G:List Int)(i:Nat):Int:=if m i∈G then m i else(S.s4 a).f (m i)
theorem cj.By (b:cj a S W m Y G)(l:cG a S.s)(bl:S.s.y<=a.O-S.s.g){g:List Bool->List Bool}(hg:e_ W.T W.wt g):
 ∃K,oC a S W m (W.c0 g false) (W.cR g false).1 (W.cR g false).2.1 ⟨⟨0,(S.s6 a).g,(S.s6 a).ws,[],(S.s6 a).rs⟩,(S.s.k0 a).sR (S.t3 a) S.r,(S.s.k0 a).fw (S.t3 a) S.r⟩ (e1 a S m G) (G++K):=by
 obtain⟨D,hc,h0⟩:=hQ.start b l bl hg;have hs:=hQ.settled b l hc hg h0;obtain⟨K,li,J⟩:=hs.cL.li;have li:LI (S.s.k0 a) (S.s.z0 G) (S.s4 a) K D:=li;have J:dJ (S.s.k0 a) (S.s.z0 G) (S.s4 a) K:=J;obtain⟨aR,ce,c⟩:=AV b.kv l bl;have bN:aR=K:=by have l1:=(li.mi.full.lists (O:=a.O) l.n1 l.y1 l.o1 li.mi.ci.hg).2;have l2:=(c.li.mi.full.lists (O:=a.O) l.n1 l.y1 l.o1 c.li.mi.ci.hg).2;have aT:G++K=G++aR:=l1.symm.trans l2;exact(List.append_cancel_left aT).symm
 subst bN;refine⟨aR,?_⟩
 have ci:=li.mi.ci;have cV:=li.mi.cV;have ai:=b.eE l;have hz:∀v,(v∈(S.s.k0 a).T\/v∈(S.s.z0 G).G)->∀i,0<=i->i<pf ((S.s.k0 a).l0 (S.s.z0 G) v)->cI ((S.s.k0 a).l0 (S.s.z0 G) (v+1+i))=true->bQ ((S.s.k0 a).l0 (S.s.z0 G) (v+1+i))∈(S.s.k0 a).T\/bQ ((S.s.k0 a).l0 (S.s.z0 G) (v+1+i))∈(S.s.z0 G).G:=fun v A i bO P ha=>by rw[ai] at A⊢;exact b.kv.inv.fd v A i bO P ha
 have fg:∀i,cv W.T i->((S.s.k0 a).al (S.s4 a) (ew 3 (m i))=true↔b8 (W.cR g false).1 i):=hs.fg;have ok:=hs.ok;have Q:∀i,b8 (W.cR g false).1 i->(S.s.k0 a).or (S.s.z0 G) (S.s4 a) (m i) (e1 a S m G i):=fun i s=>by
  have ha:=ok.al i s;unfold e1;by_cases d:m i∈G
  ·rw[aq d];exact ap ⟨rfl,d⟩
  ·rw[ao d];have hy:=(b.mem ha).resolve_right d;exact an ⟨by rw[ai];exact hy,rfl,((b.iC l _ ha).1 ((fg i ha).2 s)).resolve_left d⟩
 have a0:eF W.T W.wt (b8 (W.cR g false).1):=by
  have bR:=b.qy l hc hs.cL qz;intro i hi bS v A t;have bn:∀j,b8 (W.cR g false).1 j->cv W.T j/\(S.s.k0 a).al (S.s4 a) (ew 3 (m j))=true:=fun j L=>⟨ok.al j L,(fg j (ok.al j L)).2 L⟩
  obtain⟨q1,u⟩:=bR i hi (bn i bS) v (A.mono bn) t;exact(fg _ q1).1 u
 have bT:c5 (S.s.k0 a) (S.t3 a).1 (S.s4 a):=by obtain⟨bU,aT,w3⟩:=h0.cL.li;obtain⟨_,_,_,b7,_⟩:=cP.d_ (k:=S.s.k0 a) (z:=S.s.z0 G) (D:=D) (S.t3 a) S.r bU aT w3;exact b7
 have bo:∀i,b8 (W.c0 g false) i->b8 (W.cR g false).1 i:=fun i hi=>by have ha:=h0.ok.al i hi;exact(fg i ha).1 (ou bT ((h0.fg i ha).2 hi))
 have F:∀i,b8 (W.cR g false).1 i->((W.T.getD i t0).1=3\/(W.T.getD i t0).1=4->(W.T.getD i t0).2.1.length=2):=fun i hi q=>b.two (ok.al i hi) (an q)
 have R:∀v,d4 W.T v->(v.1=3->b8 (W.cR g false).1 v.2.toNat)->(S.s.k0 a).nw (S.s4 a) (wv m v)=wv (e1 a S m G) v:=fun v A s=>by
  by_cases t:v.1=3
  ·have ha:=(A.t t).2;rw[fW t,fW t];unfold e1;by_cases d:m v.2.toNat∈G
   ·rw[aq d];refine lX ?_;rw[Bool.eq_false_iff];intro hy;exact b.iA l ((b.lW l ha).1 hy) d
   ·rw[ao d];have hy:=(b.mem ha).resolve_right d;have bV:=((b.iC l _ ha).1 ((fg _ ha).2 (s t))).resolve_left d;have e:=(b.word l ha).2.2;rw[oz ((b.lW l ha).2 hy) (by rw[e];exact bV),e]
  ·rw[iz t,iz t];refine lX ?_;unfold bP.cq;rw[(kk _ _ (A.o t)).1];have:(v.1==3)=false:=by simpa using t
   rw[this];rfl
 have bp:∀e,gI W.T e->b8 (W.cR g false).1 e.1.toNat->b8 (W.cR g false).1 e.2.toNat->((S.s.k0 a).nw (S.s4 a) (we m e).1,(S.s.k0 a).nw (S.s4 a) (we m e).2)=we (e1 a S m G) e:=fun e he bW F=>by
  have q1:=R (3,e.1) ⟨fun _=>⟨he.g0,he.g⟩,fun c=>absurd rfl c⟩ (fun _=>bW)
  have u:=R (3,e.2) ⟨fun _=>⟨he.h0,he.h⟩,fun c=>absurd rfl c⟩ (fun _=>F)
  rw[fW rfl,fW rfl] at q1 u;unfold we;exact Prod.ext q1 u
 have lo:∀{p:Int},(a.N:Int)<=p->ld a.N 0 (S.s6 a).g (S.s6 a).ws p=(S.s.k0 a).ld ((S.s.k0 a).be ((S.s.k0 a).mw (S.s4 a) (S.s4 a).wk) ((S.s.k0 a).mw (S.s4 a) (S.s4 a).wk).ep) p:=fun hp=>qa hp l.y1;refine
 {
  kv:=⟨c.done b.kv l,fun v _ i _ _ _ hy=>(by cases hy)⟩,ok:=ok,cl:=a0,up:=bo,rr:=hs.r,cc:=hs.c
  rs:=?_,pl:=fun i s=>li.mi.mem (Q i s),inj:=fun i j hi L e=>?_,e8:=fun v A=>?_,hd:=fun i s=>?_,fd:=fun i s k hk=>?_,rg:=?_,wt:=?_}
 ·have bX:(S.s6 a).rs=(S.s4 a).rs:=(vg _ _ _).trans (vf _ _ _)
  show(S.s6 a).rs=_;rw[bX];refine qD 0 (by rw[aE,b.rl];exact c.rl) (fun i hi=>?_)
  have hi:i<12:=by rw[c.rl] at hi;exact hi
  obtain⟨er,A⟩:=b.root hi;have hm:=c.rm i hi;rw[er] at hm;rw[u8 hm (c.uy i hi),iX (wv (e1 a S m G)) W.rs i (0,0) 0 (by rw[b.rl];exact hi)];exact R _ A (hs.r _ (getD_in (by rw[b.rl];exact hi)))
 ·have o1:=Q i hi;have br:=Q j L;rw[<-e] at br;refine b.inj i j (ok.al i hi) (ok.al j L) ?_;rcases o1 with⟨a1,a2⟩|⟨a1,a2,U⟩<;>rcases br with⟨b1,b2⟩|⟨b1,b2,b3⟩
  ·exact a1.trans b1.symm
  ·have q1:=li.mi.i7 _ a2;have u:=li.mi.hlo _ (li.mi.fh _ b1 (by rw[b2];exact b3))
   rw[b2] at u;omega
  ·have q1:=li.mi.i7 _ b2;have u:=li.mi.hlo _ (li.mi.fh _ a1 (by rw[a2];exact U))
   rw[a2] at u;omega
  ·exact li.mi.inj _ a1 _ b1 (by rw[a2];exact U) (a2.trans b2.symm)
 ·obtain⟨x,o⟩:=li.mi.from A;have hm:x∈Y\/x∈G:=by
   have:=qu o;rw[ai] at this
   exact this
  obtain⟨i,hi,rfl⟩:=b.e8 x hm;have s:b8 (W.cR g false).1 i:=(fg i hi).1 ((b.iC l _ hi).2 (by
   rcases o with⟨a1,a2⟩|⟨a1,a2,U⟩
   ·exact ap (by rw[a1];exact a2)
   ·exact an (by rw[a2];exact U)))
  refine⟨i,s,?_⟩
  unfold e1;rcases o with⟨a1,a2⟩|⟨a1,a2,U⟩
  ·rw[aq (by rw[a1];exact a2)];exact a1
  ·rw[ai] at a1;rw[ao (b.iA l a1)];exact a2
 ·have o:=Q i s;have a3:=li.mi.bd (li.mi.mem o)
  show ld a.N 0 (S.s6 a).g (S.s6 a).ws (e1 a S m G i)=_;rw[lo a3.1];exact(Bu li J o).1
 ·have o:=Q i s;have ha:=ok.al i s;obtain⟨bb,X,_⟩:=b.parts ha;have a3:=li.mi.bd (li.mi.mem o)
  have ad:(S.s.k0 a).ld (S.s4 a) (e1 a S m G i)=ld a.N S.s.y S.s.g S.s.ws (m i):=li.mi.hd _ _ o;have P:(k:Int)<pf ((S.s.k0 a).l0 (S.s.z0 G) (m i)):=by
   show(k:Int)<pf (ld a.N S.s.y S.s.g S.s.ws (m i))
   rw[X];omega
  have bY:(k:Int)<pf ((S.s.k0 a).ld (S.s4 a) (e1 a S m G i)):=by rw[ad,X];omega
  have al:∀n,n<(W.T.getD i t0).2.1.length->(S.s.k0 a).l0 (S.s.z0 G) (m i+1+n)=wv m ((W.T.getD i t0).2.1.getD n (0,0)):=fun n bZ=>b.fd i ha n bZ;have bd:=li.mi.fd (m i) _ o k (Int.natCast_nonneg k) P;rw[al k hk] at bd;have bs:=b.fv i ha _ (getD_in (x:=((0,0):Int×Int)) hk)
  show ld a.N 0 (S.s6 a).g (S.s6 a).ws (e1 a S m G i+1+k)=_;have hN:(a.N:Int)<=e1 a S m G i:=a3.1;rw[lo I,Bt li J o (Int.natCast_nonneg k) P,kj s (F i s) hk];have lost:(W.T.getD i t0).1=3\/(W.T.getD i t0).1=4->(dl (W.cR g false).1 ((W.T.getD i t0).2.1.getD 0 (0,0))=false↔(S.s.k0 a).ls (S.s4 a) (wv m ((W.T.getD i t0).2.1.getD 0 (0,0)))=true):=fun q=>by
   have l2:=F i s q;have be:=b.fv i ha _ (getD_in (x:=((0,0):Int×Int)) (show 0<(W.T.getD i t0).2.1.length by omega))
   constructor
   ·intro d;obtain⟨bx,b0⟩:=l_ d;have b4:=(be.t bx).2;have:¬(S.s.k0 a).al (S.s4 a) (ew 3 (m ((W.T.getD i t0).2.1.getD 0 (0,0)).2.toNat))=true:=fun w=>by
     have:=(fg _ b4).1 w;unfold b8 at this
     rw[b0] at this
     cases this
    rw[fW bx];unfold bP.al at this
    simpa using this
   ·intro d;obtain⟨B,_⟩:=b.oy l be (kh d)
    rw[fW B] at d;rw[u_ B];cases w:(W.cR g false).1.getD ((W.T.getD i t0).2.1.getD 0 (0,0)).2.toNat false
    ·rfl
    ·have:=(fg _ (be.t B).2).2 w;unfold bP.al at this
     rw[d] at this
     cases this
  have met:(W.T.getD i t0).1=3\/(W.T.getD i t0).1=4->(S.s.k0 a).ls (S.s4 a) (wv m ((W.T.getD i t0).2.1.getD 0 (0,0)))=true->(S.s.k0 a).ld (S.s4 a) (e1 a S m G i+1+0)=wv m ((W.T.getD i t0).2.1.getD 0 (0,0))/\((W.T.getD i t0).1=3->e1 a S m G i∈(S.s4 a).wk)/\((W.T.getD i t0).1=4->e1 a S m G i∈(S.s4 a).ep):=fun q d=>by
   have l2:=F i s q;have bg:(0:Int)<pf ((S.s.k0 a).l0 (S.s.z0 G) (m i)):=by
    show(0:Int)<pf (ld a.N S.s.y S.s.g S.s.ws (m i))
    rw[X];omega
   have j2:(0:Int)<pf ((S.s.k0 a).ld (S.s4 a) (e1 a S m G i)):=by rw[ad,X];omega
   have bL:=li.mi.fd (m i) _ o 0 (Int.le_refl 0) bg;have bi:(S.s.k0 a).l0 (S.s.z0 G) (m i+1+0)=wv m ((W.T.getD i t0).2.1.getD 0 (0,0)):=al 0 I;rw[bi] at bL;have E:(S.s.k0 a).ld (S.s4 a) (e1 a S m G i+1+0)=wv m ((W.T.getD i t0).2.1.getD 0 (0,0)):=by
    rcases bL with w|⟨_,w,_⟩
    ·exact w
    ·exact absurd (bP.kI d).2.2 w
   have f:=li.fields hs.cL.he hz hc (li.mi.mem o) (Int.le_refl 0) j2 (by rw[E];exact(bP.kI d).1)
   rw[ad,bb] at f;refine⟨E,fun B=>?_,fun H=>?_⟩
   ·rcases f with w|⟨_,_,w⟩|⟨w,_⟩
    ·have:=li.mi.mT w;rw[E,kh d] at this
     cases this
    ·exact w
    ·omega
   ·rcases f with w|⟨w,_,_⟩|⟨_,w⟩
    ·have:=li.mi.mT w;rw[E,kh d] at this
     cases this
    ·omega
    ·exact w
  by_cases M:e1 a S m G i∈(S.s4 a).ep
  ·have H:(W.T.getD i t0).1=4:=by
    have:=(J.ep _ M).2;rw[ad,bb] at this
    exact this
   have l2:=F i s (an H)
   have C:=hs.cL.ep _ M;have C:(S.s.k0 a).ls (S.s4 a) ((S.s.k0 a).ld (S.s4 a) (e1 a S m G i+1))=true:=C;have bg:(0:Int)<pf ((S.s.k0 a).l0 (S.s.z0 G) (m i)):=by
    show(0:Int)<pf (ld a.N S.s.y S.s.g S.s.ws (m i))
    rw[X];omega
   have b5:e1 a S m G i+1+0=e1 a S m G i+1:=I;rw[<-b5] at C;have ea:=li.mi.ox o (Int.le_refl 0) bg (kh C)
   have bi:(S.s.k0 a).l0 (S.s.z0 G) (m i+1+0)=wv m ((W.T.getD i t0).2.1.getD 0 (0,0)):=al 0 I;rw[ea,bi] at C;rw[aq M,aq ⟨⟨an H,(lost (an H)).2 C⟩,by
    rcases(show k=0\/k=1 by omega) with e|e
    ·exact ap e
    ·exact an ⟨H,e⟩⟩,qE]
  ·rw[ao M];by_cases ar:e1 a S m G i∈(S.s4 a).wk/\(k:Int)=0
   ·obtain⟨hw,cf⟩:=ar;have B:(W.T.getD i t0).1=3:=by
     have:=(J.wk _ hw).2;rw[ad,bb] at this
     exact this
    have eR:k=0:=I;subst eR;rw[aq ⟨hw,rfl⟩];cases C:dl (W.cR g false).1 ((W.T.getD i t0).2.1.getD 0 (0,0))
    ·have q:=(lost (ap B)).1 C;have E:=(met (ap B) q).1;have E:(S.s.k0 a).ld (S.s4 a) (e1 a S m G i+1+((0:Nat):Int))=wv m ((W.T.getD i t0).2.1.getD 0 (0,0)):=E;rw[aq ⟨⟨ap B,rfl⟩,ap rfl⟩,qE,E];unfold bP.ch;rw[aq q]
    ·rw[ao (fun q=>by have:=q.1.2;simp at this)];have b6:(S.s.k0 a).ls (S.s4 a) ((S.s.k0 a).ld (S.s4 a) (e1 a S m G i+1+((0:Nat):Int)))=false:=by
      rw[Bool.eq_false_iff];intro w;have ea:=li.mi.ox o (Int.natCast_nonneg 0) P (kh w)
      rw[ea,al 0 hk] at w;rw[(lost (ap B)).2 w] at C;cases C
     unfold bP.ch;rw[b6,ao V,u7 ci cV bd];refine R _ bs (fun t=>?_)
     exact ly C t
   ·rw[ao ar];have b9:(S.s.k0 a).cq ((S.s.k0 a).ld (S.s4 a) (e1 a S m G i+1+k))=false:=by
     cases hab:cI ((S.s.k0 a).ld (S.s4 a) (e1 a S m G i+1+k))
     ·unfold bP.cq;rw[hab];rfl
     ·rcases li.fields hs.cL.he hz hc (li.mi.mem o) (Int.natCast_nonneg k) bY hab with w|⟨_,w1,ca⟩|⟨_,w⟩
      ·exact li.mi.mT w
      ·exact absurd ⟨ca,w1⟩ ar
      ·exact absurd w M
    have nb:¬((((W.T.getD i t0).1=3\/(W.T.getD i t0).1=4)/\dl (W.cR g false).1 ((W.T.getD i t0).2.1.getD 0 (0,0))=false)/\(k=0\/((W.T.getD i t0).1=4/\k=1))):=by
     rintro⟨⟨q1,u⟩,q3⟩
     obtain⟨_,cb,cd⟩:=met q1 ((lost q1).1 u)
     rcases q1 with B|H
     ·rcases q3 with e|⟨e,_⟩
      ·exact ar ⟨cb B,I⟩
      ·omega
     ·exact M (cd H)
    rw[ao nb,u8 bd b9];refine R _ bs (fun t=>?_)
    have hl:=b.led ok a0 s hk;rw[kj s (F i s) hk,ao nb] at hl;exact hl t
 ·show(((S.r.filter (fun e=>(S.s.k0 a).al (S.t3 a).1 e.2)).filter (fun e=>(S.s.k0 a).al (S.s4 a) e.1)).map (fun e=>((S.s.k0 a).nw (S.s4 a) e.1,(S.s.k0 a).nw (S.s4 a) e.2)))=_;rw[b.rg,List.filter_filter];rw[jJ (we m) _ (fun e=>cn (W.c0 g false) e.2&&cn (W.cR g false).1 e.1) W.rg (fun e he=>by have q1:(S.s.k0 a).al (S.t3 a).1 (we m e).2=cn (W.c0 g false) e.2:=h0.is (b.gv e he).h;have u:(S.s.k0 a).al (S.s4 a) (we m e).1=cn (W.cR g false).1 e.1:=hs.is (b.gv e he).g;rw[q1,u,Bool.and_comm]),List.map_map];refine List.map_congr_left (fun e he=>?_)
  obtain⟨ax,N⟩:=List.mem_filter.1 he;rw[aQ] at N;exact bp e (b.gv e ax) N.2 (bo _ N.1)
 ·show((((S.s.k0 a).d_ (S.t3 a) S.r).2.filter (fun e=>(S.s.k0 a).al (S.s4 a) e.1)).map (fun e=>((S.s.k0 a).nw (S.s4 a) e.1,(S.s.k0 a).nw (S.s4 a) e.2)))=_;have hq:ez (S.s.k0 a) (S.s4 a) ((W.wt++(W.cR g false).2.1).map (we m)) ((S.s.k0 a).d_ (S.t3 a) S.r).2:=hs.cL.q;rw[hq.told ci cV ((S.s.k0 a).al (S.s4 a))];have bM:∀e∈W.wt++(W.cR g false).2.1,gI W.T e:=fun e he=>by
   rcases List.mem_append.1 he with d|d
   ·exact b.de e d
   ·exact b.gv e (hs.c e d).1
  rw[jJ (we m) _ (fun e=>cn (W.cR g false).1 e.1) _ (fun e he=>hs.is (bM e he).g),List.map_map];refine List.map_congr_left (fun e he=>?_)
  obtain⟨ax,N⟩:=List.mem_filter.1 he;have aF:=bM e ax;refine bp e aF N ?_;rcases List.mem_append.1 ax with d|d
  ·exact a0 _ aF.g.1 N (3,e.2) (an (an (an ⟨aF.k,e,d,by have:=aF.g0;omega,rfl⟩))) rfl
  ·exact(hs.c e d).2
theorem cj.vh (e:cj a S W m Y G)(b:cG a S.s){g:List Bool->List Bool}(hg:e_ W.T W.wt g):S.full a=W.cF g a.O false:=by
 have d:=e.us b;have l:=b.g1;unfold bZ.full b_.cF;rw[d];dsimp only;by_cases c:a.O-S.s.g<S.s.y
 ·rw[a8 c,a8 (show(a.O:Int)-(S.s.g:Int)<(S.s.y:Int) by omega)];rfl
 ·rw[aZ c,aZ (show¬(a.O:Int)-(S.s.g:Int)<(S.s.y:Int) by omega)];obtain⟨D,hc,h0⟩:=hQ.start e b I hg;have hs:=hQ.settled e b hc hg h0;have n:eM (fun i=>(W.cR g false).1.getD i false) (f9 W.T) W.T.length<=eM (fun i=>g7 W.T i||oB W.T i) (f9 W.T) W.T.length:=uV _ (fun i hi hp=>by have ha:=hs.ok.al i hp;unfold g7 oB;rw[ha.2];cases (W.T.getD i t0).2.2.1<;>rfl)
  have o:=uW (P:=g7 W.T) (Q:=oB W.T) (R:=fun i=>g7 W.T i||oB W.T i) (z:=f9 W.T) W.T.length (fun i _=>⟨rfl,by unfold g7 oB;cases (W.T.getD i t0).2.2.2<;>cases (W.T.getD i t0).2.2.1<;>rfl⟩)
  rw[uY] at d;have f:=congrArg Prod.fst d;have j:=congrArg Prod.snd d;dsimp only at f j;have k:=qq W.T (W.cR g false).1 W.T.length;rw[aZ (by rw[k];omega)];rfl
theorem cj.Bz (b:cj a S W m Y G)(c:cG a S.s){g:List Bool->List Bool}(hg:e_ W.T W.wt g):S.code a=W.g9 g a.O false:=by unfold bZ.code b_.g9;rw[b.vh c hg]
theorem cj.cut (b:cj a S W m Y G)(d:cG a S.s){g:List Bool->List Bool}(hg:e_ W.T W.wt g):∃e f i,cj a (S.cut a) (W.cut g a.O false) e f i:=by
 unfold b_.cut;rw[<-b.vh d hg];cases hf:S.full a
 ·rw[ao V];have j:S.s.y<=a.O-S.s.g:=by unfold bZ.full at hf;have:=of_decide_eq_false hf;omega
  obtain⟨K,c⟩:=b.By d j hg;unfold bZ.cut;rw[hf,ao V];exact⟨_,_,_,c.done b⟩
 ·rw[aq rfl];refine⟨m,Y,G,?_⟩
  unfold bZ.cut;rw[hf,aq rfl];exact b
end
section
variable {a:Wc}{S:bZ}{W:b_}{m:Nat->Int}{Y G:List Int}
theorem d4.vq {T:List cE}{v:Int×Int}(a:d4 T v)(d:T.length<=10000):hX T v:=by
 refine⟨?_,a.t⟩
 by_cases b:v.1=3
 ·obtain⟨h0,c⟩:=a.t b;have:=c.1;rw[b];exact lZ _ h0 I
 ·exact a.o b
theorem cj.BA (h:cj a S W m Y G)(b:W.T.length<=10000)(hw:W.wt.length<=10000):jY W.T W.wt:=
 ⟨fun i hi v c=>(h.fv i hi v c).vq b,fun e he=>⟨(h.de e he).g0,(h.de e he).h0,(h.de e he).h⟩,h.tl,b,hw⟩
abbrev oD (W:b_)(x:Int):Prop:=0<=x/\cv W.T x.toNat
abbrev oE (m:Nat->Int)(x:Int):Int:=m x.toNat
theorem cj.qF (h:cj a S W m Y G)(d:cG a S.s)(e:W.T.length<=10000){v:Int×Int}(c:d4 W.T v):iw (oD W) (oE m) (dr v) (wv m v):=by
 obtain⟨f,g⟩:=kG (c.vq e)
 obtain⟨_,i,j⟩:=h.dec d c;unfold iw;rw[f,g,i,j];by_cases b:v.1=3
 ·rw[aq b];exact ap ⟨b,b,c.t b,rfl⟩
 ·rw[ao b];exact an ⟨b,rfl,rfl⟩
theorem cj.bi (h:cj a S W m Y G)(d:cG a S.s)(j:W.T.length<=10000):lT (oD W) (oE m) (tI W.T.length) (eJ W.T) (eS W.T W.wt) (Y++G) (fun v=>pk (ld a.N S.s.y S.s.g S.s.ws v)) (dj a.N S.s.y S.s.g S.s.ws S.q):=by
 refine⟨fun x b=>mo.2 ⟨b.1,by have:=b.2.1;have:=b.1;omega⟩,fun x b=>List.mem_append.2 (h.mem b.2),fun x y b hy e=>?_,fun x b=>?_,fun x b=>?_⟩
 ·have:=h.inj _ _ b.2 hy.2 e;have:=b.1;have:=hy.1;omega
 ·exact(h.parts b.2).1
 ·obtain⟨s,hi⟩:=b;obtain⟨i,rfl⟩:=Int.eq_ofNat_of_zero_le s;rw[Int.toNat_natCast] at hi;obtain⟨n,t,_⟩:=h.parts hi;have o:=h.mem hi;show gT _ (eS W.T W.wt (i:Int)) (dj a.N S.s.y S.s.g S.s.ws S.q (m ((i:Int)).toNat))
  unfold eS;rw[Int.toNat_natCast];by_cases f:(W.T.getD i t0).1=5
  ·have hl:(W.T.getD i t0).2.1=[]:=by have g:=(h.hd i hi).1;rw[f] at g;simp[hc] at g;exact g
   rw[aq f,hl,List.map_nil,List.nil_append];unfold dj;rw[aq (by rw[n];exact f)];unfold gy;rw[h.wt,jJ (we m) (fun e=>e.1==ew 3 (m i)) (fun e=>e.1==(i:Int)) W.wt (fun e he=>?_),List.map_map]
   ·have key:∀l:List bN,(∀e∈l,gI W.T e)->gT (iw (oD W) (oE m)) (l.map (fun e=>ew 3 e.2)) (l.map ((·.2)∘we m)):=by
     intro l
     induction l with
     |nil=>intro _;trivial
     |cons e l u=>
      intro hl;have he:=hl e V;refine⟨?_,u (fun x b=>hl x (ay _ b))⟩
      have:=h.qF d j (v:=(3,e.2)) ⟨fun _=>⟨he.h0,he.h⟩,fun c=>absurd rfl c⟩
      rw[fW rfl] at this
      exact this
    exact key _ (fun e he=>h.de e (List.mem_filter.1 he).1)
   ·have he:=h.de e he;show(ew 3 (m e.1.toNat)==ew 3 (m i))=(e.1==(i:Int))
    by_cases p:e.1=(i:Int)
    ·rw[p,Int.toNat_natCast];simp
    ·have n1:ew 3 (m e.1.toNat)≠ew 3 (m i):=fun c=>by have c1:=(h.word d he.g).2.2;have c2:=(h.word d hi).2.2;rw[c,c2] at c1;have:=h.inj _ _ hi he.g c1;have:=he.g0;omega
     rw[a6 n1,a6 p]
  ·rw[ao f,List.append_nil];have q:pk (ld a.N S.s.y S.s.g S.s.ws (m i))≠5:=by rw[n];exact f
   have l1:=lP h.kv.inv.full d.y1 S.q o q;rw[t] at l1;have l1:(dj a.N S.s.y S.s.g S.s.ws S.q (m i)).length=(W.T.getD i t0).2.1.length:=I;refine gT.of (by rw[aE];exact l1.symm) (fun k hk=>?_)
   rw[aE] at hk;rw[(mW h.kv.inv.full d.y1 S.q o q).1 k I,iX dr _ k (0,0) 0 hk,h.fd i hi k hk];exact h.qF d j (h.fv i hi _ (getD_in hk))
theorem cj.view (h:cj a S W m Y G)(b:cG a S.s)(c:W.T.length<=10000):(c_ a.N S.s.y S.s.g S.s.ws S.q S.s.rs).1=(ig.jZ W.T W.wt W.rs).1/\(c_ a.N S.s.y S.s.g S.s.ws S.q S.s.rs).2.2=(ig.jZ W.T W.wt W.rs).2.2:=by
 obtain⟨d,e⟩:=h.kv.inv.full.lists (O:=a.O) b.n1 b.y1 b.o1 b.g1;have hl:gT (iw (oD W) (oE m)) (W.rs.map dr) S.s.rs:=by
  rw[h.rs];refine gT.of V (fun i hi=>?_)
  rw[aE] at hi;rw[iX dr _ i (0,0) 0 hi,iX (wv m) _ i (0,0) 0 hi];exact h.qF b c (h.rv _ (getD_in hi))
 unfold c_ ig.jZ;rw[d,e];obtain⟨b1,b2,_⟩:=uB (h.bi b c) hl (n:=W.T.length) (n':=(Y++G).length) (by rw[js];exact ak _) bJ
 exact⟨b1.symm,b2⟩
end
section
variable {w:World}{pw p q N O y g:Nat}{ws:List Int}{sd:Nat}{v0:Value}{a1:Option Addr}{k1:Nat}{Q:List bN}{l:List Int}{ra:Option Addr}{rc:Nat}
end
section
variable {c:ej}{F:Nat->Prop}{S:bZ×b_}{w:World}
end
end Go.Proofs.YtjpjpjemibgjpaaGreat
