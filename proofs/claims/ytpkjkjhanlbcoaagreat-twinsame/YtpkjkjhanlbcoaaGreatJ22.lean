import Derived.Test.YtpkjkjhanlbcoaaGreatJ21
namespace Go.Proofs.YtpkjkjhanlbcoaaGreat
open Go.RowKit W Kp cf oS
structure C0 where
 g:Nat
 ws:List Int
 G:List Int
def ce.l0 (k:ce)(z:C0)(a:Int):Int:=Proofs.YtpkjkjhanlbcoaaGreat.ld k.N k.y z.g z.ws a
def ce.or (k:ce)(z:C0)(s:cj)(a b:Int):Prop:=(a=b/\b∈z.G)\/(a∈k.T/\s.f a=b/\b≠-1)
def ce.ml (k:ce)(s:cj)(b x:Int):Prop:=x=b\/(k.cK b=true/\s.f (cg b)≠-1/\x=ew 3 (s.f (cg b)))
structure dE (k:ce)(z:C0)(s:cj)(H:List Int):Prop where
 ci:CI k s
 qB:z.g<=s.g
 full:d5 k.N k.y s.g s.ws k.T (z.G++H)
 kJ:∀b∈z.G,b<(k.N:Int)+z.g
 m9:∀b,0<=b->b<(k.y:Int)->k.ld s b=k.l0 z b
 fh:∀a∈k.T,s.f a≠-1->s.f a∈H
 inj:∀a∈k.T,∀b∈k.T,s.f a≠-1->s.f a=s.f b->a=b
 f4:∀b∈H,∃a∈k.T,s.f a=b
 hlo:∀b∈H,(k.N:Int)+z.g<=b
 hd:∀a b,k.or z s a b->k.ld s b=k.l0 z a
 fd:∀a b,k.or z s a b->∀i,0<=i->i<pf (k.l0 z a)->k.ml s (k.l0 z (a+1+i)) (k.ld s (b+1+i))
structure dh (k:ce)(s t:cj):Prop where
 f:∀a,s.f a≠-1->t.f a=s.f a
 g:s.g<=t.g
 cl:∀b,(k.N:Int)<=b->b<(k.N:Int)+s.g->k.cK (k.ld s b)=false->k.cK (k.ld t b)=false
section
variable {k:ce}{z:C0}{s t u:cj}{H:List Int}
theorem dh.refl (k:ce)(s:cj):dh k s s:=⟨fun _ _=>rfl,aD _,fun _ _ _ h=>h⟩
theorem dh.trans (h:dh k s t)(j:dh k t u):dh k s u:=
 ⟨fun a ha=>(j.f a (by rw[h.f a ha];exact ha)).trans (h.f a ha),aT h.g j.g,fun b c d e=>j.cl b c (by have:=h.g;omega) (h.cl b c d e)⟩
theorem dh.or (h:dh k s t){a b:Int}(ho:k.or z s a b):k.or z t a b:=by
 rcases ho with ho|⟨e,c,d⟩
 ·exact aK ho
 ·exact aJ ⟨e,(h.f a (by rw[c];exact d)).trans c,d⟩
theorem dh.ml (h:dh k s t){c x:Int}(ho:k.ml s c x):k.ml t c x:=by
 rcases ho with ho|⟨d,b,e⟩
 ·exact aK ho
 ·exact aJ ⟨d,by rw[h.f _ b];exact b,by rw[h.f _ b];exact e⟩
theorem dE.mem (h:dE k z s H){a b:Int}(ho:k.or z s a b):b∈z.G++H:=by
 rcases ho with⟨_,hb⟩|⟨d,c,e⟩
 ·exact aY _ hb
 ·exact a9 _ (c▸h.fh a d (by rw[c];exact e))
theorem dE.from (h:dE k z s H){b:Int}(hb:b∈z.G++H):∃a,k.or z s a b:=by
 rcases List.mem_append.1 hb with hb|hb
 ·exact⟨b,aK ⟨rfl,hb⟩⟩
 ·obtain⟨a,ha,e⟩:=h.f4 b hb;have:=h.hlo b hb;exact⟨a,aJ ⟨ha,e,V⟩⟩
theorem dE.bd (h:dE k z s H){b:Int}(hb:b∈z.G++H):(k.N:Int)<=b/\b+(1+pf (k.ld s b))<=(k.N:Int)+s.g/\pc (k.ld s b)=0:=h.full.ec.mem b hb
theorem dE.i7 (h:dE k z s H){b:Int}(hb:b∈H):(k.N:Int)<=b/\b<(k.N:Int)+s.g:=by
 have c:=h.bd (a9 _ hb)
 have:=dj (k.ld s b)
 omega
theorem CI.yK (h:CI k s){a:Int}(ha:(k.N:Int)<=a):a∉k.T:=fun c=>by have b:=h.sB c;have:=h.hy;omega
theorem m_ (h:CI k s){n:Int}(h0:(k.N:Int)<=n)(b:n<1000000):k.cK (ew 3 n)=false:=by
 have e:=nF 3 n (nG n V V)
 unfold ce.cK;rw[e.1,e.2 rfl];simp;exact h.yK h0
theorem dE.cp (h:dE k z s H){a:Int}(ha:a∈k.T)(p:s.f a=-1):dE k z (k.cp s a) (H++[((k.N+s.g:Nat):Int)])/\dh k s (k.cp s a)/\(k.cp s a).f a=((k.N+s.g:Nat):Int):=by
 have ci:=h.ci;have hc:=ci.iu ha p;obtain⟨q,F,t3⟩:=ci.th a ha;have hp:=dj (k.ld s a)
 have hz:=h.qB;have hl:=ce.sD ci.len ci.hy ci.hg q t3 hc;obtain⟨x,_⟩:=ci.cp ha p;obtain⟨A,B⟩:=h.full.copy ci.len ci.hy ci.hg hc (aK ha)
 have t:(k.cp s a).f=gz s.f a ((k.N+s.g:Nat):Int):=by rw[ce.n3 hc]
 have u:(k.cp s a).g=s.g+(1+(pf (k.ld s a)).toNat):=by rw[ce.n3 hc]
 have f:∀b,b≠a->(k.cp s a).f b=s.f b:=fun b hb=>by rw[t];unfold gz;rw[aG hb]
 have j:(k.cp s a).f a=((k.N+s.g:Nat):Int):=by rw[t];unfold gz;rw[aI rfl]
 have lo:∀b,b<(k.N:Int)+s.g->k.ld (k.cp s a) b=k.ld s b:=fun b hb=>by rw[hl,aG V]
 have iY:dh k s (k.cp s a):=⟨fun b hb=>f b (fun e=>hb (by rw[e];exact p)),by rw[u];omega,fun b d g C=>by rw[lo b g];exact C⟩
 have v:∀c b,k.or z (k.cp s a) c b->k.or z s c b\/(c=a/\b=((k.N+s.g:Nat):Int)):=fun c b ho=>by
  rcases ho with ho|⟨o1,o,D⟩
  ·exact aK (aK ho)
  ·by_cases e:c=a
   ·rw[e,j] at o;exact aJ ⟨e,o.symm⟩
   ·rw[f c e] at o;exact aK (aJ ⟨o1,o,D⟩)
 refine⟨⟨x,by rw[u];omega,by rw[<-ba];exact A,h.kJ,fun b h0 d=>?_,fun c l d=>?_,fun c l b hb d g=>?_,fun b hb=>?_,fun b hb=>?_,fun c b ho=>?_,fun c b ho i E w=>?_⟩,iY,j⟩
 ·rw[lo b (by have:=ci.hy;omega)];exact h.m9 b h0 d
 ·by_cases e:c=a
  ·rw[e,j];simp
  ·rw[f c e] at d⊢;exact aY _ (h.fh c l d)
 ·by_cases m:c=a
  ·by_cases n:b=a
   ·rw[m,n]
   ·rw[m,j,f b n] at g;have:=h.i7 (h.fh b hb (by rw[<-g];omega))
    omega
  ·by_cases n:b=a
   ·rw[n,j,f c m] at g;rw[f c m] at d;have:=h.i7 (h.fh c l d)
    omega
   ·rw[f c m,f b n] at g;rw[f c m] at d;exact h.inj c l b hb d g
 ·rcases List.mem_append.1 hb with hb|hb
  ·obtain⟨c,l,e⟩:=h.f4 b hb;have hn:s.f c≠-1:=by have:=h.i7 hb;omega
   exact⟨c,l,by rw[iY.f c hn];exact e⟩
  ·simp at hb;exact⟨a,ha,by rw[j,hb];omega⟩
 ·rcases List.mem_append.1 hb with hb|hb
  ·exact h.hlo b hb
  ·simp at hb;omega
 ·rcases v c b ho with ho|⟨rfl,rfl⟩
  ·have hm:=h.bd (h.mem ho)
   rw[lo b (by have:=dj (k.ld s b);omega)];exact h.hd c b ho
  ·have:=h.m9 c q V;rw[<-this];exact B
 ·rcases v c b ho with ho|⟨rfl,rfl⟩
  ·have hm:=h.bd (h.mem ho)
   rw[lo (b+1+i) (by rw[(h.hd c b ho)] at hm;omega)];exact iY.ml (h.fd c b ho i E w)
  ·rw[<-(h.m9 c q V)] at w;refine aK ?_;rw[hl,aI V,<-h.m9 (c+1+i) V V]
   congr 1
   omega
theorem dE.st (h:dE k z s H){a b i x:Int}(ho:k.or z s a b)(o:0<=i)(p:i<pf (k.l0 z a))(t:k.ml s (k.l0 z (a+1+i)) x):dE k z (k.st s (b+1+i) x) H/\k.ld (k.st s (b+1+i) x) (b+1+i)=x/\(∀c,c≠b+1+i->k.ld (k.st s (b+1+i) x) c=k.ld s c):=by
 have ci:=h.ci;have hm:=h.mem ho;have hb:=h.bd hm;have e:=h.hd a b ho;rw[e] at hb;have hi:dd k.N k.y s.g (b+1+i)=true:=hZ V V;have hl:=ce.nZ ci.len ci.hy ci.hg (b+1+i) x;have same:k.ld (k.st s (b+1+i) x) (b+1+i)=x:=by rw[hl,aI ⟨rfl,hi⟩]
 have h9:∀c,c≠b+1+i->k.ld (k.st s (b+1+i) x) c=k.ld s c:=fun c hc=>by rw[hl,aG (fun e=>hc e.1)]
 have ew:k.st s (b+1+i) x={s with ws:=s.ws.set (b+1+i).toNat x}:=by unfold ce.st;rw[aI hi]
 have ap:∀c d,k.or z s c d->∀j,0<=j->j<pf (k.l0 z c)->d+1+j=b+1+i->c=a/\d=b/\j=i:=fun c d f j j0 n g=>by
  have hd:=h.mem f;have q:d=b:=by
   rcases Int.lt_trichotomy d b with l|l|l
   ·have:=h.full.ec.apart d hd b hm l;have this:d+(1+pf (k.ld s d))<=b:=this
    rw[(h.hd c d f)] at this
    omega
   ·exact l
   ·have:=h.full.ec.apart b hm d hd l;have this:b+(1+pf (k.ld s b))<=d:=this
    rw[e] at this
    omega
  refine⟨?_,q,V⟩
  rw[q] at f;rcases f with⟨c1,c2⟩|⟨c1,c2,c3⟩<;>rcases ho with⟨o1,m⟩|⟨o1,m,u⟩
  ·omega
  ·have v:=h.hlo b (m▸h.fh a o1 (by rw[m];exact u))
   have w:=h.kJ b c2;omega
  ·have v:=h.hlo b (c2▸h.fh c c1 (by rw[c2];exact c3))
   have w:=h.kJ b m;omega
  ·exact h.inj c c1 a o1 (by rw[c2];exact c3) (c2.trans m.symm)
 have fl:d5 k.N k.y (k.st s (b+1+i) x).g (k.st s (b+1+i) x).ws k.T (z.G++H):=by rw[ew];exact(h.full.set ci.len ci.hy ci.hg (aJ hm) o (by show i<pf (k.ld s b);rw[e];exact p)).1
 refine⟨⟨ci.st V x,h.qB,fl,h.kJ,fun c h0 A=>?_,h.fh,h.inj,h.f4,h.hlo,fun c d f=>?_,fun c d f j j0 n=>?_⟩,same,h9⟩
 ·rw[h9 c (by have:=ci.hy;omega)];exact h.m9 c h0 A
 ·have f:=f;rw[h9 d (fun g=>?_)]
  ·exact h.hd c d f
  ·exact h.full.ec.field hm o (by show i<pf (k.ld s b);rw[e];exact p) (g▸h.mem f)
 ·have f:=f;by_cases g:d+1+j=b+1+i
  ·obtain⟨rfl,rfl,rfl⟩:=ap c d f j j0 n g;rw[same];exact t
  ·rw[h9 _ g];exact h.fd c d f j j0 n
theorem dh.st (ci:CI k s){a x:Int}(c:k.cK x=false):dh k s (k.st s a x):=
 ⟨fun _ _=>rfl,aD _,fun b _ _ d=>by
  rw[ce.nZ ci.len ci.hy ci.hg];split
  ·exact c
  ·exact d⟩
theorem dE.br (h:dE k z s H)(x:Int):∃i,dE k z (k.br s x).2 i/\dh k s (k.br s x).2/\k.cK (k.br s x).1=false/\(∃l,i=H++l)/\(∀b,k.ml s b x->k.ml (k.br s x).2 b (k.br s x).1)/\(k.cK x=true->(k.br s x).2.f (cg x)≠-1)/\(k.br s x).1=k.nw (k.br s x).2 x:=by
 have ci:=h.ci;have n1:=ci.hN';have p:=ci.hO;have key:∀(t:cj)(j:List Int),dE k z t j->dh k s t->(k.cK x=true->t.f (cg x)≠-1)->k.cK (k.nw t x)=false/\∀b,k.ml s b x->k.ml t b (k.nw t x):=fun t j ht iY hy=>by
  by_cases c:k.cK x=true
  ·have hn:=hy c;have m:cg x∈k.T:=by unfold ce.cK at c;simp at c;exact c.2
   have e:k.nw t x=ew 3 (t.f (cg x)):=by unfold ce.nw;rw[c,aI (by simp[hn])]
   have hb:=ht.i7 (ht.fh _ m hn)
   have hg:=ht.ci.hg;rw[e];refine⟨m_ ht.ci hb.1 V,fun b hm=>?_⟩
   rcases hm with rfl|⟨m1,d,f⟩
   ·exact aJ ⟨c,hn,rfl⟩
   ·exfalso;have n:cg b∈k.T:=by unfold ce.cK at m1;simp at m1;exact m1.2
    have o:=h.i7 (h.fh _ n d)
    have q:=ci.hg;rw[f,m_ ci o.1 V] at c;simp at c
  ·have c:k.cK x=false:=by simpa using c
   have e:k.nw t x=x:=by unfold ce.nw;rw[c];simp
   rw[e];exact⟨c,fun b hm=>iY.ml hm⟩
 unfold ce.br;by_cases c:k.ls s x=true
 ·obtain⟨c1,c2,c3⟩:=ce.mV c;obtain⟨m1,d,f⟩:=h.cp c2 c3;have hn:(k.cp s (cg x)).f (cg x)≠-1:=by rw[f];omega
  obtain⟨k1,g⟩:=key _ _ m1 d (fun _=>hn)
  rw[aI c];exact⟨_,m1,d,k1,⟨_,rfl⟩,g,fun _=>hn,rfl⟩
 ·have hn:k.cK x=true->s.f (cg x)≠-1:=fun hy e=>c (by unfold ce.ls;rw[hy,e];rfl)
  obtain⟨k1,g⟩:=key s H h (dh.refl _ _) hn;rw[aG c];exact⟨H,h,dh.refl _ _,k1,⟨[],Z⟩,g,hn,rfl⟩
theorem dE.kf (h:dE k z s H){a b i:Int}(ho:k.or z s a b)(d:0<=i)(e:i<pf (k.l0 z a)):∃c,dE k z (k.kf s (b+1+i)) c/\dh k s (k.kf s (b+1+i))/\k.cK (k.ld (k.kf s (b+1+i)) (b+1+i))=false/\∃j,c=H++j:=by
 obtain⟨c,m1,f,g,l,m,_,_⟩:=h.br _;obtain⟨s1,s2,n⟩:=m1.st (f.or ho) d e (m _ (h.fd a b ho i d e))
 refine⟨c,s1,f.trans (dh.st m1.ci g),?_,l⟩
 unfold ce.kf;rw[s2];exact g
theorem dE.fU (h:dE k z s H){a b:Int}(ho:k.or z s a b):∀n:Nat,(n:Int)<=pf (k.l0 z a)->∃f,dE k z (k.fU s b n) f/\dh k s (k.fU s b n)/\(∀i:Nat,i<n->k.cK (k.ld (k.fU s b n) (b+1+i))=false)/\∃d,f=H++d
 |0,_=>⟨H,h,dh.refl _ _,fun i hi=>V,⟨[],Z⟩⟩
 |n+1,hn=>by
  obtain⟨p,m1,c,g,⟨d,j⟩⟩:=dE.fU h ho n V;obtain⟨l,m,j2,cA,⟨o,cE⟩⟩:=m1.kf (c.or ho) (i:=n) V V;refine⟨l,m,c.trans j2,fun i hi=>?_,⟨d++o,by rw[cE,j,ba]⟩⟩
  by_cases e:i=n
  ·rw[e];exact cA
  ·have hb:=m1.bd (m1.mem (c.or ho))
   rw[(m1.hd _ _ (c.or ho))] at hb;exact j2.cl _ V V (g i V)
end
open Go.RowKit W Kp cf
section
variable {k:ce}{z:C0}{s t u:cj}{H:List Int}
theorem ii {x:Int}(h:pc x=0)(b:pk x=1\/pk x=3\/pk x=4):pf x=2:=by
 unfold pc at h;unfold pk at b;unfold pf;split at h
 ·rename_i e;rw[aI e] at b⊢;generalize x%16=a at*;generalize x/16=f at*;unfold hc at e;rcases b with b|b|b
  ·rw[aI b] at e;split at e
   ·assumption
   ·omega
  ·rw[aG V,aI b] at e;split at e
   ·assumption
   ·omega
  ·rw[aG V,aG V,aI b] at e;split at e
   ·assumption
   ·omega
 ·omega
theorem yL {x:Int}(h:pc x=0):(pk x=1\/pk x=2)\/pk x=3\/pk x=4\/(pk x=5/\pf x=0):=by
 unfold pc at h;unfold pk pf;split at h
 ·rename_i e;rw[aI e,aI e];have hb:=iU _ _ e;generalize x%16=a at*;generalize x/16=f at*;by_cases b:a=5
  ·right;right;right;refine⟨b,?_⟩
   unfold hc at e;rw[aG V,aG V,aG V,aG V,aI b] at e;split at e
   ·assumption
   ·omega
  ·omega
 ·omega
theorem jT (k:ce)(s:cj)(a:Int):(k.kf s a).wk=s.wk/\(k.kf s a).ep=s.ep/\(k.kf s a).nx=s.nx/\(k.kf s a).rs=s.rs:=by unfold ce.kf ce.st ce.br;split<;>exact⟨rfl,rfl,rfl,rfl⟩
theorem na (k:ce)(s:cj)(a:Int):∀n,(k.fU s a n).wk=s.wk/\(k.fU s a n).ep=s.ep/\(k.fU s a n).nx=s.nx/\(k.fU s a n).rs=s.rs
 |0=>⟨rfl,rfl,rfl,rfl⟩
 |n+1=>by obtain⟨b,c,d,e⟩:=na k s a n;obtain⟨f,j2,cA,cE⟩:=jT k _ _;exact⟨f.trans b,j2.trans c,cA.trans d,cE.trans e⟩
theorem qC (k:ce)(s:cj)(a:Int):(k.lk s a).nx=s.nx/\(k.lk s a).rs=s.rs:=by
 unfold ce.lk;split
 ·exact⟨(na _ _ _ _).2.2.1,(na _ _ _ _).2.2.2⟩
 ·split
  ·exact⟨(jT _ _ _).2.2.1,(jT _ _ _).2.2.2⟩
  ·split<;>exact⟨rfl,rfl⟩
theorem dE.turn (h:dE k z s H)(wk ep rs:List Int)(nx:Int)(hw:∀a∈wk,(k.N:Int)<=a/\a<=2000)(he:∀a∈ep,(k.N:Int)<=a/\a<=2000)(h0:(k.N:Int)<=nx)(b:nx<=(k.N:Int)+k.O+13):dE k z {s with wk:=wk,ep:=ep,rs:=rs,nx:=nx} H:=
 {
  ci:={hN:=h.ci.hN,hN':=h.ci.hN',hO:=h.ci.hO,hy:=h.ci.hy,hg:=h.ci.hg,len:=h.ci.len,th:=h.ci.th,nd:=h.ci.nd,room:=h.ci.room,g8:=h0,jv:=b,iz:=hw,h8:=he,tl:=h.ci.tl}
  qB:=h.qB,full:=h.full,kJ:=h.kJ,m9:=h.m9,fh:=h.fh,inj:=h.inj,f4:=h.f4,hlo:=h.hlo,hd:=h.hd,fd:=h.fd}
theorem dh.turn (k:ce)(s:cj)(wk ep rs:List Int)(nx:Int):dh k s {s with wk:=wk,ep:=ep,rs:=rs,nx:=nx}:=⟨fun _ _=>rfl,aD _,fun _ _ _ h=>h⟩
def Lo (k:ce)(s:cj)(b:Int):Prop:=∀i,0<=i->i<pf (k.ld s b)->k.cK (k.ld s (b+1+i))=false\/(pk (k.ld s b)=3/\i=0/\b∈s.wk)\/(pk (k.ld s b)=4/\b∈s.ep)
theorem dE.lk (h:dE k z s H){a b:Int}(ho:k.or z s a b):∃e,dE k z (k.lk s b) e/\dh k s (k.lk s b)/\(∃t,e=H++t)/\Lo k (k.lk s b) b/\(∀c∈s.wk,c∈(k.lk s b).wk)/\∀c∈s.ep,c∈(k.lk s b).ep:=by
 have hb:=h.bd (h.mem ho)
 have hg:=h.ci.hg;have hN:=h.ci.hN';have hO:=h.ci.hO;have g:=h.hd a b ho;have B:=dj (k.ld s b)
 unfold ce.lk;by_cases c1:pk (k.ld s b)=1\/pk (k.ld s b)=2
 ·rw[aI c1];obtain⟨e,m1,f,l,o⟩:=h.fU ho (pf (k.ld s b)).toNat (by rw[<-g];omega)
  have m:=m1.hd a b (f.or ho)
  refine⟨e,m1,f,o,fun i n j=>aK ?_,fun c hc=>by rw[(na _ _ _ _).1];exact hc,fun c hc=>by rw[(na _ _ _ _).2.1];exact hc⟩
  rw[m,<-g] at j;have q:=l i.toNat V;rw[Int.toNat_of_nonneg n] at q;exact q
 ·rw[aG c1];by_cases c3:pk (k.ld s b)=3
  ·rw[aI c3];have u:=ii hb.2.2 (aJ (aK c3))
   have v:=h.turn (s.wk++[b]) s.ep s.rs s.nx (fun x p=>by
    rcases List.mem_append.1 p with d|d
    ·exact h.ci.iz x d
    ·rw[bv] at d;omega) h.ci.h8 h.ci.g8 h.ci.jv
   obtain⟨e,m1,f,l,o⟩:=v.kf (i:=1) ho V (by rw[<-g];omega)
   have ea:b+1+1=b+2:=V;rw[ea] at m1 f l;have m:=m1.hd a b (f.or ho)
   refine⟨e,m1,(dh.turn k s (s.wk++[b]) s.ep s.rs s.nx).trans f,o,fun i n j=>?_,fun c hc=>by rw[(jT _ _ _).1];exact aY _ hc,fun c hc=>by rw[(jT _ _ _).2.1];exact hc⟩
   rw[m,<-g,u] at j;by_cases w:i=0
   ·refine aJ (aK ⟨by rw[m,<-g];exact c3,w,?_⟩)
    rw[(jT _ _ _).1];simp
   ·have A:i=1:=V;subst A;rw[ea];exact aK l
  ·rw[aG c3];by_cases c4:pk (k.ld s b)=4
   ·rw[aI c4];refine⟨H,h.turn s.wk _ s.rs s.nx h.ci.iz (fun x p=>by
     rcases List.mem_append.1 p with d|d
     ·exact h.ci.h8 x d
     ·rw[bv] at d;subst d;omega) h.ci.g8 h.ci.jv,dh.turn k s s.wk _ s.rs s.nx,⟨[],Z⟩,fun i n j=>aJ (aJ ⟨c4,Z⟩),fun c hc=>hc,fun c hc=>aY _ hc⟩
   ·rw[aG c4];refine⟨H,h,dh.refl _ _,⟨[],Z⟩,fun i n j=>?_,fun c hc=>hc,fun c hc=>hc⟩
    have:=yL hb.2.2;omega
theorem Lo.go {b:Int}{K:List Int}(h:Lo k s b)(hs:dE k z s H)(ht:dE k z t K)(p:dh k s t){a:Int}(ho:k.or z s a b)(hw:b∈s.wk->b∈t.wk)(he:b∈s.ep->b∈t.ep):Lo k t b:=by
 have e:=hs.hd a b ho;have f:=ht.hd a b (p.or ho)
 have hb:=hs.bd (hs.mem ho)
 intro i j g;rw[f,<-e] at g;rw[f,<-e];rcases h i j g with l|⟨c,d,m⟩|⟨c,d⟩
 ·exact aK (p.cl _ V V l)
 ·exact aJ (aK ⟨c,d,hw m⟩)
 ·exact aJ (aJ ⟨c,he d⟩)
end
theorem yM {g h:Int->Nat}(R:Int->Int->Prop)(i:∀a b c,R a c->R b c->a=b):∀(l T:List Int),l.Nodup->T.Nodup->(∀b∈l,∃a∈T,R b a/\g b=h a)->gn g l<=gn h T
 |[],T,_,_,_=>aZ _
 |b::l,T,hl,j,k=>by
  obtain⟨a,ha,r,e⟩:=k b Z;rw[List.nodup_cons] at hl;have p:=oT h T a j ha;have m:=yM R i l (T.filter (fun c=>!(c==a))) hl.2 (j.filter _) (fun c hc=>by
   obtain⟨d,hd,f,n⟩:=k c (aO _ hc)
   refine⟨d,List.mem_filter.2 ⟨hd,?_⟩,f,n⟩
   cases q:d==a
   ·rfl
   ·have o:d=a:=by simpa using q
    rw[o] at f;exact absurd (i c b a f r▸hc) hl.1)
  rw[tL];unfold gn at m⊢;omega
theorem yN {g:Int->Nat}{l T:List Int}(hl:l.Nodup)(c:T.Nodup)(hs:∀a∈l,a∈T):gn g l<=gn g T:=
 yM (fun a b=>a=b) (fun _ _ _ d e=>d.trans e.symm) l T hl c (fun b hb=>⟨b,hs b hb,rfl,rfl⟩)
def nc (L:Int->Int)(a:Int):Nat:=1+(pf (L a)).toNat
theorem d4.sum {L:Int->Int}{hi:Int}:∀{l:List Int}{a:Int},d4 L hi a l->(gn (nc L) l:Int)=hi-a
 |[],a,h=>by have h:a=hi:=h;simp[gn,h]
 |x::l,a,h=>by
  obtain⟨rfl,_,c,ht⟩:=h;have b:=d4.sum ht;have hp:=dj (L x)
  rw[tL];unfold nc at b⊢;omega
theorem d4.nodup {L:Int->Int}{hi:Int}:∀{l:List Int}{a:Int},d4 L hi a l->l.Nodup
 |[],_,_=>List.nodup_nil
 |x::l,a,h=>by
  obtain⟨rfl,_,_,ht⟩:=h;rw[List.nodup_cons];refine⟨fun c=>?_,d4.nodup ht⟩
  have:=(ht.mem x c).1;have hp:=dj (L x)
  omega
section
variable {N O y g:Nat}{ws Y G:List Int}
theorem yO (h:d5 N y g ws Y G)(hy:y<=N)(Q:List b7){a:Int}(ha:a∈Y\/a∈G)(b:pk (ld N y g ws a)≠5):((eV N y g ws Q a).length:Int)=pf (ld N y g ws a):=by
 have hp:=dj (ld N y g ws a)
 unfold eV;rw[aG b,h.stands hy ha];simp;omega
end
def Pos (z:Int->Int)(al:Int->Bool)(f:Int->Int):Int->List Int->Int->Prop
 |n,[],m=>n=m
 |n,a::l,m=>(al a=true->f a=n/\Pos z al f (n+(1+z a)) l m)/\(al a=false->f a=-1/\Pos z al f n l m)
section
variable {z:Int->Int}{al:Int->Bool}{f:Int->Int}
theorem Pos.le (hz:∀a,0<=z a):∀{l:List Int}{n m:Int},Pos z al f n l m->n<=m
 |[],n,m,h=>Int.le_of_eq h
 |a::l,n,m,h=>by
  have:=hz a;cases c:al a
  ·exact Pos.le hz (h.2 c).2
  ·have:=Pos.le hz (h.1 c).2;omega
theorem Pos.app:∀{l e:List Int}{n m:Int},Pos z al f n (l++e) m->∃b,Pos z al f n l b/\Pos z al f b e m
 |[],e,n,m,h=>⟨n,rfl,h⟩
 |a::l,e,n,m,h=>by
  cases c:al a
  ·obtain⟨b,g,i⟩:=Pos.app (h.2 c).2;exact⟨b,⟨fun d=>(by rw[c] at d;cases d),fun _=>⟨(h.2 c).1,g⟩⟩,i⟩
  ·obtain⟨b,g,i⟩:=Pos.app (h.1 c).2;exact⟨b,⟨fun _=>⟨(h.1 c).1,g⟩,fun d=>(by rw[c] at d;cases d)⟩,i⟩
theorem Pos.bd (hz:∀a,0<=z a):∀{l:List Int}{n m:Int},Pos z al f n l m->∀a∈l,al a=true->n<=f a/\f a+(1+z a)<=m
 |[],n,m,h,a,ha,_=>by cases ha
 |b::l,n,m,h,a,ha,hl=>by
  rcases List.mem_cons.1 ha with e|ha
  ·rw[e] at hl⊢;obtain⟨g,d⟩:=h.1 hl;have:=d.le hz;omega
  ·have:=hz b;cases c:al b
   ·exact Pos.bd hz (h.2 c).2 a ha hl
   ·have:=Pos.bd hz (h.1 c).2 a ha hl;omega
theorem Pos.no:∀{l:List Int}{n m:Int},Pos z al f n l m->∀a∈l,al a=false->f a=-1
 |[],n,m,h,a,ha,_=>by cases ha
 |b::l,n,m,h,a,ha,hl=>by
  rcases List.mem_cons.1 ha with e|ha
  ·rw[e] at hl⊢;exact(h.2 hl).1
  ·cases c:al b
   ·exact Pos.no (h.2 c).2 a ha hl
   ·exact Pos.no (h.1 c).2 a ha hl
theorem Pos.inj (hz:∀a,0<=z a):∀{l:List Int}{n m:Int},Pos z al f n l m->∀a∈l,∀b∈l,al a=true->al b=true->f a=f b->a=b
 |[],n,m,h,a,ha,_,_,_,_,_=>by cases ha
 |x::l,n,m,h,a,ha,b,hb,d,lb,e=>by
  have k:=hz x;rcases List.mem_cons.1 ha with ea|ha
  ·rcases List.mem_cons.1 hb with g|hb
   ·rw[ea,g]
   ·rw[ea] at d e;obtain⟨j,i⟩:=h.1 d;have:=i.bd hz b hb lb;omega
  ·rcases List.mem_cons.1 hb with g|hb
   ·rw[g] at lb e;obtain⟨j,i⟩:=h.1 lb;have:=i.bd hz a ha d;omega
   ·cases c:al x
    ·exact Pos.inj hz (h.2 c).2 a ha b hb d lb e
    ·exact Pos.inj hz (h.1 c).2 a ha b hb d lb e
theorem Pos.tM (hz:∀a,0<=z a){L:Int->Int}:∀{l:List Int}{n m:Int},Pos z al f n l m->(∀a∈l,al a=true->pc (L (f a))=0/\pf (L (f a))=z a)->d4 L m n ((l.filter al).map f)
 |[],n,m,h,_=>by have h:=h;rw[h];exact d4.done
 |a::l,n,m,h,hl=>by
  cases c:al a
  ·rw[List.filter_cons_of_neg (by simp[c])];exact Pos.tM hz (h.2 c).2 (fun b hb=>hl b (aO _ hb))
  ·rw[List.filter_cons_of_pos c,List.map_cons];obtain⟨g,e⟩:=h.1 c;obtain⟨q1,d⟩:=hl a Z c;rw[g] at q1 d⊢;refine d4.step q1 (by rw[d];exact e.le hz) ?_;rw[d];exact Pos.tM hz e (fun b hb=>hl b (aO _ hb))
theorem Pos.sum:∀{l:List Int}{n m:Int},Pos z al f n l m->(∀a,0<=z a)->(gn (fun a=>1+(z a).toNat) (l.filter al):Int)=m-n
 |[],n,m,h,_=>by have h:n=m:=h;simp[gn,h]
 |a::l,n,m,h,hz=>by
  have:=hz a;cases c:al a
  ·rw[List.filter_cons_of_neg (by simp[c])];exact Pos.sum (h.2 c).2 hz
  ·rw[List.filter_cons_of_pos c,tL];have:=Pos.sum (h.1 c).2 hz;omega
end
theorem pn (k:b9)(al:Int->Bool):∀(l:List Int)(t:cu×Int),l.Nodup->(∀a∈l,al a=!(t.1.f a==-1))->Pos (fun a=>pf (k.ld a)) al (k.l7 t l).1.f t.2 l (k.l7 t l).2/\(∀b,b∉l->(k.l7 t l).1.f b=t.1.f b)/\(k.l7 t l).1.td=t.1.td/\(k.l7 t l).1.ep=t.1.ep
 |[],t,_,_=>⟨rfl,fun _ _=>rfl,rfl,rfl⟩
 |a::l,t,hn,ha=>by
  rw[List.nodup_cons] at hn;have n:k.l7 t (a::l)=k.l7 (e_ (fun t a=>t.1.f a) k.l6 t a) l:=rfl;have o:=ha a Z;by_cases c:t.1.f a=-1
  ·have f:e_ (fun t a=>t.1.f a) k.l6 t a=t:=by unfold e_;rw[aI c]
   rw[n,f];obtain⟨g,d,i,j⟩:=pn k al l t hn.2 (fun b hb=>ha b (aO _ hb))
   have ea:al a=false:=by rw[o,c];rfl
   exact⟨⟨fun h=>(by rw[ea] at h;cases h),fun _=>⟨by rw[d a hn.1];exact c,g⟩⟩,fun b hb=>d b (fun m=>hb (aO _ m)),i,j⟩
  ·have f:e_ (fun t a=>t.1.f a) k.l6 t a=k.l6 t a:=by unfold e_;rw[aG c]
   rw[n,f];obtain⟨g,d,i,j⟩:=pn k al l (k.l6 t a) hn.2 (fun b hb=>by
    have p:b≠a:=fun e=>hn.1 (e▸hb)
    show al b=!(gz t.1.f a t.2 b==-1)
    unfold gz;rw[aG p];exact ha b (aO _ hb))
   have ea:al a=true:=by rw[o,beq_false_of_ne c];rfl
   refine⟨⟨fun _=>⟨?_,g⟩,fun h=>(by rw[ea] at h;cases h)⟩,fun b hb=>?_,i,j⟩
   ·rw[d a hn.1];show gz t.1.f a t.2 a=_;unfold gz;rw[aI rfl]
   ·rw[d b (fun m=>hb (aO _ m))];show gz t.1.f a t.2 b=_;unfold gz;rw[aG (fun e=>hb (by rw[e];simp))]
section
variable {c:ki}{F:Nat->Prop}{S:cq×ck}{w:ax}
end
section
variable {c:ki}{F:Nat->Prop}{S:cq×ck}{w:ax}
end
section
variable {c:ki}{F:Nat->Prop}{S:cq×ck}{w:ax}
end
section
variable {c:ki}{F:Nat->Prop}{S:cq×ck}{w:ax}
end
section
variable {c:ki}{F:Nat->Prop}{S:cq×ck}{w:ax}
end
section
variable {c:ki}{F:Nat->Prop}{S:cq×ck}{w:ax}
end
section
variable {c:ki}{F:Nat->Prop}{S:cq×ck}{w:ax}
end
theorem yP {b:Type}{l:List b}{i:Nat}{x y:b}(h:y∈l.set i x):y∈l\/y=x:=List.mem_or_eq_of_mem_set h
def kK (N O y g:Nat)(ws M Y G:List Int):Prop:=
 ∀v∈G,∀i,0<=i->i<pf (ld N y g ws v)->cY (ld N y g ws (v+1+i))=true->cg (ld N y g ws (v+1+i))∈Y->(fZ N (dF O) v&&M.contains (cN N v))=true
section
variable {N O y g:Nat}{ws M Y G rs:List Int}
theorem kK.make (h:ih N y g ws Y G rs)(hc:kK N O y g ws M Y G)(hl:ws.length=N+O){k f:Int}(hm:iK N y k f=true):kK N O (iW N y k f) g (fq N y k f ws) M (Y++[(y:Int)]) G:=by
 obtain⟨j,p⟩:=oQ hm;have q:=iU k f j;have l:iW N y k f=y+1+f.toNat:=by unfold iW;rw[aI hm]
 have m:fq N y k f ws=fC ws y (hw k f) f.toNat:=by unfold fq;rw[aI hm]
 have hlt:y+f.toNat<ws.length:=V;rw[l,m];intro v hv i c b ha hy;have hi:=h.full.io v hv;have n:ld N (y+1+f.toNat) g (fC ws y (hw k f) f.toNat) v=ld N y g ws v:=by exact p5
 rw[n] at b;have hb:=m8 h.full hv c b;have o:ld N (y+1+f.toNat) g (fC ws y (hw k f) f.toNat) (v+1+i)=ld N y g ws (v+1+i):=by exact yF
 rw[o] at ha hy;rcases List.mem_append.1 hy with d|d
 ·exact hc v hv i c b ha d
 ·simp at d;rcases h.fd v (aJ hv) i c b ha with e|e
  ·have:=(h.full.ix _ e).2;omega
  ·have:=(h.full.io _ e).1;omega
theorem yQ {v:Int}(h0:(N:Int)<=v)(b:v<(N:Int)+g)(hg:g<=O):fZ N (dF O) v=true:=by unfold fZ dF;simp only [Bool.and_eq_true,decide_eq_true_eq];omega
theorem oi {x i z c:Int}(h:ej N y g ws x i≠0):ge N y g ws x i z=ws/\stM N y g ws x i z c M=M:=by
 refine⟨by unfold ge;rw[aG h],?_⟩
 have e:mQ N y g ws x i z=false:=by unfold mQ;rw[bq h];rfl
 unfold stM;rw[e];rfl
theorem yR (h:d5 N y g ws Y G){b v i j:Int}(d:b∈G)(hv:v∈G)(f:0<=i)(k:i<pf (ld N y g ws b))(j0:0<=j)(l:j<pf (ld N y g ws v))(e:b+1+i=v+1+j):b=v:=by
 rcases Int.lt_trichotomy b v with c|c|c
 ·have:=h.ec.apart b d v hv c;omega
 ·exact c
 ·have:=h.ec.apart v hv b d c;omega
theorem kK.set (h:ih N y g ws Y G rs)(hc:kK N O y g ws M Y G)(hl:ws.length=N+O)(hN:N<=256)(hy:y<=N)(hO:O<=1024)(hg:g<=O)(x i z:Int):kK N O y g (ge N y g ws x i z) (stM N y g ws x i z (dF O) M) Y G:=by
 by_cases l:ej N y g ws x i=0
 ·obtain⟨p,D,t3,c⟩:=m5 l;obtain⟨l1,l2⟩:=h.full.lists hN hy hO hg;have hv:cg x∈Y\/cg x∈G:=by unfold tB at p;rw[l1,l2] at p;simpa using(a_ _ _▸p:cY x=true/\(Y.contains (cg x)||G.contains (cg x))=true).2
  rw[(h.full.stands hy hv)] at c;have t:=jS h.full hv t3 c;have E:=ju t hy hg;have w:ge N y g ws x i z=ws.set (cg x+1+i).toNat z:=by unfold ge;rw[aI l,aI t]
  obtain⟨F,hk⟩:=h.full.set hl hy hg hv t3 c;rw[w];have A:∀k,M.contains k=true->(stM N y g ws x i z (dF O) M).contains k=true:=fun k hk=>by
   unfold stM;split
   ·unfold k_;split
    ·rw[sq,hk];rfl
    ·exact hk
   ·exact hk
  intro v d j j0 m ha f;rw[hk v (aJ d)] at m;have hi:=jS h.full (aJ d) j0 m;have q:ld N y g (ws.set (cg x+1+i).toNat z) (v+1+j)=if(cg x+1+i).toNat=(v+1+j).toNat then z else ld N y g ws (v+1+j):=by rw[dW hi,dW hi,j_ _ _ _ _ V]
  rw[q] at ha f;have n:=h.full.io v d;by_cases e:(cg x+1+i).toNat=(v+1+j).toNat
  ·rw[aI e] at ha f;have s:cg x+1+i=v+1+j:=V;have hz:=h.full.ix _ f;have u:hB N g (cg x)=true:=by
    unfold hB;rw[decide_eq_true_eq];rcases hv with b|b
    ·have o:=m7 h.full b t3 c;omega
    ·have:=h.full.io _ b;omega
   have eo:=js u;have B:mQ N y g ws x i z=true:=by unfold mQ;rw[ha,u,bh l];simp only [Bool.true_and,Bool.and_true];unfold hB;rw[decide_eq_true_eq];omega
   have C:cg x∈G:=by
    rcases hv with b|b
    ·have:=h.full.ix _ b;omega
    ·exact b
   rw[a_];refine⟨yQ n.1 n.2 hg,?_⟩
   unfold stM;rw[aI B,(yR h.full C d t3 c j0 m s),wT (yQ n.1 n.2 hg),sq];simp
  ·rw[aG e] at ha f;have o:=hc v d j j0 m ha f;rw[a_] at o⊢;exact⟨o.1,A _ o.2⟩
 ·obtain⟨q,s⟩:=oi l;rw[q,s];exact hc
end
structure cI (a:Wc)(s:d9):Prop where
 n0:16<=a.N
 n1:a.N<=256
 o1:a.O<=1024
 y1:s.y<=a.N
 g1:s.g<=a.O
 l1:s.ws.length=a.N+a.O
 r1:s.rs.length=12
structure el (a:Wc)(s:d9)(Y G:List Int):Prop where
 inv:ih a.N s.y s.g s.ws Y G s.rs
 cd:kK a.N a.O s.y s.g s.ws s.M Y G
section
variable {a:Wc}{s:d9}{Y G:List Int}
theorem el.root (h:el a s Y G)(k:Nat)(x:Int)(b:cY x=true->cg x∈Y\/cg x∈G):el a {s with rs:=s.rs.set k x} Y G:=⟨h.inv.root k x b,h.cd⟩
theorem el.set (h:el a s Y G)(hb:cI a s)(k m:Nat)(hk:k<12)(i:Int)(hm:m<12):
 el a {s with ws:=ge a.N s.y s.g s.ws (s.rs.getD k 0) i (s.rs.getD m 0),M:=stM a.N s.y s.g s.ws (s.rs.getD k 0) i (s.rs.getD m 0) (dF a.O) s.M} Y G:=by
 refine⟨?_,kK.set h.inv h.cd hb.l1 hb.n1 hb.y1 hb.o1 hb.g1 _ _ _⟩
 by_cases b:ej a.N s.y s.g s.ws (s.rs.getD k 0) i=0
 ·obtain⟨e,j,t3,d⟩:=m5 b;have f:cY (s.rs.getD k 0)=true:=by rw[<-h.inv.tb hb.n1 hb.y1 hb.o1 hb.g1 k (by rw[hb.r1];exact hk)];exact e
  have hv:=h.inv.at k (by rw[hb.r1];exact hk) f;rw[h.inv.full.stands hb.y1 hv] at d;unfold ge;rw[aI b,aI (jS h.inv.full hv t3 d)];exact h.inv.set hb.l1 hb.y1 hb.g1 hv t3 d (fun g=>h.inv.at m (by rw[hb.r1];exact hm) g)
 ·rw[(oi (M:=s.M) (c:=dF a.O) b).1];exact h.inv
end
theorem yS {c:Type}(o:fJ c)(is:c->Int->Bool)(kp:c->Int->Int×c)(hl:∀s x,(o.wt (kp s x).2).length=(o.wt s).length):∀(n:Nat)(s:c)(b:List b7),(o.wt (eB (cm o is kp) n s b).1).length+(eB (cm o is kp) n s b).2.length=(o.wt s).length+b.length
 |0,s,b=>rfl
 |n+1,s,b=>by
  have d:=sy o is kp hl s b;have e:=oL (cm o is kp) s b;by_cases h:(pts (cm o is kp) s b).1.length=0
  ·rw[lR _ _ _ _ h];dsimp only;omega
  ·rw[lS _ _ _ _ h,yS o is kp hl n];omega
theorem qD {b:Type}(o:fJ b)(is:b->Int->Bool)(kp:b->Int->Int×b)(nw:b->Int->Int)(hl:∀s x,(o.wt (kp s x).2).length=(o.wt s).length)(s:b)(r:List b7):(eO o is kp nw s r).length+(eP o is kp nw s r).length<=r.length+(o.wt s).length:=by
 have c:=yS o is kp hl ((r.filter (fun e=>!is s e.2)).length+1) s (r.filter (fun e=>!is s e.2))
 have d:(eP o is kp nw s r).length<=(o.wt (ft o is kp s r)).length:=by unfold eP;rw[aW];exact bm _ _
 have f:(eO o is kp nw s r).length<=(r.filter (fun e=>is s e.2)).length:=by unfold eO;rw[aW];exact bm _ _
 have g:(r.filter (fun e=>is s e.2)).length+(r.filter (fun e=>!is s e.2)).length=r.length:=by
  clear c d f
  induction r with
  |nil=>rfl
  |cons e r i=>
   simp only [List.filter_cons];cases is s e.2<;>simp<;>omega
 have j:(o.wt (ft o is kp s r)).length<=(o.wt s).length+(r.filter (fun e=>!is s e.2)).length:=by unfold ft;omega
 omega
theorem F9 (a:Wc)(S:cq):(S.cut a).r.length+(S.cut a).q.length<=S.r.length+S.q.length:=by
 unfold cq.cut;split
 ·exact aD _
 ·have b:=qD (dI cj) (fun s x=>(S.s.k0 a).al s.1 x) _ (fun s x=>(S.s.k0 a).nw s.1 x) (fun s x=>sW (S.s.k0 a) s x) (S.t3 a) S.r;have d:(S.t3 a).2.length=S.q.length:=by unfold cq.t3 ce.sp;rw[oX]
  dsimp only;generalize S.t3 a=t at*;have c:(dI cj).wt t=t.2:=rfl;rw[c] at b;unfold ce.sR ce.jf;omega
end Go.Proofs.YtpkjkjhanlbcoaaGreat
