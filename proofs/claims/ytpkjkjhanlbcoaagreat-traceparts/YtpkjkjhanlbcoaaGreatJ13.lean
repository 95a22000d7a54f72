import Derived.Test.YtpkjkjhanlbcoaaGreatJ12
namespace Go.Proofs.YtpkjkjhanlbcoaaGreat
open Go.RowKit W Kp ck
theorem t8 {P:Prop}(h:P:=by
 obtain⟨u1,u2,u3,_⟩:=hlen;rw[q1] at u1;rw[q2] at u2;rw[q3] at u3;have u1:(S.s.s2 a).wk.length<=0+(G++H1).length:=u1;have u2:(S.s.s2 a).ep.length<=0+(G++H1).length:=u2;have u3:=u3;have o1:=hb.o1;refine⟨?_,?_⟩
 ·rw[u3];show(S.s.s2 a).wk.length+((a.N:Int)+a.O+13-((a.N:Int)+S.s.g)).toNat<=4000;omega
 ·rw[u3];show(S.s.s2 a).ep.length+((a.N:Int)+a.O+13-((a.N:Int)+S.s.g)).toNat<=4000;omega):P:=h
theorem zs {P:Prop}(h:P:=by
 have hH:=h.mi.fh _ hT g2;have hbd:=h.mi.je hH;have hN:=h.mi.ci.hN';have hO:=h.mi.ci.hO;have hg:=h.mi.ci.hg;obtain⟨n,hn⟩:∃n:Nat,s.f (cq (k.l0 z (a+1+i)))=n:=⟨(s.f (cq (k.l0 z (a+1+i)))).toNat,aa⟩
 rw[g3,hn,(nk n aa).2,<-hn];exact bj _ hH):P:=h
theorem t9 {P:Prop}(h:P:=by unfold cj.cP at g1;rw[bv] at g1;simpa using g1.2):P:=h
section
variable {k:cj}{z:C0}{s t:cr}{H D:List Int}
theorem mx (k:cj)(s:cr)(x:Int):(k.br s x).2.rs=s.rs/\(k.br s x).2.wk=s.wk/\(k.br s x).2.ep=s.ep/\(k.br s x).2.nx=s.nx:=by unfold cj.br;split<;>exact⟨rfl,rfl,rfl,rfl⟩
theorem LI.roots (h:LI k z s H D)(rs:List Int):LI k z {s with rs:=rs} H D:=
 h.lift (h.mi.turn s.wk s.ep rs s.nx h.mi.ci.iI h.mi.ci.il h.mi.ci.h7 h.mi.ci.jE) (da.turn k s s.wk s.ep rs s.nx) rfl rfl rfl h.bo (fun _ b _=>b)
theorem LI.cO (h:LI k z s H D):∀n:Nat,n<=s.rs.length->∃d,LI k z (k.cO s n) d D/\da k s (k.cO s n)/\(∃b,d=H++b)/\(k.cO s n).rs.length=s.rs.length/\(∀i,i<n->k.cP ((k.cO s n).rs.getD i 0)=false)/\(∀i,n<=i->(k.cO s n).rs.getD i 0=s.rs.getD i 0)/\∀i,i<n->k.ml (k.cO s n) (s.rs.getD i 0) ((k.cO s n).rs.getD i 0)
 |0,_=>⟨H,h,da.refl _ _,⟨[],ac⟩,rfl,fun i hi=>aa,fun _ _=>rfl,fun i hi=>aa⟩
 |n+1,hn=>by
  obtain⟨v,m1,l,⟨b,m⟩,f,o,g,p⟩:=LI.cO h n aa;obtain⟨q,t,j2,⟨u,cH⟩,cJ,dI⟩:=m1.br _;obtain⟨r1,_⟩:=mx k _ _;have hl:n<(k.br (k.cO s n) ((k.cO s n).rs.getD n 0)).2.rs.length:=by rw[r1,f];omega
  have c:∀i,((k.br (k.cO s n) ((k.cO s n).rs.getD n 0)).2.rs.set n (k.br (k.cO s n) ((k.cO s n).rs.getD n 0)).1).getD i 0=if n=i then(k.br (k.cO s n) ((k.cO s n).rs.getD n 0)).1 else(k.cO s n).rs.getD i 0:=fun i=>by rw[lZ _ _ _ _ hl,r1]
  have j:=da.turn k (k.br (k.cO s n) ((k.cO s n).rs.getD n 0)).2 (k.br (k.cO s n) ((k.cO s n).rs.getD n 0)).2.wk (k.br (k.cO s n) ((k.cO s n).rs.getD n 0)).2.ep ((k.br (k.cO s n) ((k.cO s n).rs.getD n 0)).2.rs.set n (k.br (k.cO s n) ((k.cO s n).rs.getD n 0)).1) (k.br (k.cO s n) ((k.cO s n).rs.getD n 0)).2.nx;refine⟨q,t.roots _,l.trans (j2.trans j),⟨b++u,by rw[cH,m,bw]⟩,?_,fun i hi=>?_,fun i hi=>?_,fun i hi=>?_⟩
  ·show(List.set _ _ _).length=_;rw[bf,r1,f]
  ·show k.cP ((List.set _ _ _).getD i 0)=false;rw[c];split
   ·exact cJ
   ·exact o i aa
  ·show(List.set _ _ _).getD i 0=_;rw[c,aI aa];exact g i aa
  ·show k.ml _ _ ((List.set _ _ _).getD i 0)
   rw[c];by_cases e:n=i
   ·rw[aK e];subst e;exact dI _ (aM (g n b7))
   ·rw[aI e];exact(j2.trans j).ml (p i aa)
end
theorem zt {L c:Int->Int}{hi d:Int}:∀{l m:List Int}{a:Int},eb L hi a l->eb c d a (l++m)->(∀x∈l,c x=L x)->(hi∈m\/hi=d)/\∀y∈m,hi<=y
 |[],m,a,h,b,_=>by
  have e:=h;subst e;refine⟨?_,fun y hy=>(b.mem y hy).1⟩
  match m,b with
  |[],b=>exact aL b
  |y::k,b=>
   obtain⟨i,_⟩:=b;exact aM (by rw[<-i];simp)
 |u::l,m,a,h,b,he=>by obtain⟨e,_,_,ht⟩:=h;obtain⟨_,_,_,f⟩:=b;have g:=he u ac;rw[e] at g;rw[g] at f;exact zt ht f (fun x j=>he x (aX _ j))
section
variable {k:cj}{z:C0}{s t:cr}{H D:List Int}
theorem LI.lk (h:LI k z s H D){b:Int}(hb:b∈z.G):∃g,LI k z (k.lk s b) g (b::D)/\da k s (k.lk s b)/\∃j,g=H++j:=by
 obtain⟨g,m1,i,⟨j,f⟩,q,l,m⟩:=h.mi.lk (aM ⟨rfl,hb⟩)
 obtain⟨n,u⟩:=qQ k s b;have tm:=zt h.mi.full.es (by have:=m1.full.es;rw[f,<-bw] at this;exact this) (fun x t=>by obtain⟨a,o⟩:=h.mi.from t;exact(m1.hd a x (i.or o)).trans (h.mi.hd a x o).symm)
 have v:=h.zr;refine⟨g,⟨m1,?_,fun c d lt=>?_,fun c d=>?_,fun c d=>?_⟩,i,j,f⟩
 ·rw[n];rcases h.bo with d|d
  ·exact aM (by rw[f];exact bk _ d)
  ·rw[d];exact tm.1.imp (fun e=>by rw[f];exact bj _ e) id
 ·rw[n] at lt;have p:c∈H:=by
   rw[f] at d;rcases List.mem_append.1 d with d|d
   ·exact d
   ·have:=tm.2 c d;omega
  obtain⟨a,o⟩:=h.mi.from (bj z.G p)
  exact Lo.go (h.lo c p lt) h.mi m1 i o (l c) (m c)
 ·rcases List.mem_cons.1 d with d|d
  ·rw[d];exact q
  ·exact Lo.go (h.ld c d) h.mi m1 i (aM ⟨rfl,h.dg c d⟩) (l c) (m c)
 ·rcases List.mem_cons.1 d with d|d
  ·rw[d];exact hb
  ·exact h.dg c d
end
structure dQ (k:cj)(z:C0)(s:cr)(H:List Int):Prop where
 wk:∀a∈s.wk,a∈z.G++H/\pk (k.ld s a)=3
 ep:∀a∈s.ep,a∈z.G++H/\pk (k.ld s a)=4
section
variable {k:cj}{z:C0}{s t:cr}{H K D:List Int}
theorem da.hd (p:da k s t)(h:dF k z s H)(ht:dF k z t K){b:Int}(hb:b∈z.G++H):k.ld t b=k.ld s b:=by obtain⟨a,o⟩:=h.from hb;exact(ht.hd a b (p.or o)).trans (by grind [dF.hd])
theorem zu {G H K:List Int}{x:Int}(h:∃b,K=H++b)(c:x∈G++H):x∈G++K:=by grind
theorem dQ.go (w:dQ k z s H)(h:dF k z s H)(ht:dF k z t K)(p:da k s t)(f:∃b,K=H++b)(c:t.wk=s.wk)(d:t.ep=s.ep):dQ k z t K:=
 ⟨fun a ha=>by
  rw[c] at ha;obtain⟨m1,e⟩:=w.wk a ha
  grind [da.hd],fun a ha=>by
  rw[d] at ha;obtain⟨m1,e⟩:=w.ep a ha
  grind [da.hd]⟩
theorem zv (k:cj)(s:cr)(b:Int):((k.lk s b).wk=s.wk\/(pk (k.ld s b)=3/\(k.lk s b).wk=s.wk++[b]))/\((k.lk s b).ep=s.ep\/(pk (k.ld s b)=4/\(k.lk s b).ep=s.ep++[b])):=by grind [kW,oy,cj.lk]
theorem dQ.lk (w:dQ k z s H)(h:dF k z s H){b:Int}(hb:b∈z.G++H)(ht:dF k z (k.lk s b) K)(p:da k s (k.lk s b))(i:∃f,K=H++f):dQ k z (k.lk s b) K:=by
 obtain⟨c1,c2⟩:=zv k s b;refine⟨fun a ha=>?_,fun a ha=>?_⟩
 ·rcases c1 with e|⟨g,e⟩
  ·rw[e] at ha;obtain⟨m1,d⟩:=w.wk a ha
   grind [da.hd]
  ·rw[e] at ha;rcases List.mem_append.1 ha with c|c
   ·obtain⟨m1,d⟩:=w.wk a c
    grind [da.hd]
   grind [da.hd]
 ·rcases c2 with e|⟨g,e⟩
  ·rw[e] at ha;obtain⟨m1,d⟩:=w.ep a ha
   grind [da.hd]
  ·rw[e] at ha;rcases List.mem_append.1 ha with c|c
   ·obtain⟨m1,d⟩:=w.ep a c
    grind [da.hd]
   grind [da.hd]
theorem LI.qT (h:LI k z s H D){b:Int}(hb:b∈z.G++H)(q:pk (k.ld s b)=4):∃f,LI k z (k.kf (k.kf s (b+1)) (b+2)) f D/\da k s (k.kf (k.kf s (b+1)) (b+2))/\(∃d,f=H++d)/\k.cP (k.ld (k.kf (k.kf s (b+1)) (b+2)) (b+1))=false/\k.cP (k.ld (k.kf (k.kf s (b+1)) (b+2)) (b+2))=false:=by
 obtain⟨a,o⟩:=h.mi.from hb;have j:=h.mi.bd hb;have t:=iz j.2.2 aa;have u:=h.mi.hd a b o;obtain⟨v,m1,c,g,⟨d,w⟩⟩:=h.kf (i:=0) o aa (by grind)
 obtain⟨l,e,j2,cH,⟨m,cJ⟩⟩:=m1.kf (i:=1) (c.or o) aa (by grind)
 have n:b+1+0=b+1:=aa;have p:b+1+1=b+2:=aa;rw[n] at m1 c g e j2 cH;rw[p] at e j2 cH;exact⟨l,e,c.trans j2,⟨d++m,by grind⟩,j2.cl _ aa (by have:=c.g;omega) g,cH⟩
theorem LI.dZ:∀(l left:List Int){s:cr}{H:List Int},LI k z s H D->(∀a∈l,a∈z.G++H/\pk (k.ld s a)=4)->∃i,LI k z (l.foldl k.cU (left,s)).2 i D/\da k s (l.foldl k.cU (left,s)).2/\(∃n,i=H++n)/\(l.foldl k.cU (left,s)).2.wk=s.wk/\(l.foldl k.cU (left,s)).2.ep=s.ep/\(∀a∈l,a∈(l.foldl k.cU (left,s)).1\/(k.cP (k.ld (l.foldl k.cU (left,s)).2 (a+1))=false/\k.cP (k.ld (l.foldl k.cU (left,s)).2 (a+2))=false))/\(∀a∈left,a∈(l.foldl k.cU (left,s)).1)/\∀a∈(l.foldl k.cU (left,s)).1,a∈left\/a∈l
 |[],left,s,H,h,_=>⟨H,h,da.refl _ _,⟨[],ac⟩,rfl,rfl,fun a ha=>(by grind),fun _ c=>c,fun _ c=>aM c⟩
 |b::l,left,s,H,h,hl=>by
  rw[a9];cases hls:k.ls s _
  ·have d:k.cU (left,s) b=(left,k.kf (k.kf s (b+1)) (b+2)):=by unfold cj.cU;rw[aI (by rw[hls];simp)]
   rw[d];obtain⟨j,o⟩:=hl b ac;obtain⟨B,m1,e,p,F,N⟩:=h.qT j o;obtain⟨f,g,j2,cH,cJ,dI,q,m,t⟩:=LI.dZ l left m1 (fun a ha=>by
    obtain⟨n1,S⟩:=hl a (by grind)
    exact⟨zu p n1,by rw[e.hd h.mi m1.mi n1];omega⟩)
   obtain⟨w1,u,_⟩:=kW k s (b+1)
   obtain⟨v,w,_⟩:=kW k _ (b+2)
   have x:=h.mi.bd j;have W:=iz x.2.2 aa;have hg:=e.g;refine⟨f,g,e.trans j2,?_,cJ.trans (v.trans w1),dI.trans (w.trans u),fun a ha=>?_,m,fun a ha=>(by grind)⟩
   ·grind
   grind [da.cl]
  ·have d:k.cU (left,s) b=(left++[b],s):=by grind [cj.cU]
   rw[d];obtain⟨f,g,j2,cH,cJ,dI,q,m,t⟩:=LI.dZ l _ h (by grind)
   refine⟨f,g,j2,cH,cJ,dI,fun a ha=>?_,fun a c=>(by grind),fun a ha=>?_⟩
   all_goals grind
theorem dQ.kT (w:dQ k z s H)(h:LI k z s H D)(hn:hB k.N s.g s.nx=true)(ht:dF k z {k.lk s s.nx with nx:=s.nx+(1+pf (k.ld s s.nx))} K)(p:da k s {k.lk s s.nx with nx:=s.nx+(1+pf (k.ld s s.nx))})(d:∃e,K=H++e):dQ k z {k.lk s s.nx with nx:=s.nx+(1+pf (k.ld s s.nx))} K:=by have hb:=jC hn;obtain⟨b,_⟩:=qQ k s s.nx;have c:=w.lk h.mi (bj z.G (h.bo.resolve_right aa)) (ht.turn (k.lk s s.nx).wk _ _ (k.lk s s.nx).nx ht.ci.iI ht.ci.il (by rw[b];exact h.mi.ci.h7) (by rw[b];exact h.mi.ci.jE)) ⟨p.f,p.g,p.cl⟩ d;exact⟨c.wk,c.ep⟩
theorem LI.oA:∀(n:Nat){s:cr}{H:List Int},LI k z s H D->dQ k z s H->∃c,LI k z (k.lb n s) c D/\dQ k z (k.lb n s) c/\da k s (k.lb n s)/\(∃d,c=H++d)/\(((k.N:Int)+k.O-s.nx).toNat<n->hB k.N (k.lb n s).g (k.lb n s).nx=false)
 |0,s,H,h,w=>⟨H,h,w,da.refl _ _,⟨[],ac⟩,fun e=>absurd e aa⟩
 |n+1,s,H,h,w=>by
  unfold cj.lb;cases hn:hB k.N s.g s.nx
  ·rw[aI ac];exact⟨H,h,w,da.refl _ _,⟨[],ac⟩,fun _=>hn⟩
  ·obtain⟨l,m1,f,b⟩:=h.kT hn;have w1:=w.kT h hn m1.mi f b;obtain⟨d,b⟩:=b;obtain⟨g,i,kG,j2,⟨j,cH⟩,cJ⟩:=LI.oA n m1 w1;refine⟨g,i,kG,f.trans j2,⟨d++j,by rw[cH,b,bw]⟩,fun e=>cJ ?_⟩
   have m:=dr (k.ld s s.nx)
   have hb:=jC hn;have hg:=h.mi.ci.hg;dsimp only;omega
theorem Lo.ep {b:Int}(l:Lo k t b)(e:List Int)(hc:b∈t.ep->b∈e\/(k.cP (k.ld t (b+1))=false/\k.cP (k.ld t (b+2))=false))(o:pk (k.ld t b)=4->pf (k.ld t b)=2):Lo k {t with ep:=e} b:=by
 intro i f g;have j:i<pf (k.ld t b):=g;rcases l i f j with d|d|⟨m,n⟩
 ·exact aM d
 ·exact aL (aM d)
 ·rcases hc n with c|⟨c1,c2⟩
  ·exact aL (aL ⟨m,c⟩)
  ·left;rcases(by omega:i=0\/i=1) with e|e
   ·rw[e,show b+1+0=b+1 by omega];exact c1
   ·rw[e,show b+1+1=b+2 by omega];exact c2
theorem LI.kv (h:LI k z s H D)(w:dQ k z s H):∃f,LI k z (k.kv s).2 f D/\dQ k z (k.kv s).2 f/\da k s (k.kv s).2/\∃i,f=H++i:=by
 obtain⟨f,c,j2,cH,cJ,dI,j,_,l⟩:=LI.dZ s.ep [] h w.ep;have sub:_:=fun a ha=>(l a ha).elim (fun d=>by cases d) id;have g:=w.go h.mi c.mi j2 cH cJ dI;have cl:∀b,b∈(s.ep.foldl k.cU ([],s)).2.ep->_:=fun b hb=>j b (by rw[<-dI];exact hb)
 have two:∀b,b∈z.G++f->pk (k.ld (s.ep.foldl k.cU ([],s)).2 b)=4->_=_:=fun b hb e=>iz (c.mi.bd hb).2.2 (aL (aL e))
 refine⟨f,⟨(c.mi.turn _ _ _ _ c.mi.ci.iI (fun a ha=>h.mi.ci.il a (sub a ha)) c.mi.ci.h7 c.mi.ci.jE),c.bo,fun b d lt=>?_,fun b d=>?_,c.dg⟩,⟨g.wk,fun a ha=>g.ep a (by rw[dI];exact sub a ha)⟩,⟨j2.f,j2.g,j2.cl⟩,cH⟩
 ·exact(c.lo b d lt).ep _ (cl b) (two b (bj _ d))
 ·exact(c.ld b d).ep _ (cl b) (two b (bk _ (c.dg b d)))
end
def c_ (k:cj)(z:C0)(D:List Int)(s t:cr):Prop:=∀H,LI k z s H D->dQ k z s H->∃b,LI k z t b D/\dQ k z t b/\da k s t/\∃c,b=H++c
section
variable {k:cj}{z:C0}{s t u:cr}{D:List Int}
theorem c_.refl:c_ k z D s s:=fun H h w=>⟨H,h,w,da.refl _ _,⟨[],ac⟩⟩
theorem c_.trans (h:c_ k z D s t)(j:c_ k z D t u):c_ k z D s u:=fun H l w=>by obtain⟨b,m1,c,d,⟨A,e⟩⟩:=h H l w;obtain⟨f,g,j2,cH,⟨B,cJ⟩⟩:=j b m1 c;exact⟨f,g,j2,d.trans cH,⟨A++B,by rw[cJ,e,bw]⟩⟩
theorem c_.br (x:Int):c_ k z D s (k.br s x).2:=fun _ h w=>by obtain⟨d,m1,b,c,_,_⟩:=h.br x;obtain⟨_,e,f,_⟩:=mx k s x;exact⟨d,m1,w.go h.mi m1.mi b c e f,b,c⟩
theorem c_.lb (n:Nat):c_ k z D s (k.lb n s):=fun _ h w=>by obtain⟨b,m1,c,d,e,_⟩:=LI.oA n h w;exact⟨b,m1,c,d,e⟩
theorem c_.kv:c_ k z D s (k.kv s).2:=fun _ h w=>h.kv w
theorem c_.kY:∀(l:List Nat)(t:(cr×List ce)×Bool),c_ k z D t.1.1 (l.foldl (dE k.al k.br) t).1.1
 |[],t=>c_.refl
 |i::l,t=>by
  refine c_.trans ?_ (c_.kY l _)
  unfold dE;split
  ·exact c_.refl
  ·exact c_.br _
theorem c_.wa (t:cr×List ce):c_ k z D t.1 (k.wa t).1.1:=c_.kY (List.range t.2.length) (t,false)
theorem c_.c9:∀(n:Nat)(t:cr×List ce),c_ k z D t.1 (k.c9 n t).1
 |0,t=>c_.refl
 |n+1,t=>by
  have b:c_ k z D t.1 (k.kv (k.lb (k.O+1) t.1)).2:=(c_.lb (k.O+1)).trans c_.kv;unfold cj.c9;split
  ·exact b.trans (c_.c9 n ((k.kv (k.lb (k.O+1) t.1)).2,t.2))
  ·split
   ·exact(b.trans (c_.wa ((k.kv (k.lb (k.O+1) t.1)).2,t.2))).trans (c_.c9 n (k.wa ((k.kv (k.lb (k.O+1) t.1)).2,t.2)).1)
   ·exact b.trans (c_.wa ((k.kv (k.lb (k.O+1) t.1)).2,t.2))
theorem c_.sp (t:cr×List ce):c_ k z D t.1 (k.sp t).1:=c_.c9 _ t
theorem c_.ke (t:cr×List ce)(x:Int):c_ k z D t.1 (k.ke t x).2.1:=(c_.br x).trans (c_.sp ((k.br t.1 x).2,t.2))
theorem c_.one (t:cr×List ce)(e:ce):c_ k z D t.1 (cm (dU cr) (fun s x=>k.al s.1 x) k.ke t e).2.1:=by
 unfold cm;split
 ·exact c_.ke t e.2
 ·exact c_.refl
theorem c_.part (l:List ce)(t:cr×List ce):c_ k z D t.1 (pts (cm (dU cr) (fun s x=>k.al s.1 x) k.ke) t l).2.2.1:=by
 have key:∀(l:List ce)(p:List ce×List ce×(cr×List ce)),c_ k z D p.2.2.1 (l.foldl (eB (cm (dU cr) (fun s x=>k.al s.1 x) k.ke)) p).2.2.1:=by
  intro l
  induction l with
  |nil=>exact fun p=>c_.refl
  |cons e l c=>
   intro p;refine c_.trans ?_ (c _)
   have b:=c_.one (k:=k) (z:=z) (D:=D) p.2.2 e;unfold eB;split
   ·exact b
   ·exact b
 exact key l ([],[],t)
theorem c_.turn:∀(n:Nat)(t:cr×List ce)(b:List ce),c_ k z D t.1 (eK (cm (dU cr) (fun s x=>k.al s.1 x) k.ke) n t b).1.1
 |0,t,b=>c_.refl
 |n+1,t,b=>by
  unfold eK;split
  ·exact c_.part b t
  ·exact(c_.part b t).trans (c_.turn n _ _)
theorem c_.e_ (t:cr×List ce)(r:List ce):c_ k z D t.1 (k.e_ t r).1:=c_.turn _ _ _
end
section
variable {k:cj}{z:C0}{s t:cr}{D:List Int}
theorem qU (k:cj):∀(l left:List Int)(s:cr),(l.foldl k.cU (left,s)).1.length<=left.length+l.length/\((l.foldl k.cU (left,s)).1.length=left.length+l.length->(l.foldl k.cU (left,s)).2=s)
 |[],left,s=>⟨ac,fun _=>rfl⟩
 |b::l,left,s=>by
  rw[a9];cases hls:k.ls s _
  ·have c:k.cU (left,s) b=(left,k.kf (k.kf s (b+1)) (b+2)):=by unfold cj.cU;rw[aI (by rw[hls];simp)]
   rw[c];have d:=(qU k l left (k.kf (k.kf s (b+1)) (b+2))).1;rw[List.length_cons];exact⟨aa,fun e=>aa⟩
  ·have c:k.cU (left,s) b=(left++[b],s):=by unfold cj.cU;rw[aK hls]
   rw[c];obtain⟨d,f⟩:=qU k l (left++[b]) s;rw[a7,List.length_singleton] at d f;rw[List.length_cons];exact⟨aa,fun e=>f aa⟩
theorem GE (k:cj)(s:cr)(h:(k.kv s).1=false):(k.kv s).2.g=s.g/\(k.kv s).2.nx=s.nx:=by unfold cj.kv cj.dZ at h⊢;obtain⟨c,b⟩:=qU k s.ep [] s;have d:=of_decide_eq_false h;rw[List.length_nil,Nat.zero_add] at c b;rw[b aa];exact⟨rfl,rfl⟩
theorem t_ (k:cj):∀(l:List Nat)(t:(cr×List ce)×Bool),(l.foldl (dE k.al k.br) t).2=false->(l.foldl (dE k.al k.br) t).1=t.1/\t.2=false
 |[],t,h=>⟨rfl,h⟩
 |i::l,t,h=>by
  rw[a9] at h⊢;obtain⟨c,b⟩:=t_ k l _ h;unfold dE at c b⊢;split at b
  ·rename_i e;rw[aK e] at c⊢;exact⟨c,b⟩
  ·cases b
theorem ua (k:cj)(t:cr×List ce)(h:(k.wa t).2=false):(k.wa t).1=t:=(t_ k (List.range t.2.length) (t,false) h).1
theorem qV:∀(n:Nat)(t:cr×List ce)(H:List Int),LI k z t.1 H D->dQ k z t.1 H->eg k t.1->k.mu t.1<n->hB k.N (k.c9 n t).1.g (k.c9 n t).1.nx=false
 |0,t,H,_,_,_,e=>absurd e aa
 |n+1,t,H,h,w,hb,e=>by
  obtain⟨u,l1,w1,_,_,g⟩:=LI.oA (k.O+1) h w;have h7:=h.mi.ci.h7;obtain⟨c1,c2,c3⟩:=CI.lb h.mi.ci hb (k.O+1)
  obtain⟨i,b,v,j⟩:=CI.kv c1 c2;obtain⟨c,l2,d,_,_⟩:=l1.kv w1;unfold cj.c9;cases hk:(k.kv _).1
  ·rw[aI ac];obtain⟨g1,g2⟩:=GE k _ hk;obtain⟨x,l,B,F,m⟩:=CI.wa (s:=((k.kv _).2,t.2)) i b;cases hw:(k.wa ((k.kv _).2,t.2)).2
   ·rw[aI ac,ua k _ hw];rw[g1,g2];exact g aa
   ·obtain⟨o,p,q,_,_⟩:=c_.wa ((k.kv _).2,t.2) c l2 d;have f:=m hw;dsimp only at f;exact qV n _ o p q l aa
  ·rw[aK rfl];have f:=j hk;exact qV n ((k.kv _).2,t.2) c l2 d b (by dsimp only;omega)
end
section
variable {k:cj}{z:C0}{s:cr}{H D:List Int}
theorem LI.fields (h:LI k z s H D)(he:hB k.N s.g s.nx=false)
 (hz:∀v,(v∈k.T\/v∈z.G)->∀i,0<=i->i<pf (k.l0 z v)->dd (k.l0 z (v+1+i))=true->cq (k.l0 z (v+1+i))∈k.T\/cq (k.l0 z (v+1+i))∈z.G)
 (hc:∀v∈z.G,v∉D->∀i,0<=i->i<pf (k.l0 z v)->k.cP (k.l0 z (v+1+i))=false)
 {b:Int}(hb:b∈z.G++H){i:Int}(g:0<=i)(f:i<pf (k.ld s b))(ha:dd (k.ld s (b+1+i))=true):
 cq (k.ld s (b+1+i))∈z.G++H\/(pk (k.ld s b)=3/\i=0/\b∈s.wk)\/(pk (k.ld s b)=4/\b∈s.ep):=by
 obtain⟨a,o⟩:=h.mi.from hb;have j:=h.mi.hd a b o;rw[j] at f;have hm:=h.mi.fd a b o i g f;have p:a∈k.T\/a∈z.G:=by
  rcases o with⟨e,d⟩|⟨d,_⟩
  ·exact aL (by rw[e];exact d)
  ·exact aM d
 have q:s.nx=(k.N:Int)+s.g:=by
  rcases h.bo with d|d
  ·have t:=h.mi.je d;unfold hB at he;have:=of_decide_eq_false he;omega
  ·exact d
 have key:k.cP (k.ld s (b+1+i))=false->cq (k.ld s (b+1+i))∈z.G++H:=fun hy=>by
  rcases hm with e|⟨g1,g2,g3⟩
  ·rw[e] at ha hy⊢;rcases hz a p i g f ha with d|d
   ·unfold cj.cP at hy;rw[ha] at hy;simp at hy;exact absurd d hy
   ·exact bk _ d
  ·have hT:cq (k.l0 z (a+1+i))∈k.T:=by exact t9
   exact zs
 rcases List.mem_append.1 hb with d|d
 ·by_cases l:b∈D
  ·rcases h.ld b l i g (by rw[j];exact f) with c|c|c
   ·exact aM (key c)
   ·exact aL (aM c)
   ·exact aL (aL c)
  ·have ea:a=b:=by
    rcases o with⟨e,_⟩|⟨o1,m,u⟩
    ·exact e
    ·have t:=h.mi.hlo b (by rw[<-m];exact h.mi.fh a o1 (by rw[m];exact u))
     have w:=h.mi.kV b d;omega
   subst ea;have hy:=hc a d l i g f;refine aM (key ?_)
   rcases hm with e|⟨g1,_⟩
   ·rw[e];exact hy
   ·rw[hy] at g1;cases g1
 ·rcases h.lo b d (by rw[q];exact(h.mi.je d).2) i g (by rw[j];exact f) with c|c|c
  ·exact aM (key c)
  ·exact aL (aM c)
  ·exact aL (aL c)
end
def j_ (k:cj)(G:List Int)(x:Int):Prop:=dd x=true->k.cP x=false/\cq x∈G
structure g8 (k:cj)(G:List Int)(P:Int->Int->Prop)(s:cr):Prop where
 full:ec k.N k.y s.g s.ws k.T G
 len:s.ws.length=k.N+k.O
 hy:k.y<=k.N
 hg:s.g<=k.O
 fd:∀b∈G,∀i,0<=i->i<pf (k.ld s b)->j_ k G (k.ld s (b+1+i))\/P b i
 fy:∀b∈G,∀i,0<=i->i<pf (k.ld s b)->k.cP (k.ld s (b+1+i))=false->j_ k G (k.ld s (b+1+i))
section
variable {k:cj}{G:List Int}{P:Int->Int->Prop}{s:cr}
theorem g8.st (h:g8 k G P s){b i v:Int}(hb:b∈G)(g:0<=i)(l:i<pf (k.ld s b))(hv:j_ k G v):g8 k G (fun c j=>P c j/\¬(c=b/\j=i)) (k.st s (b+1+i) v)/\∀c∈G,k.ld (k.st s (b+1+i) v) c=k.ld s c:=by
 have hi:=kF h.full (aL hb) g l;have u:=jD hi h.hy h.hg;obtain⟨n,hk⟩:=h.full.set h.len h.hy h.hg (aL hb) g l;have e:k.st s (b+1+i) v={s with ws:=s.ws.set (b+1+i).toNat v}:=by unfold cj.st;rw[aK hi]
 have f:∀c∈G,k.ld (k.st s (b+1+i) v) c=k.ld s c:=fun c hc=>by rw[e];exact hk c (aL hc)
 have hld:∀c∈G,∀j,0<=j->j<pf (k.ld s c)->k.ld (k.st s (b+1+i) v) (c+1+j)=if(b+1+i).toNat=(c+1+j).toNat then v else k.ld s (c+1+j):=fun c hc j j0 d=>by
  have m:=kF h.full (aL hc) j0 d;rw[e];show ld k.N k.y s.g _ _=if _ then v else ld k.N k.y s.g s.ws _
  have hl:=h.len;rw[ef m,ef m,lZ _ _ _ _ aa]
 refine⟨⟨by rw[e];exact n,by rw[e];show(List.set _ _ _).length=_;rw[bf];exact h.len,h.hy,by rw[e];exact h.hg,fun c hc j j0 d=>?_,fun c hc j j0 d=>?_⟩,f⟩
 ·rw[f c hc] at d;rw[hld c hc j j0 d];by_cases q:(b+1+i).toNat=(c+1+j).toNat
  ·rw[aK q];exact aM hv
  ·rw[aI q];exact(h.fd c hc j j0 d).imp id (fun p=>⟨p,fun⟨o,t⟩=>q (by rw[o,t])⟩)
 ·rw[f c hc] at d;rw[hld c hc j j0 d];by_cases q:(b+1+i).toNat=(c+1+j).toNat
  ·rw[aK q];exact fun _=>hv
  ·rw[aI q];exact h.fy c hc j j0 d
theorem g8.imp {Q:Int->Int->Prop}(h:g8 k G P s)(hp:∀b i,P b i->Q b i):g8 k G Q s:=⟨h.full,h.len,h.hy,h.hg,fun b hb i c d=>(h.fd b hb i c d).imp id (hp b i),h.fy⟩
theorem j_.gone:j_ k G 3:=fun h=>absurd h ae
theorem g8.told (h:g8 k G P s)(hN:k.N<=256)(hO:k.O<=1024){n:Int}(hn:n∈G):j_ k G (ew 3 n):=fun _=>by
 have hb:=h.full.io n hn;have hg:=h.hg;have hy:=h.hy;obtain⟨m,rfl⟩:∃m:Nat,n=m:=⟨n.toNat,aa⟩
 obtain⟨c,b⟩:=nk m aa;refine⟨?_,by rw[b];exact hn⟩
 unfold cj.cP;rw[c,b];cases hc:k.T.contains (m:Int)
 ·rfl
 ·have d:(m:Int)∈k.T:=by simpa using hc
  have:=h.full.iH _ d;omega
theorem g8.mw (hN:k.N<=256)(hO:k.O<=1024):∀(l:List Int){P:Int->Int->Prop}{s:cr},g8 k G P s->(∀a∈l,a∈G/\pk (k.ld s a)=3)->(∀a∈k.T,s.f a≠-1->s.f a∈G)->g8 k G (fun b i=>P b i/\¬(b∈l/\i=0)) (l.foldl k.eO s)/\(∀c∈G,k.ld (l.foldl k.eO s) c=k.ld s c)/\(l.foldl k.eO s).g=s.g/\(l.foldl k.eO s).rs=s.rs/\(l.foldl k.eO s).ep=s.ep
 |[],P,s,h,_,_=>⟨h.imp (fun b i p=>⟨p,fun⟨d,_⟩=>by cases d⟩),fun _ _=>rfl,rfl,rfl,rfl⟩
 |a::l,P,s,h,hl,g=>by
  rw[a9];obtain⟨ha,o⟩:=hl a ac;have j:=iz (h.full.es.mem a ha).2.2 (aL (aM o))
  have j:pf (k.ld s a)=2:=j;have m:a+1+0=a+1:=aa;have fy:=h.fy a ha 0 aa aa;rw[m] at fy;obtain⟨v,ev,hv⟩:∃v,k.eO s a=k.st s (a+1) v/\j_ k G v:=by
   unfold cj.eO;cases hls:k.ls s _
   ·refine⟨k.nw s _,by rw[aI ac],?_⟩
    cases hy:k.cP _
    ·have e:k.nw s (k.ld s (a+1))=k.ld s (a+1):=by unfold cj.nw;rw[hy];rfl
     rw[e];exact fy hy
    ·unfold cj.ls at hls;rw[hy,Bool.true_and] at hls;have e:k.nw s (k.ld s (a+1))=ew 3 (s.f (cq (k.ld s (a+1)))):=by unfold cj.nw;rw[hy,hls];rfl
     rw[e];unfold cj.cP at hy;rw[bv] at hy;exact h.told hN hO (g _ (by simpa using hy.2) (by simpa using hls))
   ·exact⟨3,by rw[aK rfl],j_.gone⟩
  obtain⟨m1,f⟩:=h.st ha (i:=0) aa aa hv;rw[m] at m1 f;rw[ev];obtain⟨q,j2,cH,cJ,dI⟩:=g8.mw hN hO l m1 (fun c hc=>by
   obtain⟨n1,t⟩:=hl c (aX _ hc)
   exact⟨n1,by rw[f c n1];exact t⟩) g
  refine⟨q.imp (fun b i ⟨⟨u,w⟩,x⟩=>⟨u,fun⟨B,n⟩=>?_⟩),fun c hc=>(j2 c hc).trans (f c hc),cH,cJ,dI⟩
  rcases List.mem_cons.1 B with d|d
  ·exact w ⟨d,n⟩
  ·exact x ⟨d,n⟩
end
section
variable {k:cj}{G:List Int}
theorem g8.be:∀(l:List Int){P:Int->Int->Prop}{s:cr},g8 k G P s->(∀a∈l,a∈G/\pk (k.ld s a)=4)->g8 k G (fun b i=>P b i/\¬(b∈l/\(i=0\/i=1))) (l.foldl k.gP s)/\(∀c∈G,k.ld (l.foldl k.gP s) c=k.ld s c)/\(l.foldl k.gP s).g=s.g/\(l.foldl k.gP s).rs=s.rs
 |[],P,s,h,_=>⟨h.imp (fun b i p=>⟨p,fun⟨d,_⟩=>by cases d⟩),fun _ _=>rfl,rfl,rfl⟩
 |a::l,P,s,h,hl=>by
  obtain⟨ha,j⟩:=hl a ac;have F:pf (k.ld s a)=2:=iz (h.full.es.mem a ha).2.2 (aL (aL j))
  have m:a+1+0=a+1:=aa;have n:a+1+1=a+2:=aa;obtain⟨m1,f⟩:=h.st ha (i:=0) (v:=3) aa aa j_.gone;rw[m] at m1 f;obtain⟨n1,g⟩:=m1.st ha (i:=1) (v:=3) aa (by rw[f a ha];omega) j_.gone;rw[n] at n1 g;obtain⟨o,j2,cH,cJ⟩:=g8.be l n1 (fun c hc=>by
   obtain⟨q1,q⟩:=hl c (aX _ hc)
   exact⟨q1,by rw[g c q1,f c q1];exact q⟩)
  refine⟨o.imp (fun b i ⟨⟨⟨t,u⟩,w⟩,x⟩=>⟨t,fun⟨B,e⟩=>?_⟩),fun c hc=>((j2 c hc).trans (g c hc)).trans (f c hc),cH,cJ⟩
  rcases List.mem_cons.1 B with d|d
  ·rcases e with e|e
   ·exact u ⟨d,e⟩
   ·exact w ⟨d,e⟩
  ·exact x ⟨d,e⟩
theorem ub {N y g:Nat}{ws:List Int}{a:Int}(ha:(N:Int)<=a)(hy:y<=N):ld N 0 g ws a=ld N y g ws a:=by
 have e:dt N 0 g a=dt N y g a:=by unfold dt hB;have b:decide ((0:Int)<=a/\a<0+(y:Int))=false:=bB aa;rw[(bB aa),b]
 unfold ld;rw[e]
theorem g8.done {s:cr}{rs:List Int}(h:g8 k G (fun _ _=>False) s)(hr:∀x∈rs,j_ k G x):ix k.N 0 s.g s.ws [] G rs:=by
 have io:=h.full.io;have eq:∀a,(k.N:Int)<=a->ld k.N 0 s.g s.ws a=ld k.N k.y s.g s.ws a:=fun a ha=>ub ha h.hy;refine⟨⟨by simpa using eb.done,h.full.es.heads (fun x c=>eq x (io x c).1)⟩,fun x c ha=>aL (hr x c ha).2,fun v hv i e d ha=>?_⟩
 rcases hv with b|b
 ·cases b
 ·have hv:=io v b;rw[eq v hv.1] at d;rw[eq (v+1+i) aa] at ha⊢;exact aL (((h.fd v b i e d).resolve_right id) ha).2
end
theorem zw (ws:List Int)(t f n i:Nat)(b:t+n<=ws.length)(d:f+n<=ws.length):
 (splice ws t ((ws.drop f).take n)).getD i 0=if t<=i/\i<t+n then ws.getD (f+i-t) 0 else ws.getD i 0:=by
 have hl:((ws.drop f).take n).length=n:=by simp;omega
 unfold splice;rw[hl];simp;exact xa
theorem GF (k:cf)(hl:k.s.ws.length=k.a.N+k.a.O)(hy:k.s.y<=k.a.N)(hg:k.s.g<=k.a.O)(t f n:Nat)(t0:k.a.N<=t)(b:t+n<=k.a.N+k.s.g)(d:k.a.N<=f)(g:f+n<=k.a.N+k.s.g)(x:Int):
 (k.lL t f n).ld x=if(t:Int)<=x/\x<(t:Int)+n then k.ld (f+(x-t)) else k.ld x:=by
 have e:(k.lL t f n).ld x=ld k.a.N k.s.y k.s.g (splice k.s.ws t ((k.s.ws.drop f).take n)) x:=rfl;rw[e];unfold cf.ld;by_cases c:(t:Int)<=x/\x<(t:Int)+n
 ·rw[aK c,ef (hD aa aa),ef (hD aa aa),zw _ _ _ _ _ aa aa,aK aa]
  congr 1
  omega
 ·rw[aI c];cases hb:dt k.a.N k.s.y k.s.g x
  ·unfold ld;rw[hb];rfl
  ·have i:=(ob _ _ _ _).1 hb;rw[ef hb,ef hb,zw _ _ _ _ _ aa aa,aI aa]
structure kH (k k':cf):Prop where
 a:k'.a=k.a
 y:k'.s.y=k.s.y
 rs:k'.s.rs=k.s.rs
 len:k'.s.ws.length=k.s.ws.length
theorem kH.refl (k:cf):kH k k:=⟨rfl,rfl,rfl,rfl⟩
theorem kH.trans {k b c:cf}(h:kH k b)(j:kH b c):kH k c:=⟨j.a.trans h.a,j.y.trans h.y,j.rs.trans h.rs,j.len.trans h.len⟩
structure jv (k:cf)(al:Int->Bool)(f:Int->Int)(m:Int)(D l:List Int)(t:cf×Int):Prop where
 sm:kH k t.1
 g:t.1.s.g=k.s.g
 u0:0<=t.2
 pos:Pos (fun a=>pf (k.ld a)) al f (k.a.N+t.2) l m
 tl:∃b:Int,eb k.ld (k.a.N+k.s.g) b l/\k.a.N+t.2<=b/\∀x:Int,b<=x->x<k.a.N+k.s.g->t.1.ld x=k.ld x
 cP:∀x:Int,0<=x->x<k.s.y->t.1.ld x=k.ld x
 rel:∀c∈D,al c=true->f c+pf (k.ld c)<k.a.N+t.2/\∀i:Int,0<=i->i<=pf (k.ld c)->t.1.ld (f c+i)=k.ld (c+i)
section
variable {k:cf}{al:Int->Bool}{s:cy}{m:Int}
theorem jv.step (hl:k.s.ws.length=k.a.N+k.a.O)(hy:k.s.y<=k.a.N)(hg:k.s.g<=k.a.O){D l:List Int}{a:Int}{t:cf×Int}(h:jv k al s.f m D (a::l) t)(hs:al a=!(s.f a==-1)):jv k al s.f m (D++[a]) l (fu (fun _ a=>s.f a) (cf.jd s) t a):=by
 obtain⟨b,⟨e,ad,ag,ht⟩,hb,g⟩:=h.tl;have ai:=dr (k.ld b)
 have u0:=h.u0;cases c:al a
 ·rw[c] at hs;have c2:s.f a=-1:=by simpa using hs
  have n:fu (fun _ a=>s.f a) (cf.jd s) t a=t:=by unfold fu;rw[aK c2]
  rw[n];refine⟨h.sm,h.g,h.u0,(h.pos.2 c).2,⟨b+(1+pf (k.ld b)),ht,aa,fun x f d=>g x aa d⟩,h.cP,fun o hd p=>?_⟩
  rcases List.mem_append.1 hd with hd|hd
  ·exact h.rel o hd p
  ·simp_all
 ·rw[c] at hs;have c2:s.f a≠-1:=by simp_all
  obtain⟨am,F⟩:=h.pos.1 c;have n:fu (fun _ a=>s.f a) (cf.jd s) t a=cf.jd s t a:=by unfold fu;rw[aI c2]
  rw[n];have N:cf.jd s t a=(t.1.lL (s.f a).toNat a.toNat (1+(pf (k.ld a)).toNat),t.2+(1+pf (k.ld a))):=by unfold cf.jd;rw[(g a aa (by rw[e];omega))]
  have hz:pf (k.ld a)=pf (k.ld b):=by rw[e]
  have hN:=h.sm.a;have u:=h.g;have v:=h.sm.len;have M:=GF t.1 (by simp_all) (by rw[h.sm.y,hN];exact hy) (by simp_all) (s.f a).toNat a.toNat (1+(pf (k.ld a)).toNat) (by rw[hN];omega) (by rw[hN,u];omega) (by rw[hN];omega) (by rw[hN,u];omega)
  have q:kH t.1 (t.1.lL (s.f a).toNat a.toNat (1+(pf (k.ld a)).toNat))/\(t.1.lL (s.f a).toNat a.toNat (1+(pf (k.ld a)).toNat)).s.g=t.1.s.g:=by
   refine⟨⟨rfl,rfl,rfl,?_⟩,rfl⟩
   refine sT _ _ _ ?_;rw[v,hl,bq,List.length_drop,v,hl];omega
  rw[N];generalize t.1.lL (s.f a).toNat a.toNat _=S at M q⊢;have j:∀x,S.ld x=if s.f a<=x/\x<s.f a+(1+pf (k.ld a)) then t.1.ld (a+(x-s.f a)) else t.1.ld x:=fun x=>by rw[M x];have f:((s.f a).toNat:Int)=s.f a:=aa;have d:(a.toNat:Int)=a:=aa;have W:((1+(pf (k.ld a)).toNat:Nat):Int)=1+pf (k.ld a):=aa;rw[f,d,W]
  refine⟨h.sm.trans q.1,q.2.trans h.g,aa,by rw[<-Int.add_assoc];exact F,⟨b+(1+pf (k.ld b)),ht,aa,fun x f d=>?_⟩,fun x f d=>?_,fun o hd p=>?_⟩
  ·rw[j,aI aa];exact g x aa d
  ·rw[j,aI aa];exact h.cP x f d
  ·rcases List.mem_append.1 hd with hd|hd
   ·obtain⟨r1,ab⟩:=h.rel o hd p;refine⟨aa,fun i w B=>?_⟩
    rw[j,aI aa];exact ab i w B
   ·rw[List.mem_singleton.1 hd];refine⟨aa,fun i w B=>?_⟩
    rw[j,aK aa,show a+(s.f a+i-s.f a)=a+i from by omega];exact g (a+i) aa aa
theorem jv.qW (hl:k.s.ws.length=k.a.N+k.a.O)(hy:k.s.y<=k.a.N)(hg:k.s.g<=k.a.O)(hN:k.a.N<=256)(hO:k.a.O<=1024)(hs:∀a∈k.G,al a=!(s.f a==-1))(hm:m<=k.a.N+k.a.O):iL k s (fun j t=>jv k al s.f m (k.G.take j) (k.G.drop j) t):=by
 have hz:∀a,0<=(fun a=>pf (k.ld a)) a:=fun a=>(dr _).1;refine⟨fun j t c h l=>?_,fun j t c h=>?_,fun t h=>?_⟩
 ·have e:k.G.drop j=k.G.getD j 0::k.G.drop (j+1):=by simp_all
  have d:k.G.getD j 0∈k.G:=by rw[aJ,aN c];exact a8 c
  generalize k.G.getD j 0=a at e l d⊢;have h:jv k al s.f m (k.G.take j) (k.G.drop j) t:=h;rw[e] at h;have ha:al a=true:=by simp_all
  obtain⟨b,⟨i,q,u,ht⟩,hb,n⟩:=h.tl;have v:=dr (k.ld b)
  have u0:=h.u0;obtain⟨o,p⟩:=h.pos.1 ha;have f:=p.le hz;have f:=f;rw[(n a aa (by rw[i];omega)),o];rw[i] at f⊢;omega
 ·have e:k.G.drop j=k.G.getD j 0::k.G.drop (j+1):=by simp_all
  have d:k.G.getD j 0∈k.G:=by rw[aJ,aN c];exact a8 c
  have h:jv k al s.f m (k.G.take j) (k.G.drop j) t:=h;rw[e] at h;have g:=h.step hl hy hg (hs _ d)
  rw[<-(gL k.G j c 0)] at g;exact g
 ·have h:=h;have u0:=h.u0;have g:=h.pos.le hz;omega
theorem jv.all (hl:k.s.ws.length=k.a.N+k.a.O)(hy:k.s.y<=k.a.N)(hg:k.s.g<=k.a.O)(hs:∀a∈k.G,al a=!(s.f a==-1)):∀(l D:List Int)(t:cf×Int),(∀a∈l,a∈k.G)->jv k al s.f m D l t->jv k al s.f m (D++l) [] (hJ (fun _ a=>s.f a) (cf.jd s) t l)
 |[],D,t,_,h=>by rw[List.append_nil];exact h
 |a::l,D,t,c,h=>by
  have d:=jv.all hl hy hg hs l _ _ (fun b hb=>c b (aX _ hb)) (h.step hl hy hg (hs a (c a ac)))
  rw[bw] at d;exact d
structure lN (k:cf)(al:Int->Bool)(f:Int->Int)(m:Int)(D l:List Int)(t:cf):Prop where
 sm:kH k t
 g:t.s.g<=k.a.O
 pos:Pos (fun a=>pf (k.ld a)) al f (k.a.N+t.s.g) l m
 cP:∀x:Int,0<=x->x<k.s.y->t.ld x=k.ld x
 rel:∀c∈D,al c=true->(k.a.N:Int)<=f c/\f c+pf (k.ld c)<k.a.N+t.s.g/\∀i:Int,0<=i->i<=pf (k.ld c)->t.ld (f c+i)=k.ld (c+i)
theorem lN.step (hl:k.s.ws.length=k.a.N+k.a.O)(hy:k.s.y<=k.a.N)(hm:m<=k.a.N+k.a.O){D l:List Int}{a:Int}{t:cf}(h:lN k al s.f m D (a::l) t)(hs:al a=!(s.f a==-1))(h0:0<=a)(ag:a+(1+pf (k.ld a))<=k.s.y)(v:pc (k.ld a)=0):lN k al s.f m (D++[a]) l (fu (fun(_:cf) a=>s.f a) (fun k a=>k.cop a) t a):=by
 have hz:∀a,0<=(fun a=>pf (k.ld a)) a:=fun a=>(dr _).1;have ai:=dr (k.ld a)
 cases c:al a
 ·rw[c] at hs;have c2:s.f a=-1:=by simpa using hs
  have f:fu (fun(_:cf) a=>s.f a) (fun k a=>k.cop a) t a=t:=by unfold fu;rw[aK c2]
  rw[f];refine⟨h.sm,h.g,(h.pos.2 c).2,h.cP,fun g hd j=>?_⟩
  rcases List.mem_append.1 hd with hd|hd
  ·exact h.rel g hd j
  ·simp_all
 ·rw[c] at hs;have c2:s.f a≠-1:=by simp_all
  obtain⟨am,d⟩:=h.pos.1 c;have d:Pos (fun a=>pf (k.ld a)) al s.f (k.a.N+t.s.g+(1+pf (k.ld a))) l m:=d;have an:=d.le hz;have f:fu (fun(_:cf) a=>s.f a) (fun k a=>k.cop a) t a=t.cop a:=by unfold fu;rw[aI c2]
  rw[f];have hN:=h.sm.a;have ao:=h.sm.y;have n:=h.sm.len;have b:ld t.a.N t.s.y t.s.g t.s.ws a=k.ld a:=h.cP a h0 aa;have w:gE t.a.N t.s.y t.s.g a=t.s.y:=by
   unfold gE;have o:hB (0:Int) t.s.y a=true:=by unfold hB;exact bm ⟨h0,aa⟩
   first|rw[aK o]|(simp[o])
  have hc:iE t.a.N t.a.O t.s.y t.s.g t.s.ws a=true:=by unfold iE;rw[b,w];exact bm ⟨v,aa,by rw[hN];omega⟩
  have M:=cj.sU (k:=⟨t.a.N,t.a.O,t.s.y,[]⟩) (s:=⟨t.s.g,t.s.ws,fun _=>-1,0,[],[],[]⟩) (by simp_all) (by simp_all) ((hN▸h.g)) (a:=a) h0 (by show a+1+pf (ld t.a.N t.s.y t.s.g t.s.ws a)<=t.s.y;rw[b];omega) hc;have e:∀x,(t.cop a).ld x=if(k.a.N:Int)+t.s.g<=x/\x<(k.a.N:Int)+t.s.g+(1+pf (k.ld a)) then t.ld (a+(x-(k.a.N+t.s.g))) else t.ld x:=fun x=>by have:=M x;rw[<-hN,<-b];exact this
  have B:(t.cop a).s.g=t.s.g+(1+(pf (k.ld a)).toNat):=by show jU _ _ _ _ _ _=_;unfold jU;rw[aK hc,b]
  have F:(t.cop a).s.ws.length=t.s.ws.length:=by show(jV _ _ _ _ _ _).length=_;unfold jV;rw[aK hc,b];refine sT _ _ _ ?_;rw[n,hl,hN,bq,List.length_drop,n,hl];omega
  have p:kH t (t.cop a):=⟨rfl,rfl,rfl,F⟩
  generalize t.cop a=N at e B p⊢;have S:(N.s.g:Int)=t.s.g+(1+pf (k.ld a)):=aa;refine⟨h.sm.trans p,aa,by rw[S,<-Int.add_assoc];exact d,fun x W ab=>?_,fun g hd j=>?_⟩
  ·rw[e,aI aa];exact h.cP x W ab
  ·rcases List.mem_append.1 hd with hd|hd
   ·obtain⟨r0,r1,ad⟩:=h.rel g hd j;refine⟨r0,aa,fun i q u=>?_⟩
    rw[e,aI aa];exact ad i q u
   ·rw[List.mem_singleton.1 hd];refine⟨aa,aa,fun i q u=>?_⟩
    rw[e,aK aa,show a+(s.f a+i-(k.a.N+t.s.g))=a+i from by omega];exact h.cP (a+i) aa aa
theorem lN.all (hl:k.s.ws.length=k.a.N+k.a.O)(hy:k.s.y<=k.a.N)(hm:m<=k.a.N+k.a.O):∀(l D:List Int)(t:cf),(∀a∈l,al a=!(s.f a==-1)/\0<=a/\a+(1+pf (k.ld a))<=k.s.y/\pc (k.ld a)=0)->lN k al s.f m D l t->lN k al s.f m (D++l) [] (t.pt s l)
 |[],D,t,_,h=>by rw[List.append_nil];exact h
 |a::l,D,t,c,h=>by
  obtain⟨g1,g2,g3,g4⟩:=c a ac;have d:=lN.all hl hy hm l _ _ (fun b hb=>c b (aX _ hb)) (h.step hl hy hm g1 g2 g3 g4)
  rw[bw] at d;exact d
end
structure ia (k k':cf):Prop where
 a:k'.a=k.a
 y:k'.s.y=k.s.y
 g:k'.s.g=k.s.g
 rs:k'.s.rs=k.s.rs
 Y:k'.Y=k.Y
 G:k'.G=k.G
 len:k'.s.ws.length=k.s.ws.length
theorem ia.refl (k:cf):ia k k:=⟨rfl,rfl,rfl,rfl,rfl,rfl,rfl⟩
theorem ia.trans {k b c:cf}(h:ia k b)(j:ia b c):ia k c:=⟨j.a.trans h.a,j.y.trans h.y,j.g.trans h.g,j.rs.trans h.rs,j.Y.trans h.Y,j.G.trans h.G,j.len.trans h.len⟩
structure ka (k:cf):Prop where
 l:k.s.ws.length=k.a.N+k.a.O
 y:k.s.y<=k.a.N
 g:k.s.g<=k.a.O
theorem ia.bd {k c:cf}(h:ia k c)(b:ka k):ka c:=⟨by rw[h.len,h.a];exact b.l,by rw[h.y,h.a];exact b.y,by rw[h.g,h.a];exact b.g⟩
theorem ia.T {k b:cf}(h:ia k b):b.T=k.T:=by unfold cf.T;rw[h.Y,h.G]
section
variable {k:cf}{s:cy}
theorem px (k:cf)(p x:Int):ia k (k.it p x):=⟨rfl,rfl,rfl,rfl,rfl,rfl,by
 show(if _ then _ else _:List Int).length=_;split
 ·simp_all
 ·rfl⟩
theorem uc (b:ka k){p:Int}(hp:dt k.a.N k.s.y k.s.g p=true)(x q:Int):(k.it p x).ld q=if q=p then x else k.ld q:=by
 have hb:=jD hp b.y b.g;have e:(k.it p x).ld q=ld k.a.N k.s.y k.s.g (k.s.ws.set p.toNat x) q:=by unfold cf.it;rw[aK hp];rfl
 rw[e];unfold cf.ld;by_cases c:q=p
 ·rw[aK c,c,ef hp,aJ,List.getElem?_set_self (by rw[b.l];omega)];rfl
 ·rw[aI c];cases hq:dt k.a.N k.s.y k.s.g q
  ·unfold ld;rw[hq];rfl
  ·have d:=jD hq b.y b.g;rw[ef hq,ef hq,aJ,List.getElem?_set_ne aa,aJ]
def cf.iA (k:cf)(s:cy)(a i:Int):Int:=if((pk (k.ld a)=3\/pk (k.ld a)=4)/\k.cX s (k.ld (a+1))=true)/\(i=0\/(pk (k.ld a)=4/\i=1)) then 3 else k.ld (a+1+i)
structure kZ (k:cf)(a:Int):Prop where
 c:pc (k.ld a)=0
 i:∀i,0<=i->i<=pf (k.ld a)->dt k.a.N k.s.y k.s.g (a+i)=true
theorem ia.zx {k b:cf}(h:ia k b){a:Int}(e:b.ld a=k.ld a)(w:kZ k a):kZ b a:=⟨(e▸w.c),fun i d c=>by rw[h.a,h.y,h.g];rw[e] at c;exact w.i i d c⟩
theorem GG (b:ka k){a:Int}(w:kZ k a):ia k (k.brk s a)/\(∀q,(q<=a\/a+pf (k.ld a)<q)->(k.brk s a).ld q=k.ld q)/\∀i,0<=i->i<pf (k.ld a)->(k.brk s a).ld (a+1+i)=k.iA s a i:=by
 unfold cf.brk;by_cases c:(pk (k.ld a)=3\/pk (k.ld a)=4)/\k.cX s (k.ld (a+1))=true
 ·rw[aK c];have m:=iz w.c aa;have f:=w.i 1 aa aa;have d:=uc b f 3;by_cases e:pk (k.ld a)=4
  ·rw[aK e];have g:=uc ((px k (a+1) 3).bd b) (w.i 2 aa aa) 3;refine⟨(px k (a+1) 3).trans (px _ _ _),fun q hq=>?_,fun i j l=>?_⟩
   ·rw[g,aI aa,d,aI aa]
   ·unfold cf.iA;rw[g,d];by_cases z:i=0
    ·simp_all
    ·by_cases o:i=1
     ·rw[aK aa,aK ⟨c,aL ⟨e,o⟩⟩]
     ·omega
  ·rw[aI e];refine⟨px k (a+1) 3,fun q hq=>?_,fun i j l=>?_⟩
   ·rw[d,aI aa]
   ·unfold cf.iA;rw[d];by_cases z:i=0
    ·simp_all
    ·omega
 ·rw[aI c];refine⟨ia.refl k,fun q hq=>rfl,fun i j f=>?_⟩
  unfold cf.iA;rw[aI (fun h=>c h.1)]
theorem zy (b:ka k){a:Int}(w:kZ k a):∀n:Nat,(n:Int)<=pf (k.ld a)->ia k (k.gZ s a n)/\(∀q,(q<=a\/a+n<q)->(k.gZ s a n).ld q=k.ld q)/\∀i:Int,0<=i->i<n->(k.gZ s a n).ld (a+1+i)=k.nw s (k.ld (a+1+i))
 |0,_=>⟨ia.refl k,fun _ _=>rfl,fun i d g=>aa⟩
 |n+1,hn=>by
  obtain⟨c,f,j⟩:=zy b w n aa;have hi:dt (k.gZ s a n).a.N (k.gZ s a n).s.y (k.gZ s a n).s.g (a+1+n)=true:=by rw[c.a,c.y,c.g,show a+1+(n:Int)=a+(1+n) from by omega];exact w.i _ aa aa
  have e:=uc (c.bd b) hi (k.nw s ((k.gZ s a n).ld (a+1+n)))
  have l:k.gZ s a (n+1)=(k.gZ s a n).it (a+1+n) (k.nw s ((k.gZ s a n).ld (a+1+n))):=rfl;rw[l];refine⟨c.trans (px _ _ _),fun q hq=>?_,fun i d g=>?_⟩
  ·rw[e,aI aa];exact f q aa
  ·rw[e];by_cases z:i=n
   ·rw[aK aa,f _ aa,z]
   ·rw[aI aa];exact j i d aa
theorem GH (b:ka k){a:Int}(w:kZ k a):ia k (k.j8 s a)/\(∀q,(q<=a\/a+pf (k.ld a)<q)->(k.j8 s a).ld q=k.ld q)/\∀i,0<=i->i<pf (k.ld a)->(k.j8 s a).ld (a+1+i)=k.nw s (k.iA s a i):=by
 obtain⟨c,d,f⟩:=GG b w;have hp:=dr (k.ld a)
 have ea:=d a (aM (Int.le_refl _))
 obtain⟨g,j2,cH⟩:=zy (c.bd b) (c.zx ea w) (pf (k.ld a)).toNat (by rw[ea];omega)
 unfold cf.j8;refine⟨c.trans g,fun q hq=>?_,fun i e j=>?_⟩
 ·rw[j2 q aa];exact d q hq
 ·rw[cH i e aa,f i e j];exact cf.kC s _ c.Y c.G
structure my (k0:cf)(s:cy)(D:List Int)(t:cf):Prop where
 st:ia k0 t
 hd:∀c∈k0.T,t.ld c=k0.ld c
 dm:∀c∈D,s.f c≠-1->∀i,0<=i->i<pf (k0.ld c)->t.ld (c+1+i)=k0.nw s (k0.iA s c i)
 td:∀c∈k0.T,c∉D->∀i,0<=i->i<pf (k0.ld c)->t.ld (c+1+i)=k0.ld (c+1+i)
theorem my.step {k0:cf}(b:ka k0)(w:∀c∈k0.T,kZ k0 c)(ap:∀c∈k0.T,∀d∈k0.T,c<d->c+(1+pf (k0.ld c))<=d){D:List Int}{t:cf}(h:my k0 s D t){a:Int}(ha:a∈k0.T)(l:a∉D)(x:∀c∈D,c∈k0.T):my k0 s (D++[a]) (fu (fun(_:cf) a=>s.f a) (fun k a=>k.j8 s a) t a):=by
 by_cases c:s.f a=-1
 ·have n:fu (fun(_:cf) a=>s.f a) (fun k a=>k.j8 s a) t a=t:=by unfold fu;rw[aK c]
  rw[n];refine⟨h.st,h.hd,fun d hd o=>?_,fun d hd hn=>h.td d hd (fun m=>hn (bk _ m))⟩
  rcases List.mem_append.1 hd with hd|hd
  ·exact h.dm d hd o
  ·simp_all
 ·have n:fu (fun(_:cf) a=>s.f a) (fun k a=>k.j8 s a) t a=t.j8 s a:=by unfold fu;rw[aI c]
  rw[n];have ea:=h.hd a ha;obtain⟨B,u,v⟩:=GH (h.st.bd b) (h.st.zx ea (w a ha))
  rw[ea] at u v;have p:∀d∈k0.T,d≠a->∀i,0<=i->i<=pf (k0.ld d)->(t.j8 s a).ld (d+i)=t.ld (d+i):=fun d hd j i g f=>u _ (by
   rcases Int.lt_or_gt_of_ne j with q|q
   ·have:=ap d hd a ha q;omega
   ·have:=ap a ha d hd q;omega)
  have F:∀i,0<=i->i<pf (k0.ld a)->t.iA s a i=k0.iA s a i:=fun i g f=>by unfold cf.iA cf.cX cf.jt;rw[ea,h.st.T];have q0:=h.td a ha l 0 aa aa;rw[Int.add_zero] at q0;rw[q0,h.td a ha l i g f]
  refine⟨h.st.trans B,fun d hd=>?_,fun d hd o i g f=>?_,fun d hd hn i g f=>?_⟩
  ·by_cases e:d=a
   ·simp_all
   ·have:=p d hd e 0 aa (dr _).1;rw[Int.add_zero] at this
    rw[this];exact h.hd d hd
  ·rcases List.mem_append.1 hd with hd|hd
   ·have j:d≠a:=fun e=>l (e▸hd)
    have:=p d (x d hd) j (1+i) aa aa;rw[<-Int.add_assoc] at this
    rw[this];exact h.dm d hd o i g f
   ·have e:=List.mem_singleton.1 hd;rw[e] at f⊢;rw[v i g f,F i g f];exact cf.kC s _ h.st.Y h.st.G
  ·have j:d≠a:=fun e=>hn (by rw[e];simp)
   have:=p d hd j (1+i) aa aa;rw[<-Int.add_assoc] at this
   rw[this];exact h.td d hd (fun m=>hn (bk _ m)) i g f
theorem my.all {k0:cf}(b:ka k0)(w:∀c∈k0.T,kZ k0 c)(ap:∀c∈k0.T,∀f∈k0.T,c<f->c+(1+pf (k0.ld c))<=f):∀(l D:List Int)(t:cf),(D++l).Nodup->(∀c∈D++l,c∈k0.T)->my k0 s D t->my k0 s (D++l) (t.oq s l)
 |[],D,t,_,_,h=>by rw[List.append_nil];exact h
 |a::l,D,t,hn,d,h=>by
  have e:D++a::l=(D++[a])++l:=ac;have g:_:=fun m=>(List.nodup_append.1 hn).2.2 a m a ac rfl;have i:=h.step b w ap (d a ac) g (fun c hc=>d c (bk _ hc))
  rw[e] at hn d⊢;exact my.all b w ap l _ _ hn d i
theorem zz (k:cf)(s:cy):∀n,n<=k.s.rs.length->(k.f7 s n).a=k.a/\(k.f7 s n).Y=k.Y/\(k.f7 s n).G=k.G/\(k.f7 s n).s.y=k.s.y/\(k.f7 s n).s.g=k.s.g/\(k.f7 s n).s.ws=k.s.ws/\(k.f7 s n).s.rs.length=k.s.rs.length/\∀i,i<k.s.rs.length->(k.f7 s n).s.rs.getD i 0=if i<n then k.nw s (k.s.rs.getD i 0) else k.s.rs.getD i 0
 |0,_=>⟨rfl,rfl,rfl,rfl,rfl,rfl,rfl,fun i _=>af⟩
 |n+1,hn=>by
  obtain⟨b,c,d,f,g,j,l,m⟩:=zz k s n aa;refine⟨b,c,d,f,g,j,?_,fun i hi=>?_⟩
  ·show(List.set _ _ _).length=_;rw[bf];exact l
  ·show(List.set _ n _).getD i 0=_;by_cases e:i=n
   ·simp_all
   ·rw[aJ,List.getElem?_set_ne aa,<-aJ,m i hi];by_cases o:i<n
    ·omega
    ·omega
theorem py (b:ka k)(hr:k.s.rs.length=12)(hn:k.T.Nodup)(w:∀c∈k.T,kZ k c)(ap:∀c∈k.T,∀n∈k.T,c<n->c+(1+pf (k.ld c))<=n):
 (k.fj s).a=k.a/\(k.fj s).Y=k.Y/\(k.fj s).G=k.G/\(k.fj s).s.y=k.s.y/\(k.fj s).s.g=k.s.g/\ka (k.fj s)/\(k.fj s).s.rs.length=12/\(∀i,i<12->(k.fj s).s.rs.getD i 0=k.nw s (k.s.rs.getD i 0))/\
 (∀c∈k.T,(k.fj s).ld c=k.ld c)/\∀c∈k.T,s.f c≠-1->∀i,0<=i->i<pf (k.ld c)->(k.fj s).ld (c+1+i)=k.nw s (k.iA s c i):=by
 obtain⟨d,j,l,f,g,o,u,v⟩:=zz k s 12 aa;obtain⟨k0,B⟩:∃k0,k.f7 s 12=k0:=⟨_,rfl⟩
 rw[B] at d j l f g o u v;have e:∀x,k0.ld x=k.ld x:=fun x=>by unfold cf.ld;rw[d,f,g,o]
 have m:k0.T=k.T:=by unfold cf.T;rw[j,l]
 have F:ka k0:=⟨by rw[o,d];exact b.l,by rw[f,d];exact b.y,by rw[g,d];exact b.g⟩
 have w0:∀c∈k0.T,kZ k0 c:=fun c hc=>by rw[m] at hc;exact⟨by rw[e];exact(w c hc).c,fun i p t=>by rw[e] at t;rw[d,f,g];exact(w c hc).i i p t⟩
 have key:=my.all (s:=s) F w0 (fun c hc n hd q=>by simp_all) k0.T [] k0 (by simp_all) (fun c hc=>hc) ⟨ia.refl _,fun _ _=>rfl,(fun c hc=>by cases hc),fun _ _ _ _ _ _=>rfl⟩
 have N:k.fj s=k0.oq s k0.T:=by unfold cf.fj;rw[B,m]
 rw[N];refine⟨key.st.a.trans d,key.st.Y.trans j,key.st.G.trans l,key.st.y.trans f,key.st.g.trans g,key.st.bd F,by rw[key.st.rs,u];exact hr,fun i hi=>by rw[key.st.rs,v i aa,aK hi],fun c hc=>?_,fun c hc S i p t=>?_⟩
 ·rw[key.hd c (by simp_all),e]
 ·rw[key.dm c ((m▸hc)) S i p (by simp_all)];have W:k0.iA s c i=k.iA s c i:=by unfold cf.iA cf.cX cf.jt;rw[m,e,e,e]
  rw[W];exact cf.kC s _ j l
end
section
variable {k:cj}{z:C0}{s t:cr}{H K D:List Int}
theorem lO (k:cj)(s:cr):∀n,(k.cO s n).wk=s.wk/\(k.cO s n).ep=s.ep/\(k.cO s n).nx=s.nx
 |0=>⟨rfl,rfl,rfl⟩
 |n+1=>by obtain⟨b,c,d⟩:=lO k s n;obtain⟨_,e,j2,cH⟩:=mx k _ _;exact⟨e.trans b,j2.trans c,cH.trans d⟩
theorem dQ.cO (w:dQ k z s H)(h:dF k z s H)(n:Nat)(ht:dF k z (k.cO s n) K)(p:da k s (k.cO s n))(b:∃c,K=H++c):dQ k z (k.cO s n) K:=
 w.go h ht p b (lO k s n).1 (lO k s n).2.1
theorem LI.pz (c:Int)(M:List Int)(hz:eb (k.l0 z) ((k.N:Int)+z.g) k.N z.G):∀(l:List Int){s:cr}{H D:List Int},LI k z s H D->dQ k z s H->(∀a∈l,a∈z.G\/(k.N:Int)+z.g<=a)->∃i j,LI k z (l.foldl (k.gB ((k.N:Int)+z.g) c M) s) i j/\dQ k z (l.foldl (k.gB ((k.N:Int)+z.g) c M) s) i/\da k s (l.foldl (k.gB ((k.N:Int)+z.g) c M) s)/\(∃g,i=H++g)/\(∀a∈D,a∈j)/\∀a∈l,a∈z.G->(gf k.N c a&&M.contains (cN k.N a))=true->a∈j
 |[],s,H,D,h,w,_=>⟨H,D,h,w,da.refl _ _,⟨[],ac⟩,fun _ d=>d,fun a ha=>by cases ha⟩
 |b::l,s,H,D,h,w,hl=>by
  rw[a9];have x:=dr (k.ld s b)
  by_cases f:b∈z.G/\(gf k.N c b&&M.contains (cN k.N b))=true
  ·have hb:=(hz.mem b f.1).2.1;have m:k.gB ((k.N:Int)+z.g) c M s b=k.lk s b:=by unfold cj.gB;rw[aK (by rw[(h.mi.hd b b (aM ⟨rfl,f.1⟩))];omega),aK f.2]
   rw[m];obtain⟨B,m1,q,⟨g,t⟩⟩:=h.lk f.1;obtain⟨n,o,p,kG,j2,⟨v,cH⟩,cJ,dI⟩:=LI.pz c M hz l m1 (w.lk h.mi (bk H f.1) m1.mi q ⟨g,t⟩) (fun a ha=>hl a (aX _ ha))
   refine⟨n,o,p,kG,q.trans j2,⟨g++v,by rw[cH,t,bw]⟩,fun a d=>cJ a (aX _ d),fun a ha hg hm=>?_⟩
   rcases List.mem_cons.1 ha with d|d
   ·exact cJ a (by rw[d];simp)
   ·exact dI a d hg hm
  ·have m:k.gB ((k.N:Int)+z.g) c M s b=s:=by
    unfold cj.gB;by_cases u:b∈z.G
    ·split
     ·rw[aI (fun e=>f ⟨u,e⟩)]
     ·rfl
    ·have:=(hl b ac).resolve_left u;rw[aI aa]
   rw[m];obtain⟨n,o,p,kG,j2,cH,cJ,dI⟩:=LI.pz c M hz l h w (fun a ha=>hl a (aX _ ha))
   refine⟨n,o,p,kG,j2,cH,cJ,fun a ha hg hm=>?_⟩
   rcases List.mem_cons.1 ha with d|d
   ·exact absurd ⟨by rw[<-d];exact hg,by rw[<-d];exact hm⟩ f
   ·exact dI a d hg hm
end
def Rest (k:cj)(z:C0)(D:List Int)(H:List Int)(s:cr):Prop:=∃K,LI k z s K D/\dQ k z s K/\eg k s/\hB k.N s.g s.nx=false/\∃b,K=H++b
section
variable {k:cj}{z:C0}{D H:List Int}
theorem pA:∀(n:Nat)(t:cr×List ce),CI k t.1->eg k t.1->CI k (k.c9 n t).1/\eg k (k.c9 n t).1
 |0,t,h,hb=>⟨h,hb⟩
 |n+1,t,h,hb=>by
  obtain⟨c1,c2,c3⟩:=CI.lb h hb (k.O+1)
  obtain⟨b,c,f,g⟩:=CI.kv c1 c2;obtain⟨d,e,_⟩:=CI.wa (s:=((k.kv _).2,t.2)) b c;unfold cj.c9;split
  ·exact pA n ((k.kv _).2,t.2) b c
  ·split
   ·exact pA n _ d e
   ·exact⟨d,e⟩
theorem Rest.sp {t:cr×List ce}{b:List Int}(h:LI k z t.1 b D)(w:dQ k z t.1 b)(hb:eg k t.1)(e:∃c,b=H++c):Rest k z D H (k.sp t).1:=by obtain⟨K,m1,d,_,⟨B,f⟩⟩:=c_.sp t b h w;obtain⟨A,e⟩:=e;exact⟨K,m1,d,(pA _ t h.mi.ci hb).2,qV _ t b h w hb aa,⟨A++B,by rw[f,e,bw]⟩⟩
theorem Rest.ke {t:cr×List ce}(h:Rest k z D H t.1)(x:Int):Rest k z D H (k.ke t x).2.1:=by
 obtain⟨K,m1,d,b,_,⟨A,e⟩⟩:=h;obtain⟨j,f,j2,_,⟨B,cJ⟩⟩:=c_.br x K m1 d;obtain⟨_,g,i,c⟩:=mx k t.1 x;have hb:eg k (k.br t.1 x).2:=⟨by rw[g,c];exact b.wk,by rw[i,c];exact b.ep⟩
 exact Rest.sp f j2 hb ⟨A++B,by rw[cJ,e,bw]⟩
theorem Rest.one {t:cr×List ce}(h:Rest k z D H t.1)(e:ce):Rest k z D H (cm (dU cr) (fun s x=>k.al s.1 x) k.ke t e).2.1:=by
 unfold cm;split
 ·exact h.ke e.2
 ·exact h
theorem Rest.part (l:List ce){t:cr×List ce}(h:Rest k z D H t.1):Rest k z D H (pts (cm (dU cr) (fun s x=>k.al s.1 x) k.ke) t l).2.2.1:=by
 have key:∀(l:List ce)(p:List ce×List ce×(cr×List ce)),Rest k z D H p.2.2.1->Rest k z D H (l.foldl (eB (cm (dU cr) (fun s x=>k.al s.1 x) k.ke)) p).2.2.1:=by
  intro l
  induction l with
  |nil=>exact fun p h=>h
  |cons e l c=>
   intro p hp;refine c _ ?_;have b:=hp.one e;unfold eB;split
   ·exact b
   ·exact b
 exact key l ([],[],t) h
theorem Rest.turn:∀(n:Nat){t:cr×List ce}(b:List ce),Rest k z D H t.1->Rest k z D H (eK (cm (dU cr) (fun s x=>k.al s.1 x) k.ke) n t b).1.1
 |0,t,b,h=>h
 |n+1,t,b,h=>by
  unfold eK;split
  ·exact h.part b
  ·exact Rest.turn n _ (h.part b)
theorem Rest.e_ {t:cr×List ce}(h:Rest k z D H t.1)(r:List ce):Rest k z D H (k.e_ t r).1:=Rest.turn _ _ h
end
section
variable {k:cj}{z:C0}{s:cr}{H D:List Int}
theorem LI.fy (h:LI k z s H D)
 (hz:∀v,(v∈k.T\/v∈z.G)->∀i,0<=i->i<pf (k.l0 z v)->dd (k.l0 z (v+1+i))=true->cq (k.l0 z (v+1+i))∈k.T\/cq (k.l0 z (v+1+i))∈z.G)
 {b:Int}(hb:b∈z.G++H){i:Int}(f:0<=i)(d:i<pf (k.ld s b))(ha:dd (k.ld s (b+1+i))=true)(hy:k.cP (k.ld s (b+1+i))=false):cq (k.ld s (b+1+i))∈z.G++H:=by
 obtain⟨a,o⟩:=h.mi.from hb;rw[(h.mi.hd a b o)] at d;have hm:=h.mi.fd a b o i f d;have g:a∈k.T\/a∈z.G:=by
  rcases o with⟨e,c⟩|⟨c,_⟩
  ·simp_all
  ·exact aM c
 rcases hm with e|⟨g1,g2,g3⟩
 ·rw[e] at ha hy⊢;rcases hz a g i f d ha with c|c
  ·unfold cj.cP at hy;rw[ha] at hy;simp at hy;exact absurd c hy
  ·simp_all
 ·have hT:cq (k.l0 z (a+1+i))∈k.T:=by exact t9
  exact zs
theorem dF.pB (h:dF k z s H){x:Int}(b:cq x∈z.G++H):k.cP x=false:=by
 unfold cj.cP;have e:k.T.contains (cq x)=false:=by
  cases hc:k.T.contains (cq x)
  ·rfl
  ·exact absurd (by grind) (h.ci.zd (h.bd b).1)
 grind
theorem zA (k:cj):∀(n:Nat)(s:cr),(k.lb n s).rs=s.rs
 |0,s=>rfl
 |n+1,s=>by
  unfold cj.lb;split
  ·exact(zA k n _).trans (qQ k s s.nx).2
  ·rfl
theorem zB (k:cj):∀(l:List Int)(t:List Int×cr),(l.foldl k.cU t).2.rs=t.2.rs
 |[],t=>rfl
 |a::l,t=>by
  refine(zB k l _).trans ?_
  grind [kW,cj.cU]
theorem GI (k:cj)(s:cr):(k.kv s).2.rs=s.rs:=zB k s.ep ([],s)
theorem zC (k:cj):∀(l:List Nat)(t:(cr×List ce)×Bool),(l.foldl (dE k.al k.br) t).1.1.rs=t.1.1.rs
 |[],t=>rfl
 |a::l,t=>by
  refine(zC k l _).trans ?_
  grind [mx,dE]
theorem qX (k:cj):∀(n:Nat)(t:cr×List ce),(k.c9 n t).1.rs=t.1.rs
 |0,t=>rfl
 |n+1,t=>by
  have b:(k.kv (k.lb (k.O+1) t.1)).2.rs=t.1.rs:=(GI ..).trans (zA ..)
  have c:(k.wa ((k.kv (k.lb (k.O+1) t.1)).2,t.2)).1.1.rs=t.1.rs:=(zC k _ (((k.kv _).2,t.2),false)).trans b;unfold cj.c9;split
  ·exact(qX k n _).trans b
  ·split
   ·exact(qX k n _).trans c
   omega
theorem GJ (k:cj)(t:cr×List ce)(x:Int):(k.ke t x).2.1.rs=t.1.rs:=(qX ..).trans (mx ..).1
theorem GK (k:cj)(t:cr×List ce)(e:ce):(cm (dU cr) (fun s x=>k.al s.1 x) k.ke t e).2.1.rs=t.1.rs:=by
 unfold cm;split
 ·exact GJ k t e.2
 ·rfl
theorem zD (k:cj)(l:List ce)(t:cr×List ce):(pts (cm (dU cr) (fun s x=>k.al s.1 x) k.ke) t l).2.2.1.rs=t.1.rs:=by
 have key:∀(l:List ce)(p:List ce×List ce×(cr×List ce)),(l.foldl (eB (cm (dU cr) (fun s x=>k.al s.1 x) k.ke)) p).2.2.1.rs=p.2.2.1.rs:=by
  intro l
  induction l with
  |nil=>grind
  |cons e l b=>
   grind [GK,eB]
 exact key l ([],[],t)
theorem zE (k:cj):∀(n:Nat)(t:cr×List ce)(b:List ce),(eK (cm (dU cr) (fun s x=>k.al s.1 x) k.ke) n t b).1.1.rs=t.1.rs
 |0,t,b=>rfl
 |n+1,t,b=>by
  unfold eK;split
  ·exact zD k b t
  ·exact(zE k n _ _).trans (zD k b t)
theorem GL (k:cj)(t:cr×List ce)(r:List ce):(k.e_ t r).1.rs=t.1.rs:=zE k _ _ _
theorem qY (k:cj)(e c:Int)(M:List Int):∀(l:List Int)(s:cr),(l.foldl (k.gB e c M) s).wk.length<=s.wk.length+l.length/\(l.foldl (k.gB e c M) s).ep.length<=s.ep.length+l.length/\(l.foldl (k.gB e c M) s).nx=s.nx/\(l.foldl (k.gB e c M) s).rs=s.rs
 |[],s=>(by grind)
 |b::l,s=>by
  rw[a9];obtain⟨j,m,d,f⟩:=qY k e c M l _;have key:(k.gB e c M s b).wk.length<=s.wk.length+1/\(k.gB e c M s b).ep.length<=s.ep.length+1/\(k.gB e c M s b).nx=s.nx/\(k.gB e c M s b).rs=s.rs:=by
   unfold cj.gB;split
   ·split
    ·obtain⟨w1,n⟩:=zv k s b
     grind [qQ]
    grind
   grind
  obtain⟨k1,o,g,i⟩:=key;simp;exact⟨aa,aa,d.trans g,f.trans i⟩
end
theorem oC {N O y g:Nat}{ws Y G:List Int}(h:ec N y g ws Y G)(hN:N<=256)(hy:y<=N)(hO:O<=1024)(hg:g<=O):nc N y g ws=Y:=by unfold nc;rw[(h.lists hN hy hO hg).1];exact List.filter_eq_self.2 (fun x b=>bm (by have:=(h.ty.mem x b).2.1;omega))
def ej.z0 (s:ej)(G:List Int):C0:=⟨s.g,s.ws,G⟩
theorem LI.start {a:Wc}{s:ej}{Y G:List Int}(h:ec a.N s.y s.g s.ws Y G)(hN:16<=a.N)(hN':a.N<=256)(hO:a.O<=1024)(hy:s.y<=a.N)(hg:s.g<=a.O)(hl:s.ws.length=a.N+a.O)(hr:s.y<=a.O-s.g):LI (s.k0 a) (s.z0 G) (s.s0 a) [] []:=by
 have d:(s.k0 a).T=Y:=oC h hN' hy hO hg;refine⟨⟨(by grind [CI.start]),aG _,?_,fun b hb=>(h.io b hb).2,fun _ _ _=>rfl,fun a _ e=>absurd rfl e,fun a _ b _ e=>absurd rfl e,fun b hb=>(by grind),fun b hb=>(by grind),fun a b o=>?_,fun a b o i f g=>?_⟩,aL rfl,fun b hb=>(by grind),fun b hb=>(by grind),fun b hb=>(by grind)⟩
 ·rw[d,List.append_nil];exact h
 ·rcases o with⟨e,_⟩|⟨_,e,c⟩
  ·rw[e];rfl
  ·exact absurd e.symm c
 ·rcases o with⟨e,_⟩|⟨_,e,c⟩
  ·rw[e];exact aM rfl
  ·exact absurd e.symm c
theorem dQ.start (a:Wc)(s:ej)(G:List Int):dQ (s.k0 a) (s.z0 G) (s.s0 a) []:=⟨fun b hb=>(by cases hb),fun b hb=>(by cases hb)⟩
structure pC (a:Wc)(S:cv)(G K D:List Int):Prop where
 li:LI (S.s.k0 a) (S.s.z0 G) (S.s4 a) K D
 we:dQ (S.s.k0 a) (S.s.z0 G) (S.s4 a) K
 he:hB a.N (S.s4 a).g (S.s4 a).nx=false
 hz:∀v,(v∈(S.s.k0 a).T\/v∈G)->∀i,0<=i->i<pf ((S.s.k0 a).l0 (S.s.z0 G) v)->dd ((S.s.k0 a).l0 (S.s.z0 G) (v+1+i))=true->cq ((S.s.k0 a).l0 (S.s.z0 G) (v+1+i))∈(S.s.k0 a).T\/cq ((S.s.k0 a).l0 (S.s.z0 G) (v+1+i))∈G
 hc:∀v∈G,v∉D->∀i,0<=i->i<pf ((S.s.k0 a).l0 (S.s.z0 G) v)->(S.s.k0 a).cP ((S.s.k0 a).l0 (S.s.z0 G) (v+1+i))=false
 rl:(S.s4 a).rs.length=12
 zF:∀i,i<12->(S.s.k0 a).cP ((S.s4 a).rs.getD i 0)=false
 rm:∀i,i<12->(S.s.k0 a).ml (S.s4 a) (S.s.rs.getD i 0) ((S.s4 a).rs.getD i 0)
section
variable {a:Wc}{S:cv}{Y G:List Int}
theorem qZ (h:eE a S.s Y G)(hb:cM a S.s)(hr:S.s.y<=a.O-S.s.g):∃K D,pC a S G K D:=by
 have n:(S.s.k0 a).T=Y:=oC h.inv.full hb.n1 hb.y1 hb.o1 hb.g1;have o:=LI.start h.inv.full hb.n0 hb.n1 hb.o1 hb.y1 hb.g1 hb.l1 hr;obtain⟨H1,d,s,⟨aF,u⟩,l1,y1,_,m1⟩:=o.cO 12 (by show 12<=S.s.rs.length;rw[hb.r1];exact aG _)
 have p:dH a.N S.s.y (S.s.s1 a).g (S.s.s1 a).ws=G++H1:=(d.mi.full.lists hb.n1 hb.y1 hb.o1 d.mi.ci.hg).2;have F:(S.s.s1 a).nx=((S.s.k0 a).N:Int)+(S.s.z0 G).g:=(lO _ _ 12).2.2;have N:eb ((S.s.k0 a).l0 (S.s.z0 G)) (((S.s.k0 a).N:Int)+(S.s.z0 G).g) (S.s.k0 a).N (S.s.z0 G).G:=h.inv.full.es;obtain⟨c,e,g,j,q,⟨aR,aV⟩,_,W⟩:=LI.pz (dJ a.O) S.s.M N (G++H1) d ((dQ.start a S.s G).cO o.mi 12 d.mi s ⟨_,u⟩) (fun x ab=>(List.mem_append.1 ab).imp id (fun ad=>d.mi.hlo x ad))
 have ag:(G++H1).foldl ((S.s.k0 a).gB (((S.s.k0 a).N:Int)+(S.s.z0 G).g) (dJ a.O) S.s.M) ((S.s.k0 a).cO (S.s.s0 a) 12)=S.s.s2 a:=by unfold ej.s2 cj.lm;rw[p,F];rfl
 have hlen:=qY (S.s.k0 a) (((S.s.k0 a).N:Int)+(S.s.z0 G).g) (dJ a.O) S.s.M (G++H1) ((S.s.k0 a).cO (S.s.s0 a) 12)
 rw[ag] at g j q hlen;have a0:(G++H1).length<=2000:=(p▸iX _ _)
 obtain⟨q1,q2,q3⟩:=lO _ _ 12;have cb:eg (S.s.k0 a) (S.s.s2 a):=by exact t8
 have ai:Rest (S.s.k0 a) (S.s.z0 G) e c (S.t3 a).1:=by
  have key:∀s2:cr,LI (S.s.k0 a) (S.s.z0 G) s2 c e->dQ (S.s.k0 a) (S.s.z0 G) s2 c->eg (S.s.k0 a) s2->_:=fun s2 l w b=>Rest.sp (t:=(s2,S.q)) l w b ⟨[],(List.append_nil _).symm⟩
  exact key _ g j cb
 have al:Rest (S.s.k0 a) (S.s.z0 G) e c (S.s4 a):=by exact ai.e_ S.r
 obtain⟨K,am,an,_,he,⟨B,a1⟩⟩:=al;have k:(S.s4 a).rs=(S.s.s1 a).rs:=by unfold cv.s4;rw[GL];unfold cv.t3 cj.sp;rw[qX];exact hlen.2.2.2
 have jI:da (S.s.k0 a) (S.s.s1 a) (S.s4 a):=by
  have key:∀s2:cr,LI (S.s.k0 a) (S.s.z0 G) s2 c e->dQ (S.s.k0 a) (S.s.z0 G) s2 c->da (S.s.k0 a) s2 ((S.s.k0 a).e_ ((S.s.k0 a).sp (s2,S.q)) S.r).1:=fun s2 l w=>by obtain⟨ao,f,ap,ar,_⟩:=c_.sp (s2,S.q) c l w;obtain⟨a2,_,_,cH,_⟩:=c_.e_ _ S.r ao f ap;exact ar.trans cH
  exact q.trans (key _ g j)
 refine⟨K,e,am,an,he,fun v hv i m f ha=>?_,fun v hv aB i m f=>?_,?_,fun i hi=>?_,fun i hi=>?_⟩
 ·rw[n] at hv⊢;exact h.inv.fd v hv i m f ha
 ·cases hc:(S.s.k0 a).cP _
  ·rfl
  ·exfalso;unfold cj.cP at hc;rw[bv,n] at hc;exact aB (W v (bk _ hv) hv (h.cd v hv i m f hc.1 (List.contains_iff_mem.1 hc.2)))
 ·rw[k];exact l1.trans hb.r1
 ·rw[k];exact y1 i hi
 ·rw[k];exact jI.ml (m1 i hi)
theorem pC.root {K D:List Int}(c:pC a S G K D)(h:eE a S.s Y G)(hb:cM a S.s):∀x∈(S.s4 a).rs,j_ (S.s.k0 a) (G++K) x:=fun x j ha=>by
 have k:(S.s.k0 a).T=Y:=oC h.inv.full hb.n1 hb.y1 hb.o1 hb.g1;obtain⟨i,hi,e⟩:=List.mem_iff_getElem.1 j;have b:i<12:=(c.rl▸hi)
 have l:(S.s4 a).rs.getD i 0=x:=by simp_all
 have hy:=c.zF i b;have hm:=c.rm i b;rw[l] at hy hm;refine⟨hy,?_⟩
 rcases hm with m|⟨g1,g2,g3⟩
 ·have d:S.s.rs.getD i 0∈S.s.rs:=by
   have hl:i<S.s.rs.length:=(hb.r1▸b)
   rw[aJ,aN hl];exact a8 hl
  rw[<-m] at d;rcases h.inv.rt x d ha with g|g
  ·unfold cj.cP at hy;rw[ha,k] at hy;simp at hy;exact absurd g hy
  ·simp_all
 ·have o:cq (S.s.rs.getD i 0)∈(S.s.k0 a).T:=by exact t9
  have f:=c.li.mi.fh _ o g2;have p:=c.li.mi.je f;have hN:=hb.n1;have hO:=hb.o1;have hg:=c.li.mi.ci.hg;have q:(S.s.k0 a).N=a.N:=rfl;have s:(S.s.k0 a).O=a.O:=rfl;obtain⟨n,hn⟩:∃n:Nat,(S.s4 a).f (cq (S.s.rs.getD i 0))=n:=⟨((S.s4 a).f (cq (S.s.rs.getD i 0))).toNat,aa⟩
  rw[g3,hn,(nk n aa).2,<-hn];exact bj _ f
theorem pC.done {K D:List Int}(c:pC a S G K D)(h:eE a S.s Y G)(hb:cM a S.s):ix a.N 0 (S.s6 a).g (S.s6 a).ws [] (G++K) (S.s6 a).rs:=by
 have ci:=c.li.mi.ci;have u:g8 (S.s.k0 a) (G++K) (fun b i=>(i=0/\b∈(S.s4 a).wk)\/((i=0\/i=1)/\b∈(S.s4 a).ep)) (S.s4 a):=by
  refine⟨c.li.mi.full,ci.len,ci.hy,ci.hg,fun b hb i k l=>?_,fun b hb i k l hy ha=>⟨hy,c.li.fy c.hz hb k l ha hy⟩⟩
  cases ha:dd _
  ·exact aM (fun e=>by rw[ha] at e;cases e)
  ·rcases c.li.fields c.he c.hz c.hc hb k l ha with s|⟨f,g,F⟩|⟨f,g⟩
   ·exact aM (fun _=>⟨c.li.mi.pB s,s⟩)
   ·simp_all
   ·have N:=iz (c.li.mi.bd hb).2.2 (aL (aL f))
    exact aL (aL ⟨aa,g⟩)
 obtain⟨m,k5,g5,n,j⟩:=g8.mw hb.n1 hb.o1 _ u (fun x d=>c.we.wk x d) (fun x d v=>bj _ (c.li.mi.fh x d v))
 have m:g8 (S.s.k0 a) (G++K) _ (S.s5 a):=m;have j:(S.s5 a).ep=(S.s4 a).ep:=j;have n:(S.s5 a).rs=(S.s4 a).rs:=n;have k5:∀b∈G++K,(S.s.k0 a).ld (S.s5 a) b=(S.s.k0 a).ld (S.s4 a) b:=k5;obtain⟨o,k6,W,q⟩:=g8.be (S.s5 a).ep m (fun x d=>by rw[j] at d;obtain⟨q1,w⟩:=c.we.ep x d;exact⟨q1,(k5 x q1▸w)⟩)
 have q:(S.s6 a).rs=(S.s5 a).rs:=q;have o:=o.imp (fun b i p=>by
  obtain⟨⟨B,ab⟩,t⟩:=p;rw[j] at t;rcases B with⟨f,g⟩|⟨f,g⟩
  ·simp_all
  ·exact t ⟨g,f⟩)
 exact o.done (by rw[q,n];exact c.root h hb)
theorem eE.cut (h:eE a S.s Y G)(hb:cM a S.s):∃b d,eE a (S.cut a).s b d:=by
 unfold cv.cut;cases hf:S.full a
 ·have hr:S.s.y<=a.O-S.s.g:=by exact qz
  obtain⟨K,D,c⟩:=qZ h hb hr;rw[aI ac];exact⟨[],G++K,c.done h hb,fun v _ i _ _ _ hy=>by cases hy⟩
 ·exact⟨Y,G,h⟩
end
open W
def jx (b:Int->Int->Prop):List Int->List Int->Prop
 |[],[]=>True
 |x::l,c::d=>b x c/\jx b l d
 |_,_=>False
theorem jx.of {c:Int->Int->Prop}:∀{l b:List Int},l.length=b.length->(∀i,i<l.length->c (l.getD i 0) (b.getD i 0))->jx c l b
 |[],[],_,_=>trivial
 |[],d::b,h,_=>by grind
 |x::l,[],h,_=>by grind
 |x::l,d::b,h,hi=>⟨by simpa using hi 0 ac,jx.of (by grind) (fun i e=>by
  have:=hi (i+1) (by grind)
  assumption)⟩
def lP (R:Int->Prop)(f:Int->Int)(x b:Int):Prop:=(dk x=3/\dk b=3/\R (dm x)/\dm b=f (dm x))\/(dk x≠3/\dk b=dk x/\dm b=dm x)
structure pD (R:Int->Prop)(f:Int->Int)(T:List Int)(kd:Int->Int)(sh:Int->List Int)(T':List Int)(kd':Int->Int)(sh':Int->List Int):Prop where
 q6:∀a,R a->a∈T
 q7:∀a,R a->f a∈T'
 inj:∀a b,R a->R b->f a=f b->a=b
 kd:∀a,R a->kd' (f a)=kd a
 sh:∀a,R a->jx (lP R f) (sh a) (sh' (f a))
structure Bs (R:Int->Prop)(f:Int->Int)(T T':List Int)(s s':cW):Prop where
 ok:fi T s
 ok':fi T' s'
 ms:s'.1=s.1.map f
 nd:s'.2=s.2
 rs:∀a∈s.1,R a
section
variable {R:Int->Prop}{f:Int->Int}{T T':List Int}{kd kd':Int->Int}{sh sh':Int->List Int}
theorem zG (inj:∀a b,R a->R b->f a=f b->a=b){c:Int}(hd:R c):∀l:List Int,(∀a∈l,R a)->(l.map f).idxOf (f c)=l.idxOf c
 |[],_=>rfl
 |x::l,h=>by
  rw[List.map_cons,List.idxOf_cons,List.idxOf_cons,zG inj hd l (by grind)]
  grind
theorem ud (inj:∀a b,R a->R b->f a=f b->a=b){c:Int}(hd:R c){l:List Int}(h:∀a∈l,R a):f c∈l.map f↔c∈l:=by grind
def ue (R:Int->Prop)(f:Int->Int)(T T':List Int)(n c:Nat)(M d:cW->Int->cW):Prop:=
 ∀s b a,Bs R f T T' s b->R a->a∉s.1->T.length<=s.1.length+n->T'.length<=b.1.length+c->Bs R f T T' (M s a) (d b (f a))
theorem GM (B:pD R f T kd sh T' kd' sh'){n i:Nat}{M e:cW->Int->cW}(hM:ue R f T T' n i M e){s d:cW}(h:Bs R f T T' s d)(hn:T.length<=s.1.length+n)(l:T'.length<=d.1.length+i){x g:Int}(m:lP R f x g):
 (eA M T s x).1=(eA e T' d g).1/\Bs R f T T' (eA M T s x).2 (eA e T' d g).2:=by
 unfold eA;rcases m with⟨j,k,b,o⟩|⟨j,k,b⟩
 ·rw[aK j,aK k,aK (List.contains_iff_mem.2 (B.q6 _ b)),o,aK (List.contains_iff_mem.2 (B.q7 _ b))];have hm:=ud B.inj b h.rs;rw[<-h.ms] at hm;by_cases c:dm x∈s.1
  ·rw[aK (List.contains_iff_mem.2 c),aK (List.contains_iff_mem.2 (by grind))];refine⟨?_,h⟩
   rw[h.ms,zG B.inj b s.1 h.rs]
  ·rw[aI (by grind),aI (by grind)];refine⟨?_,hM s d (dm x) h b c hn l⟩
   rw[h.ms,aZ]
 grind
theorem uf (B:pD R f T kd sh T' kd' sh'){n g:Nat}{M c:cW->Int->cW}(i:lv T kd sh n M)(j:lv T' kd' sh' g c)(hM:ue R f T T' n g M c):∀(l d:List Int)(r b:List (Int×Int)×cW),jx (lP R f) l d->r.1=b.1->Bs R f T T' r.2 b.2->T.length<=r.2.1.length+n->T'.length<=b.2.1.length+g->
 (l.foldl (fun r x=>(r.1++[(eA M T r.2 x).1],(eA M T r.2 x).2)) r).1=(d.foldl (fun r x=>(r.1++[(eA c T' r.2 x).1],(eA c T' r.2 x).2)) b).1/\Bs R f T T' (l.foldl (fun r x=>(r.1++[(eA M T r.2 x).1],(eA M T r.2 x).2)) r).2 (d.foldl (fun r x=>(r.1++[(eA c T' r.2 x).1],(eA c T' r.2 x).2)) b).2
 |[],[],r,b,_,e,h,_,_=>(by grind)
 |[],k::d,r,b,hw,_,_,_,_=>(by grind [jx])
 |x::l,[],r,b,hw,_,_,_,_=>(by grind [jx])
 |x::l,k::d,r,b,hw,e,h,hn,m=>by obtain⟨w1,o⟩:=hw;obtain⟨q,p⟩:=GM B hM h hn m w1;have g1:=(oR i h.ok hn x).le;have g2:=(oR j h.ok' m k).le;rw[a9,a9];exact uf B i j hM l d _ _ o (by grind) p (by grind) (by grind)
theorem zH (B:pD R f T kd sh T' kd' sh'):∀n d:Nat,ue R f T T' n d (met T kd sh n) (met T' kd' sh' d)
 |0,_=>fun s b a h ha e hn _=>by have:=h.ok.lt (B.q6 a ha) e;omega
 |n+1,0=>fun s b a h ha e _ k=>by
  have:=h.ok'.lt (B.q7 a ha) (fun c=>e ((ud B.inj ha h.rs).1 ((h.ms▸c))))
  omega
 |n+1,d+1=>fun s b a h ha e hn k=>by
  have l:_:=fun c=>e ((ud B.inj ha h.rs).1 ((h.ms▸c)))
  have m:Bs R f T T' (s.1++[a],s.2++[(kd a,[])]) (b.1++[f a],b.2++[(kd' (f a),[])]):=⟨h.ok.more (B.q6 a ha) e _,h.ok'.more (B.q7 a ha) l _,by rw[h.ms];simp,by rw[h.nd,B.kd a ha],fun c hc=>by grind [Bs.rs]⟩
  obtain⟨g,i⟩:=uf B (jQ n) (jQ d) (zH B n d) (sh a) _ ([],(s.1++[a],s.2++[(kd a,[])])) ([],(b.1++[f a],b.2++[(kd' (f a),[])])) (B.sh a ha) rfl m (by grind) (by grind)
  refine⟨(jQ (n+1) s a h.ok (B.q6 a ha) e hn).ok,(jQ (d+1) b (f a) h.ok' (B.q7 a ha) l k).ok,i.ms,?_,i.rs⟩
  have j:=i.nd;show(dC _ T' (b.1++[f a],b.2++[(kd' (f a),[])]) _).2.2.set _ (kd' (f a),(dC _ T' (b.1++[f a],b.2++[(kd' (f a),[])]) _).1)=(dC _ T (s.1++[a],s.2++[(kd a,[])]) (sh a)).2.2.set _ (kd a,(dC _ T (s.1++[a],s.2++[(kd a,[])]) (sh a)).1)
  have g:(dC (met T kd sh n) T (s.1++[a],s.2++[(kd a,[])]) (sh a)).1=(dC (met T' kd' sh' d) T' (b.1++[f a],b.2++[(kd' (f a),[])]) (sh' (f a))).1:=g;have j:(dC (met T' kd' sh' d) T' (b.1++[f a],b.2++[(kd' (f a),[])]) (sh' (f a))).2.2=(dC (met T kd sh n) T (s.1++[a],s.2++[(kd a,[])]) (sh a)).2.2:=j;rw[j,<-g,B.kd a ha,h.ms,aZ]
theorem GN (B:pD R f T kd sh T' kd' sh'){l c:List Int}(hl:jx (lP R f) l c){n b:Nat}(hn:T.length<=n)(g:T'.length<=b):(dC (met T kd sh n) T ([],[]) l).1=(dC (met T' kd' sh' b) T' ([],[]) c).1/\(dC (met T' kd' sh' b) T' ([],[]) c).2.2=(dC (met T kd sh n) T ([],[]) l).2.2/\(dC (met T' kd' sh' b) T' ([],[]) c).2.1=(dC (met T kd sh n) T ([],[]) l).2.1.map f:=by obtain⟨e,d⟩:=uf B (jQ n) (jQ b) (zH B n b) l c ([],([],[])) ([],([],[])) hl rfl ⟨fi.start T,fi.start T',rfl,rfl,fun a ha=>by grind⟩ aa aa;exact⟨e,d.nd,d.ms⟩
end
theorem GO {x:Int}(h:dk x=3):dd x=true:=by
 unfold dd;have h0:dc x=0:=by
  unfold dk at h;split at h
  ·assumption
  ·omega
 rw[h,h0];rfl
theorem ug {x:Int}(h:dd x=true):dk x=3:=by unfold dd at h;rw[bv] at h;simpa using h.2
end Go.Proofs.YtpkjkjhanlbcoaaGreat
