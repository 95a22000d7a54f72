import Derived.Test.YtpkjkjhanlbcoaaGreatJ20
namespace Go.Proofs.YtpkjkjhanlbcoaaGreat
open Go.RowKit W Kp ch
theorem ua {P:Prop}(h:P:=by
 obtain⟨u1,u2,u3,_⟩:=hlen;rw[q1] at u1;rw[q2] at u2;rw[q3] at u3;have u1:(S.s.s2 a).wk.length<=0+(G++H1).length:=u1;have u2:(S.s.s2 a).ep.length<=0+(G++H1).length:=u2;have u3:=u3;have o1:=hb.o1;refine⟨?_,?_⟩
 ·rw[u3];show(S.s.s2 a).wk.length+((a.N:Int)+a.O+13-((a.N:Int)+S.s.g)).toNat<=4000;omega
 ·rw[u3];show(S.s.s2 a).ep.length+((a.N:Int)+a.O+13-((a.N:Int)+S.s.g)).toNat<=4000;omega):P:=h
theorem zK {P:Prop}(h:P:=by
 have q0:(S.k5 a).cV (S.cD a) x=(S.s.j0 a).cV (S.cD a) x:=by unfold b_.cV b_.jt;rw[zL]
 unfold b_.al;rw[q0];cases hj:(S.s.j0 a).jt x
 ·unfold b_.cV;rw[hj];rfl
 ·have hmem:=nT hj;rw[l3] at hmem;have q:=g.iff _ hmem;unfold b_.cV;by_cases c:(S.cA a).f (cj x)=-1
  ·rw[c,q.2 c]
  ·rw[beq_false_of_ne c,beq_false_of_ne (fun d=>c (q.1 d))]):P:=h
theorem zM {P:Prop}(h:P:=by
 have:(fun e:b9=>((S.s.j0 a).nw (S.cA a) e.1,(S.s.j0 a).nw (S.cA a) e.2))=id:=by
  funext e
  rw[d1.jD.nw,d1.jD.nw];rfl
 rw[this,List.map_id]):P:=h
section
variable {k:cf}{z:C0}{s:ck}{H D:List Int}
theorem LI.fy (h:LI k z s H D)
 (hz:∀v,(v∈k.T\/v∈z.G)->∀i,0<=i->i<pf (k.l0 z v)->c7 (k.l0 z (v+1+i))=true->cj (k.l0 z (v+1+i))∈k.T\/cj (k.l0 z (v+1+i))∈z.G)
 {b:Int}(hb:b∈z.G++H){i:Int}(f:0<=i)(d:i<pf (k.ld s b))(ha:c7 (k.ld s (b+1+i))=true)(hy:k.cL (k.ld s (b+1+i))=false):cj (k.ld s (b+1+i))∈z.G++H:=by
 obtain⟨a,o⟩:=h.mi.from hb;rw[(h.mi.hd a b o)] at d;have hm:=h.mi.fd a b o i f d;have g:a∈k.T\/a∈z.G:=by
  rcases o with⟨e,c⟩|⟨c,_⟩
  ·simp_all
  ·exact aL c
 rcases hm with e|⟨g1,g2,g3⟩
 ·rw[e] at ha hy⊢;rcases hz a g i f d ha with c|c
  ·unfold cf.cL at hy;rw[ha] at hy;simp at hy;exact absurd c hy
  ·simp_all
 ·have hT:cj (k.l0 z (a+1+i))∈k.T:=by exact t6
  exact zy
theorem dH.nW (h:dH k z s H){x:Int}(b:cj x∈z.G++H):k.cL x=false:=by
 unfold cf.cL;have e:k.T.contains (cj x)=false:=by
  cases hc:k.T.contains (cj x)
  ·rfl
  ·exact absurd (by simpa using hc) (h.ci.zn (h.bd b).1)
 rw[e,Bool.and_false]
theorem zN (k:cf):∀(n:Nat)(s:ck),(k.lb n s).rs=s.rs
 |0,s=>rfl
 |n+1,s=>by
  unfold cf.lb;split
  ·exact(zN k n _).trans (qI k s s.nx).2
  ·rfl
theorem zO (k:cf):∀(l:List Int)(t:List Int×ck),(l.foldl k.cS t).2.rs=t.2.rs
 |[],t=>rfl
 |a::l,t=>by
  refine(zO k l _).trans ?_;unfold cf.cS;split
  ·rfl
  ·exact(jF ..).2.2.2.trans (jF ..).2.2.2
theorem He (k:cf)(s:ck):(k.kv s).2.rs=s.rs:=zO k s.ep ([],s)
theorem zP (k:cf):∀(l:List Nat)(t:(ck×List b9)×Bool),(l.foldl (dF k.al k.br) t).1.1.rs=t.1.1.rs
 |[],t=>rfl
 |a::l,t=>by
  refine(zP k l _).trans ?_;unfold dF;split
  ·rfl
  ·exact(lV ..).1
theorem qQ (k:cf):∀(n:Nat)(t:ck×List b9),(k.cY n t).1.rs=t.1.rs
 |0,t=>rfl
 |n+1,t=>by
  have b:(k.kv (k.lb (k.O+1) t.1)).2.rs=t.1.rs:=(He ..).trans (zN ..)
  have c:(k.wa ((k.kv (k.lb (k.O+1) t.1)).2,t.2)).1.1.rs=t.1.rs:=(zP k _ (((k.kv _).2,t.2),false)).trans b;unfold cf.cY;split
  ·exact(qQ k n _).trans b
  ·split
   ·exact(qQ k n _).trans c
   ·exact c
theorem Hf (k:cf)(t:ck×List b9)(x:Int):(k.ke t x).2.1.rs=t.1.rs:=(qQ ..).trans (lV ..).1
theorem Hg (k:cf)(t:ck×List b9)(e:b9):(cm (dM ck) (fun s x=>k.al s.1 x) k.ke t e).2.1.rs=t.1.rs:=by
 unfold cm;split
 ·exact Hf k t e.2
 ·rfl
theorem zQ (k:cf)(l:List b9)(t:ck×List b9):(pts (cm (dM ck) (fun s x=>k.al s.1 x) k.ke) t l).2.2.1.rs=t.1.rs:=by
 have key:∀(l:List b9)(p:List b9×List b9×(ck×List b9)),(l.foldl (eu (cm (dM ck) (fun s x=>k.al s.1 x) k.ke)) p).2.2.1.rs=p.2.2.1.rs:=by
  intro l
  induction l with
  |nil=>exact fun p=>rfl
  |cons e l c=>
   intro p;refine(c _).trans ?_;have b:=Hg k p.2.2 e;unfold eu;split
   ·exact b
   ·exact b
 exact key l ([],[],t)
theorem zR (k:cf):∀(n:Nat)(t:ck×List b9)(b:List b9),(eJ (cm (dM ck) (fun s x=>k.al s.1 x) k.ke) n t b).1.1.rs=t.1.rs
 |0,t,b=>rfl
 |n+1,t,b=>by
  unfold eJ;split
  ·exact zQ k b t
  ·exact(zR k n _ _).trans (zQ k b t)
theorem Hh (k:cf)(t:ck×List b9)(r:List b9):(k.eT t r).1.rs=t.1.rs:=zR k _ _ _
theorem qR (k:cf)(e c:Int)(M:List Int):∀(l:List Int)(s:ck),(l.foldl (k.f_ e c M) s).wk.length<=s.wk.length+l.length/\(l.foldl (k.f_ e c M) s).ep.length<=s.ep.length+l.length/\(l.foldl (k.f_ e c M) s).nx=s.nx/\(l.foldl (k.f_ e c M) s).rs=s.rs
 |[],s=>⟨aD _,aD _,rfl,rfl⟩
 |b::l,s=>by
  rw[a9];obtain⟨o,p,f,g⟩:=qR k e c M l _;have key:(k.f_ e c M s b).wk.length<=s.wk.length+1/\(k.f_ e c M s b).ep.length<=s.ep.length+1/\(k.f_ e c M s b).nx=s.nx/\(k.f_ e c M s b).rs=s.rs:=by
   unfold cf.f_;split
   ·split
    ·obtain⟨w1,i⟩:=zF k s b;obtain⟨n1,j⟩:=qI k s b;refine⟨?_,?_,n1,j⟩
     ·rcases w1 with d|⟨_,d⟩
      ·rw[d];omega
      ·simp_all
     ·rcases i with d|⟨_,d⟩
      ·rw[d];omega
      ·simp_all
    ·simp_all
   ·simp_all
  obtain⟨k1,q,m,n⟩:=key;simp;exact⟨aa,aa,f.trans m,g.trans n⟩
end
theorem nY {N O y g:Nat}{ws Y G:List Int}(h:d_ N y g ws Y G)(hN:N<=256)(hy:y<=N)(hO:O<=1024)(hg:g<=O):mO N y g ws=Y:=by unfold mO;rw[(h.lists hN hy hO hg).1];exact List.filter_eq_self.2 (fun x b=>bq (by have:=(h.ty.mem x b).2.1;omega))
def eh.z0 (s:eh)(G:List Int):C0:=⟨s.g,s.ws,G⟩
theorem LI.start {a:Wc}{s:eh}{Y G:List Int}(h:d_ a.N s.y s.g s.ws Y G)(hN:16<=a.N)(hN':a.N<=256)(hO:a.O<=1024)(hy:s.y<=a.N)(hg:s.g<=a.O)(hl:s.ws.length=a.N+a.O)(d:s.y<=a.O-s.g):LI (s.k0 a) (s.z0 G) (s.s0 a) [] []:=by
 have f:(s.k0 a).T=Y:=nY h hN' hy hO hg;refine⟨⟨CI.start hN hN' hO hy hg hl d,aD _,?_,fun b hb=>(h.io b hb).2,fun _ _ _=>rfl,fun a _ e=>absurd rfl e,fun a _ b _ e=>absurd rfl e,fun b hb=>(by cases hb),fun b hb=>(by cases hb),fun a b o=>?_,fun a b o i g j=>?_⟩,aK rfl,fun b hb=>(by cases hb),fun b hb=>(by cases hb),fun b hb=>(by cases hb)⟩
 ·rw[f,List.append_nil];exact h
 ·rcases o with⟨e,_⟩|⟨_,e,c⟩
  ·rw[e];rfl
  ·exact absurd e.symm c
 ·rcases o with⟨e,_⟩|⟨_,e,c⟩
  ·rw[e];exact aL rfl
  ·exact absurd e.symm c
theorem dN.start (a:Wc)(s:eh)(G:List Int):dN (s.k0 a) (s.z0 G) (s.s0 a) []:=⟨fun b hb=>(by cases hb),fun b hb=>(by cases hb)⟩
structure pt (a:Wc)(S:co)(G K D:List Int):Prop where
 li:LI (S.s.k0 a) (S.s.z0 G) (S.s4 a) K D
 we:dN (S.s.k0 a) (S.s.z0 G) (S.s4 a) K
 he:hB a.N (S.s4 a).g (S.s4 a).nx=false
 hz:∀v,(v∈(S.s.k0 a).T\/v∈G)->∀i,0<=i->i<pf ((S.s.k0 a).l0 (S.s.z0 G) v)->c7 ((S.s.k0 a).l0 (S.s.z0 G) (v+1+i))=true->cj ((S.s.k0 a).l0 (S.s.z0 G) (v+1+i))∈(S.s.k0 a).T\/cj ((S.s.k0 a).l0 (S.s.z0 G) (v+1+i))∈G
 hc:∀v∈G,v∉D->∀i,0<=i->i<pf ((S.s.k0 a).l0 (S.s.z0 G) v)->(S.s.k0 a).cL ((S.s.k0 a).l0 (S.s.z0 G) (v+1+i))=false
 rl:(S.s4 a).rs.length=12
 zS:∀i,i<12->(S.s.k0 a).cL ((S.s4 a).rs.getD i 0)=false
 rm:∀i,i<12->(S.s.k0 a).ml (S.s4 a) (S.s.rs.getD i 0) ((S.s4 a).rs.getD i 0)
section
variable {a:Wc}{S:co}{Y G:List Int}
theorem qS (h:eA a S.s Y G)(hb:cJ a S.s)(u:S.s.y<=a.O-S.s.g):∃K D,pt a S G K D:=by
 have o:(S.s.k0 a).T=Y:=nY h.inv.full hb.n1 hb.y1 hb.o1 hb.g1;have p:=LI.start h.inv.full hb.n0 hb.n1 hb.o1 hb.y1 hb.g1 hb.l1 u;obtain⟨H1,e,F,⟨aV,N⟩,l1,y1,_,m1⟩:=p.cK 12 (by show 12<=S.s.rs.length;rw[hb.r1];exact aD _)
 have q:dB a.N S.s.y (S.s.s1 a).g (S.s.s1 a).ws=G++H1:=(e.mi.full.lists hb.n1 hb.y1 hb.o1 e.mi.ci.hg).2;have W:(S.s.s1 a).nx=((S.s.k0 a).N:Int)+(S.s.z0 G).g:=(lg _ _ 12).2.2;have ab:d9 ((S.s.k0 a).l0 (S.s.z0 G)) (((S.s.k0 a).N:Int)+(S.s.z0 G).g) (S.s.k0 a).N (S.s.z0 G).G:=h.inv.full.ej;obtain⟨c,f,j,k,s,⟨a0,a1⟩,_,hD⟩:=LI.po (dY a.O) S.s.M ab (G++H1) e ((dN.start a S.s G).cK p.mi 12 e.mi F ⟨_,N⟩) (fun x ad=>(List.mem_append.1 ad).imp id (fun ag=>e.mi.hlo x ag))
 have ai:(G++H1).foldl ((S.s.k0 a).f_ (((S.s.k0 a).N:Int)+(S.s.z0 G).g) (dY a.O) S.s.M) ((S.s.k0 a).cK (S.s.s0 a) 12)=S.s.s2 a:=by unfold eh.s2 cf.lm;rw[q,W];rfl
 have hlen:=qR (S.s.k0 a) (((S.s.k0 a).N:Int)+(S.s.z0 G).g) (dY a.O) S.s.M (G++H1) ((S.s.k0 a).cK (S.s.s0 a) 12)
 rw[ai] at j k s hlen;have a2:(G++H1).length<=2000:=(q▸iD _ _)
 obtain⟨q1,q2,q3⟩:=lg _ _ 12;have cb:ez (S.s.k0 a) (S.s.s2 a):=by exact ua
 have al:Rest (S.s.k0 a) (S.s.z0 G) f c (S.t3 a).1:=by
  have key:∀s2:ck,LI (S.s.k0 a) (S.s.z0 G) s2 c f->dN (S.s.k0 a) (S.s.z0 G) s2 c->ez (S.s.k0 a) s2->_:=fun s2 l w b=>Rest.sp (t:=(s2,S.q)) l w b ⟨[],(List.append_nil _).symm⟩
  exact key _ j k cb
 have ap:Rest (S.s.k0 a) (S.s.z0 G) f c (S.s4 a):=by exact al.eT S.r
 obtain⟨K,ar,ax,_,he,⟨B,a3⟩⟩:=ap;have m:(S.s4 a).rs=(S.s.s1 a).rs:=by unfold co.s4;rw[Hh];unfold co.t3 cf.sp;rw[qQ];exact hlen.2.2.2
 have jm:df (S.s.k0 a) (S.s.s1 a) (S.s4 a):=by
  have key:∀s2:ck,LI (S.s.k0 a) (S.s.z0 G) s2 c f->dN (S.s.k0 a) (S.s.z0 G) s2 c->df (S.s.k0 a) s2 ((S.s.k0 a).eT ((S.s.k0 a).sp (s2,S.q)) S.r).1:=fun s2 l w=>by obtain⟨aB,g,aF,aR,_⟩:=cZ.sp (s2,S.q) c l w;obtain⟨bb,_,_,cA,_⟩:=cZ.eT _ S.r aB g aF;exact aR.trans cA
  exact s.trans (key _ j k)
 refine⟨K,f,ar,ax,he,fun v d i n g ha=>?_,fun v d aT i n g=>?_,?_,fun i hi=>?_,fun i hi=>?_⟩
 ·rw[o] at d⊢;exact h.inv.fd v d i n g ha
 ·cases hc:(S.s.k0 a).cL _
  ·rfl
  ·exfalso;unfold cf.cL at hc;rw[bh,o] at hc;exact aT (hD v (a7 _ d) d (h.cd v d i n g hc.1 (List.contains_iff_mem.1 hc.2)))
 ·rw[m];exact l1.trans hb.r1
 ·rw[m];exact y1 i hi
 ·rw[m];exact jm.ml (m1 i hi)
theorem pt.root {K D:List Int}(c:pt a S G K D)(h:eA a S.s Y G)(hb:cJ a S.s):∀x∈(S.s4 a).rs,jG (S.s.k0 a) (G++K) x:=fun x k ha=>by
 have l:(S.s.k0 a).T=Y:=nY h.inv.full hb.n1 hb.y1 hb.o1 hb.g1;obtain⟨i,hi,e⟩:=List.mem_iff_getElem.1 k;have b:i<12:=(c.rl▸hi)
 have m:(S.s4 a).rs.getD i 0=x:=by simp_all
 have hy:=c.zS i b;have hm:=c.rm i b;rw[m] at hy hm;refine⟨hy,?_⟩
 rcases hm with o|⟨g1,g2,g3⟩
 ·have d:S.s.rs.getD i 0∈S.s.rs:=by
   have hl:i<S.s.rs.length:=(hb.r1▸b)
   rw[aG,aI hl];exact a_ hl
  rw[<-o] at d;rcases h.inv.rt x d ha with g|g
  ·unfold cf.cL at hy;rw[ha,l] at hy;simp at hy;exact absurd g hy
  ·simp_all
 ·have p:cj (S.s.rs.getD i 0)∈(S.s.k0 a).T:=by exact t6
  have f:=c.li.mi.fh _ p g2;have q:=c.li.mi.iX f;have hN:=hb.n1;have hO:=hb.o1;have hg:=c.li.mi.ci.hg;have s:(S.s.k0 a).N=a.N:=rfl;have t:(S.s.k0 a).O=a.O:=rfl;obtain⟨n,j⟩:∃n:Nat,(S.s4 a).f (cj (S.s.rs.getD i 0))=n:=⟨((S.s4 a).f (cj (S.s.rs.getD i 0))).toNat,aa⟩
  rw[g3,j,(mS n aa).2,<-j];exact bm _ f
theorem pt.done {K D:List Int}(c:pt a S G K D)(h:eA a S.s Y G)(hb:cJ a S.s):h7 a.N 0 (S.s6 a).g (S.s6 a).ws [] (G++K) (S.s6 a).rs:=by
 have ci:=c.li.mi.ci;have u:gK (S.s.k0 a) (G++K) (fun b i=>(i=0/\b∈(S.s4 a).wk)\/((i=0\/i=1)/\b∈(S.s4 a).ep)) (S.s4 a):=by
  refine⟨c.li.mi.full,ci.len,ci.hy,ci.hg,fun b hb i k l=>?_,fun b hb i k l hy ha=>⟨hy,c.li.fy c.hz hb k l ha hy⟩⟩
  cases ha:c7 _
  ·exact aL (fun e=>by rw[ha] at e;cases e)
  ·rcases c.li.fields c.he c.hz c.hc hb k l ha with s|⟨f,g,F⟩|⟨f,g⟩
   ·exact aL (fun _=>⟨c.li.mi.nW s,s⟩)
   ·simp_all
   ·have N:=h8 (c.li.mi.bd hb).2.2 (aK (aK f))
    exact aK (aK ⟨aa,g⟩)
 obtain⟨m,k5,g5,n,j⟩:=gK.mw hb.n1 hb.o1 _ u (fun x d=>c.we.wk x d) (fun x d v=>bm _ (c.li.mi.fh x d v))
 have m:gK (S.s.k0 a) (G++K) _ (S.s5 a):=m;have j:(S.s5 a).ep=(S.s4 a).ep:=j;have n:(S.s5 a).rs=(S.s4 a).rs:=n;have k5:∀b∈G++K,(S.s.k0 a).ld (S.s5 a) b=(S.s.k0 a).ld (S.s4 a) b:=k5;obtain⟨o,k6,W,q⟩:=gK.be (S.s5 a).ep m (fun x d=>by rw[j] at d;obtain⟨q1,w⟩:=c.we.ep x d;exact⟨q1,(k5 x q1▸w)⟩)
 have q:(S.s6 a).rs=(S.s5 a).rs:=q;have o:=o.imp (fun b i p=>by
  obtain⟨⟨B,ab⟩,t⟩:=p;rw[j] at t;rcases B with⟨f,g⟩|⟨f,g⟩
  ·simp_all
  ·exact t ⟨g,f⟩)
 exact o.done (by rw[q,n];exact c.root h hb)
theorem eA.cut (h:eA a S.s Y G)(hb:cJ a S.s):∃b d,eA a (S.cut a).s b d:=by
 unfold co.cut;cases hf:S.full a
 ·have e:S.s.y<=a.O-S.s.g:=by exact qD
  obtain⟨K,D,c⟩:=qS h hb e;rw[aH ac];exact⟨[],G++K,c.done h hb,fun v _ i _ _ _ hy=>by cases hy⟩
 ·exact⟨Y,G,h⟩
end
open W
def i8 (b:Int->Int->Prop):List Int->List Int->Prop
 |[],[]=>True
 |x::l,c::d=>b x c/\i8 b l d
 |_,_=>False
theorem i8.of {c:Int->Int->Prop}:∀{l b:List Int},l.length=b.length->(∀i,i<l.length->c (l.getD i 0) (b.getD i 0))->i8 c l b
 |[],[],_,_=>trivial
 |[],d::b,h,_=>by simp at h
 |x::l,[],h,_=>by simp at h
 |x::l,d::b,h,hi=>⟨by simpa using hi 0 ac,i8.of (by simpa using h) (fun i e=>by
  have:=hi (i+1) (by simpa using e)
  simpa using this)⟩
def lh (R:Int->Prop)(f:Int->Int)(x b:Int):Prop:=(dk x=3/\dk b=3/\R (dA x)/\dA b=f (dA x))\/(dk x≠3/\dk b=dk x/\dA b=dA x)
structure pu (R:Int->Prop)(f:Int->Int)(T:List Int)(kd:Int->Int)(sh:Int->List Int)(T':List Int)(kd':Int->Int)(sh':Int->List Int):Prop where
 qT:∀a,R a->a∈T
 qU:∀a,R a->f a∈T'
 inj:∀a b,R a->R b->f a=f b->a=b
 kd:∀a,R a->kd' (f a)=kd a
 sh:∀a,R a->i8 (lh R f) (sh a) (sh' (f a))
structure Bs (R:Int->Prop)(f:Int->Int)(T T':List Int)(s s':cP):Prop where
 ok:eU T s
 ok':eU T' s'
 ms:s'.1=s.1.map f
 nd:s'.2=s.2
 rs:∀a∈s.1,R a
section
variable {R:Int->Prop}{f:Int->Int}{T T':List Int}{kd kd':Int->Int}{sh sh':Int->List Int}
theorem zT (inj:∀a b,R a->R b->f a=f b->a=b){d:Int}(hd:R d):∀l:List Int,(∀a∈l,R a)->(l.map f).idxOf (f d)=l.idxOf d
 |[],_=>rfl
 |x::l,h=>by
  rw[List.map_cons,List.idxOf_cons,List.idxOf_cons,zT inj hd l (fun a ha=>h a (aQ _ ha))];by_cases e:x=d
  ·simp_all
  ·have g:_:=fun c=>e (inj x d (h x List.mem_cons_self) hd c)
   rw[beq_false_of_ne e,beq_false_of_ne g]
theorem ub (inj:∀a b,R a->R b->f a=f b->a=b){d:Int}(hd:R d){l:List Int}(h:∀a∈l,R a):f d∈l.map f↔d∈l:=by
 refine⟨fun c=>?_,fun c=>List.mem_map_of_mem c⟩
 obtain⟨x,e,g⟩:=List.mem_map.1 c;rw[<-inj x d (h x e) hd g];exact e
def uc (R:Int->Prop)(f:Int->Int)(T T':List Int)(n c:Nat)(M d:cP->Int->cP):Prop:=
 ∀s b a,Bs R f T T' s b->R a->a∉s.1->T.length<=s.1.length+n->T'.length<=b.1.length+c->Bs R f T T' (M s a) (d b (f a))
theorem Hi (B:pu R f T kd sh T' kd' sh'){n j:Nat}{M g:cP->Int->cP}(hM:uc R f T T' n j M g){s d:cP}(h:Bs R f T T' s d)(m:T.length<=s.1.length+n)(o:T'.length<=d.1.length+j){x i:Int}(p:lh R f x i):
 (dw M T s x).1=(dw g T' d i).1/\Bs R f T T' (dw M T s x).2 (dw g T' d i).2:=by
 unfold dw;rcases p with⟨k,l,b,q⟩|⟨k,l,b⟩
 ·rw[aJ k,aJ l,aJ (List.contains_iff_mem.2 (B.qT _ b)),q,aJ (List.contains_iff_mem.2 (B.qU _ b))];have hm:=ub B.inj b h.rs;rw[<-h.ms] at hm;by_cases c:dA x∈s.1
  ·rw[aJ (List.contains_iff_mem.2 c),aJ (List.contains_iff_mem.2 (hm.2 c))];refine⟨?_,h⟩
   rw[h.ms,zT B.inj b s.1 h.rs]
  ·rw[aH (fun e=>c (List.contains_iff_mem.1 e)),aH (fun e=>c (hm.1 (List.contains_iff_mem.1 e)))];refine⟨?_,hM s d (dA x) h b c m o⟩
   rw[h.ms,aU]
 ·simp_all
theorem ud (B:pu R f T kd sh T' kd' sh'){n g:Nat}{M c:cP->Int->cP}(i:kg T kd sh n M)(j:kg T' kd' sh' g c)(hM:uc R f T T' n g M c):∀(l d:List Int)(r b:List (Int×Int)×cP),i8 (lh R f) l d->r.1=b.1->Bs R f T T' r.2 b.2->T.length<=r.2.1.length+n->T'.length<=b.2.1.length+g->
 (l.foldl (fun r x=>(r.1++[(dw M T r.2 x).1],(dw M T r.2 x).2)) r).1=(d.foldl (fun r x=>(r.1++[(dw c T' r.2 x).1],(dw c T' r.2 x).2)) b).1/\Bs R f T T' (l.foldl (fun r x=>(r.1++[(dw M T r.2 x).1],(dw M T r.2 x).2)) r).2 (d.foldl (fun r x=>(r.1++[(dw c T' r.2 x).1],(dw c T' r.2 x).2)) b).2
 |[],[],r,b,_,e,h,_,_=>⟨e,h⟩
 |[],k::d,r,b,hw,_,_,_,_=>absurd hw (by simp[i8])
 |x::l,[],r,b,hw,_,_,_,_=>absurd hw (by simp[i8])
 |x::l,k::d,r,b,hw,e,h,m,o=>by obtain⟨w1,p⟩:=hw;obtain⟨q,s⟩:=Hi B hM h m o w1;have g1:=(pK i h.ok m x).le;have g2:=(pK j h.ok' o k).le;rw[a9,a9];exact ud B i j hM l d _ _ p (by rw[e,q]) s (by dsimp only;omega) (by dsimp only;omega)
theorem zU (B:pu R f T kd sh T' kd' sh'):∀n d:Nat,uc R f T T' n d (met T kd sh n) (met T' kd' sh' d)
 |0,_=>fun s b a h ha e k _=>by have:=h.ok.lt (B.qT a ha) e;omega
 |n+1,0=>fun s b a h ha e _ l=>by
  have:=h.ok'.lt (B.qU a ha) (fun c=>e ((ub B.inj ha h.rs).1 ((h.ms▸c))))
  omega
 |n+1,d+1=>fun s b a h ha e k l=>by
  have m:_:=fun c=>e ((ub B.inj ha h.rs).1 ((h.ms▸c)))
  have p:Bs R f T T' (s.1++[a],s.2++[(kd a,[])]) (b.1++[f a],b.2++[(kd' (f a),[])]):=⟨h.ok.more (B.qT a ha) e _,h.ok'.more (B.qU a ha) m _,by rw[h.ms];simp,by rw[h.nd,B.kd a ha],fun c hc=>by
   rcases List.mem_append.1 hc with o|o
   ·exact h.rs c o
   ·simp_all⟩
  obtain⟨g,i⟩:=ud B (jb n) (jb d) (zU B n d) (sh a) _ ([],(s.1++[a],s.2++[(kd a,[])])) ([],(b.1++[f a],b.2++[(kd' (f a),[])])) (B.sh a ha) rfl p (by simp;omega) (by simp;omega)
  refine⟨(jb (n+1) s a h.ok (B.qT a ha) e k).ok,(jb (d+1) b (f a) h.ok' (B.qU a ha) m l).ok,i.ms,?_,i.rs⟩
  have j:=i.nd;show(dh _ T' (b.1++[f a],b.2++[(kd' (f a),[])]) _).2.2.set _ (kd' (f a),(dh _ T' (b.1++[f a],b.2++[(kd' (f a),[])]) _).1)=(dh _ T (s.1++[a],s.2++[(kd a,[])]) (sh a)).2.2.set _ (kd a,(dh _ T (s.1++[a],s.2++[(kd a,[])]) (sh a)).1)
  have g:(dh (met T kd sh n) T (s.1++[a],s.2++[(kd a,[])]) (sh a)).1=(dh (met T' kd' sh' d) T' (b.1++[f a],b.2++[(kd' (f a),[])]) (sh' (f a))).1:=g;have j:(dh (met T' kd' sh' d) T' (b.1++[f a],b.2++[(kd' (f a),[])]) (sh' (f a))).2.2=(dh (met T kd sh n) T (s.1++[a],s.2++[(kd a,[])]) (sh a)).2.2:=j;rw[j,<-g,B.kd a ha,h.ms,aU]
theorem Hj (B:pu R f T kd sh T' kd' sh'){l c:List Int}(hl:i8 (lh R f) l c){n b:Nat}(e:T.length<=n)(g:T'.length<=b):(dh (met T kd sh n) T ([],[]) l).1=(dh (met T' kd' sh' b) T' ([],[]) c).1/\(dh (met T' kd' sh' b) T' ([],[]) c).2.2=(dh (met T kd sh n) T ([],[]) l).2.2/\(dh (met T' kd' sh' b) T' ([],[]) c).2.1=(dh (met T kd sh n) T ([],[]) l).2.1.map f:=by
 obtain⟨i,d⟩:=ud B (jb n) (jb b) (zU B n b) l c ([],([],[])) ([],([],[])) hl rfl ⟨eU.start T,eU.start T',rfl,rfl,fun a ha=>by cases ha⟩ (by simpa using e) (by simpa using g)
 exact⟨i,d.nd,d.ms⟩
end
theorem Hk {x:Int}(h:dk x=3):c7 x=true:=by
 unfold c7;have h0:dc x=0:=by
  unfold dk at h;split at h
  ·assumption
  ·omega
 rw[h,h0];rfl
theorem ue {x:Int}(h:c7 x=true):dk x=3:=by unfold c7 at h;rw[bh] at h;simpa using h.2
section
variable {a:Wc}{S:co}{Y G K D:List Int}
end
theorem Pos.same {z g:Int->Int}{al i:Int->Bool}{f j:Int->Int}:∀{l:List Int}{n m:Int},(∀a∈l,z a=g a/\al a=i a/\f a=j a)->Pos z al f n l m->Pos g i j n l m
 |[],n,m,_,h=>h
 |a::l,n,m,he,h=>by
  obtain⟨q,k,o⟩:=he a ac;have p:∀{n m:Int},Pos z al f n l m->_:=fun h=>Pos.same (fun b hb=>he b (aQ _ hb)) h;refine⟨fun c=>?_,fun c=>?_⟩
  ·obtain⟨d,e⟩:=h.1 (by rw[k];exact c)
   rw[<-o,<-q];exact⟨d,p e⟩
  ·obtain⟨d,e⟩:=h.2 (by rw[k];exact c)
   rw[<-o];exact⟨d,p e⟩
structure lX (a:Wc)(s:eh)(T:List Int)(j:cu)(s':eh):Prop where
 y:s'.y=0
 M:s'.M=[]
 rl:s'.rs.length=12
 g:s'.g<=a.O
 l:s'.ws.length=a.N+a.O
 pos:Pos (fun c=>pf (ld a.N s.y s.g s.ws c)) (fun c=>!(j.f c==-1)) j.f a.N T (a.N+s'.g)
 rs:∀i,i<12->s'.rs.getD i 0=(s.j0 a).nw j (s.rs.getD i 0)
 hd:∀c∈T,j.f c≠-1->ld a.N 0 s'.g s'.ws (j.f c)=ld a.N s.y s.g s.ws c
 fd:∀c∈T,j.f c≠-1->∀i,0<=i->i<pf (ld a.N s.y s.g s.ws c)->ld a.N 0 s'.g s'.ws (j.f c+1+i)=(s.j0 a).nw j ((s.j0 a).h_ j c i)
section
variable {a:Wc}{s:eh}{Y G:List Int}
theorem kI (h:d_ a.N s.y s.g s.ws Y G)(hb:cJ a s):(s.j0 a).Y=Y/\(s.j0 a).G=G/\(s.j0 a).T=G++Y:=by
 have c:(s.j0 a).Y=Y:=by show ei _ _=Y;rw[(h.lists hb.n1 hb.y1 hb.o1 hb.g1).1];exact qG (fun x b=>bA (by have:=(h.ty.mem x b).2.1;omega))
 have d:(s.j0 a).G=G:=by show ei _ _=G;rw[(h.lists hb.n1 hb.y1 hb.o1 hb.g1).2];exact qG (fun x b=>bA (by have:=(h.ej.mem x b).2.1;omega))
 exact⟨c,d,by unfold b_.T;rw[c,d]⟩
theorem nZ (h:d_ a.N s.y s.g s.ws Y G)(hb:cJ a s):∀c∈(s.j0 a).T,kH (s.j0 a) c:=fun c hc=>by
 obtain⟨l,m,f⟩:=kI h hb;rw[f] at hc;rcases List.mem_append.1 hc with d|d
 ·obtain⟨g,j,e⟩:=h.ej.mem c d;exact⟨e,fun i k b=>hK (by show(a.N:Int)<=_;omega) (by have b:i<=pf (ld a.N s.y s.g s.ws c):=b;show c+i<(a.N:Int)+s.g;omega)⟩
 ·obtain⟨g,j,e⟩:=h.ty.mem c d;exact⟨e,fun i k b=>il aa (by have b:i<=pf (ld a.N s.y s.g s.ws c):=b;show c+i<(s.y:Int);omega)⟩
theorem pv (h:d_ a.N s.y s.g s.ws Y G)(hb:cJ a s):∀c∈(s.j0 a).T,∀b∈(s.j0 a).T,c<b->c+(1+pf ((s.j0 a).ld c))<=b:=fun c hc b hd q=>by
 obtain⟨g,i,d⟩:=kI h hb;rw[d] at hc hd;show c+(1+pf (ld a.N s.y s.g s.ws c))<=b;have hy:=hb.y1;rcases List.mem_append.1 hc with hc|hc<;>rcases List.mem_append.1 hd with hd|hd
 ·exact h.ej.apart c hc b hd q
 ·have e:=(h.ej.mem c hc).1;have f:=(h.ty.mem b hd).2.1;have:=dp (ld a.N s.y s.g s.ws b)
  omega
 ·have e:=(h.ty.mem c hc).2.1;have f:=(h.ej.mem b hd).1;omega
 ·exact h.ty.apart c hc b hd q
theorem Hl (h:d_ a.N s.y s.g s.ws Y G)(hb:cJ a s)(cA:cu)(hm:((s.j0 a).pl cA).2<=a.N+a.O):
 lX a s (G++Y) ((s.j0 a).pl cA).1 (((s.j0 a).e4 ((s.j0 a).pl cA).1).sl ((s.j0 a).pl cA).1).s/\((((s.j0 a).e4 ((s.j0 a).pl cA).1).sl ((s.j0 a).pl cA).1).s.g:Int)=((s.j0 a).pl cA).2-a.N/\
 (∀c∈G++Y,((s.j0 a).pl cA).1.f c=-1↔cA.f c=-1)/\(∃F,ir ((s.j0 a).e4 ((s.j0 a).pl cA).1) ((s.j0 a).pl cA).1 F/\F 0 ((s.j0 a).e4 ((s.j0 a).pl cA).1,0)):=by
 obtain⟨aF,aR,S⟩:=kI h hb;have ew:=nZ h hb;have aT:=pv h hb;have ad:=(cX.start (s:=s) hb.n1 hb.o1 hb.y1 hb.g1).nd;have hz:∀c,0<=(fun c=>pf ((s.j0 a).ld c)) c:=fun c=>(dp _).1;obtain⟨k,hk⟩:∃k,s.j0 a=k:=⟨_,rfl⟩
 have W:k.a=a:=by rw[<-hk];rfl
 have n:k.s=s:=by rw[<-hk];rfl
 have ag:∀x,k.ld x=ld a.N s.y s.g s.ws x:=fun x=>by rw[<-hk];rfl
 have b6:jH k:=⟨by rw[n,W];exact hb.l1,by rw[n,W];exact hb.y1,by rw[n,W];exact hb.g1⟩
 obtain⟨o,_,_,_⟩:=pi (s.j0 a) (fun c=>!(cA.f c==-1)) (s.j0 a).T (cA,a.N) ad (fun c _=>rfl)
 have o:Pos (fun c=>pf ((s.j0 a).ld c)) (fun c=>!(cA.f c==-1)) ((s.j0 a).pl cA).1.f a.N (s.j0 a).T ((s.j0 a).pl cA).2:=o;rw[hk] at aF aR S ew aT ad hz o hm⊢;obtain⟨j,aV⟩:∃j,(k.pl cA).1=j:=⟨_,rfl⟩
 obtain⟨m,ai⟩:∃m,(k.pl cA).2=m:=⟨_,rfl⟩
 rw[aV,ai] at o;rw[ai] at hm;rw[aV,ai];have t:∀c∈k.T,(!(cA.f c==-1))=!(j.f c==-1):=fun c hc=>by
  cases q:(!(cA.f c==-1))
  ·rw[o.no c hc q];rfl
  ·have:=(o.bd hz c hc q).1;rw[beq_false_of_ne aa];rfl
 have P:=o.same (fun c hc=>⟨rfl,t c hc,rfl⟩)
 have b7:∀c∈k.T,j.f c=-1↔cA.f c=-1:=fun c hc=>by
  have:=t c hc;constructor
  ·intro q;rw[q] at this
   simpa using this
  ·intro q;rw[q] at this
   simpa using this.symm
 obtain⟨a0,a1,t3,a2,a3,f,bb,bd,ab,be⟩:=pn (s:=j) b6 ((n▸hb.r1)) ad ew aT;obtain⟨k5,b8⟩:∃k5,k.e4 j=k5:=⟨_,rfl⟩
 rw[b8] at a0 a1 t3 a2 a3 f bb bd ab be⊢;have bg:∀c∈k.T,pf (k5.ld c)=pf (k.ld c):=fun c hc=>by rw[ab c hc]
 have e:=a0.trans W;have bi:=t3.trans aR;have al:∀c,c∈G\/c∈Y->c∈k.T:=fun c hc=>by simp_all
 rw[S] at P;obtain⟨ap,b9,ca⟩:=P.app;have bl:Pos (fun c=>pf (k5.ld c)) (fun c=>!(j.f c==-1)) j.f (k5.a.N+(0:Int)) G ap:=by rw[e,Int.add_zero];exact b9.same (fun c hc=>⟨(bg c (al c (aL hc))).symm,rfl,rfl⟩)
 have bn:=ca.same (fun c hc=>⟨(bg c (al c (aK hc))).symm,rfl,rfl⟩)
 have bo:∀c,0<=(fun c=>pf (k5.ld c)) c:=fun c=>(dp _).1;have cm:=bn.le bo;have cb:i7 k5 (fun c=>!(j.f c==-1)) j.f ap [] G (k5,0):=by
  refine⟨ka.refl _,rfl,Int.le_refl _,bl,⟨a.N,?_,by simp_all,fun _ _ _=>rfl⟩,fun _ _ _=>rfl,fun c hc=>by cases hc⟩
  rw[e,a3,n];exact h.ej.heads (fun x cc=>by simp_all)
 have bp:∀c∈k5.G,(fun c=>!(j.f c==-1)) c=!(j.f c==-1):=fun _ _=>rfl;have g:=i7.all f.l f.y f.g bp G [] (k5,0) (fun c hc=>(bi▸hc)) cb;have ar:=g.pos;have br:k5.k9 j k5.G=gQ (fun _ a=>j.f a) (b_.iW j) (k5,0) G:=by unfold b_.k9;rw[bi]
 obtain⟨u,cd⟩:∃u,gQ (fun _ a=>j.f a) (b_.iW j) (k5,0) G=u:=⟨_,rfl⟩
 rw[cd] at g ar br;have u0:=g.u0;rw[e] at ar;have ce:=f.g;have bs:=f.y;rw[e] at ce bs;obtain⟨k1,bt⟩:∃k1,k5.sl1 j=k1:=⟨_,rfl⟩
 have p:k1=u.1.ar u.1.s.y u.2.toNat u.1.s.ws:=by rw[<-bt];unfold b_.sl1;rw[br]
 have g1:(k1.s.g:Int)=u.2:=by rw[p];show(u.2.toNat:Int)=_;omega
 have ax:=g.sm.a;have aB:=g.sm.y;have bx:∀x:Int,(0<=x/\x<k5.s.y)\/((a.N:Int)<=x/\x<a.N+u.2/\x<a.N+k5.s.g)->k1.ld x=u.1.ld x:=fun x cc=>by
  have v:dm u.1.a.N u.1.s.y u.1.s.g x=true:=by rw[ax,aB,g.g,e];exact(nK _ _ _ _).2 aa
  have cf:dm u.1.a.N u.1.s.y u.2.toNat x=true:=by rw[ax,aB,e];exact(nK _ _ _ _).2 aa
  rw[p];show ld u.1.a.N u.1.s.y u.2.toNat u.1.s.ws x=ld u.1.a.N u.1.s.y u.1.s.g u.1.s.ws x;rw[ee v,ee cf]
 obtain⟨b,cg,ch,_⟩:=g.tl;have ci:_=_:=cg;rw[e] at ch ci;have C0:k_ k5 (fun c=>!(j.f c==-1)) j.f m G Y k1:=by
  refine⟨⟨(p▸ax),(p▸aB),(p▸g.sm.rs),(p▸g.sm.len)⟩,by rw[e];omega,?_,fun x b0 b1=>?_,fun c hc t=>?_⟩
  ·rw[e,g1,ar];exact bn
  ·rw[bx x (aL ⟨b0,b1⟩)];exact g.cL x b0 b1
  ·obtain⟨r1,b2⟩:=g.rel c hc t;have r3:=(bl.bd bo c hc t).1;rw[e] at r1 r3⊢;refine⟨aa,aa,fun i w v=>?_⟩
   rw[bx _ (aK ⟨aa,aa,aa⟩)];exact b2 i w v
 have l:=k_.all (s:=j) f.l f.y ((e▸hm)) Y G k1 (fun c hc=>by
  have b3:=al c (aK hc)
  obtain⟨q1,cj,q3⟩:=h.ty.mem c hc;rw[ab c b3,ag,a2,n];exact⟨rfl,q1,cj,q3⟩) C0
 obtain⟨d,b4⟩:∃d,k1.pa j Y=d:=⟨_,rfl⟩
 rw[b4] at l;have ck:k5.sl2 j=d:=by unfold b_.sl2;rw[bt,(a1.trans aF)];exact b4
 have b5:(k5.sl j).s=⟨0,d.s.g,d.s.ws,[],d.s.rs⟩:=by unfold b_.sl;rw[ck];rfl
 have cn:(a.N:Int)+d.s.g=m:=by
  have:=l.pos;rw[e] at this
  exact this
 have cl:d.s.y<=a.N:=(l.sm.y▸bs)
 have rel:∀c∈G++Y,j.f c≠-1->(a.N:Int)<=j.f c/\∀i,0<=i->i<=pf (k.ld c)->ld a.N 0 d.s.g d.s.ws (j.f c+i)=k5.ld (c+i):=fun c hc B=>by
  have b3:c∈k.T:=by simp_all
  obtain⟨r1,b2,r3⟩:=l.rel c hc (by simp_all)
  rw[e] at r1;refine⟨r1,fun i w v=>?_⟩
  rw[t9 (y:=d.s.y) aa cl,<-r3 i w (by simp_all)];show ld a.N d.s.y d.s.g d.s.ws _=ld d.a.N d.s.y d.s.g d.s.ws _;rw[(l.sm.a.trans e)]
 refine⟨?_,?_,fun c hc=>b7 c (by rw[S];exact hc),⟨_,(i7.qP (m:=ap) f.l f.y f.g ((e▸hb.n1)) ((e▸hb.o1)) bp (by rw[e];omega)),?_⟩⟩
 ·rw[b5];refine⟨rfl,rfl,?_,?_,?_,?_,fun i hi=>?_,fun c hc B=>?_,fun c hc B i w v=>?_⟩
  ·show d.s.rs.length=12;rw[l.sm.rs];exact bb
  ·show d.s.g<=a.O;omega
  ·show d.s.ws.length=a.N+a.O;rw[l.sm.len,f.l,e]
  ·simp_all
  ·show d.s.rs.getD i 0=_;rw[l.sm.rs,bd i hi,n,hk]
  ·have N:=(rel c hc B).2 0 aa (dp _).1;rw[Int.add_zero,Int.add_zero,ab c ((S▸hc)),ag] at N;exact N
  ·have N:=(rel c hc B).2 (1+i) aa (by rw[ag];omega)
   rw[<-Int.add_assoc,<-Int.add_assoc,be c (by simp_all) B i w (by simp_all),<-hk] at N;exact N
 ·rw[b5];show(d.s.g:Int)=m-a.N;omega
 ·simp_all
end
section
variable {T:List Int}{kd:Int->Int}{sh:Int->List Int}
end
theorem Hm {N y g:Nat}{ws Y G:List Int}(h:d_ N y g ws Y G)(hy:y<=N)(Q:List b9){c:Int}(hc:c∈Y\/c∈G)(d:pk (ld N y g ws c)≠5):(∀i:Nat,i<(eS N y g ws Q c).length->(eS N y g ws Q c).getD i 0=ld N y g ws (c+1+(i:Int)))/\(∀i:Nat,(i:Int)<pf (ld N y g ws c)->ld N y g ws (c+1+(i:Int))∈eS N y g ws Q c):=by
 have hl:=zr h hy Q hc d;have key:∀i:Nat,i<(eS N y g ws Q c).length->(eS N y g ws Q c).getD i 0=ld N y g ws (c+1+(i:Int)):=fun i hi=>by unfold eS at hi⊢;rw[aH d] at hi⊢;rw[aG,aI hi];simp
 refine⟨key,fun i hi=>?_⟩
 have b:i<(eS N y g ws Q c).length:=aa;rw[<-key i b,aG,aI b];exact a_ b
section
variable {a:Wc}{s:eh}{Y G:List Int}
theorem Hn {k:b_}{j:cu}{x:Int}(i:c7 x=true->cj x∈k.T/\j.f (cj x)≠-1)(l:∀c∈k.T,j.f c≠-1->0<=j.f c/\j.f c<1000000):lh (fun c=>c∈k.T/\j.f c≠-1) j.f x (k.nw j x)/\(c7 (k.nw j x)=true->∃c∈k.T,j.f c≠-1/\cj (k.nw j x)=j.f c):=by
 cases ha:c7 x
 ·have e:k.nw j x=x:=by unfold b_.nw b_.jt;rw[ha];rfl
  rw[e];refine⟨aK ⟨fun g=>?_,rfl,rfl⟩,fun g=>?_⟩
  ·rw[Hk g] at ha;cases ha
  ·simp_all
 ·obtain⟨b,d⟩:=i ha;have e:k.nw j x=ew 3 (j.f (cj x)):=by unfold b_.nw b_.jt;rw[ha,List.contains_iff_mem.2 b,beq_false_of_ne d];rfl
  obtain⟨o,b1⟩:=l _ b d;obtain⟨n,m⟩:∃n:Nat,j.f (cj x)=n:=⟨(j.f (cj x)).toNat,aa⟩
  obtain⟨w1,f⟩:=mS n aa;rw[<-m,<-e] at w1 f;refine⟨aL ⟨ue ha,ue w1,⟨(lr x ha▸b),(lr x ha▸d)⟩,?_⟩,fun _=>⟨cj x,b,d,f⟩⟩
  rw[<-lr x ha,<-lr _ w1];exact f
end
def cu.lf (j:cu)(T:List Int):List Int:=(T.filter (fun c=>!(j.f c==-1))).map j.f
section
variable {a:Wc}{s s':eh}{Y G:List Int}{j:cu}
theorem lX.bd (g:lX a s (G++Y) j s'):∀c∈G++Y,j.f c≠-1->(a.N:Int)<=j.f c/\j.f c+(1+pf (ld a.N s.y s.g s.ws c))<=a.N+s'.g:=fun c hc b=>g.pos.bd (fun c=>(dp _).1) c hc (by simp_all)
theorem uf {T:List Int}{x:Int}:x∈j.lf T↔∃c∈T,j.f c≠-1/\j.f c=x:=by
 unfold cu.lf;rw[List.mem_map];constructor
 ·rintro⟨c,b,e⟩
  obtain⟨d,f⟩:=List.mem_filter.1 b;exact⟨c,d,by simpa using f,e⟩
 ·rintro⟨c,b,e,d⟩
  exact⟨c,List.mem_filter.2 ⟨b,by simp_all⟩,d⟩
theorem lX.full (g:lX a s (G++Y) j s')(h:d_ a.N s.y s.g s.ws Y G):d_ a.N 0 s'.g s'.ws [] (j.lf (G++Y)):=by
 refine⟨rfl,g.pos.tY (fun c=>(dp _).1) (fun c hc d=>?_)⟩
 have e:j.f c≠-1:=by simpa using d
 rw[g.hd c hc e];refine⟨?_,rfl⟩
 rcases List.mem_append.1 hc with b|b
 ·exact(h.ej.mem c b).2.2
 ·exact(h.ty.mem c b).2.2
end
section
variable {a:Wc}{S:co}{Y G:List Int}
end
section
variable {c:j9}{F:Nat->Prop}{S:co×cn}{w:aw}
end
section
variable {c:j9}{F:Nat->Prop}{S:co×cn}{w:aw}{j:Nat}
theorem zV:c7 2=false:=ae
end
section
variable {a:Wc}{s:eh}{Y G:List Int}
end
section
variable {k:b_}{s:cu}
theorem c9.nw {X:Int->Prop}(h:c9 k X s)(x:Int):k.nw s x=x:=by
 unfold b_.nw;split
 ·rename_i c;rw[bh] at c;have b:s.f (cj x)≠-1:=by simpa using c.2
  have ha:c7 x=true:=by have q:=c.1;unfold b_.jt at q;rw[bh] at q;exact q.1
  have h0:dc x=0:=by have q:=ha;unfold c7 at q;rw[bh] at q;simpa using q.1
  rw[h.self _ (nT c.1) b,lr x ha];have q:=(uO x h0).2;rw[ue ha] at q;exact q
 ·rfl
theorem ug {t:cu×List b9}{r:List b9}(h:∀e∈r,k.al t.1 e.2=true):k.tS t r=t:=by
 have e:r.filter (fun e=>!k.al t.1 e.2)=[]:=by rw[List.filter_eq_nil_iff];intro e he;rw[h e he];simp
 show fu (dM cu) (fun s x=>k.al s.1 x) k.cr t r=t;unfold fu;rw[e];rfl
end
section
variable {a:Wc}{S:co}{Y G:List Int}
theorem qV (c:cX (S.s.j0 a) gJ):∀e∈S.r3 a,(S.s.j0 a).al (S.cA a) e.2=true:=by obtain⟨d,f,_⟩:=nU c;intro e he;obtain⟨b,g,i⟩:=List.mem_map.1 he;rw[<-i];show(S.s.j0 a).al (S.cA a) ((S.s.j0 a).nw (S.cA a) b.2)=true;rw[(d.jD.nw b.2)];exact zd f (List.mem_filter.1 (List.mem_filter.1 g).1).2
structure zW (a:Wc)(s:eh)(T:List Int)(j:cu):Prop where
 rt:∀i,i<12->c7 (s.rs.getD i 0)=true->cj (s.rs.getD i 0)∈T/\j.f (cj (s.rs.getD i 0))≠-1
 fd:∀c∈T,j.f c≠-1->∀i,0<=i->i<pf (ld a.N s.y s.g s.ws c)->c7 ((s.j0 a).h_ j c i)=true->cj ((s.j0 a).h_ j c i)∈T/\j.f (cj ((s.j0 a).h_ j c i))≠-1
theorem lX.inv {s b:eh}{j:cu}(g:lX a s (G++Y) j b)(h:eA a s Y G)(hb:cJ a s)(al:zW a s (G++Y) j):eA a b [] (j.lf (G++Y))/\cJ a b:=by
 obtain⟨_,_,f⟩:=kI h.inv.full hb;have hN:=hb.n1;have hO:=hb.o1;have u:=g.g;have n:∀c∈(s.j0 a).T,j.f c≠-1->0<=j.f c/\j.f c<1000000:=fun c hc o=>by
  rw[f] at hc;have:=g.bd c hc o;have:=dp (ld a.N s.y s.g s.ws c)
  omega
 have key:∀x,(c7 x=true->cj x∈G++Y/\j.f (cj x)≠-1)->c7 ((s.j0 a).nw j x)=true->cj ((s.j0 a).nw j x)∈j.lf (G++Y):=fun x k ha=>by obtain⟨_,p⟩:=Hn (fun ha=>(f▸k ha)) n;obtain⟨c,c1,c2,c3⟩:=p ha;rw[f] at c1;exact uf.2 ⟨c,c1,c2,c3.symm⟩
 refine⟨⟨?_,fun v _ i _ _ _ hy=>by cases hy⟩,⟨hb.n0,hb.n1,hb.o1,(g.y▸aX _),g.g,g.l,g.rl⟩⟩
 rw[g.y];refine⟨(g.full h.inv.full),fun x k ha=>?_,fun v q i l d ha=>?_⟩
 ·obtain⟨i,hi,e⟩:=List.mem_iff_getElem.1 k;have t:b.rs.getD i 0=x:=by simp_all
  have m:i<12:=(g.rl▸hi)
  rw[<-t,g.rs i m] at ha⊢;exact aK (key _ (al.rt i m) ha)
 ·obtain⟨c,c1,c2,c3⟩:=uf.1 (q.resolve_left ac)
  rw[<-c3] at d ha⊢;rw[g.hd c c1 c2] at d;rw[g.fd c c1 c2 i l d] at ha⊢;exact aK (key _ (al.fd c c1 c2 i l d) ha)
structure Ho (a:Wc)(S:co)(Y G:List Int)(j:cu):Prop where
 gc:lX a S.s (G++Y) j (S.dE a).s
 al:zW a S.s (G++Y) j
 g:((S.dE a).s.g:Int)=S.n4 a
 iff:∀c∈G++Y,j.f c=-1↔(S.cA a).f c=-1
 j:S.cD a=j
theorem lY (h:eA a S.s Y G)(hb:cJ a S.s)(t:S.fI a=false):(∃F,ir (S.k5 a) (S.dI a) F/\F 0 (S.k5 a,0))/\Ho a S Y G (S.cD a)/\S.dI a=S.cD a:=by
 have f:=cX.start hb.n1 hb.o1 hb.y1 hb.g1;obtain⟨g,a3,ag⟩:=nU (S:=S) f;obtain⟨l1,l2,j⟩:=kI h.inv.full hb;have hm:((S.s.j0 a).pl (S.cA a)).2<=a.N+a.O:=by
  have:=of_decide_eq_false t;unfold co.n4 at this
  omega
 obtain⟨g1,g2,g3,k⟩:=Hl h.inv.full hb (S.cA a) hm;have ai:((S.s.j0 a).pl (S.cA a)).1=S.cD a:=rfl;rw[ai] at g1 g2 g3 k;have u:(S.s.j0 a).e4 (S.cD a)=S.k5 a:=rfl;rw[u] at g1 g2 k;have al:(S.k5 a).T=(S.s.j0 a).T:=by
  obtain⟨_,v,t3,_⟩:=pn ⟨hb.l1,hb.y1,hb.g1⟩ hb.r1 f.nd (nZ h.inv.full hb) (pv h.inv.full hb)
  rw[u] at v t3;unfold b_.T;rw[v,t3]
 have w:∀x,(S.s.j0 a).cV (S.cD a) x=(S.s.j0 a).cV (S.cA a) x:=fun x=>by
  cases hj:(S.s.j0 a).jt x
  ·unfold b_.cV;rw[hj];rfl
  ·have B:=nT hj;rw[j] at B;have q:=g3 _ B;unfold b_.cV;by_cases c:(S.cA a).f (cj x)=-1
   ·rw[c,q.2 c]
   ·rw[beq_false_of_ne c,beq_false_of_ne (fun ap=>c (q.1 ap))]
 have N:S.dI a=S.cD a:=by
  have q:(S.k5 a).tS (S.cD a,S.q3 a) (S.r3 a)=(S.cD a,S.q3 a):=ug (fun e he=>by
   have q1:=qV (S:=S) f e he;unfold b_.al at q1⊢;have W:(S.k5 a).cV (S.cD a) e.2=(S.s.j0 a).cV (S.cD a) e.2:=by unfold b_.cV b_.jt;rw[al]
   rw[W,w];exact q1)
  unfold co.dI;rw[q]
 have ar:(S.k5 a).sl (S.cD a)=S.k6 a:=by unfold co.k6;rw[N]
 rw[ar] at g1 g2;have ax:(S.dE a).s=(S.k6 a).s:=by unfold co.dE;rw[t,aH ac]
 have ab:∀x,c7 x=true->cj x∈G++Y->(S.s.j0 a).cV (S.cA a) x=false->(S.cD a).f (cj x)≠-1:=fun x ha hm hj=>by
  have aF:(S.s.j0 a).jt x=true:=by unfold b_.jt;rw[ha,j,List.contains_iff_mem.2 hm];rfl
  rw[b_.pd aF] at hj;exact fun e=>hj ((g3 _ hm).1 e)
 rw[N];refine⟨k,⟨by simp_all,⟨fun i hi ha=>?_,fun c hc aR i l m ha=>?_⟩,(ax▸g2),g3,rfl⟩,rfl⟩
 ·have aT:S.s.rs.getD i 0∈S.s.rs:=by rw[aG,aI ((hb.r1▸hi))];exact a_ _
  have b:=List.mem_append.2 (h.inv.rt _ aT ha).symm;exact⟨b,ab _ ha b (ag i hi)⟩
 ·have n:pc (ld a.N S.s.y S.s.g S.s.ws c)=0:=(nZ h.inv.full hb c ((j▸hc))).c;have a0:c∈(S.s.j0 a).T:=by simp_all
  have a1:_:=fun e=>aR ((g3 c hc).2 e)
  have hM:mQ (S.s.j0 a) (S.cA a) c:=by
   rcases g.jD.cmp c a0 a1 with q|q|q
   ·rw[g.td] at q;cases q
   ·exact absurd q id
   ·exact q
  have mem:∀i,0<=i->i<pf (ld a.N S.s.y S.s.g S.s.ws c)->c7 (ld a.N S.s.y S.s.g S.s.ws (c+1+i))=true->_:=fun i l m ha=>List.mem_append.2 (h.inv.fd c (List.mem_append.1 hc).symm i l m ha).symm;unfold b_.h_ at ha⊢;rw[w] at ha⊢;by_cases cb:((pk ((S.s.j0 a).ld c)=3\/pk ((S.s.j0 a).ld c)=4)/\(S.s.j0 a).cV (S.cA a) ((S.s.j0 a).ld (c+1))=true)/\(i=0\/(pk ((S.s.j0 a).ld c)=4/\i=1))
  ·rw[aJ cb] at ha;exact absurd ha ae
  ·rw[aH cb] at ha⊢;have ha:=ha;have b:=mem i l m ha;refine⟨b,ab _ ha b ?_⟩
   by_cases p:pk ((S.s.j0 a).ld c)=1\/pk ((S.s.j0 a).ld c)=2
   ·have q:=hM.p p i.toNat (by show(i.toNat:Int)<pf (ld a.N S.s.y S.s.g S.s.ws c);omega)
    rwa [show((i.toNat:Nat):Int)=i from by omega] at q
   ·by_cases s:pk ((S.s.j0 a).ld c)=3
    ·have a2:=h8 n (aK (aL s))
     by_cases z:i=0
     ·simp_all
     ·have o:i=1:=aa;rw[o,show c+1+1=c+2 from by omega];exact hM.w s
    ·by_cases d:pk ((S.s.j0 a).ld c)=4
     ·have a2:=h8 n (aK (aK d))
      have ad:(S.s.j0 a).cV (S.cA a) ((S.s.j0 a).ld (c+1))=false:=by
       cases hl:(S.s.j0 a).cV (S.cA a) _
       ·rfl
       ·exact absurd ⟨⟨aK d,hl⟩,aa⟩ cb
      by_cases z:i=0
      ·simp_all
      ·have o:i=1:=aa;rw[o,show c+1+1=c+2 from by omega];rcases hM.e d with q|q
       ·rw[g.ep c q] at ad;cases ad
       ·exact q
     ·have q1:=zo n;have W:pf (ld a.N S.s.y S.s.g S.s.ws c)=0:=by
       have q3:pk (ld a.N S.s.y S.s.g S.s.ws c)≠1/\pk (ld a.N S.s.y S.s.g S.s.ws c)≠2/\pk (ld a.N S.s.y S.s.g S.s.ws c)≠3/\pk (ld a.N S.s.y S.s.g S.s.ws c)≠4:=⟨fun e=>p (aL e),fun e=>p (aK e),s,d⟩
       omega
      omega
theorem Hp (a:Wc)(S:co):(S.dE a).r.length+(S.dE a).q.length<=S.r.length+S.q.length:=by
 unfold co.dE;split
 ·exact aD _
 ·have b:(S.j2 a).2.length=S.q.length:=o9 _ _ _;have c:(S.r3 a).length+(S.q3 a).length<=S.r.length+(S.j2 a).2.length:=qK (dM cu) (fun s x=>(S.s.j0 a).al s.1 x) _ (fun s x=>(S.s.j0 a).nw s.1 x) (fun s x=>qC _ s x) (S.j2 a) S.r;have d:((S.k5 a).tR (S.cD a,S.q3 a) (S.r3 a)).length+((S.k5 a).hZ (S.cD a,S.q3 a) (S.r3 a)).length<=(S.r3 a).length+(S.q3 a).length:=qK (dM cu) (fun s x=>(S.k5 a).al s.1 x) _ (fun s x=>(S.k5 a).nw s.1 x) (fun _ _=>rfl) (S.cD a,S.q3 a) (S.r3 a)
  dsimp only;omega
theorem eA.dE (h:eA a S.s Y G)(hb:cJ a S.s):(S.fI a=false->∃F,ir (S.k5 a) (S.dI a) F/\F 0 (S.k5 a,0))/\(∃c d,eA a (S.dE a).s c d)/\(S.dE a).s.M.length<=S.s.M.length:=by
 refine⟨fun b=>(lY h hb b).1,?_⟩
 cases b:S.fI a
 ·obtain⟨_,g,_⟩:=lY h hb b;obtain⟨e,_⟩:=g.gc.inv h hb g.al;exact⟨⟨[],_,e⟩,(g.gc.M▸aX _)⟩
 ·have f:S.dE a=S:=by unfold co.dE;rw[aJ b]
  rw[f];exact⟨⟨Y,G,h⟩,aD _⟩
end
structure mZ (k:b_)(C:Int->Prop):Prop where
 rt:∀i,i<12->k.jt (k.s.rs.getD i 0)=true->C (cj (k.s.rs.getD i 0))
 p:∀a∈k.T,C a->pk (k.ld a)=1\/pk (k.ld a)=2->∀i:Nat,(i:Int)<pf (k.ld a)->k.jt (k.ld (a+1+i))=true->C (cj (k.ld (a+1+i)))
 w:∀a∈k.T,C a->pk (k.ld a)=3->k.jt (k.ld (a+2))=true->C (cj (k.ld (a+2)))
 e:∀a∈k.T,C a->pk (k.ld a)=4->(k.jt (k.ld (a+1))=true->C (cj (k.ld (a+1))))->k.jt (k.ld (a+2))=true->C (cj (k.ld (a+2)))
def px (k:b_)(C:Int->Prop)(q:List b9):Prop:=∀e∈q,(k.jt e.1=true->C (cj e.1))->k.jt e.2=true->C (cj e.2)
structure dJ (k:b_)(C:Int->Prop)(s:cu):Prop where
 snd:∀a∈k.T,s.f a≠-1->C a
 ea:∀a∈s.ep,a∈k.T/\s.f a≠-1/\pk (k.ld a)=4
section
variable {k:b_}{C:Int->Prop}{s:cu}
theorem dJ.cV (h:dJ k C s){x:Int}(b:k.cV s x=false):k.jt x=true->C (cj x):=fun ht=>h.snd _ (nT ht) ((b_.pd ht).1 b)
theorem dJ.al (h:dJ k C s){x:Int}(b:k.al s x=true):k.jt x=true->C (cj x):=h.cV (by unfold b_.al at b;simpa using b)
theorem dJ.ma (h:dJ k C s)(x:Int)(i:k.jt x=true->C (cj x))(le:dR k s (k.ma s x)):dJ k C (k.ma s x):=by
 refine⟨fun b hb d=>?_,fun b hb=>?_⟩
 ·by_cases c:k.cV s x=true
  ·have e:(k.ma s x).f b=if b=cj x then cj x else s.f b:=by unfold b_.ma;rw[aJ c];rfl
   rw[e] at d;by_cases f:b=cj x
   ·rw[f];refine i ?_;unfold b_.cV at c;rw[bh] at c;exact c.1
   ·rw[aH f] at d;exact h.snd b hb d
  ·have e:k.ma s x=s:=by unfold b_.ma;rw[aH c]
   rw[e] at d;exact h.snd b hb d
 ·rw[tW] at hb;obtain⟨q1,g,q3⟩:=h.ea b hb;exact⟨q1,(le.f b g▸g),q3⟩
theorem dJ.e6 {X:Int->Prop}(h:dJ k C s)(m:c9 k X s)(a:Int):∀n:Nat,(∀i:Nat,i<n->k.jt (k.ld (a+1+i))=true->C (cj (k.ld (a+1+i))))->dJ k C (k.e6 s a n)
 |0,_=>h
 |n+1,b=>by obtain⟨m1,_⟩:=m.e6 a n;exact(dJ.e6 h m a n (fun i hi=>b i aa)).ma _ (b n aa) (m1.ma _).2.1
theorem dJ.l1 (h:dJ k C s)(m:c9 k (fun _=>False) s)(d:mZ k C)(hl:0<s.td.length):dJ k C (k.l1 s):=by
 obtain⟨x,e⟩:∃x,s.td.getD (s.td.length-1) 0=x:=⟨_,rfl⟩
 have hm:x∈s.td:=by rw[<-e,aG,aI aa];exact a_ _
 have c:=m.eZ.td x hm;have g:=m.td x hm;have hc:=h.snd x c g;have j:k.l1 s=k.lk {s with td:=s.td.take (s.td.length-1)} x:=by unfold b_.l1;rw[e]
 have hs:=m.eZ.sum;have n:(s.td.take (s.td.length-1)).length=s.td.length-1:=by simp_all
 have f:c9 k (fun b=>b∈s.td) {s with td:=s.td.take (s.td.length-1)}:=⟨⟨m.eZ.nd,m.eZ.ps,fun a ha=>m.eZ.td a (List.mem_of_mem_take ha),m.eZ.ep,m.eZ.tl,by
  show k.lost s+(s.td.take _).length+s.ep.length<=_;omega⟩,m.self,fun a ha=>m.td a (List.mem_of_mem_take ha),fun a ha l=>by
  rcases m.cmp a ha l with q|q|q
  ·simp_all
  ·exact absurd q id
  ·exact aK (aK ⟨q.p,q.w,q.e⟩)⟩
 have h0:dJ k C {s with td:=s.td.take (s.td.length-1)}:=⟨h.snd,h.ea⟩
 rw[j];unfold b_.lk;by_cases c1:pk (k.ld x)=1\/pk (k.ld x)=2
 ·rw[aJ c1];exact h0.e6 f x _ (fun i hi=>d.p x c hc c1 i aa)
 ·rw[aH c1];by_cases c3:pk (k.ld x)=3
  ·rw[aJ c3];exact h0.ma _ (d.w x c hc c3) (f.ma _).2.1
  ·rw[aH c3];by_cases c4:pk (k.ld x)=4
   ·rw[aJ c4];refine⟨h.snd,fun b hb=>?_⟩
    rcases List.mem_append.1 hb with hb|hb
    ·exact h.ea b hb
    ·simp_all
   ·simp_all
theorem dJ.lm (b:mZ k C):∀(n:Nat){s:cu},dJ k C s->c9 k (fun _=>False) s->dJ k C (k.lm n s)
 |0,s,h,_=>h
 |n+1,s,h,m=>by
  unfold b_.lm;by_cases c:0<s.td.length
  ·rw[aJ c];exact dJ.lm b n (h.l1 m b c) (m.l1 c).1
  ·simp_all
theorem dJ.iq (d:mZ k C):∀(l:List Int){t:List Int×cu},dJ k C t.2->c9 k (fun _=>False) t.2->(∀a∈l,a∈k.T/\t.2.f a≠-1/\pk (k.ld a)=4)->dJ k C (l.foldl k.cS t).2/\∀a∈(l.foldl k.cS t).1,a∈t.1\/a∈l
 |[],t,h,_,_=>⟨h,fun _ ha=>aL ha⟩
 |a::l,t,h,m,hl=>by
  rw[a9];obtain⟨a1,a2,j⟩:=hl a ac;by_cases c:k.cV t.2 (k.ld (a+1))=true
  ·have e:k.cS t a=(t.1++[a],t.2):=by unfold b_.cS;rw[aJ c]
   rw[e];obtain⟨f,g⟩:=dJ.iq d l (t:=(t.1++[a],t.2)) h m (fun b hb=>hl b (aQ _ hb))
   refine⟨f,fun b hb=>?_⟩
   rcases g b hb with q|q
   ·rcases List.mem_append.1 q with q|q
    ·exact aL q
    ·simp_all
   ·simp_all
  ·have e:k.cS t a=(t.1,k.ma t.2 (k.ld (a+2))):=by unfold b_.cS;rw[aH c]
   rw[e];obtain⟨m1,i,_⟩:=m.ma _;obtain⟨f,g⟩:=dJ.iq d l (t:=(t.1,k.ma t.2 _)) (h.ma _ (d.e a a1 (h.snd a a1 a2) j (h.cV (by simpa using c))) i) m1 (fun b hb=>by
    obtain⟨b1,b2,b3⟩:=hl b (aQ _ hb)
    exact⟨b1,(i.f b b2▸b2),b3⟩)
   exact⟨f,fun b hb=>(g b hb).imp id (fun q=>aQ _ q)⟩
theorem dJ.kv (d:mZ k C)(h:dJ k C s)(m:c9 k (fun _=>False) s):dJ k C (k.kv s).2:=by
 obtain⟨e,f⟩:=dJ.iq d s.ep (t:=([],s)) h m h.ea;obtain⟨_,le,_⟩:=c9.iq s.ep (t:=([],s)) m;refine⟨e.snd,fun b hb=>?_⟩
 have hb:=hb;rcases f b hb with q|q
 ·cases q
 ·obtain⟨q1,c,q3⟩:=h.ea b q;exact⟨q1,by show(s.ep.foldl k.cS ([],s)).2.f b≠-1;rw[le.f b c];exact c,q3⟩
theorem dJ.j7 (q:List b9)(b:px k C q):∀(l:List Nat)(t:(cu×List b9)×Bool),t.1.2=q->(∀i∈l,i<q.length)->dJ k C t.1.1->c9 k (fun _=>False) t.1.1->dJ k C (l.foldl (dF k.al k.mp) t).1.1
 |[],t,_,_,h,_=>h
 |i::l,t,e,hl,h,m=>by
  rw[a9];have hi:=hl i ac;by_cases c:(k.al t.1.1 (t.1.2.getD i (0,0)).2||!k.al t.1.1 (t.1.2.getD i (0,0)).1)=true
  ·have d:dF k.al k.mp t i=t:=by unfold dF;rw[aJ c]
   rw[d];exact dJ.j7 q b l t e (fun j f=>hl j (aQ _ f)) h m
  ·have d:dF k.al k.mp t i=((k.ma t.1.1 (t.1.2.getD i (0,0)).2,t.1.2),true):=by exact y6
   rw[d];have hm:t.1.2.getD i (0,0)∈q:=by simp_all
   have hg:k.al t.1.1 (t.1.2.getD i (0,0)).1=true:=by simp_all
   obtain⟨m1,g,_⟩:=m.ma _;exact dJ.j7 q b l _ e (fun j f=>hl j (aQ _ f)) (h.ma _ (b _ hm (h.al hg)) g) m1
theorem dJ.cY (b:mZ k C):∀(n:Nat)(t:cu×List b9),px k C t.2->dJ k C t.1->c9 k (fun _=>False) t.1->dJ k C (k.cY n t).1
 |0,t,_,h,_=>h
 |n+1,t,c,h,m=>by
  obtain⟨l1,_⟩:=m.eN;have d:=dJ.kv b (dJ.lm b _ h m) l1;obtain⟨v1,_⟩:=l1.kv;have e:dJ k C (k.wa ((k.kv (k.eN t.1)).2,t.2)).1.1:=dJ.j7 t.2 c _ (((k.kv _).2,t.2),false) rfl (fun i hi=>by simpa using hi) d v1;obtain⟨w1,_,w3,_⟩:=c9.wa (t:=((k.kv _).2,t.2)) v1;unfold b_.cY;split
  ·exact dJ.cY b n _ c d v1
  ·split
   ·exact dJ.cY b n _ (by simp_all) e w1
   ·exact e
theorem dJ.ke (b:mZ k C){t:cu×List b9}(c:px k C t.2)(h:dJ k C t.1)(m:c9 k (fun _=>False) t.1)(x:Int)(d:k.jt x=true->C (cj x)):dJ k C (k.ke t x).2.1:=by obtain⟨m1,e,_⟩:=m.ma x;exact dJ.cY b _ (k.ma t.1 x,t.2) c (h.ma x d e) m1
end
section
variable {k:b_}
end
def kJ (k:b_)(l:List b9):Prop:=∀e∈l,k.jt e.1=true/\k.jt e.2=true
section
variable {a:Wc}{S:co}{Y G:List Int}
theorem zX (h:eA a S.s Y G)(hb:cJ a S.s)(j:S.fI a=false):(S.dE a).q=(((S.s.j0 a).eT (S.j2 a) S.r).2.filter (fun e=>(S.s.j0 a).al (S.cA a) e.1)).map (fun e=>((S.s.j0 a).nw (S.cD a) e.1,(S.s.j0 a).nw (S.cD a) e.2)):=by
 have i:=cX.start hb.n1 hb.o1 hb.y1 hb.g1;obtain⟨d1,o,p⟩:=nU (S:=S) i;obtain⟨_,l2,l3⟩:=kI h.inv.full hb;obtain⟨_,g,t⟩:=lY h hb j;obtain⟨_,b,t3,_⟩:=pn (s:=S.cD a) (k:=S.s.j0 a) ⟨hb.l1,hb.y1,hb.g1⟩ hb.r1 i.nd (nZ h.inv.full hb) (pv h.inv.full hb)
 have b:(S.k5 a).Y=(S.s.j0 a).Y:=b;have t3:(S.k5 a).G=(S.s.j0 a).G:=t3;have zL:(S.k5 a).T=(S.s.j0 a).T:=by unfold b_.T;rw[b,t3]
 have l:∀x,(S.k5 a).al (S.cD a) x=(S.s.j0 a).al (S.cA a) x:=fun x=>by exact zK
 have q3:S.q3 a=((S.s.j0 a).eT (S.j2 a) S.r).2.filter (fun e=>(S.s.j0 a).al (S.cA a) e.1):=by show((((S.s.j0 a).eT (S.j2 a) S.r).2.filter (fun e=>(S.s.j0 a).al (S.cA a) e.1)).map fun e=>((S.s.j0 a).nw (S.cA a) e.1,(S.s.j0 a).nw (S.cA a) e.2))=_;exact zM
 have m:(S.k5 a).tS (S.cD a,S.q3 a) (S.r3 a)=(S.cD a,S.q3 a):=ug (fun e he=>by rw[l];exact qV i e he)
 unfold co.dE;rw[j,aH ac];show eW (dM cu) (fun s x=>(S.k5 a).al s.1 x) _ (fun s x=>(S.k5 a).nw s.1 x) (S.cD a,S.q3 a) (S.r3 a)=_;unfold eW;have e:fu (dM cu) (fun s x=>(S.k5 a).al s.1 x) (S.k5 a).cr (S.cD a,S.q3 a) (S.r3 a)=(S.cD a,S.q3 a):=m;rw[e];show((S.q3 a).filter (fun e=>(S.k5 a).al (S.cD a) e.1)).map (fun e=>((S.k5 a).nw (S.cD a) e.1,(S.k5 a).nw (S.cD a) e.2))=_;have n:(S.q3 a).filter (fun e=>(S.k5 a).al (S.cD a) e.1)=S.q3 a:=List.filter_eq_self.2 (fun e he=>by simp_all)
 rw[n,q3];refine List.map_congr_left (fun e _=>?_)
 rw[b_.j6 _ _ b t3,b_.j6 _ _ b t3]
end
theorem Hq {k:b_}{j:cu}{x:Int}(b:k.jt x=true)(c:j.f (cj x)≠-1)(hb:0<=j.f (cj x)/\j.f (cj x)<1000000):k.nw j x=ew 3 (j.f (cj x))/\c7 (k.nw j x)=true/\cj (k.nw j x)=j.f (cj x):=by
 have e:k.nw j x=ew 3 (j.f (cj x)):=by unfold b_.nw;rw[b,beq_false_of_ne c];rfl
 obtain⟨n,d⟩:∃n:Nat,j.f (cj x)=n:=⟨(j.f (cj x)).toNat,aa⟩
 obtain⟨w1,f⟩:=mS n aa;rw[e,d];exact⟨rfl,w1,f⟩
section
variable {a:Wc}{S:co}{Y G:List Int}
end
section
variable {a:Wc}{S:co}{G:List Int}
end
def jn (a:Wc)(W:co):Prop:=∀e,(e∈W.r\/e∈W.q)->tB a.N W.s.y W.s.g W.s.ws e.1=true/\tB a.N W.s.y W.s.g W.s.ws e.2=true
section
variable {a:Wc}{S:co}{Y G:List Int}
theorem iY {N O y g:Nat}{ws Y G:List Int}(h:d_ N y g ws Y G)(hN:N<=256)(hy:y<=N)(hO:O<=1024)(hg:g<=O){x:Int}:tB N y g ws x=true↔c7 x=true/\(cj x∈Y\/cj x∈G):=by
 refine⟨zm h hN hy hO hg,fun⟨b,c⟩=>?_⟩
 obtain⟨d,e⟩:=h.lists hN hy hO hg;unfold tB;rw[b,d,e];rcases c with q|q
 ·simp_all
 ·simp_all
theorem qW (h:eA a S.s Y G)(hb:cJ a S.s){x:Int}:(S.s.j0 a).jt x=true↔tB a.N S.s.y S.s.g S.s.ws x=true:=by
 obtain⟨_,_,d⟩:=kI h.inv.full hb;rw[iY h.inv.full hb.n1 hb.y1 hb.o1 hb.g1];unfold b_.jt;rw[d,bh];constructor
 ·rintro⟨b,c⟩
  exact⟨b,(List.mem_append.1 (List.contains_iff_mem.1 c)).symm⟩
 ·rintro⟨b,c⟩
  exact⟨b,List.contains_iff_mem.2 (List.mem_append.2 c.symm)⟩
theorem jn.ok (h:jn a S)(hk:eA a S.s Y G)(hb:cJ a S.s):kJ (S.s.j0 a) S.r/\kJ (S.s.j0 a) S.q:=
 ⟨fun e he=>⟨(qW hk hb).2 (h e (aL he)).1,(qW hk hb).2 (h e (aL he)).2⟩,fun e he=>⟨(qW hk hb).2 (h e (aK he)).1,(qW hk hb).2 (h e (aK he)).2⟩⟩
theorem Hr (q:cX (S.s.j0 a) gJ)(v:kJ (S.s.j0 a) S.r)(hq:kJ (S.s.j0 a) S.q):∀e∈((S.s.j0 a).eT (S.j2 a) S.r).2,(S.s.j0 a).jt e.1=true/\(S.s.j0 a).jt e.2=true:=by
 obtain⟨w,_,_⟩:=(c9.start q).cK 12;obtain⟨x,_,g⟩:=c9.sp (t:=((S.s.j0 a).cK gJ 12,S.q)) w;have g:(S.j2 a).2=S.q:=g;have key:∀(n:Nat)(t:cu×List b9)(d:List b9),fJ (S.s.j0 a) t.1 t.2->kJ (S.s.j0 a) t.2->kJ (S.s.j0 a) d->kJ (S.s.j0 a) (eJ (S.s.j0 a).fC n t d).1.2:=fun n=>by
  have pl:∀(l:List b9)(u:List b9×List b9×(cu×List b9)),fJ (S.s.j0 a) u.2.2.1 u.2.2.2->kJ (S.s.j0 a) u.2.2.2->kJ (S.s.j0 a) l->kJ (S.s.j0 a) (l.foldl (eu (S.s.j0 a).fC) u).2.2.2:=fun l=>by
   induction l with
   |nil=>intro u _ f _;exact f
   |cons e l i=>
    intro u k f hl;have m:(eu (S.s.j0 a).fC u e).2.2=((S.s.j0 a).fC u.2.2 e).2:=by unfold eu;split<;>rfl
    refine i _ ((m▸(k.cm e).1)) ?_ (fun b hb=>hl b (aQ _ hb))
    rw[m];cases c:(S.s.j0 a).al u.2.2.1 e.1
    ·have j:(S.s.j0 a).fC u.2.2 e=(false,u.2.2):=nn c;rw[j];exact f
    ·obtain⟨_,_,B,_⟩:=k.jD.ke e.2;have j:(S.s.j0 a).fC u.2.2 e=(true,(((S.s.j0 a).ke u.2.2 e.2).2.1,u.2.2.2++[e])):=by refine(ns (s:=u.2.2) c).trans ?_;show(true,(((S.s.j0 a).ke u.2.2 e.2).2.1,((S.s.j0 a).ke u.2.2 e.2).2.2++[(e.1,e.2)]))=_;rw[B]
     rw[j];intro b hb;rcases List.mem_append.1 hb with hb|hb
     ·exact f b hb
     ·rw[List.mem_singleton.1 hb];exact hl e ac
  induction n with
  |zero=>intro t d _ ht _;exact ht
  |succ n i=>
   intro t d o ht hd;have p:=pl d ([],[],t) o ht hd;by_cases c:(pts (S.s.j0 a).fC t d).1.length=0
   ·rw[lL _ _ _ _ c];exact p
   ·rw[lM _ _ _ _ c];exact i _ _ (fJ.pl d ([],[],t) o).1 p (fun e he=>hd e (sq _ t d e (aK he)))
 exact key _ (S.j2 a) _ x ((g▸hq)) (fun e he=>v e (List.mem_filter.1 he).1)
theorem jn.dE (h:jn a S)(hk:eA a S.s Y G)(hb:cJ a S.s):jn a (S.dE a):=by
 cases hf:S.fI a
 ·have m:=cX.start hb.n1 hb.o1 hb.y1 hb.g1;obtain⟨w,hq⟩:=h.ok hk hb;obtain⟨n,ab,_⟩:=nU m;obtain⟨_,_,B⟩:=kI hk.inv.full hb;obtain⟨_,g,o⟩:=lY hk hb hf;obtain⟨ad,B1⟩:=g.gc.inv hk hb g.al;have hN:=hb.n1;have hO:=hb.o1;have ar:=g.gc.g;have bnd:∀c∈G++Y,(S.cD a).f c≠-1->0<=(S.cD a).f c/\(S.cD a).f c<1000000:=fun c hc ag=>by
   have q1:=g.gc.bd c hc ag;have b:=dp (ld a.N S.s.y S.s.g S.s.ws c)
   omega
  have ai:∀x,(S.s.j0 a).jt x=true->(S.s.j0 a).al (S.cA a) x=true->(S.cD a).f (cj x)≠-1:=fun x d ha q=>by
   have hm:=nT d;rw[B] at hm;unfold b_.al at ha;have b:(S.s.j0 a).cV (S.cA a) x=false:=by simpa using ha
   exact(b_.pd d).1 b ((g.iff _ hm).1 q)
  have key:∀x,(S.s.j0 a).jt x=true->(S.s.j0 a).al (S.cA a) x=true->tB a.N (S.dE a).s.y (S.dE a).s.g (S.dE a).s.ws ((S.s.j0 a).nw (S.cD a) x)=true:=fun x d ha=>by
   have hm:=nT d;rw[B] at hm;have p:=ai x d ha;obtain⟨_,b,q3⟩:=Hq d p (bnd _ hm p)
   refine(iY ad.inv.full B1.n1 B1.y1 B1.o1 B1.g1).2 ⟨b,aK ?_⟩
   rw[q3];exact uf.2 ⟨_,hm,p,rfl⟩
  obtain⟨_,j,t3,_⟩:=pn ⟨hb.l1,hb.y1,hb.g1⟩ hb.r1 m.nd (nZ hk.inv.full hb) (pv hk.inv.full hb)
  have j:=j;have t3:=t3;intro e he;rcases he with he|he
  ·have s:(S.dE a).r=(S.k5 a).tR (S.cD a,S.q3 a) (S.r3 a):=by unfold co.dE;rw[hf,aH ac]
   rw[s] at he;have he:e∈(((S.r3 a).filter (fun e=>(S.k5 a).al (S.cD a) e.2)).filter (fun e=>(S.k5 a).al ((S.k5 a).tS (S.cD a,S.q3 a) (S.r3 a)).1 e.1)).map fun e=>((S.k5 a).nw ((S.k5 a).tS (S.cD a,S.q3 a) (S.r3 a)).1 e.1,(S.k5 a).nw ((S.k5 a).tS (S.cD a,S.q3 a) (S.r3 a)).1 e.2):=he;have o:((S.k5 a).tS (S.cD a,S.q3 a) (S.r3 a)).1=S.cD a:=o;rw[o] at he;obtain⟨f,t,u⟩:=List.mem_map.1 he;have i:=(List.mem_filter.1 (List.mem_filter.1 t).1).1;have i:f∈((S.r.filter (fun e=>(S.s.j0 a).al (S.j2 a).1 e.2)).filter (fun e=>(S.s.j0 a).al (S.cA a) e.1)).map fun e=>((S.s.j0 a).nw (S.cA a) e.1,(S.s.j0 a).nw (S.cA a) e.2):=i;obtain⟨al,v,l⟩:=List.mem_map.1 i;obtain⟨ap,F⟩:=List.mem_filter.1 v;obtain⟨N,W⟩:=List.mem_filter.1 ap;rw[n.jD.nw,n.jD.nw] at l;have l:al=f:=l;rw[l] at F N W;obtain⟨q1,b⟩:=w f N;rw[<-u,b_.j6 (k:=S.k5 a) _ _ j t3,b_.j6 (k:=S.k5 a) _ _ j t3];exact⟨key _ q1 F,key _ b (zd ab W)⟩
  ·rw[zX hk hb hf] at he;obtain⟨f,t,u⟩:=List.mem_map.1 he;obtain⟨i,v⟩:=List.mem_filter.1 t;obtain⟨q1,b⟩:=Hr m w hq f i;rw[<-u];refine⟨key _ q1 v,key _ b ?_⟩
   rcases n.wq f i with q|q
   ·exact q
   ·simp_all
 ·have s:S.dE a=S:=by unfold co.dE;rw[aJ hf]
  rw[s];exact h
theorem jn.more {W:co}{b:eh}{d f:List Int}(h:jn a W)(hk:eA a W.s Y G)(hb:cJ a W.s)(g:d_ a.N b.y b.g b.ws d f)(hy:b.y<=a.N)(hg:b.g<=a.O)(hs:∀v,(v∈Y\/v∈G)->(v∈d\/v∈f)):jn a ⟨b,W.r,W.q⟩:=fun e he=>by
 have key:∀x,tB a.N W.s.y W.s.g W.s.ws x=true->tB a.N b.y b.g b.ws x=true:=fun x i=>by obtain⟨q1,c⟩:=(iY hk.inv.full hb.n1 hb.y1 hb.o1 hb.g1).1 i;exact(iY g hb.n1 hy hb.o1 hg).2 ⟨q1,hs _ c⟩
 obtain⟨q1,c⟩:=h e he;exact⟨key _ q1,key _ c⟩
end
def jI (k:cf)(z:C0)(x:Int):Prop:=c7 x=true/\(cj x∈k.T\/cj x∈z.G)
def gR (k:cf)(z:C0)(s:ck)(q:List b9):Prop:=∀e∈q,jI k z e.1/\∃b,jI k z b/\k.ml s b e.2
def uh (k:cf)(s:ck)(q:List b9):Prop:=∀e∈q,k.al s e.2=true\/k.al s e.1=false
section
variable {k:cf}{z:C0}{s t u:ck}{D H:List Int}{q:List b9}
theorem gR.jm (h:gR k z s q)(p:df k s t):gR k z t q:=fun e he=>by obtain⟨b,c,d,f⟩:=h e he;exact⟨b,c,d,p.ml f⟩
theorem py (p:df k s t){x:Int}(h:k.al s x=true):k.al t x=true:=by
 unfold cf.al cf.ls at h⊢;cases c:k.cL x
 ·rfl
 ·rw[c] at h;have b:s.f (cj x)≠-1:=by simp_all
  rw[p.f _ b];simpa using b
theorem qX {x:Int}(h:k.cL x=false):k.al s x=true:=by unfold cf.al cf.ls;rw[h];rfl
theorem gR.kG:∀(l:List Nat)(t:(ck×List b9)×Bool)(H:List Int),LI k z t.1.1 H D->dN k z t.1.1 H->(∀i∈l,i<t.1.2.length)->gR k z t.1.1 t.1.2->gR k z (l.foldl (dF k.al k.br) t).1.1 (l.foldl (dF k.al k.br) t).1.2
 |[],_,_,_,_,_,e=>e
 |i::l,t,H,h,w,hl,e=>by
  rw[a9];by_cases c:(k.al t.1.1 (t.1.2.getD i (0,0)).2||!k.al t.1.1 (t.1.2.getD i (0,0)).1)=true
  ·have b:dF k.al k.br t i=t:=by unfold dF;rw[aJ c]
   rw[b];exact gR.kG l t H h w (fun j d=>hl j (aQ _ d)) e
  ·have b:dF k.al k.br t i=(((k.br t.1.1 (t.1.2.getD i (0,0)).2).2,t.1.2.set i ((t.1.2.getD i (0,0)).1,(k.br t.1.1 (t.1.2.getD i (0,0)).2).1)),true):=by unfold dF;rw[aH c]
   have hi:=hl i ac;have hm:t.1.2.getD i (0,0)∈t.1.2:=by simp_all
   obtain⟨g,l1,w1,m,_⟩:=cZ.br _ H h w;obtain⟨_,_,_,_,_,m1,_⟩:=h.mi.br _;rw[b];refine gR.kG l _ g l1 w1 (fun j d=>?_) ?_
   ·simp_all
   ·intro n hd;have hd:=hd;rcases List.mem_or_eq_of_mem_set hd with hd|rfl
    ·exact e.jm m n hd
    ·obtain⟨g1,f,g2,g3⟩:=e _ hm;exact⟨g1,f,g2,m1 f g3⟩
theorem gR.wa {t:ck×List b9}(h:LI k z t.1 H D)(w:dN k z t.1 H)(e:gR k z t.1 t.2):gR k z (k.wa t).1.1 (k.wa t).1.2:=
 gR.kG _ (t,false) H h w (fun _ hi=>List.mem_range.1 hi) e
theorem gR.cY:∀(n:Nat)(t:ck×List b9)(H:List Int),LI k z t.1 H D->dN k z t.1 H->gR k z t.1 t.2->gR k z (k.cY n t).1 (k.cY n t).2
 |0,_,_,_,_,e=>e
 |n+1,t,H,h,w,e=>by
  obtain⟨g,l1,w1,i,_⟩:=cZ.lb (k.O+1) H h w;obtain⟨c,l2,b,j,_⟩:=cZ.kv g l1 w1;have d:=e.jm (i.trans j)
  obtain⟨l,m,w3,_,_⟩:=cZ.wa ((k.kv _).2,t.2) c l2 b;have f:=gR.wa (t:=((k.kv _).2,t.2)) l2 b d;unfold cf.cY;split
  ·exact gR.cY n ((k.kv _).2,t.2) c l2 b d
  ·split
   ·exact gR.cY n _ l m w3 f
   ·exact f
theorem zY (k:cf):∀(l:List Nat)(t:(ck×List b9)×Bool),(l.foldl (dF k.al k.br) t).2=false->∀i∈l,k.al t.1.1 (t.1.2.getD i (0,0)).2=true\/k.al t.1.1 (t.1.2.getD i (0,0)).1=false
 |[],_,_,_,hi=>by cases hi
 |j::l,t,h,i,hi=>by
  rw[a9] at h;obtain⟨_,b⟩:=t7 k l _ h;by_cases c:(k.al t.1.1 (t.1.2.getD j (0,0)).2||!k.al t.1.1 (t.1.2.getD j (0,0)).1)=true
  ·have d:dF k.al k.br t j=t:=by unfold dF;rw[aJ c]
   rw[d] at h;rcases List.mem_cons.1 hi with rfl|hi
   ·simpa using c
   ·exact zY k l t h i hi
  ·unfold dF at b;rw[aH c] at b;cases b
theorem qY:∀(n:Nat)(t:ck×List b9)(H:List Int),LI k z t.1 H D->dN k z t.1 H->ez k t.1->k.mu t.1<n->uh k (k.cY n t).1 (k.cY n t).2
 |0,t,H,_,_,_,e=>absurd e aa
 |n+1,t,H,h,w,hb,e=>by
  obtain⟨x,l1,w1,_,_,_⟩:=LI.pj (k.O+1) h w;obtain⟨c1,c2,c3⟩:=CI.lb h.mi.ci hb (k.O+1)
  obtain⟨g,b,B,j⟩:=CI.kv c1 c2;obtain⟨c,l2,d,_,_⟩:=l1.kv w1;unfold cf.cY;cases hk:(k.kv _).1
  ·rw[aH ac];obtain⟨F,l,N,S,m⟩:=CI.wa (s:=((k.kv _).2,t.2)) g b;cases hw:(k.wa ((k.kv _).2,t.2)).2
   ·rw[aH ac,t8 k _ hw];intro o hd;obtain⟨i,hi,W⟩:=List.mem_iff_getElem.1 hd;have q:=zY k _ (((k.kv _).2,t.2),false) hw i (List.mem_range.2 hi)
    have p:t.2.getD i (0,0)=o:=by simp_all
    rw[p] at q;exact q
   ·obtain⟨u,v,w3,_,_⟩:=cZ.wa ((k.kv _).2,t.2) c l2 d;have f:=m hw;dsimp only at f;exact qY n _ u v w3 l aa
  ·rw[aJ rfl];have f:=j hk;exact qY n ((k.kv _).2,t.2) c l2 d b (by dsimp only;omega)
def gS (k:cf)(z:C0)(D:List Int)(t:ck×List b9):Prop:=∃H,LI k z t.1 H D/\dN k z t.1 H/\ez k t.1/\gR k z t.1 t.2/\uh k t.1 t.2
theorem gS.sp {t:ck×List b9}(h:LI k z t.1 H D)(w:dN k z t.1 H)(hb:ez k t.1)(e:gR k z t.1 t.2):gS k z D (k.sp t):=by obtain⟨K,m1,b,_,_⟩:=cZ.sp t H h w;exact⟨K,m1,b,(pr _ t h.mi.ci hb).2,gR.cY _ t H h w e,qY _ t H h w hb aa⟩
theorem gS.cm {t:ck×List b9}(h:gS k z D t){e:b9}(i:jI k z e.1)(j2:jI k z e.2):gS k z D (cm (dM ck) (fun s x=>k.al s.1 x) k.ke t e).2:=by
 cases c:k.al t.1 e.1
 ·rw[nn (o:=dM ck) (is:=fun s x=>k.al s.1 x) (kp:=k.ke) (s:=t) (e:=e) c];exact h
 ·rw[ns (o:=dM ck) (is:=fun s x=>k.al s.1 x) (kp:=k.ke) (s:=t) (e:=e) c];obtain⟨H,d,j,f,l,F⟩:=h;obtain⟨m,l1,w1,n,_⟩:=cZ.br (k:=k) (z:=z) (D:=D) (s:=t.1) e.2 H d j;obtain⟨_,_,_,y1,_,m1,_⟩:=d.mi.br e.2;obtain⟨_,p,q,g⟩:=lV k t.1 e.2;have hb:ez k (k.br t.1 e.2).2:=⟨by rw[p,g];exact f.wk,by rw[q,g];exact f.ep⟩
  obtain⟨K,q1,u,q3,v,w⟩:=gS.sp (t:=((k.br t.1 e.2).2,t.2)) l1 w1 hb (l.jm n)
  obtain⟨_,_,_,B,_⟩:=cZ.sp (k:=k) (z:=z) (D:=D) ((k.br t.1 e.2).2,t.2) m l1 w1;show gS k z D ((k.sp ((k.br t.1 e.2).2,t.2)).1,(k.sp ((k.br t.1 e.2).2,t.2)).2++[(e.1,(k.br t.1 e.2).1)])
  refine⟨K,q1,u,q3,fun b hd=>?_,fun b hd=>?_⟩
  ·rcases List.mem_append.1 hd with hd|hd
   ·exact v b hd
   ·rw[List.mem_singleton.1 hd];exact⟨i,e.2,j2,B.ml (m1 _ (aL rfl))⟩
  ·rcases List.mem_append.1 hd with hd|hd
   ·exact w b hd
   ·rw[List.mem_singleton.1 hd];exact aL (qX y1)
theorem gS.pl:∀(l:List b9)(u:List b9×List b9×(ck×List b9)),gS k z D u.2.2->(∀e∈l,jI k z e.1/\jI k z e.2)->gS k z D (l.foldl (eu (Go.Proofs.YtpkjkjhanlbcoaaGreat.cm (dM ck) (fun s x=>k.al s.1 x) k.ke)) u).2.2
 |[],_,h,_=>h
 |e::l,u,h,hl=>by
  have key:(eu (Go.Proofs.YtpkjkjhanlbcoaaGreat.cm (dM ck) (fun s x=>k.al s.1 x) k.ke) u e).2.2=(Go.Proofs.YtpkjkjhanlbcoaaGreat.cm (dM ck) (fun s x=>k.al s.1 x) k.ke u.2.2 e).2:=by unfold eu;split<;>rfl
  refine gS.pl l _ ?_ (fun b hd=>hl b (aQ _ hd))
  rw[key];exact h.cm (hl e ac).1 (hl e ac).2
theorem gS.eJ:∀(n:Nat)(t:ck×List b9)(b:List b9),gS k z D t->(∀e∈b,jI k z e.1/\jI k z e.2)->gS k z D (eJ (Go.Proofs.YtpkjkjhanlbcoaaGreat.cm (dM ck) (fun s x=>k.al s.1 x) k.ke) n t b).1
 |0,_,_,h,_=>h
 |n+1,t,b,h,hd=>by
  have d:=gS.pl b ([],[],t) h hd;have d:gS k z D (pts (Go.Proofs.YtpkjkjhanlbcoaaGreat.cm (dM ck) (fun s x=>k.al s.1 x) k.ke) t b).2.2:=d;by_cases c:(pts (Go.Proofs.YtpkjkjhanlbcoaaGreat.cm (dM ck) (fun s x=>k.al s.1 x) k.ke) t b).1.length=0
  ·rw[lL _ _ _ _ c];exact d
  ·rw[lM _ _ _ _ c];exact gS.eJ n _ _ d (fun e he=>hd e (sq _ t b e (aK he)))
theorem zZ (k:cf):∀(l:List Int)(s:ck),(l.foldl k.eL s).g=s.g
 |[],_=>rfl
 |x::l,s=>by rw[a9,zZ k l];unfold cf.eL;split<;>rfl
theorem z3 (k:cf):∀(l:List Int)(s:ck),(l.foldl k.gy s).g=s.g
 |[],_=>rfl
 |x::l,s=>by rw[a9,z3 k l];rfl
end
section
variable {a:Wc}{S:co}{Y G:List Int}
theorem Hs (h:eA a S.s Y G)(hb:cJ a S.s)(p:S.s.y<=a.O-S.s.g)(he:jn a S):∃D,gS (S.s.k0 a) (S.s.z0 G) D ((S.s.k0 a).eT (S.t3 a) S.r)/\df (S.s.k0 a) (S.t3 a).1 (S.s4 a):=by
 have q:(S.s.k0 a).T=Y:=nY h.inv.full hb.n1 hb.y1 hb.o1 hb.g1;have d:∀x,tB a.N S.s.y S.s.g S.s.ws x=true->jI (S.s.k0 a) (S.s.z0 G) x:=fun x f=>by
  obtain⟨q1,q2⟩:=(iY h.inv.full hb.n1 hb.y1 hb.o1 hb.g1).1 f;refine⟨q1,?_⟩
  rw[q];exact q2
 have i:=LI.start h.inv.full hb.n0 hb.n1 hb.o1 hb.y1 hb.g1 hb.l1 p;obtain⟨H1,c,s,⟨ag,u⟩,l1,y1,_,m1⟩:=i.cK 12 (by show 12<=S.s.rs.length;rw[hb.r1];exact aD _)
 have j:dB a.N S.s.y (S.s.s1 a).g (S.s.s1 a).ws=G++H1:=(c.mi.full.lists hb.n1 hb.y1 hb.o1 c.mi.ci.hg).2;have v:(S.s.s1 a).nx=((S.s.k0 a).N:Int)+(S.s.z0 G).g:=(lg _ _ 12).2.2;have B:d9 ((S.s.k0 a).l0 (S.s.z0 G)) (((S.s.k0 a).N:Int)+(S.s.z0 G).g) (S.s.k0 a).N (S.s.z0 G).G:=h.inv.full.ej;obtain⟨k,g,m,n,F,⟨ai,al⟩,_,hD⟩:=LI.po (dY a.O) S.s.M B (G++H1) c ((dN.start a S.s G).cK i.mi 12 c.mi s ⟨_,u⟩) (fun x f=>(List.mem_append.1 f).imp id (fun N=>c.mi.hlo x N))
 have W:(G++H1).foldl ((S.s.k0 a).f_ (((S.s.k0 a).N:Int)+(S.s.z0 G).g) (dY a.O) S.s.M) ((S.s.k0 a).cK (S.s.s0 a) 12)=S.s.s2 a:=by unfold eh.s2 cf.lm;rw[j,v];rfl
 have hlen:=qR (S.s.k0 a) (((S.s.k0 a).N:Int)+(S.s.z0 G).g) (dY a.O) S.s.M (G++H1) ((S.s.k0 a).cK (S.s.s0 a) 12)
 rw[W] at m n F hlen;have ap:(G++H1).length<=2000:=(j▸iD _ _)
 obtain⟨q1,q2,q3⟩:=lg _ _ 12;have cb:ez (S.s.k0 a) (S.s.s2 a):=by exact ua
 have key:∀s2:ck,LI (S.s.k0 a) (S.s.z0 G) s2 k g->dN (S.s.k0 a) (S.s.z0 G) s2 k->ez (S.s.k0 a) s2->_:=fun s2 l w b=>
  gS.sp (t:=(s2,S.q)) l w b (fun e hq=>⟨d _ (he e (aK hq)).1,e.2,d _ (he e (aK hq)).2,aL rfl⟩)
 have o:gS (S.s.k0 a) (S.s.z0 G) g (S.t3 a):=by exact key _ m n cb
 refine⟨g,gS.eJ _ (S.t3 a) _ o (fun e hq=>?_),?_⟩
 ·have hq:=(List.mem_filter.1 hq).1;exact⟨d _ (he e (aL hq)).1,d _ (he e (aL hq)).2⟩
 ·obtain⟨K,r1,ab,_⟩:=o;obtain⟨_,_,_,ad,_⟩:=cZ.eT (S.t3 a) S.r K r1 ab;exact ad
theorem jn.cut (h:eA a S.s Y G)(hb:cJ a S.s)(he:jn a S):jn a (S.cut a):=by
 cases hf:S.full a
 ·have w:S.s.y<=a.O-S.s.g:=by have:=of_decide_eq_false hf;omega
  obtain⟨K,D,c⟩:=qS h hb w;obtain⟨a0,⟨H,s1,s2,_,s4,s5⟩,jm⟩:=Hs h hb w he;have ad:(S.s.k0 a).T=Y:=nY h.inv.full hb.n1 hb.y1 hb.o1 hb.g1;have hN:=hb.n1;have hO:=hb.o1;have hg:=c.li.mi.ci.hg;have a1:(S.s.k0 a).N=a.N:=rfl;have a2:(S.s.k0 a).O=a.O:=rfl;have ag:(S.s6 a).g=(S.s4 a).g:=(z3 _ _ _).trans (zZ _ _ _)
  have g:S.cut a=⟨⟨0,(S.s6 a).g,(S.s6 a).ws,[],(S.s6 a).rs⟩,(S.s.k0 a).sR (S.t3 a) S.r,(S.s.k0 a).i6 (S.t3 a) S.r⟩:=by unfold co.cut;rw[aH (by rw[hf];simp)]
  have s:∀x,c7 x=true->cj x∈G++K->tB a.N (S.cut a).s.y (S.cut a).s.g (S.cut a).s.ws x=true:=fun x i j=>(g▸(iY (O:=a.O) (c.done h hb).full hN (aX _) hO (by rw[ag];exact hg)).2 ⟨i,aK j⟩)
  have B:∀v∈(S.s.k0 a).T,(S.s4 a).f v≠-1->c7 (ew 3 ((S.s4 a).f v))=true/\cj (ew 3 ((S.s4 a).f v))∈G++K:=fun v ai al=>by
   have F:=c.li.mi.fh _ ai al;have a3:=c.li.mi.iX F;obtain⟨n,t⟩:∃n:Nat,(S.s4 a).f v=n:=⟨((S.s4 a).f v).toNat,aa⟩
   rw[t];obtain⟨w1,d⟩:=mS n aa;rw[d,<-t];rw[<-t] at w1;exact⟨w1,bm _ F⟩
  have N:∀x,(S.s.k0 a).cL x=true->cj x∈(S.s.k0 a).T:=fun x k=>by unfold cf.cL at k;rw[bh] at k;simpa using k.2
  have key:∀x,jI (S.s.k0 a) (S.s.z0 G) x->(S.s.k0 a).al (S.s4 a) x=true->tB a.N (S.cut a).s.y (S.cut a).s.g (S.cut a).s.ws ((S.s.k0 a).nw (S.s4 a) x)=true:=fun x l ha=>by
   cases hy:(S.s.k0 a).cL x
   ·have b:(S.s.k0 a).nw (S.s4 a) x=x:=by unfold cf.nw;rw[hy];rfl
    rw[b];refine s x l.1 (a7 _ ?_)
    rcases l.2 with q|q
    ·unfold cf.cL at hy;rw[l.1] at hy;simp at hy;exact absurd q hy
    ·exact q
   ·have W:(S.s4 a).f (cj x)≠-1:=fun e=>by unfold cf.al cf.ls at ha;rw[hy,e] at ha;simp at ha
    have b:(S.s.k0 a).nw (S.s4 a) x=ew 3 ((S.s4 a).f (cj x)):=by unfold cf.nw;rw[hy,aJ (by simp[W])]
    rw[b];obtain⟨w1,d⟩:=B _ (N x hy) W;exact s _ w1 d
  have ap:∀f x,jI (S.s.k0 a) (S.s.z0 G) f->(S.s.k0 a).ml (S.s4 a) f x->(S.s.k0 a).al (S.s4 a) x=true->tB a.N (S.cut a).s.y (S.cut a).s.g (S.cut a).s.ws ((S.s.k0 a).nw (S.s4 a) x)=true:=fun f x l hm ha=>by
   rcases hm with rfl|⟨m1,ar,ax⟩
   ·exact key _ l ha
   ·obtain⟨w1,d⟩:=B _ (N f m1) ar;rw[<-ax] at w1 d;have b:(S.s.k0 a).nw (S.s4 a) x=x:=by unfold cf.nw;rw[(c.li.mi.nW d)];rfl
    rw[b];exact s _ w1 d
  have ab:∀x,tB a.N S.s.y S.s.g S.s.ws x=true->jI (S.s.k0 a) (S.s.z0 G) x:=fun x k=>by
   obtain⟨q1,aF⟩:=(iY (O:=a.O) h.inv.full hb.n1 hb.y1 hb.o1 hb.g1).1 k;refine⟨q1,?_⟩
   rw[ad];exact aF
  intro e hm;rcases hm with hm|hm
  ·have b:(S.cut a).r=(S.s.k0 a).sR (S.t3 a) S.r:=by rw[g]
   rw[b] at hm;have hm:=hm;obtain⟨m,i,j⟩:=List.mem_map.1 hm;obtain⟨o,p⟩:=List.mem_filter.1 i;obtain⟨aR,aT⟩:=List.mem_filter.1 o;obtain⟨u,j2⟩:=he m (aL aR)
   rw[<-j];exact⟨key _ (ab _ u) p,key _ (ab _ j2) (py jm aT)⟩
  ·have b:(S.cut a).q=(S.s.k0 a).i6 (S.t3 a) S.r:=by rw[g]
   rw[b] at hm;have hm:e∈(((S.s.k0 a).eT (S.t3 a) S.r).2.filter (fun e=>(S.s.k0 a).al (S.s4 a) e.1)).map fun e=>((S.s.k0 a).nw (S.s4 a) e.1,(S.s.k0 a).nw (S.s4 a) e.2):=hm;obtain⟨m,i,j⟩:=List.mem_map.1 hm;obtain⟨o,p⟩:=List.mem_filter.1 i;obtain⟨u,f,j2,cA⟩:=s4 m o;rw[<-j];refine⟨key _ u p,ap f _ j2 cA ?_⟩
   rcases s5 m o with q|q
   ·exact q
   ·have q:(S.s.k0 a).al (S.s4 a) m.1=false:=q;rw[p] at q;cases q
 ·have g:S.cut a=S:=by unfold co.cut;rw[aJ hf]
  rw[g];exact he
end
end Go.Proofs.YtpkjkjhanlbcoaaGreat
