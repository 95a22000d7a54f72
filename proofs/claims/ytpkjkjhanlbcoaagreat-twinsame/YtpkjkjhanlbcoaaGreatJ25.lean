import Derived.Test.YtpkjkjhanlbcoaaGreatJ24
namespace Go.Proofs.YtpkjkjhanlbcoaaGreat
open Go.RowKit W Kp cf
theorem tU {P:Prop}(h:P:=by
 obtain⟨u1,u2,u3,_⟩:=hlen;rw[q1] at u1;rw[q2] at u2;rw[q3] at u3;have u1:(S.s.s2 a).wk.length<=0+(G++H1).length:=u1;have u2:(S.s.s2 a).ep.length<=0+(G++H1).length:=u2;have u3:=u3;have o1:=hb.o1;refine⟨?_,?_⟩
 ·rw[u3];show(S.s.s2 a).wk.length+((a.N:Int)+a.O+13-((a.N:Int)+S.s.g)).toNat<=4000;omega
 ·rw[u3];show(S.s.s2 a).ep.length+((a.N:Int)+a.O+13-((a.N:Int)+S.s.g)).toNat<=4000;omega):P:=h
section
variable {k:ce}{z:C0}{s:cj}{H D:List Int}
theorem LI.fy (h:LI k z s H D)
 (hz:∀v,(v∈k.T\/v∈z.G)->∀i,0<=i->i<pf (k.l0 z v)->cY (k.l0 z (v+1+i))=true->cg (k.l0 z (v+1+i))∈k.T\/cg (k.l0 z (v+1+i))∈z.G)
 {b:Int}(hb:b∈z.G++H){i:Int}(i0:0<=i)(i1:i<pf (k.ld s b))(ha:cY (k.ld s (b+1+i))=true)(hy:k.cK (k.ld s (b+1+i))=false):cg (k.ld s (b+1+i))∈z.G++H:=by
 obtain⟨a,o⟩:=h.mi.from hb;rw[(h.mi.hd a b o)] at i1;have hm:=h.mi.fd a b o i i0 i1;have y4:a∈k.T\/a∈z.G:=by
  rcases o with⟨e,d⟩|⟨d,_⟩
  ·exact aJ (by rw[e];exact d)
  ·exact aK d
 exact y3
theorem dE.om (h:dE k z s H){x:Int}(b:cg x∈z.G++H):k.cK x=false:=by
 unfold ce.cK;have e:k.T.contains (cg x)=false:=by
  cases hc:k.T.contains (cg x)
  ·rfl
  ·exact absurd (by simpa using hc) (h.ci.yK (h.bd b).1)
 rw[e,Bool.and_false]
theorem za (k:ce):∀(n:Nat)(s:cj),(k.lb n s).rs=s.rs
 |0,s=>rfl
 |n+1,s=>by
  unfold ce.lb;split
  ·exact(za k n _).trans (qC k s s.nx).2
  ·rfl
theorem zb (k:ce):∀(l:List Int)(t:List Int×cj),(l.foldl k.cP t).2.rs=t.2.rs
 |[],t=>rfl
 |a::l,t=>by
  refine(zb k l _).trans ?_;unfold ce.cP;split
  ·rfl
  ·exact(jT ..).2.2.2.trans (jT ..).2.2.2
theorem Gj (k:ce)(s:cj):(k.kv s).2.rs=s.rs:=zb k s.ep ([],s)
theorem zc (k:ce):∀(l:List Nat)(t:(cj×List b7)×Bool),(l.foldl (dB k.al k.br) t).1.1.rs=t.1.1.rs
 |[],t=>rfl
 |a::l,t=>by
  refine(zc k l _).trans ?_;unfold dB;split
  ·rfl
  ·exact(l8 ..).1
theorem qJ (k:ce):∀(n:Nat)(t:cj×List b7),(k.cW n t).1.rs=t.1.rs
 |0,t=>rfl
 |n+1,t=>by
  have b:(k.kv (k.lb (k.O+1) t.1)).2.rs=t.1.rs:=(Gj ..).trans (za ..)
  have c:(k.wa ((k.kv (k.lb (k.O+1) t.1)).2,t.2)).1.1.rs=t.1.rs:=(zc k _ (((k.kv _).2,t.2),false)).trans b;unfold ce.cW;split
  ·exact(qJ k n _).trans b
  ·split
   ·exact(qJ k n _).trans c
   ·exact c
theorem Gk (k:ce)(t:cj×List b7)(x:Int):(k.ke t x).2.1.rs=t.1.rs:=(qJ ..).trans (l8 ..).1
theorem Gm (k:ce)(t:cj×List b7)(e:b7):(cm (dI cj) (fun s x=>k.al s.1 x) k.ke t e).2.1.rs=t.1.rs:=by
 unfold cm;split
 ·exact Gk k t e.2
 ·rfl
theorem zd (k:ce)(l:List b7)(t:cj×List b7):(pts (cm (dI cj) (fun s x=>k.al s.1 x) k.ke) t l).2.2.1.rs=t.1.rs:=by
 have key:∀(l:List b7)(p:List b7×List b7×(cj×List b7)),(l.foldl (eh (cm (dI cj) (fun s x=>k.al s.1 x) k.ke)) p).2.2.1.rs=p.2.2.1.rs:=by
  intro l
  induction l with
  |nil=>exact fun p=>rfl
  |cons e l c=>
   intro p;refine(c _).trans ?_;have b:=Gm k p.2.2 e;unfold eh;split
   ·exact b
   ·exact b
 exact key l ([],[],t)
theorem ze (k:ce):∀(n:Nat)(t:cj×List b7)(b:List b7),(eB (cm (dI cj) (fun s x=>k.al s.1 x) k.ke) n t b).1.1.rs=t.1.rs
 |0,t,b=>rfl
 |n+1,t,b=>by
  unfold eB;split
  ·exact zd k b t
  ·exact(ze k n _ _).trans (zd k b t)
theorem Gn (k:ce)(t:cj×List b7)(r:List b7):(k.eW t r).1.rs=t.1.rs:=ze k _ _ _
theorem qK (k:ce)(e c:Int)(M:List Int):∀(l:List Int)(s:cj),(l.foldl (k.gh e c M) s).wk.length<=s.wk.length+l.length/\(l.foldl (k.gh e c M) s).ep.length<=s.ep.length+l.length/\(l.foldl (k.gh e c M) s).nx=s.nx/\(l.foldl (k.gh e c M) s).rs=s.rs
 |[],s=>⟨aD _,aD _,rfl,rfl⟩
 |b::l,s=>by
  rw[a8];obtain⟨o,p,f,g⟩:=qK k e c M l _;have key:(k.gh e c M s b).wk.length<=s.wk.length+1/\(k.gh e c M s b).ep.length<=s.ep.length+1/\(k.gh e c M s b).nx=s.nx/\(k.gh e c M s b).rs=s.rs:=by
   unfold ce.gh;split
   ·split
    ·obtain⟨w1,i⟩:=yZ k s b;obtain⟨n1,j⟩:=qC k s b;refine⟨?_,?_,n1,j⟩
     ·rcases w1 with d|⟨_,d⟩
      ·rw[d];omega
      ·rw[d,aX];simp
     ·rcases i with d|⟨_,d⟩
      ·rw[d];omega
      ·rw[d,aX];simp
    ·exact⟨Nat.le_succ _,Nat.le_succ _,rfl,rfl⟩
   ·exact⟨Nat.le_succ _,Nat.le_succ _,rfl,rfl⟩
  obtain⟨k1,q,m,n⟩:=key;simp only [List.length_cons];exact⟨V,V,f.trans m,g.trans n⟩
end
theorem oo {N O y g:Nat}{ws Y G:List Int}(h:d5 N y g ws Y G)(hN:N<=256)(hy:y<=N)(hO:O<=1024)(hg:g<=O):m0 N y g ws=Y:=by unfold m0;rw[(h.lists hN hy hO hg).1];exact List.filter_eq_self.2 (fun x b=>bh (by have:=(h.ty.mem x b).2.1;omega))
def d9.z0 (s:d9)(G:List Int):C0:=⟨s.g,s.ws,G⟩
theorem LI.start {a:Wc}{s:d9}{Y G:List Int}(h:d5 a.N s.y s.g s.ws Y G)(hN:16<=a.N)(hN':a.N<=256)(hO:a.O<=1024)(hy:s.y<=a.N)(hg:s.g<=a.O)(hl:s.ws.length=a.N+a.O)(hr:s.y<=a.O-s.g):LI (s.k0 a) (s.z0 G) (s.s0 a) [] []:=by
 have d:(s.k0 a).T=Y:=oo h hN' hy hO hg;refine⟨⟨CI.start hN hN' hO hy hg hl hr,aD _,?_,fun b hb=>(h.io b hb).2,fun _ _ _=>rfl,fun a _ e=>absurd rfl e,fun a _ b _ e=>absurd rfl e,fun b hb=>(by cases hb),fun b hb=>(by cases hb),fun a b o=>?_,fun a b o i f g=>?_⟩,aJ rfl,fun b hb=>(by cases hb),fun b hb=>(by cases hb),fun b hb=>(by cases hb)⟩
 ·rw[d,List.append_nil];exact h
 ·rcases o with⟨e,_⟩|⟨_,e,c⟩
  ·rw[e];rfl
  ·exact absurd e.symm c
 ·rcases o with⟨e,_⟩|⟨_,e,c⟩
  ·rw[e];exact aK rfl
  ·exact absurd e.symm c
theorem dL.start (a:Wc)(s:d9)(G:List Int):dL (s.k0 a) (s.z0 G) (s.s0 a) []:=⟨fun b hb=>(by cases hb),fun b hb=>(by cases hb)⟩
structure pv (a:Wc)(S:cq)(G K D:List Int):Prop where
 li:LI (S.s.k0 a) (S.s.z0 G) (S.s4 a) K D
 we:dL (S.s.k0 a) (S.s.z0 G) (S.s4 a) K
 he:hB a.N (S.s4 a).g (S.s4 a).nx=false
 hz:∀v,(v∈(S.s.k0 a).T\/v∈G)->∀i,0<=i->i<pf ((S.s.k0 a).l0 (S.s.z0 G) v)->cY ((S.s.k0 a).l0 (S.s.z0 G) (v+1+i))=true->cg ((S.s.k0 a).l0 (S.s.z0 G) (v+1+i))∈(S.s.k0 a).T\/cg ((S.s.k0 a).l0 (S.s.z0 G) (v+1+i))∈G
 hc:∀v∈G,v∉D->∀i,0<=i->i<pf ((S.s.k0 a).l0 (S.s.z0 G) v)->(S.s.k0 a).cK ((S.s.k0 a).l0 (S.s.z0 G) (v+1+i))=false
 rl:(S.s4 a).rs.length=12
 zf:∀i,i<12->(S.s.k0 a).cK ((S.s4 a).rs.getD i 0)=false
 rm:∀i,i<12->(S.s.k0 a).ml (S.s4 a) (S.s.rs.getD i 0) ((S.s4 a).rs.getD i 0)
section
variable {a:Wc}{S:cq}{Y G:List Int}
theorem qL (h:el a S.s Y G)(hb:cI a S.s)(hr:S.s.y<=a.O-S.s.g):∃K D,pv a S G K D:=by
 have n:(S.s.k0 a).T=Y:=oo h.inv.full hb.n1 hb.y1 hb.o1 hb.g1;have o:=LI.start h.inv.full hb.n0 hb.n1 hb.o1 hb.y1 hb.g1 hb.l1 hr;obtain⟨H1,d,s,⟨W,u⟩,l1,y1,_,m1⟩:=o.cJ 12 (by show 12<=S.s.rs.length;rw[hb.r1];exact aD _)
 have p:dD a.N S.s.y (S.s.s1 a).g (S.s.s1 a).ws=G++H1:=(d.mi.full.lists hb.n1 hb.y1 hb.o1 d.mi.ci.hg).2;have A:(S.s.s1 a).nx=((S.s.k0 a).N:Int)+(S.s.z0 G).g:=(lC _ _ 12).2.2;have C:d4 ((S.s.k0 a).l0 (S.s.z0 G)) (((S.s.k0 a).N:Int)+(S.s.z0 G).g) (S.s.k0 a).N (S.s.z0 G).G:=h.inv.full.ec;obtain⟨c,e,g,j,q,⟨X,ab⟩,_,E⟩:=LI.pt (dF a.O) S.s.M C (G++H1) d ((dL.start a S.s G).cJ o.mi 12 d.mi s ⟨_,u⟩) (fun x F=>(List.mem_append.1 F).imp id (fun H=>d.mi.hlo x H))
 have I:(G++H1).foldl ((S.s.k0 a).gh (((S.s.k0 a).N:Int)+(S.s.z0 G).g) (dF a.O) S.s.M) ((S.s.k0 a).cJ (S.s.s0 a) 12)=S.s.s2 a:=by unfold d9.s2 ce.lm;rw[p,A];rfl
 have hlen:=qK (S.s.k0 a) (((S.s.k0 a).N:Int)+(S.s.z0 G).g) (dF a.O) S.s.M (G++H1) ((S.s.k0 a).cJ (S.s.s0 a) 12)
 rw[I] at g j q hlen;have ad:(G++H1).length<=2000:=by rw[<-p];exact iL _ _
 obtain⟨q1,q2,q3⟩:=lC _ _ 12;have cb:ee (S.s.k0 a) (S.s.s2 a):=by exact tU
 have J:Rest (S.s.k0 a) (S.s.z0 G) e c (S.t3 a).1:=by
  have key:∀s2:cj,LI (S.s.k0 a) (S.s.z0 G) s2 c e->dL (S.s.k0 a) (S.s.z0 G) s2 c->ee (S.s.k0 a) s2->_:=fun s2 l w b=>Rest.sp (t:=(s2,S.q)) l w b ⟨[],(List.append_nil _).symm⟩
  exact key _ g j cb
 have L:Rest (S.s.k0 a) (S.s.z0 G) e c (S.s4 a):=by exact J.eW S.r
 obtain⟨K,M,N,_,he,⟨B,ag⟩⟩:=L;have k:(S.s4 a).rs=(S.s.s1 a).rs:=by unfold cq.s4;rw[Gn];unfold cq.t3 ce.sp;rw[qJ];exact hlen.2.2.2
 have iY:dh (S.s.k0 a) (S.s.s1 a) (S.s4 a):=by
  have key:∀s2:cj,LI (S.s.k0 a) (S.s.z0 G) s2 c e->dL (S.s.k0 a) (S.s.z0 G) s2 c->dh (S.s.k0 a) s2 ((S.s.k0 a).eW ((S.s.k0 a).sp (s2,S.q)) S.r).1:=fun s2 l w=>by obtain⟨O,f,Q,R,_⟩:=cX.sp (s2,S.q) c l w;obtain⟨ai,_,_,cA,_⟩:=cX.eW _ S.r O f Q;exact R.trans cA
  exact q.trans (key _ g j)
 refine⟨K,e,M,N,he,fun v hv i m f ha=>?_,fun v hv U i m f=>?_,?_,fun i hi=>?_,fun i hi=>?_⟩
 ·rw[n] at hv⊢;exact h.inv.fd v hv i m f ha
 ·cases hc:(S.s.k0 a).cK _
  ·rfl
  ·exfalso;unfold ce.cK at hc;rw[a_,n] at hc;exact U (E v (aY _ hv) hv (h.cd v hv i m f hc.1 (List.contains_iff_mem.1 hc.2)))
 ·rw[k];exact l1.trans hb.r1
 ·rw[k];exact y1 i hi
 ·rw[k];exact iY.ml (m1 i hi)
theorem pv.root {K D:List Int}(c:pv a S G K D)(h:el a S.s Y G)(hb:cI a S.s):∀x∈(S.s4 a).rs,jU (S.s.k0 a) (G++K) x:=fun x j ha=>by
 have k:(S.s.k0 a).T=Y:=oo h.inv.full hb.n1 hb.y1 hb.o1 hb.g1;obtain⟨i,hi,e⟩:=List.mem_iff_getElem.1 j;have b:i<12:=by rw[<-c.rl];exact hi
 have l:(S.s4 a).rs.getD i 0=x:=by rw[aE,aL hi,e];rfl
 have hy:=c.zf i b;have hm:=c.rm i b;rw[l] at hy hm;refine⟨hy,?_⟩
 rcases hm with m|⟨g1,g2,g3⟩
 ·have d:S.s.rs.getD i 0∈S.s.rs:=by
   have hl:i<S.s.rs.length:=by rw[hb.r1];exact b
   rw[aE,aL hl];exact a6 hl
  rw[<-m] at d;rcases h.inv.rt x d ha with g|g
  ·unfold ce.cK at hy;rw[ha,k] at hy;simp at hy;exact absurd g hy
  ·exact aY _ g
 ·have o:cg (S.s.rs.getD i 0)∈(S.s.k0 a).T:=by unfold ce.cK at g1;rw[a_] at g1;simpa using g1.2
  have f:=c.li.mi.fh _ o g2;have p:=c.li.mi.i7 f;have hN:=hb.n1;have hO:=hb.o1;have hg:=c.li.mi.ci.hg;have q:(S.s.k0 a).N=a.N:=rfl;have s:(S.s.k0 a).O=a.O:=rfl;obtain⟨n,hn⟩:∃n:Nat,(S.s4 a).f (cg (S.s.rs.getD i 0))=n:=⟨((S.s4 a).f (cg (S.s.rs.getD i 0))).toNat,V⟩
  rw[g3,hn,(m6 n V).2,<-hn];exact a9 _ f
theorem pv.done {K D:List Int}(c:pv a S G K D)(h:el a S.s Y G)(hb:cI a S.s):ih a.N 0 (S.s6 a).g (S.s6 a).ws [] (G++K) (S.s6 a).rs:=by
 have ci:=c.li.mi.ci;have u:gM (S.s.k0 a) (G++K) (fun b i=>(i=0/\b∈(S.s4 a).wk)\/((i=0\/i=1)/\b∈(S.s4 a).ep)) (S.s4 a):=by
  refine⟨c.li.mi.full,ci.len,ci.hy,ci.hg,fun b hb i k l=>?_,fun b hb i k l hy ha=>⟨hy,c.li.fy c.hz hb k l ha hy⟩⟩
  cases ha:cY _
  ·exact aK (fun e=>by rw[ha] at e;cases e)
  ·rcases c.li.fields c.he c.hz c.hc hb k l ha with s|⟨f,d,v⟩|⟨f,d⟩
   ·exact aK (fun _=>⟨c.li.mi.om s,s⟩)
   ·exact aJ (aK ⟨d,v⟩)
   ·have E:=ii (c.li.mi.bd hb).2.2 (aJ (aJ f))
    exact aJ (aJ ⟨V,d⟩)
 obtain⟨m,k5,g5,n,j⟩:=gM.mw hb.n1 hb.o1 _ u (fun x g=>c.we.wk x g) (fun x g w=>a9 _ (c.li.mi.fh x g w))
 have m:gM (S.s.k0 a) (G++K) _ (S.s5 a):=m;have j:(S.s5 a).ep=(S.s4 a).ep:=j;have n:(S.s5 a).rs=(S.s4 a).rs:=n;have k5:∀b∈G++K,(S.s.k0 a).ld (S.s5 a) b=(S.s.k0 a).ld (S.s4 a) b:=k5;obtain⟨o,k6,F,q⟩:=gM.be (S.s5 a).ep m (fun x g=>by rw[j] at g;obtain⟨q1,A⟩:=c.we.ep x g;exact⟨q1,by rw[k5 x q1];exact A⟩)
 have q:(S.s6 a).rs=(S.s5 a).rs:=q;have o:=o.imp (fun b i p=>by
  obtain⟨⟨B,C⟩,t⟩:=p;rw[j] at t;rcases B with⟨f,d⟩|⟨f,d⟩
  ·exact C ⟨d,f⟩
  ·exact t ⟨d,f⟩)
 exact o.done (by rw[q,n];exact c.root h hb)
theorem el.cut (h:el a S.s Y G)(hb:cI a S.s):∃b d,el a (S.cut a).s b d:=by
 unfold cq.cut;cases hf:S.full a
 ·have hr:S.s.y<=a.O-S.s.g:=by unfold cq.full at hf;have:=of_decide_eq_false hf;omega
  obtain⟨K,D,c⟩:=qL h hb hr;rw[aG Z];exact⟨[],G++K,c.done h hb,fun v _ i _ _ _ hy=>by cases hy⟩
 ·exact⟨Y,G,h⟩
end
open W
def jm (b:Int->Int->Prop):List Int->List Int->Prop
 |[],[]=>True
 |x::l,c::d=>b x c/\jm b l d
 |_,_=>False
theorem jm.of {c:Int->Int->Prop}:∀{l b:List Int},l.length=b.length->(∀i,i<l.length->c (l.getD i 0) (b.getD i 0))->jm c l b
 |[],[],_,_=>trivial
 |[],d::b,h,_=>by simp at h
 |x::l,[],h,_=>by simp at h
 |x::l,d::b,h,hi=>⟨by simpa using hi 0 Z,jm.of (by simpa using h) (fun i e=>by
  have:=hi (i+1) (by simpa using e)
  simpa using this)⟩
def lD (R:Int->Prop)(f:Int->Int)(x b:Int):Prop:=(dk x=3/\dk b=3/\R (de x)/\de b=f (de x))\/(dk x≠3/\dk b=dk x/\de b=de x)
structure px (R:Int->Prop)(f:Int->Int)(T:List Int)(kd:Int->Int)(sh:Int->List Int)(T':List Int)(kd':Int->Int)(sh':Int->List Int):Prop where
 qM:∀a,R a->a∈T
 qN:∀a,R a->f a∈T'
 inj:∀a b,R a->R b->f a=f b->a=b
 kd:∀a,R a->kd' (f a)=kd a
 sh:∀a,R a->jm (lD R f) (sh a) (sh' (f a))
structure Bs (R:Int->Prop)(f:Int->Int)(T T':List Int)(s s':cQ):Prop where
 ok:e9 T s
 ok':e9 T' s'
 ms:s'.1=s.1.map f
 nd:s'.2=s.2
 rs:∀a∈s.1,R a
section
variable {R:Int->Prop}{f:Int->Int}{T T':List Int}{kd kd':Int->Int}{sh sh':Int->List Int}
theorem zi (inj:∀a b,R a->R b->f a=f b->a=b){d:Int}(hd:R d):∀l:List Int,(∀a∈l,R a)->(l.map f).idxOf (f d)=l.idxOf d
 |[],_=>rfl
 |x::l,h=>by
  rw[List.map_cons,List.idxOf_cons,List.idxOf_cons,zi inj hd l (fun a ha=>h a (aO _ ha))];by_cases e:x=d
  ·rw[e,beq_self_eq_true,beq_self_eq_true]
  ·have g:_:=fun c=>e (inj x d (h x List.mem_cons_self) hd c)
   rw[beq_false_of_ne e,beq_false_of_ne g]
theorem tW (inj:∀a b,R a->R b->f a=f b->a=b){d:Int}(hd:R d){l:List Int}(h:∀a∈l,R a):f d∈l.map f↔d∈l:=by
 refine⟨fun c=>?_,fun c=>List.mem_map_of_mem c⟩
 obtain⟨x,e,g⟩:=List.mem_map.1 c;rw[<-inj x d (h x e) hd g];exact e
def tX (R:Int->Prop)(f:Int->Int)(T T':List Int)(n c:Nat)(M d:cQ->Int->cQ):Prop:=
 ∀s b a,Bs R f T T' s b->R a->a∉s.1->T.length<=s.1.length+n->T'.length<=b.1.length+c->Bs R f T T' (M s a) (d b (f a))
theorem Gp (B:px R f T kd sh T' kd' sh'){n l:Nat}{M j:cQ->Int->cQ}(hM:tX R f T T' n l M j){s d:cQ}(h:Bs R f T T' s d)(hn:T.length<=s.1.length+n)(m:T'.length<=d.1.length+l){x k:Int}(o:lD R f x k):
 (eg M T s x).1=(eg j T' d k).1/\Bs R f T T' (eg M T s x).2 (eg j T' d k).2:=by
 unfold eg;rcases o with⟨g,i,b,p⟩|⟨g,i,b⟩
 ·rw[aI g,aI i,aI (List.contains_iff_mem.2 (B.qM _ b)),p,aI (List.contains_iff_mem.2 (B.qN _ b))];have hm:=tW B.inj b h.rs;rw[<-h.ms] at hm;by_cases c:de x∈s.1
  ·rw[aI (List.contains_iff_mem.2 c),aI (List.contains_iff_mem.2 (hm.2 c))];refine⟨?_,h⟩
   rw[h.ms,zi B.inj b s.1 h.rs]
  ·rw[aG (fun e=>c (List.contains_iff_mem.1 e)),aG (fun e=>c (hm.1 (List.contains_iff_mem.1 e)))];refine⟨?_,hM s d (de x) h b c hn m⟩
   rw[h.ms,aW]
 ·rw[aG g,aG (by rw[i];exact g),i,b];exact⟨rfl,h⟩
theorem tY (B:px R f T kd sh T' kd' sh'){n g:Nat}{M c:cQ->Int->cQ}(i:kY T kd sh n M)(j:kY T' kd' sh' g c)(hM:tX R f T T' n g M c):∀(l d:List Int)(r b:List (Int×Int)×cQ),jm (lD R f) l d->r.1=b.1->Bs R f T T' r.2 b.2->T.length<=r.2.1.length+n->T'.length<=b.2.1.length+g->
 (l.foldl (fun r x=>(r.1++[(eg M T r.2 x).1],(eg M T r.2 x).2)) r).1=(d.foldl (fun r x=>(r.1++[(eg c T' r.2 x).1],(eg c T' r.2 x).2)) b).1/\Bs R f T T' (l.foldl (fun r x=>(r.1++[(eg M T r.2 x).1],(eg M T r.2 x).2)) r).2 (d.foldl (fun r x=>(r.1++[(eg c T' r.2 x).1],(eg c T' r.2 x).2)) b).2
 |[],[],r,b,_,e,h,_,_=>⟨e,h⟩
 |[],k::d,r,b,hw,_,_,_,_=>absurd hw (by simp[jm])
 |x::l,[],r,b,hw,_,_,_,_=>absurd hw (by simp[jm])
 |x::l,k::d,r,b,hw,e,h,hn,m=>by obtain⟨w1,o⟩:=hw;obtain⟨p,q⟩:=Gp B hM h hn m w1;have g1:=(oG i h.ok hn x).le;have g2:=(oG j h.ok' m k).le;rw[a8,a8];exact tY B i j hM l d _ _ o (by rw[e,p]) q (by dsimp only;omega) (by dsimp only;omega)
theorem zj (B:px R f T kd sh T' kd' sh'):∀n d:Nat,tX R f T T' n d (met T kd sh n) (met T' kd' sh' d)
 |0,_=>fun s b a h ha e hn _=>by have:=h.ok.lt (B.qM a ha) e;omega
 |n+1,0=>fun s b a h ha e _ l=>by
  have:=h.ok'.lt (B.qN a ha) (fun c=>e ((tW B.inj ha h.rs).1 (by rw[<-h.ms];exact c)))
  omega
 |n+1,d+1=>fun s b a h ha e hn l=>by
  have m:_:=fun c=>e ((tW B.inj ha h.rs).1 (by rw[<-h.ms];exact c))
  have o:Bs R f T T' (s.1++[a],s.2++[(kd a,[])]) (b.1++[f a],b.2++[(kd' (f a),[])]):=⟨h.ok.more (B.qM a ha) e _,h.ok'.more (B.qN a ha) m _,by rw[h.ms];simp,by rw[h.nd,B.kd a ha],fun c hc=>by
   rcases List.mem_append.1 hc with g|g
   ·exact h.rs c g
   ·rw[bv] at g;rw[g];exact ha⟩
  obtain⟨i,j⟩:=tY B (jI n) (jI d) (zj B n d) (sh a) _ ([],(s.1++[a],s.2++[(kd a,[])])) ([],(b.1++[f a],b.2++[(kd' (f a),[])])) (B.sh a ha) rfl o (by simp;omega) (by simp;omega)
  refine⟨(jI (n+1) s a h.ok (B.qM a ha) e hn).ok,(jI (d+1) b (f a) h.ok' (B.qN a ha) m l).ok,j.ms,?_,j.rs⟩
  have k:=j.nd;show(dz _ T' (b.1++[f a],b.2++[(kd' (f a),[])]) _).2.2.set _ (kd' (f a),(dz _ T' (b.1++[f a],b.2++[(kd' (f a),[])]) _).1)=(dz _ T (s.1++[a],s.2++[(kd a,[])]) (sh a)).2.2.set _ (kd a,(dz _ T (s.1++[a],s.2++[(kd a,[])]) (sh a)).1)
  have i:(dz (met T kd sh n) T (s.1++[a],s.2++[(kd a,[])]) (sh a)).1=(dz (met T' kd' sh' d) T' (b.1++[f a],b.2++[(kd' (f a),[])]) (sh' (f a))).1:=i;have k:(dz (met T' kd' sh' d) T' (b.1++[f a],b.2++[(kd' (f a),[])]) (sh' (f a))).2.2=(dz (met T kd sh n) T (s.1++[a],s.2++[(kd a,[])]) (sh a)).2.2:=k;rw[k,<-i,B.kd a ha,h.ms,aW]
theorem Gq (B:px R f T kd sh T' kd' sh'){l c:List Int}(hl:jm (lD R f) l c){n b:Nat}(hn:T.length<=n)(e:T'.length<=b):(dz (met T kd sh n) T ([],[]) l).1=(dz (met T' kd' sh' b) T' ([],[]) c).1/\(dz (met T' kd' sh' b) T' ([],[]) c).2.2=(dz (met T kd sh n) T ([],[]) l).2.2/\(dz (met T' kd' sh' b) T' ([],[]) c).2.1=(dz (met T kd sh n) T ([],[]) l).2.1.map f:=by
 obtain⟨g,d⟩:=tY B (jI n) (jI b) (zj B n b) l c ([],([],[])) ([],([],[])) hl rfl ⟨e9.start T,e9.start T',rfl,rfl,fun a ha=>by cases ha⟩ (by simpa using hn) (by simpa using e)
 exact⟨g,d.nd,d.ms⟩
end
theorem Gr {x:Int}(h:dk x=3):cY x=true:=by
 unfold cY;have h0:dc x=0:=by
  unfold dk at h;split at h
  ·assumption
  ·omega
 rw[h,h0];rfl
theorem tZ {x:Int}(h:cY x=true):dk x=3:=by unfold cY at h;rw[a_] at h;simpa using h.2
section
variable {a:Wc}{S:cq}{Y G K D:List Int}
end
theorem Pos.same {z g:Int->Int}{al i:Int->Bool}{f j:Int->Int}:∀{l:List Int}{n m:Int},(∀a∈l,z a=g a/\al a=i a/\f a=j a)->Pos z al f n l m->Pos g i j n l m
 |[],n,m,_,h=>h
 |a::l,n,m,he,h=>by
  obtain⟨q,k,o⟩:=he a Z;have p:∀{n m:Int},Pos z al f n l m->_:=fun h=>Pos.same (fun b hb=>he b (aO _ hb)) h;refine⟨fun c=>?_,fun c=>?_⟩
  ·obtain⟨d,e⟩:=h.1 (by rw[k];exact c)
   rw[<-o,<-q];exact⟨d,p e⟩
  ·obtain⟨d,e⟩:=h.2 (by rw[k];exact c)
   rw[<-o];exact⟨d,p e⟩
structure l_ (a:Wc)(s:d9)(T:List Int)(j:cu)(s':d9):Prop where
 y:s'.y=0
 M:s'.M=[]
 rl:s'.rs.length=12
 g:s'.g<=a.O
 l:s'.ws.length=a.N+a.O
 pos:Pos (fun c=>pf (ld a.N s.y s.g s.ws c)) (fun c=>!(j.f c==-1)) j.f a.N T (a.N+s'.g)
 rs:∀i,i<12->s'.rs.getD i 0=(s.j0 a).nw j (s.rs.getD i 0)
 hd:∀c∈T,j.f c≠-1->ld a.N 0 s'.g s'.ws (j.f c)=ld a.N s.y s.g s.ws c
 fd:∀c∈T,j.f c≠-1->∀i,0<=i->i<pf (ld a.N s.y s.g s.ws c)->ld a.N 0 s'.g s'.ws (j.f c+1+i)=(s.j0 a).nw j ((s.j0 a).ij j c i)
section
variable {a:Wc}{s:d9}{Y G:List Int}
theorem kO (h:d5 a.N s.y s.g s.ws Y G)(hb:cI a s):(s.j0 a).Y=Y/\(s.j0 a).G=G/\(s.j0 a).T=G++Y:=by
 have c:(s.j0 a).Y=Y:=by show eb _ _=Y;rw[(h.lists hb.n1 hb.y1 hb.o1 hb.g1).1];exact qz (fun x b=>bq (by have:=(h.ty.mem x b).2.1;omega))
 have d:(s.j0 a).G=G:=by show eb _ _=G;rw[(h.lists hb.n1 hb.y1 hb.o1 hb.g1).2];exact qz (fun x b=>bq (by have:=(h.ec.mem x b).2.1;omega))
 exact⟨c,d,by unfold b9.T;rw[c,d]⟩
theorem oq (h:d5 a.N s.y s.g s.ws Y G)(hb:cI a s):∀c∈(s.j0 a).T,kN (s.j0 a) c:=fun c hc=>by
 obtain⟨l,m,f⟩:=kO h hb;rw[f] at hc;rcases List.mem_append.1 hc with d|d
 ·obtain⟨g,j,e⟩:=h.ec.mem c d;exact⟨e,fun i k b=>hZ (by show(a.N:Int)<=_;omega) (by have b:i<=pf (ld a.N s.y s.g s.ws c):=b;show c+i<(a.N:Int)+s.g;omega)⟩
 ·obtain⟨g,j,e⟩:=h.ty.mem c d;exact⟨e,fun i k b=>iM V (by have b:i<=pf (ld a.N s.y s.g s.ws c):=b;show c+i<(s.y:Int);omega)⟩
theorem py (h:d5 a.N s.y s.g s.ws Y G)(hb:cI a s):∀c∈(s.j0 a).T,∀b∈(s.j0 a).T,c<b->c+(1+pf ((s.j0 a).ld c))<=b:=fun c hc b hd q=>by
 obtain⟨g,i,d⟩:=kO h hb;rw[d] at hc hd;show c+(1+pf (ld a.N s.y s.g s.ws c))<=b;have hy:=hb.y1;rcases List.mem_append.1 hc with hc|hc<;>rcases List.mem_append.1 hd with hd|hd
 ·exact h.ec.apart c hc b hd q
 ·have e:=(h.ec.mem c hc).1;have f:=(h.ty.mem b hd).2.1;have:=dj (ld a.N s.y s.g s.ws b)
  omega
 ·have e:=(h.ty.mem c hc).2.1;have f:=(h.ec.mem b hd).1;omega
 ·exact h.ty.apart c hc b hd q
theorem Gs (h:d5 a.N s.y s.g s.ws Y G)(hb:cI a s)(cA:cu)(hm:((s.j0 a).pl cA).2<=a.N+a.O):
 l_ a s (G++Y) ((s.j0 a).pl cA).1 (((s.j0 a).e3 ((s.j0 a).pl cA).1).sl ((s.j0 a).pl cA).1).s/\((((s.j0 a).e3 ((s.j0 a).pl cA).1).sl ((s.j0 a).pl cA).1).s.g:Int)=((s.j0 a).pl cA).2-a.N/\
 (∀c∈G++Y,((s.j0 a).pl cA).1.f c=-1↔cA.f c=-1)/\(∃F,iD ((s.j0 a).e3 ((s.j0 a).pl cA).1) ((s.j0 a).pl cA).1 F/\F 0 ((s.j0 a).e3 ((s.j0 a).pl cA).1,0)):=by
 obtain⟨U,W,o⟩:=kO h hb;have ew:=oq h hb;have X:=py h hb;have J:=(cV.start (s:=s) hb.n1 hb.o1 hb.y1 hb.g1).nd;have hz:∀c,0<=(fun c=>pf ((s.j0 a).ld c)) c:=fun c=>(dj _).1;obtain⟨k,hk⟩:∃k,s.j0 a=k:=⟨_,rfl⟩
 have H:k.a=a:=by rw[<-hk];rfl
 have p:k.s=s:=by rw[<-hk];rfl
 have v:∀x,k.ld x=ld a.N s.y s.g s.ws x:=fun x=>by rw[<-hk];rfl
 have bn:jV k:=⟨by rw[p,H];exact hb.l1,by rw[p,H];exact hb.y1,by rw[p,H];exact hb.g1⟩
 obtain⟨t,_,_,_⟩:=pn (s.j0 a) (fun c=>!(cA.f c==-1)) (s.j0 a).T (cA,a.N) J (fun c _=>rfl)
 have t:Pos (fun c=>pf ((s.j0 a).ld c)) (fun c=>!(cA.f c==-1)) ((s.j0 a).pl cA).1.f a.N (s.j0 a).T ((s.j0 a).pl cA).2:=t;rw[hk] at U W o ew X J hz t hm⊢;obtain⟨j,ab⟩:∃j,(k.pl cA).1=j:=⟨_,rfl⟩
 obtain⟨m,K⟩:∃m,(k.pl cA).2=m:=⟨_,rfl⟩
 rw[ab,K] at t;rw[K] at hm;rw[ab,K];have B:∀c∈k.T,(!(cA.f c==-1))=!(j.f c==-1):=fun c hc=>by
  cases q:(!(cA.f c==-1))
  ·rw[t.no c hc q];rfl
  ·have:=(t.bd hz c hc q).1;rw[beq_false_of_ne V];rfl
 have P:=t.same (fun c hc=>⟨rfl,B c hc,rfl⟩)
 have bo:∀c∈k.T,j.f c=-1↔cA.f c=-1:=fun c hc=>by
  have:=B c hc;constructor
  ·intro q;rw[q] at this
   simpa using this
  ·intro q;rw[q] at this
   simpa using this.symm
 obtain⟨ad,ag,t3,ai,al,g,am,an,C,ao⟩:=pr (s:=j) bn (by rw[p];exact hb.r1) J ew X;obtain⟨k5,bp⟩:∃k5,k.e3 j=k5:=⟨_,rfl⟩
 rw[bp] at ad ag t3 ai al g am an C ao⊢;have L:∀c∈k.T,pf (k5.ld c)=pf (k.ld c):=fun c hc=>by rw[C c hc]
 have f:=ad.trans H;have M:=t3.trans W;have I:∀c,c∈G\/c∈Y->c∈k.T:=fun c hc=>by rw[o];exact List.mem_append.2 hc
 rw[o] at P;obtain⟨N,br,bs⟩:=P.app;have ap:Pos (fun c=>pf (k5.ld c)) (fun c=>!(j.f c==-1)) j.f (k5.a.N+(0:Int)) G N:=by rw[f,Int.add_zero];exact br.same (fun c hc=>⟨(L c (I c (aK hc))).symm,rfl,rfl⟩)
 have ar:=bs.same (fun c hc=>⟨(L c (I c (aJ hc))).symm,rfl,rfl⟩)
 have aB:∀c,0<=(fun c=>pf (k5.ld c)) c:=fun c=>(dj _).1;have b6:=ar.le aB;have aF:jk k5 (fun c=>!(j.f c==-1)) j.f N [] G (k5,0):=by
  refine⟨kt.refl _,rfl,Int.le_refl _,ap,⟨a.N,?_,by rw[f];dsimp only;omega,fun _ _ _=>rfl⟩,fun _ _ _=>rfl,fun c hc=>by cases hc⟩
  rw[f,al,p];exact h.ec.heads (fun x aR=>by rw[C x (I x (aK aR)),v])
 have aV:∀c∈k5.G,(fun c=>!(j.f c==-1)) c=!(j.f c==-1):=fun _ _=>rfl;have l:=jk.all g.l g.y g.g aV G [] (k5,0) (fun c hc=>by rw[M];exact hc) aF;have O:=l.pos;have a0:k5.lA j k5.G=gU (fun _ a=>j.f a) (b9.i6 j) (k5,0) G:=by unfold b9.lA;rw[M]
 obtain⟨d,bt⟩:∃d,gU (fun _ a=>j.f a) (b9.i6 j) (k5,0) G=d:=⟨_,rfl⟩
 rw[bt] at l O a0;have u0:=l.u0;rw[f] at O;have bx:=g.g;have a1:=g.y;rw[f] at bx a1;obtain⟨k1,a2⟩:∃k1,k5.sl1 j=k1:=⟨_,rfl⟩
 have w:k1=d.1.ar d.1.s.y d.2.toNat d.1.s.ws:=by rw[<-a2];unfold b9.sl1;rw[a0]
 have g1:(k1.s.g:Int)=d.2:=by rw[w];show(d.2.toNat:Int)=_;omega
 have Q:=l.sm.a;have R:=l.sm.y;have bb:∀x:Int,(0<=x/\x<k5.s.y)\/((a.N:Int)<=x/\x<a.N+d.2/\x<a.N+k5.s.g)->k1.ld x=d.1.ld x:=fun x aR=>by
  have u:dd d.1.a.N d.1.s.y d.1.s.g x=true:=by rw[Q,R,l.g,f];exact(ll _ _ _ _).2 V
  have bY:dd d.1.a.N d.1.s.y d.2.toNat x=true:=by rw[Q,R,f];exact(ll _ _ _ _).2 V
  rw[w];show ld d.1.a.N d.1.s.y d.2.toNat d.1.s.ws x=ld d.1.a.N d.1.s.y d.1.s.g d.1.s.ws x;rw[dW u,dW bY]
 obtain⟨b,bZ,b0,_⟩:=l.tl;have b1:_=_:=bZ;rw[f] at b0 b1;have C0:lB k5 (fun c=>!(j.f c==-1)) j.f m G Y k1:=by
  refine⟨⟨by rw[w];exact Q,by rw[w];exact R,by rw[w];exact l.sm.rs,by rw[w];exact l.sm.len⟩,by rw[f];omega,?_,fun x bd be=>?_,fun c hc B=>?_⟩
  ·rw[f,g1,O];exact ar
  ·rw[bb x (aK ⟨bd,be⟩)];exact l.cK x bd be
  ·obtain⟨r1,bg⟩:=l.rel c hc B;have r3:=(ap.bd aB c hc B).1;rw[f] at r1 r3⊢;refine⟨V,V,fun i D u=>?_⟩
   rw[bb _ (aJ ⟨V,V,V⟩)];exact bg i D u
 have n:=lB.all (s:=j) g.l g.y (by rw[f];exact hm) Y G k1 (fun c hc=>by
  have S:=I c (aJ hc)
  obtain⟨q1,b2,q3⟩:=h.ty.mem c hc;rw[C c S,v,ai,p];exact⟨rfl,q1,b2,q3⟩) C0
 obtain⟨e,bi⟩:∃e,k1.pj j Y=e:=⟨_,rfl⟩
 rw[bi] at n;have b3:k5.sl2 j=e:=by unfold b9.sl2;rw[a2,(ag.trans U)];exact bi
 have bl:(k5.sl j).s=⟨0,e.s.g,e.s.ws,[],e.s.rs⟩:=by unfold b9.sl;rw[b3];rfl
 have b4:(a.N:Int)+e.s.g=m:=by
  have:=n.pos;rw[f] at this
  exact this
 have b5:e.s.y<=a.N:=by rw[n.sm.y];exact a1
 have rel:∀c∈G++Y,j.f c≠-1->(a.N:Int)<=j.f c/\∀i,0<=i->i<=pf (k.ld c)->ld a.N 0 e.s.g e.s.ws (j.f c+i)=k5.ld (c+i):=fun c hc A=>by
  have S:c∈k.T:=by rw[o];exact hc
  obtain⟨r1,bg,r3⟩:=n.rel c hc (by rw[beq_false_of_ne A];rfl)
  rw[f] at r1;refine⟨r1,fun i D u=>?_⟩
  rw[tP (y:=e.s.y) V b5,<-r3 i D (by rw[L c S];exact u)];show ld a.N e.s.y e.s.g e.s.ws _=ld e.a.N e.s.y e.s.g e.s.ws _;rw[(n.sm.a.trans f)]
 refine⟨?_,?_,fun c hc=>bo c (by rw[o];exact hc),⟨_,(jk.qI (m:=N) g.l g.y g.g (by rw[f];exact hb.n1) (by rw[f];exact hb.o1) aV (by rw[f];omega)),?_⟩⟩
 ·rw[bl];refine⟨rfl,rfl,?_,?_,?_,?_,fun i hi=>?_,fun c hc A=>?_,fun c hc A i D u=>?_⟩
  ·show e.s.rs.length=12;rw[n.sm.rs];exact am
  ·show e.s.g<=a.O;omega
  ·show e.s.ws.length=a.N+a.O;rw[n.sm.len,g.l,f]
  ·show Pos _ _ _ _ _ _;rw[b4];exact P.same (fun c hc=>⟨by rw[v],rfl,rfl⟩)
  ·show e.s.rs.getD i 0=_;rw[n.sm.rs,an i hi,p,hk]
  ·have E:=(rel c hc A).2 0 V (dj _).1;rw[Int.add_zero,Int.add_zero,C c (by rw[o];exact hc),v] at E;exact E
  ·have E:=(rel c hc A).2 (1+i) V (by rw[v];omega)
   rw[<-Int.add_assoc,<-Int.add_assoc,ao c (by rw[o];exact hc) A i D (by rw[v];exact u),<-hk] at E;exact E
 ·rw[bl];show(e.s.g:Int)=m-a.N;omega
 ·rw[List.take_zero,List.drop_zero,M];exact aF
end
section
variable {T:List Int}{kd:Int->Int}{sh:Int->List Int}
end
theorem Gt {N y g:Nat}{ws Y G:List Int}(h:d5 N y g ws Y G)(hy:y<=N)(Q:List b7){c:Int}(hc:c∈Y\/c∈G)(d:pk (ld N y g ws c)≠5):(∀i:Nat,i<(eV N y g ws Q c).length->(eV N y g ws Q c).getD i 0=ld N y g ws (c+1+(i:Int)))/\(∀i:Nat,(i:Int)<pf (ld N y g ws c)->ld N y g ws (c+1+(i:Int))∈eV N y g ws Q c):=by
 have hl:=yO h hy Q hc d;have key:∀i:Nat,i<(eV N y g ws Q c).length->(eV N y g ws Q c).getD i 0=ld N y g ws (c+1+(i:Int)):=fun i hi=>by unfold eV at hi⊢;rw[aG d] at hi⊢;rw[aE,aL hi];simp
 refine⟨key,fun i hi=>?_⟩
 have b:i<(eV N y g ws Q c).length:=V;rw[<-key i b,aE,aL b];exact a6 b
section
variable {a:Wc}{s:d9}{Y G:List Int}
theorem Gu {k:b9}{j:cu}{x:Int}(i:cY x=true->cg x∈k.T/\j.f (cg x)≠-1)(l:∀c∈k.T,j.f c≠-1->0<=j.f c/\j.f c<1000000):lD (fun c=>c∈k.T/\j.f c≠-1) j.f x (k.nw j x)/\(cY (k.nw j x)=true->∃c∈k.T,j.f c≠-1/\cg (k.nw j x)=j.f c):=by
 cases ha:cY x
 ·have e:k.nw j x=x:=by unfold b9.nw b9.jt;rw[ha];rfl
  rw[e];refine⟨aJ ⟨fun b=>?_,rfl,rfl⟩,fun b=>?_⟩
  ·rw[Gr b] at ha;cases ha
  ·rw[ha] at b;cases b
 ·obtain⟨d,f⟩:=i ha;have e:k.nw j x=ew 3 (j.f (cg x)):=by unfold b9.nw b9.jt;rw[ha,List.contains_iff_mem.2 d,beq_false_of_ne f];rfl
  obtain⟨m,b1⟩:=l _ d f;obtain⟨n,hn⟩:∃n:Nat,j.f (cg x)=n:=⟨(j.f (cg x)).toNat,V⟩
  obtain⟨w1,g⟩:=m6 n V;rw[<-hn,<-e] at w1 g;refine⟨aK ⟨tZ ha,tZ w1,⟨by rw[<-lN x ha];exact d,by rw[<-lN x ha];exact f⟩,?_⟩,fun _=>⟨cg x,d,f,g⟩⟩
  rw[<-lN x ha,<-lN _ w1];exact g
end
def cu.lf (j:cu)(T:List Int):List Int:=(T.filter (fun c=>!(j.f c==-1))).map j.f
section
variable {a:Wc}{s s':d9}{Y G:List Int}{j:cu}
theorem l_.bd (g:l_ a s (G++Y) j s'):∀c∈G++Y,j.f c≠-1->(a.N:Int)<=j.f c/\j.f c+(1+pf (ld a.N s.y s.g s.ws c))<=a.N+s'.g:=fun c hc b=>g.pos.bd (fun c=>(dj _).1) c hc (by rw[beq_false_of_ne b];rfl)
theorem t1 {T:List Int}{x:Int}:x∈j.lf T↔∃c∈T,j.f c≠-1/\j.f c=x:=by
 unfold cu.lf;rw[List.mem_map];constructor
 ·rintro⟨c,b,d⟩
  obtain⟨e,f⟩:=List.mem_filter.1 b;exact⟨c,e,by simpa using f,d⟩
 ·rintro⟨c,b,d,e⟩
  exact⟨c,List.mem_filter.2 ⟨b,by rw[beq_false_of_ne d];rfl⟩,e⟩
theorem l_.full (g:l_ a s (G++Y) j s')(h:d5 a.N s.y s.g s.ws Y G):d5 a.N 0 s'.g s'.ws [] (j.lf (G++Y)):=by
 refine⟨rfl,g.pos.tM (fun c=>(dj _).1) (fun c hc d=>?_)⟩
 have e:j.f c≠-1:=by simpa using d
 rw[g.hd c hc e];refine⟨?_,rfl⟩
 rcases List.mem_append.1 hc with b|b
 ·exact(h.ec.mem c b).2.2
 ·exact(h.ty.mem c b).2.2
end
section
variable {a:Wc}{S:cq}{Y G:List Int}
end
section
variable {c:ki}{F:Nat->Prop}{S:cq×ck}{w:ax}
end
section
variable {c:ki}{F:Nat->Prop}{S:cq×ck}{w:ax}{j:Nat}
theorem zk:cY 2=false:=aa
end
section
variable {a:Wc}{s:d9}{Y G:List Int}
end
end Go.Proofs.YtpkjkjhanlbcoaaGreat
