import Derived.Test.YtjckpdepffejnaaGreatDoorJ12
open Bool renaming and_eq_true->nS,false->O4,true->O5
open Int renaming add_assoc->Mc,add_zero->Dn,toNat->K
open List renaming append_nil->mq,contains_iff_mem->bT,filter_eq_self->nX,getD->X,length->L,mem_append->bw,mem_filter->bK,mem_iff_getElem->bP,mem_map->bS,mem_singleton->bN
namespace Go.Proofs.YtjckpdepffejnaaGreatDoor
open Go.RowKit W Kp ch
theorem v_ {P:Prop}(h:P:=by
 obtain⟨u1,u2,u3,_⟩:=hlen;rw[q1] at u1;rw[q2] at u2;rw[q3] at u3;have u1:(S.s.s2 a).wk.length<=0+(G++H1).length:=u1;have u2:(S.s.s2 a).ep.length<=0+(G++H1).length:=u2;have u3:=u3;have o1:=hb.o1;refine⟨?_,?_⟩
 ·rw[u3];show(S.s.s2 a).wk.length+((a.N:Int)+a.O+13-((a.N:Int)+S.s.g)).toNat<=4000;omega
 ·rw[u3];show(S.s.s2 a).ep.length+((a.N:Int)+a.O+13-((a.N:Int)+S.s.g)).toNat<=4000;omega):P:=h
theorem AZ {P:Prop}(h:P:=by
 have:(λe:b8=>((S.s.j0 a).nw (S.cI a) e.1,(S.s.j0 a).nw (S.cI a) e.2))=id:=by
  funext e
  rw[d1.kY.nw,d1.kY.nw];rfl
 rw[this,List.map_id]):P:=h
section
variable {k:cf}{z:C0}{s:cn}{H D:List Int}
theorem LI.fy (h:LI k z s H D)
 (hz:∀v,(v∈k.T\/v∈z.G)->∀i,0<=i->i<pf (k.l0 z v)->di (k.l0 z (v+1+i))=O5->cq (k.l0 z (v+1+i))∈k.T\/cq (k.l0 z (v+1+i))∈z.G)
 {b:Int}(hb:b∈z.G++H){i:Int}(f:0<=i)(c:i<pf (k.ld s b))(ha:di (k.ld s (b+1+i))=O5)(hy:k.cP (k.ld s (b+1+i))=O4):cq (k.ld s (b+1+i))∈z.G++H:=by
 obtain⟨a,o⟩:=h.mi.from hb;rw[(h.mi.hd a b o)] at c;have hm:=h.mi.fd a b o i f c;have g:a∈k.T\/a∈z.G:=by
  rcases o with⟨e,d⟩|⟨d,_⟩
  ·simp_all
  ·exact aK d
 rcases hm with e|⟨g1,g2,g3⟩
 ·rw[e] at ha hy⊢;rcases hz a g i f c ha with d|d
  ·unfold cf.cP at hy;rw[ha] at hy;simp at hy;exact absurd d hy
  ·simp_all
 ·have hT:cq (k.l0 z (a+1+i))∈k.T:=by unfold cf.cP at g1;rw[nS] at g1;simpa using g1.2
  exact AL
theorem dK.qU (h:dK k z s H){x:Int}(b:cq x∈z.G++H):k.cP x=O4:=by
 unfold cf.cP;have e:k.T.contains (cq x)=O4:=by
  cases hc:k.T.contains (cq x)
  ·rfl
  ·exact absurd (by grind) (h.ci.AG (h.bd b).1)
 grind
theorem A0 (k:cf):∀(n:Nat)(s:cn),(k.lb n s).rs=s.rs
 |0,s=>rfl
 |n+1,s=>by
  unfold cf.lb;split
  ·exact(A0 k n _).trans (sC k s s.nx).2
  ·rfl
theorem A1 (k:cf):∀(l:List Int)(t:List Int×cn),(l.foldl k.cX t).2.rs=t.2.rs
 |[],t=>rfl
 |a::l,t=>by
  refine(A1 k l _).trans ?_
  grind [mX,cf.cX]
theorem IG (k:cf)(s:cn):(k.kv s).2.rs=s.rs:=A1 k s.ep ([],s)
theorem A2 (k:cf):∀(l:List Nat)(t:(cn×List b8)×Bool),(l.foldl (dN k.al k.br) t).1.1.rs=t.1.1.rs
 |[],t=>rfl
 |a::l,t=>by
  refine(A2 k l _).trans ?_
  grind [nA,dN]
theorem sJ (k:cf):∀(n:Nat)(t:cn×List b8),(k.de n t).1.rs=t.1.rs
 |0,t=>rfl
 |n+1,t=>by
  have b:(k.kv (k.lb (k.O+1) t.1)).2.rs=t.1.rs:=(IG ..).trans (A0 ..)
  have c:(k.wa ((k.kv (k.lb (k.O+1) t.1)).2,t.2)).1.1.rs=t.1.rs:=(A2 k _ (((k.kv _).2,t.2),O4)).trans b;unfold cf.de;split
  ·exact(sJ k n _).trans b
  ·split
   ·exact(sJ k n _).trans c
   omega
theorem IH (k:cf)(t:cn×List b8)(x:Int):(k.ke t x).2.1.rs=t.1.rs:=(sJ ..).trans (nA ..).1
theorem II (k:cf)(t:cn×List b8)(e:b8):(cm (et cn) (λs x=>k.al s.1 x) k.ke t e).2.1.rs=t.1.rs:=by
 unfold cm;split
 ·exact IH k t e.2
 ·rfl
theorem A3 (k:cf)(l:List b8)(t:cn×List b8):(dF (cm (et cn) (λs x=>k.al s.1 x) k.ke) t l).2.2.1.rs=t.1.rs:=by
 have key:∀(l:List b8)(p:List b8×List b8×(cn×List b8)),(l.foldl (eZ (cm (et cn) (λs x=>k.al s.1 x) k.ke)) p).2.2.1.rs=p.2.2.1.rs:=by
  intro l
  induction l with
  |nil=>grind
  |cons e l b=>
   grind [II,eZ]
 exact key l ([],[],t)
theorem A4 (k:cf):∀(n:Nat)(t:cn×List b8)(d:List b8),(e5 (cm (et cn) (λs x=>k.al s.1 x) k.ke) n t d).1.1.rs=t.1.rs
 |0,t,d=>rfl
 |n+1,t,d=>by
  unfold e5;split
  ·exact A3 k d t
  ·exact(A4 k n _ _).trans (A3 k d t)
theorem IJ (k:cf)(t:cn×List b8)(r:List b8):(k.fB t r).1.rs=t.1.rs:=A4 k _ _ _
theorem sK (k:cf)(e c:Int)(M:List Int):∀(l:List Int)(s:cn),L (l.foldl (k.hK e c M) s).wk<=L s.wk+L l/\L (l.foldl (k.hK e c M) s).ep<=L s.ep+L l/\(l.foldl (k.hK e c M) s).nx=s.nx/\(l.foldl (k.hK e c M) s).rs=s.rs
 |[],s=>(by grind)
 |b::l,s=>by
  rw[a8];obtain⟨g,i,d,f⟩:=sK k e c M l _;have key:L (k.hK e c M s b).wk<=L s.wk+1/\L (k.hK e c M s b).ep<=L s.ep+1/\(k.hK e c M s b).nx=s.nx/\(k.hK e c M s b).rs=s.rs:=by
   unfold cf.hK;split
   ·split
    ·obtain⟨w1,j⟩:=AV k s b
     grind [sC]
    grind
   grind
  obtain⟨k1,k2,k3,k4⟩:=key;simp;exact⟨aa,aa,d.trans k3,f.trans k4⟩
end
theorem pI {N O y g:Nat}{ws Y G:List Int}(h:ey N y g ws Y G)(hN:N<=256)(hy:y<=N)(hO:O<=1024)(hg:g<=O):ot N y g ws=Y:=by unfold ot;rw[(h.lists hN hy hO hg).1];exact nX.2 (λx b=>bm (by have:=(h.ty.mem x b).2.1;omega))
def eL.z0 (s:eL)(G:List Int):C0:=⟨s.g,s.ws,G⟩
theorem LI.start {a:Wc}{s:eL}{Y G:List Int}(h:ey a.N s.y s.g s.ws Y G)(hN:16<=a.N)(hN':a.N<=256)(hO:a.O<=1024)(hy:s.y<=a.N)(hg:s.g<=a.O)(hl:L s.ws=a.N+a.O)(hr:s.y<=a.O-s.g):LI (s.k0 a) (s.z0 G) (s.s0 a) [] []:=by
 have d:(s.k0 a).T=Y:=pI h hN' hy hO hg;refine⟨⟨(by grind [CI.start]),aG _,?_,λb hb=>(h.io b hb).2,λ_ _ _=>rfl,λa _ e=>absurd rfl e,λa _ b _ e=>absurd rfl e,λb hb=>(by grind),λb hb=>(by grind),λa b o=>?_,λa b o i f g=>?_⟩,aI rfl,λb hb=>(by grind),λb hb=>(by grind),λb hb=>(by grind)⟩
 ·rw[d,mq];exact h
 ·rcases o with⟨e,_⟩|⟨_,e,c⟩
  ·rw[e];rfl
  ·exact absurd e.symm c
 ·rcases o with⟨e,_⟩|⟨_,e,c⟩
  ·rw[e];exact aK rfl
  ·exact absurd e.symm c
theorem dU.start (a:Wc)(s:eL)(G:List Int):dU (s.k0 a) (s.z0 G) (s.s0 a) []:=⟨λb hb=>(by cases hb),λb hb=>(by cases hb)⟩
structure qV (a:Wc)(S:cv)(G K D:List Int):Prop where
 li:LI (S.s.k0 a) (S.s.z0 G) (S.s4 a) K D
 we:dU (S.s.k0 a) (S.s.z0 G) (S.s4 a) K
 he:hB a.N (S.s4 a).g (S.s4 a).nx=O4
 hz:∀v,(v∈(S.s.k0 a).T\/v∈G)->∀i,0<=i->i<pf ((S.s.k0 a).l0 (S.s.z0 G) v)->di ((S.s.k0 a).l0 (S.s.z0 G) (v+1+i))=O5->cq ((S.s.k0 a).l0 (S.s.z0 G) (v+1+i))∈(S.s.k0 a).T\/cq ((S.s.k0 a).l0 (S.s.z0 G) (v+1+i))∈G
 hc:∀v∈G,v∉D->∀i,0<=i->i<pf ((S.s.k0 a).l0 (S.s.z0 G) v)->(S.s.k0 a).cP ((S.s.k0 a).l0 (S.s.z0 G) (v+1+i))=O4
 rl:L (S.s4 a).rs=12
 A6:∀i,i<12->(S.s.k0 a).cP (X (S.s4 a).rs i 0)=O4
 rm:∀i,i<12->(S.s.k0 a).ml (S.s4 a) (X S.s.rs i 0) (X (S.s4 a).rs i 0)
section
variable {a:Wc}{S:cv}{Y G:List Int}
theorem sL (h:eA a S.s Y G)(hb:cL a S.s)(hr:S.s.y<=a.O-S.s.g):∃K D,qV a S G K D:=by
 have o:(S.s.k0 a).T=Y:=pI h.inv.full hb.n1 hb.y1 hb.o1 hb.g1;have p:=LI.start h.inv.full hb.n0 hb.n1 hb.o1 hb.y1 hb.g1 hb.l1 hr;obtain⟨H1,e,u,⟨ap,ar⟩,l1,y1,_,m1⟩:=p.cO 12 (by show 12<=L S.s.rs;rw[hb.r1];omega)
 have q:dM a.N S.s.y (S.s.s1 a).g (S.s.s1 a).ws=G++H1:=(e.mi.full.lists hb.n1 hb.y1 hb.o1 e.mi.ci.hg).2;have F:(S.s.s1 a).nx=((S.s.k0 a).N:Int)+(S.s.z0 G).g:=(nB _ _ 12).2.2;have N:eR ((S.s.k0 a).l0 (S.s.z0 G)) (((S.s.k0 a).N:Int)+(S.s.z0 G).g) (S.s.k0 a).N (S.s.z0 G).G:=h.inv.full.eC;obtain⟨c,f,j,k,s,⟨aB,aF⟩,_,hD⟩:=LI.qS (dT a.O) S.s.M N (G++H1) e ((dU.start a S.s G).cO p.mi 12 e.mi u (by grind)) (λx W=>(bw.1 W).imp id (λd=>e.mi.hlo x d))
 have ab:(G++H1).foldl ((S.s.k0 a).hK (((S.s.k0 a).N:Int)+(S.s.z0 G).g) (dT a.O) S.s.M) ((S.s.k0 a).cO (S.s.s0 a) 12)=S.s.s2 a:=by unfold eL.s2 cf.lm;rw[q,F];rfl
 have hlen:=sK (S.s.k0 a) (((S.s.k0 a).N:Int)+(S.s.z0 G).g) (dT a.O) S.s.M (G++H1) ((S.s.k0 a).cO (S.s.s0 a) 12)
 rw[ab] at j k s hlen;have aR:L (G++H1)<=2000:=(q▸jp _ _)
 obtain⟨q1,q2,q3⟩:=nB _ _ 12;have cb:eD (S.s.k0 a) (S.s.s2 a):=by exact v_
 have ad:Rest (S.s.k0 a) (S.s.z0 G) f c (S.t3 a).1:=by
  have key:∀s2:cn,LI (S.s.k0 a) (S.s.z0 G) s2 c f->dU (S.s.k0 a) (S.s.z0 G) s2 c->eD (S.s.k0 a) s2->_:=λs2 l w b=>Rest.sp (t:=(s2,S.q)) l w b ⟨[],(mq _).symm⟩
  exact key _ j k cb
 have ag:Rest (S.s.k0 a) (S.s.z0 G) f c (S.s4 a):=by exact ad.fB S.r
 obtain⟨K,ai,al,_,he,⟨B,aV⟩⟩:=ag;have m:(S.s4 a).rs=(S.s.s1 a).rs:=by unfold cv.s4;rw[IJ];unfold cv.t3 cf.sp;rw[sJ];exact hlen.2.2.2
 have kB:c_ (S.s.k0 a) (S.s.s1 a) (S.s4 a):=by
  have key:∀s2:cn,LI (S.s.k0 a) (S.s.z0 G) s2 c f->dU (S.s.k0 a) (S.s.z0 G) s2 c->c_ (S.s.k0 a) s2 ((S.s.k0 a).fB ((S.s.k0 a).sp (s2,S.q)) S.r).1:=λs2 l w=>by
   obtain⟨am,g,an,a0,_⟩:=df.sp (s2,S.q) c l w;obtain⟨a1,_,_,cI,_⟩:=df.fB _ S.r am g an
   grind [c_.trans]
  exact s.trans (key _ j k)
 refine⟨K,f,ai,al,he,λv hv i n g ha=>?_,λv hv ao i n g=>?_,?_,λi hi=>?_,λi hi=>?_⟩
 ·rw[o] at hv⊢;exact h.inv.fd v hv i n g ha
 ·cases hc:(S.s.k0 a).cP _
  ·rfl
  ·exfalso;unfold cf.cP at hc;rw[nS,o] at hc;exact ao (hD v (by grind) hv (h.cd v hv i n g hc.1 (bT.1 hc.2)))
 ·rw[m];exact l1.trans hb.r1
 ·rw[m];exact y1 i hi
 ·rw[m];exact kB.ml (m1 i hi)
theorem qV.root {K D:List Int}(c:qV a S G K D)(h:eA a S.s Y G)(hb:cL a S.s):∀x∈(S.s4 a).rs,kZ (S.s.k0 a) (G++K) x:=λx j ha=>by
 have o:(S.s.k0 a).T=Y:=pI h.inv.full hb.n1 hb.y1 hb.o1 hb.g1;obtain⟨i,hi,e⟩:=bP.1 j;have b:i<12:=(c.rl▸hi)
 have k:X (S.s4 a).rs i 0=x:=by simp_all
 have hy:=c.A6 i b;have hm:=c.rm i b;rw[k] at hy hm;refine⟨hy,?_⟩
 rcases hm with d|⟨g1,g2,g3⟩
 ·have f:X S.s.rs i 0∈S.s.rs:=by grind [cL.r1]
  rw[<-d] at f;rcases h.inv.rt x f ha with g|g
  all_goals grind [cf.cP]
 ·have l:cq (X S.s.rs i 0)∈(S.s.k0 a).T:=by grind [cf.cP]
  have m:=c.li.mi.fh _ l g2;have p:=c.li.mi.jR m;have hN:=hb.n1;have hO:=hb.o1;have hg:=c.li.mi.ci.hg;have q:(S.s.k0 a).N=a.N:=rfl;have s:(S.s.k0 a).O=a.O:=rfl;obtain⟨n,hn⟩:∃n:Nat,(S.s4 a).f (cq (X S.s.rs i 0))=n:=⟨((S.s4 a).f (cq (X S.s.rs i 0))).toNat,aa⟩
  grind [oy]
theorem qV.done {K D:List Int}(c:qV a S G K D)(h:eA a S.s Y G)(hb:cL a S.s):i8 a.N 0 (S.s6 a).g (S.s6 a).ws [] (G++K) (S.s6 a).rs:=by
 have ci:=c.li.mi.ci;have u:ix (S.s.k0 a) (G++K) (λb i=>(i=0/\b∈(S.s4 a).wk)\/((i=0\/i=1)/\b∈(S.s4 a).ep)) (S.s4 a):=by
  refine⟨c.li.mi.full,ci.len,ci.hy,ci.hg,λb hb i l m=>?_,λb hb i l m hy ha=>⟨hy,c.li.fy c.hz hb l m ha hy⟩⟩
  cases ha:di _
  ·exact aK (λe=>by rw[ha] at e;cases e)
  ·rcases c.li.fields c.he c.hz c.hc hb l m ha with d|⟨g,j,F⟩|⟨g,j⟩
   ·exact aK (λ_=>⟨c.li.mi.qU d,d⟩)
   ·simp_all
   ·have N:=iJ (c.li.mi.bd hb).2.2 (aI (aI g))
    exact aI (aI ⟨aa,j⟩)
 obtain⟨n,k5,g5,o,k⟩:=ix.mw hb.n1 hb.o1 _ u (λx f=>c.we.wk x f) (λx f v=>List.mem_append_right _ (c.li.mi.fh x f v))
 have n:ix (S.s.k0 a) (G++K) _ (S.s5 a):=n;have k:(S.s5 a).ep=(S.s4 a).ep:=k;have o:(S.s5 a).rs=(S.s4 a).rs:=o;have k5:∀b∈G++K,(S.s.k0 a).ld (S.s5 a) b=(S.s.k0 a).ld (S.s4 a) b:=k5;obtain⟨q,k6,W,s⟩:=ix.be (S.s5 a).ep n (λx f=>by rw[k] at f;obtain⟨q1,w⟩:=c.we.ep x f;exact⟨q1,(k5 x q1▸w)⟩)
 have s:(S.s6 a).rs=(S.s5 a).rs:=s;have q:=q.imp (λb i p=>by
  obtain⟨⟨B,ab⟩,t⟩:=p;rw[k] at t;rcases B with⟨g,j⟩|⟨g,j⟩
  ·simp_all
  ·exact t ⟨j,g⟩)
 exact q.done (by rw[s,o];exact c.root h hb)
theorem eA.cut (h:eA a S.s Y G)(hb:cL a S.s):∃b d,eA a (S.cut a).s b d:=by
 unfold cv.cut;cases hf:S.full a
 ·have hr:S.s.y<=a.O-S.s.g:=by grind [cv.full]
  obtain⟨K,D,c⟩:=sL h hb hr;rw[aJ ac];exact⟨[],G++K,c.done h hb,λv _ i _ _ _ hy=>by grind⟩
 grind
end
open W
def kh (b:Int->Int->Prop):List Int->List Int->Prop
 |[],[]=>True
 |x::l,c::d=>b x c/\kh b l d
 |_,_=>False
theorem kh.of {c:Int->Int->Prop}:∀{l b:List Int},L l=L b->(∀i,i<L l->c (X l i 0) (X b i 0))->kh c l b
 |[],[],_,_=>trivial
 |[],e::b,h,_=>by grind
 |x::l,[],h,_=>by grind
 |x::l,e::b,h,hi=>⟨by simpa using hi 0 ac,kh.of (by grind) (λi d=>by
  have:=hi (i+1) (by grind)
  assumption)⟩
def m2 (R:Int->Prop)(f:Int->Int)(x b:Int):Prop:=(dk x=3/\dk b=3/\R (dp x)/\dp b=f (dp x))\/(dk x≠3/\dk b=dk x/\dp b=dp x)
structure qW (R:Int->Prop)(f:Int->Int)(T:List Int)(kd:Int->Int)(sh:Int->List Int)(T':List Int)(kd':Int->Int)(sh':Int->List Int):Prop where
 sM:∀a,R a->a∈T
 sN:∀a,R a->f a∈T'
 inj:∀a b,R a->R b->f a=f b->a=b
 kd:∀a,R a->kd' (f a)=kd a
 sh:∀a,R a->kh (m2 R f) (sh a) (sh' (f a))
structure Bs (R:Int->Prop)(f:Int->Int)(T T':List Int)(s s':cT):Prop where
 ok:fE T s
 ok':fE T' s'
 ms:s'.1=s.1.map f
 nd:s'.2=s.2
 rs:∀a∈s.1,R a
section
variable {R:Int->Prop}{f:Int->Int}{T T':List Int}{kd kd':Int->Int}{sh sh':Int->List Int}
theorem A7 (inj:∀a b,R a->R b->f a=f b->a=b){d:Int}(hd:R d):∀l:List Int,(∀a∈l,R a)->(l.map f).idxOf (f d)=l.idxOf d
 |[],_=>rfl
 |x::l,h=>by
  rw[List.map_cons,List.idxOf_cons,List.idxOf_cons,A7 inj hd l (by grind)]
  grind
theorem wc (inj:∀a b,R a->R b->f a=f b->a=b){d:Int}(hd:R d){l:List Int}(h:∀a∈l,R a):f d∈l.map f↔d∈l:=by grind
def wh (R:Int->Prop)(f:Int->Int)(T T':List Int)(n c:Nat)(M d:cT->Int->cT):Prop:=
 ∀s b a,Bs R f T T' s b->R a->a∉s.1->L T<=L s.1+n->L T'<=L b.1+c->Bs R f T T' (M s a) (d b (f a))
theorem IK (B:qW R f T kd sh T' kd' sh'){n i:Nat}{M e:cT->Int->cT}(hM:wh R f T T' n i M e){s d:cT}(h:Bs R f T T' s d)(hn:L T<=L s.1+n)(l:L T'<=L d.1+i){x g:Int}(m:m2 R f x g):
 (el M T s x).1=(el e T' d g).1/\Bs R f T T' (el M T s x).2 (el e T' d g).2:=by
 unfold el;rcases m with⟨j,k,b,o⟩|⟨j,k,b⟩
 ·rw[aN j,aN k,aN (bT.2 (B.sM _ b)),o,aN (bT.2 (B.sN _ b))];have hm:=wc B.inj b h.rs;rw[<-h.ms] at hm;by_cases c:dp x∈s.1
  ·rw[aN (bT.2 c),aN (bT.2 (by grind))];refine⟨?_,h⟩
   rw[h.ms,A7 B.inj b s.1 h.rs]
  ·rw[aJ (by grind),aJ (by grind)];refine⟨?_,hM s d (dp x) h b c hn l⟩
   rw[h.ms,a5]
 grind
theorem wi (B:qW R f T kd sh T' kd' sh'){n g:Nat}{M c:cT->Int->cT}(i:mJ T kd sh n M)(j:mJ T' kd' sh' g c)(hM:wh R f T T' n g M c):∀(l d:List Int)(r b:List (Int×Int)×cT),kh (m2 R f) l d->r.1=b.1->Bs R f T T' r.2 b.2->L T<=L r.2.1+n->L T'<=L b.2.1+g->
 (l.foldl (λr x=>(r.1++[(el M T r.2 x).1],(el M T r.2 x).2)) r).1=(d.foldl (λr x=>(r.1++[(el c T' r.2 x).1],(el c T' r.2 x).2)) b).1/\Bs R f T T' (l.foldl (λr x=>(r.1++[(el M T r.2 x).1],(el M T r.2 x).2)) r).2 (d.foldl (λr x=>(r.1++[(el c T' r.2 x).1],(el c T' r.2 x).2)) b).2
 |[],[],r,b,_,e,h,_,_=>(by grind)
 |[],k::d,r,b,hw,_,_,_,_=>(by grind [kh])
 |x::l,[],r,b,hw,_,_,_,_=>(by grind [kh])
 |x::l,k::d,r,b,hw,e,h,hn,m=>by obtain⟨w1,o⟩:=hw;obtain⟨q,p⟩:=IK B hM h hn m w1;have g1:=(qg i h.ok hn x).le;have g2:=(qg j h.ok' m k).le;rw[a8,a8];exact wi B i j hM l d _ _ o (by grind) p (by grind) (by grind)
theorem A8 (B:qW R f T kd sh T' kd' sh'):∀n d:Nat,wh R f T T' n d (met T kd sh n) (met T' kd' sh' d)
 |0,_=>λs b a h ha e hn _=>by have:=h.ok.lt (B.sM a ha) e;omega
 |n+1,0=>λs b a h ha e _ k=>by
  have:=h.ok'.lt (B.sN a ha) (λc=>e ((wc B.inj ha h.rs).1 ((h.ms▸c))))
  omega
 |n+1,d+1=>λs b a h ha e hn k=>by
  have l:_:=λc=>e ((wc B.inj ha h.rs).1 ((h.ms▸c)))
  have m:Bs R f T T' (s.1++[a],s.2++[(kd a,[])]) (b.1++[f a],b.2++[(kd' (f a),[])]):=⟨h.ok.more (B.sM a ha) e _,h.ok'.more (B.sN a ha) l _,by rw[h.ms];simp,by rw[h.nd,B.kd a ha],λc hc=>by grind [Bs.rs]⟩
  obtain⟨g,i⟩:=wi B (ks n) (ks d) (A8 B n d) (sh a) _ ([],(s.1++[a],s.2++[(kd a,[])])) ([],(b.1++[f a],b.2++[(kd' (f a),[])])) (B.sh a ha) rfl m (by grind) (by grind)
  refine⟨(ks (n+1) s a h.ok (B.sM a ha) e hn).ok,(ks (d+1) b (f a) h.ok' (B.sN a ha) l k).ok,i.ms,?_,i.rs⟩
  have j:=i.nd;show(dE _ T' (b.1++[f a],b.2++[(kd' (f a),[])]) _).2.2.set _ (kd' (f a),(dE _ T' (b.1++[f a],b.2++[(kd' (f a),[])]) _).1)=(dE _ T (s.1++[a],s.2++[(kd a,[])]) (sh a)).2.2.set _ (kd a,(dE _ T (s.1++[a],s.2++[(kd a,[])]) (sh a)).1)
  have g:(dE (met T kd sh n) T (s.1++[a],s.2++[(kd a,[])]) (sh a)).1=(dE (met T' kd' sh' d) T' (b.1++[f a],b.2++[(kd' (f a),[])]) (sh' (f a))).1:=g;have j:(dE (met T' kd' sh' d) T' (b.1++[f a],b.2++[(kd' (f a),[])]) (sh' (f a))).2.2=(dE (met T kd sh n) T (s.1++[a],s.2++[(kd a,[])]) (sh a)).2.2:=j;rw[j,<-g,B.kd a ha,h.ms,a5]
theorem IL (B:qW R f T kd sh T' kd' sh'){l c:List Int}(hl:kh (m2 R f) l c){n b:Nat}(hn:L T<=n)(g:L T'<=b):(dE (met T kd sh n) T ([],[]) l).1=(dE (met T' kd' sh' b) T' ([],[]) c).1/\(dE (met T' kd' sh' b) T' ([],[]) c).2.2=(dE (met T kd sh n) T ([],[]) l).2.2/\(dE (met T' kd' sh' b) T' ([],[]) c).2.1=(dE (met T kd sh n) T ([],[]) l).2.1.map f:=by obtain⟨e,d⟩:=wi B (ks n) (ks b) (A8 B n b) l c ([],([],[])) ([],([],[])) hl rfl ⟨fE.start T,fE.start T',rfl,rfl,λa ha=>by grind⟩ aa aa;exact⟨e,d.nd,d.ms⟩
end
theorem IM {x:Int}(h:dk x=3):di x=O5:=by grind [di,dk]
theorem A9 {x:Int}(h:di x=O5):dk x=3:=by grind [di]
theorem Pos.same {z d:Int->Int}{al e:Int->Bool}{f g:Int->Int}:∀{l:List Int}{n m:Int},(∀a∈l,z a=d a/\al a=e a/\f a=g a)->Pos z al f n l m->Pos d e g n l m
 |[],n,m,_,h=>h
 |a::l,n,m,he,h=>by
  obtain⟨k,o,p⟩:=he a ac;have q:∀{n m:Int},Pos z al f n l m->_:=λh=>Pos.same (λb hb=>he b (bj _ hb)) h;refine⟨λc=>?_,λc=>?_⟩
  ·obtain⟨i,j⟩:=h.1 (by grind)
   grind
  ·obtain⟨i,j⟩:=h.2 (by grind)
   grind
structure nD (a:Wc)(s:eL)(T:List Int)(j:cy)(s':eL):Prop where
 y:s'.y=0
 M:s'.M=[]
 rl:L s'.rs=12
 g:s'.g<=a.O
 l:L s'.ws=a.N+a.O
 pos:Pos (λc=>pf (ld a.N s.y s.g s.ws c)) (λc=>!(j.f c==-1)) j.f a.N T (a.N+s'.g)
 rs:∀i,i<12->X s'.rs i 0=(s.j0 a).nw j (X s.rs i 0)
 hd:∀c∈T,j.f c≠-1->ld a.N 0 s'.g s'.ws (j.f c)=ld a.N s.y s.g s.ws c
 fd:∀c∈T,j.f c≠-1->∀i,0<=i->i<pf (ld a.N s.y s.g s.ws c)->ld a.N 0 s'.g s'.ws (j.f c+1+i)=(s.j0 a).nw j ((s.j0 a).jx j c i)
section
variable {a:Wc}{s:eL}{Y G:List Int}
theorem my (h:ey a.N s.y s.g s.ws Y G)(hb:cL a s):(s.j0 a).Y=Y/\(s.j0 a).G=G/\(s.j0 a).T=G++Y:=by
 have c:(s.j0 a).Y=Y:=by show eM _ _=Y;rw[(h.lists hb.n1 hb.y1 hb.o1 hb.g1).1];exact sy (λx b=>bk (by have:=(h.ty.mem x b).2.1;omega))
 have d:(s.j0 a).G=G:=by show eM _ _=G;rw[(h.lists hb.n1 hb.y1 hb.o1 hb.g1).2];exact sy (λx b=>bk (by have:=(h.eC.mem x b).2.1;omega))
 grind [b_.T]
theorem pJ (h:ey a.N s.y s.g s.ws Y G)(hb:cL a s):∀c∈(s.j0 a).T,kC (s.j0 a) c:=λc hc=>by
 obtain⟨l,m,f⟩:=my h hb;rw[f] at hc;rcases bw.1 hc with d|d
 ·obtain⟨g,j,e⟩:=h.eC.mem c d;exact⟨e,λi k b=>iZ (by show(a.N:Int)<=_;omega) (by have b:i<=pf (ld a.N s.y s.g s.ws c):=b;show c+i<(a.N:Int)+s.g;omega)⟩
 ·obtain⟨g,j,e⟩:=h.ty.mem c d;exact⟨e,λi k b=>jE aa (by have b:i<=pf (ld a.N s.y s.g s.ws c):=b;show c+i<(s.y:Int);omega)⟩
theorem qX (h:ey a.N s.y s.g s.ws Y G)(hb:cL a s):∀c∈(s.j0 a).T,∀d∈(s.j0 a).T,c<d->c+(1+pf ((s.j0 a).ld c))<=d:=λc hc d hd q=>by
 obtain⟨g,i,b⟩:=my h hb;rw[b] at hc hd;show c+(1+pf (ld a.N s.y s.g s.ws c))<=d;have hy:=hb.y1;rcases bw.1 hc with hc|hc<;>rcases bw.1 hd with hd|hd
 ·exact h.eC.apart c hc d hd q
 ·have e:=(h.eC.mem c hc).1;have f:=(h.ty.mem d hd).2.1;have:=du (ld a.N s.y s.g s.ws d)
  omega
 ·have e:=(h.ty.mem c hc).2.1;have f:=(h.eC.mem d hd).1;omega
 ·exact h.ty.apart c hc d hd q
theorem IN (h:ey a.N s.y s.g s.ws Y G)(hb:cL a s)(cI:cy)(hm:((s.j0 a).pl cI).2<=a.N+a.O):
 nD a s (G++Y) ((s.j0 a).pl cI).1 (((s.j0 a).fK ((s.j0 a).pl cI).1).sl ((s.j0 a).pl cI).1).s/\((((s.j0 a).fK ((s.j0 a).pl cI).1).sl ((s.j0 a).pl cI).1).s.g:Int)=((s.j0 a).pl cI).2-a.N/\
 (∀c∈G++Y,((s.j0 a).pl cI).1.f c=-1↔cI.f c=-1)/\(∃F,je ((s.j0 a).fK ((s.j0 a).pl cI).1) ((s.j0 a).pl cI).1 F/\F 0 ((s.j0 a).fK ((s.j0 a).pl cI).1,0)):=by
 obtain⟨ap,ar,N⟩:=my h hb;have ew:=pJ h hb;have aB:=qX h hb;have ab:=(c8.start (s:=s) hb.n1 hb.o1 hb.y1 hb.g1).nd;have hz:∀c,0<=(λc=>pf ((s.j0 a).ld c)) c:=λc=>(du _).1;obtain⟨k,hk⟩:∃k,s.j0 a=k:=⟨_,rfl⟩
 have S:k.a=a:=by rw[<-hk];rfl
 have l:k.s=s:=by rw[<-hk];rfl
 have ad:∀x,k.ld x=ld a.N s.y s.g s.ws x:=λx=>by rw[<-hk];rfl
 have b5:jG k:=⟨by rw[l,S];exact hb.l1,by rw[l,S];exact hb.y1,by rw[l,S];exact hb.g1⟩
 obtain⟨n,_,_,_⟩:=qP (s.j0 a) (λc=>!(cI.f c==-1)) (s.j0 a).T (cI,a.N) ab (λc _=>rfl)
 have n:Pos (λc=>pf ((s.j0 a).ld c)) (λc=>!(cI.f c==-1)) ((s.j0 a).pl cI).1.f a.N (s.j0 a).T ((s.j0 a).pl cI).2:=n;rw[hk] at ap ar N ew aB ab hz n hm⊢;obtain⟨j,aF⟩:∃j,(k.pl cI).1=j:=⟨_,rfl⟩
 obtain⟨m,ag⟩:∃m,(k.pl cI).2=m:=⟨_,rfl⟩
 rw[aF,ag] at n;rw[ag] at hm;rw[aF,ag];have p:∀c∈k.T,(!(cI.f c==-1))=!(j.f c==-1):=λc hc=>by
  cases q:(!(cI.f c==-1))
  ·rw[n.no c hc q];rfl
  ·have:=(n.bd hz c hc q).1;rw[beq_false_of_ne aa];rfl
 have P:=n.same (λc hc=>⟨rfl,p c hc,rfl⟩)
 have b6:∀c∈k.T,j.f c=-1↔cI.f c=-1:=λc hc=>by
  have:=p c hc;constructor
  ·intro q;rw[q] at this
   simpa using this
  ·intro q;rw[q] at this
   simpa using this.symm
 obtain⟨aR,aV,t3,a0,a1,e,a2,bb,W,bd⟩:=qR (s:=j) b5 ((l▸hb.r1)) ab ew aB;obtain⟨k5,b7⟩:∃k5,k.fK j=k5:=⟨_,rfl⟩
 rw[b7] at aR aV t3 a0 a1 e a2 bb W bd⊢;have be:∀c∈k.T,pf (k5.ld c)=pf (k.ld c):=λc hc=>by rw[W c hc]
 have d:=aR.trans S;have bg:=t3.trans ar;have ai:∀c,c∈G\/c∈Y->c∈k.T:=λc hc=>by simp_all
 rw[N] at P;obtain⟨al,b8,b9⟩:=P.app;have bi:Pos (λc=>pf (k5.ld c)) (λc=>!(j.f c==-1)) j.f (k5.a.N+(0:Int)) G al:=by rw[d,Dn];exact b8.same (λc hc=>⟨(be c (ai c (aK hc))).symm,rfl,rfl⟩)
 have bl:=b9.same (λc hc=>⟨(be c (ai c (aI hc))).symm,rfl,rfl⟩)
 have bn:∀c,0<=(λc=>pf (k5.ld c)) c:=λc=>(du _).1;have cl:=bl.le bn;have ca:kc k5 (λc=>!(j.f c==-1)) j.f al [] G (k5,0):=by
  refine⟨k7.refl _,rfl,Int.le_refl _,bi,⟨a.N,?_,by simp_all,λ_ _ _=>rfl⟩,λ_ _ _=>rfl,λc hc=>by cases hc⟩
  rw[d,a1,l];exact h.eC.heads (λx cb=>by simp_all)
 have bo:∀c∈k5.G,(λc=>!(j.f c==-1)) c=!(j.f c==-1):=λ_ _=>rfl;have f:=kc.all e.l e.y e.g bo G [] (k5,0) (λc hc=>(bg▸hc)) ca;have am:=f.pos;have bp:k5.mW j k5.G=iH (λ_ a=>j.f a) (b_.jQ j) (k5,0) G:=by unfold b_.mW;rw[bg]
 obtain⟨u,cc⟩:∃u,iH (λ_ a=>j.f a) (b_.jQ j) (k5,0) G=u:=⟨_,rfl⟩
 rw[cc] at f am bp;have u0:=f.u0;rw[d] at am;have cd:=e.g;have br:=e.y;rw[d] at cd br;obtain⟨k1,bs⟩:∃k1,k5.sl1 j=k1:=⟨_,rfl⟩
 have o:k1=u.1.ar u.1.s.y (K u.2) u.1.s.ws:=by rw[<-bs];unfold b_.sl1;rw[bp]
 have g1:(k1.s.g:Int)=u.2:=by rw[o];show(K u.2:Int)=_;omega
 have an:=f.sm.a;have ao:=f.sm.y;have bt:∀x:Int,(0<=x/\x<k5.s.y)\/((a.N:Int)<=x/\x<a.N+u.2/\x<a.N+k5.s.g)->k1.ld x=u.1.ld x:=λx cb=>by
  have t:dB u.1.a.N u.1.s.y u.1.s.g x=O5:=by rw[an,ao,f.g,d];exact(po _ _ _ _).2 aa
  have ce:dB u.1.a.N u.1.s.y (K u.2) x=O5:=by rw[an,ao,d];exact(po _ _ _ _).2 aa
  rw[o];show ld u.1.a.N u.1.s.y (K u.2) u.1.s.ws x=ld u.1.a.N u.1.s.y u.1.s.g u.1.s.ws x;rw[gg t,gg ce]
 obtain⟨b,cf,cg,_⟩:=f.tl;have ch:_=_:=cf;rw[d] at cg ch;have C0:mZ k5 (λc=>!(j.f c==-1)) j.f m G Y k1:=by
  refine⟨⟨(o▸an),(o▸ao),(o▸f.sm.rs),(o▸f.sm.len)⟩,by rw[d];omega,?_,λx bx b0=>?_,λc hc p=>?_⟩
  ·rw[d,g1,am];exact bl
  ·rw[bt x (aK ⟨bx,b0⟩)];exact f.cP x bx b0
  ·obtain⟨r1,b1⟩:=f.rel c hc p;have r3:=(bi.bd bn c hc p).1;rw[d] at r1 r3⊢;refine⟨aa,aa,λi v t=>?_⟩
   rw[bt _ (aI ⟨aa,aa,aa⟩)];exact b1 i v t
 have g:=mZ.all (s:=j) e.l e.y ((d▸hm)) Y G k1 (λc hc=>by
  have b2:=ai c (aI hc)
  obtain⟨q1,ci,q3⟩:=h.ty.mem c hc;rw[W c b2,ad,a0,l];exact⟨rfl,q1,ci,q3⟩) C0
 obtain⟨k2,b3⟩:∃k2,k1.qM j Y=k2:=⟨_,rfl⟩
 rw[b3] at g;have cj:k5.sl2 j=k2:=by unfold b_.sl2;rw[bs,(aV.trans ap)];exact b3
 have b4:(k5.sl j).s=⟨0,k2.s.g,k2.s.ws,[],k2.s.rs⟩:=by unfold b_.sl;rw[cj];rfl
 have cm:(a.N:Int)+k2.s.g=m:=by
  have:=g.pos;rw[d] at this
  exact this
 have ck:k2.s.y<=a.N:=(g.sm.y▸br)
 have rel:∀c∈G++Y,j.f c≠-1->(a.N:Int)<=j.f c/\∀i,0<=i->i<=pf (k.ld c)->ld a.N 0 k2.s.g k2.s.ws (j.f c+i)=k5.ld (c+i):=λc hc w=>by
  have b2:c∈k.T:=by simp_all
  obtain⟨r1,b1,r3⟩:=g.rel c hc (by simp_all)
  rw[d] at r1;refine⟨r1,λi v t=>?_⟩
  rw[v8 (y:=k2.s.y) aa ck,<-r3 i v (by simp_all)];show ld a.N k2.s.y k2.s.g k2.s.ws _=ld k2.a.N k2.s.y k2.s.g k2.s.ws _;rw[(g.sm.a.trans d)]
 refine⟨?_,?_,λc hc=>b6 c (by rw[N];exact hc),⟨_,(kc.sI (m:=al) e.l e.y e.g ((d▸hb.n1)) ((d▸hb.o1)) bo (by rw[d];omega)),?_⟩⟩
 ·rw[b4];refine⟨rfl,rfl,?_,?_,?_,?_,λi hi=>?_,λc hc w=>?_,λc hc w i v t=>?_⟩
  ·show L k2.s.rs=12;rw[g.sm.rs];exact a2
  ·show k2.s.g<=a.O;omega
  ·show L k2.s.ws=a.N+a.O;rw[g.sm.len,e.l,d]
  ·simp_all
  ·show X k2.s.rs i 0=_;rw[g.sm.rs,bb i hi,l,hk]
  ·have B:=(rel c hc w).2 0 aa (du _).1;rw[Dn,Dn,W c ((N▸hc)),ad] at B;exact B
  ·have B:=(rel c hc w).2 (1+i) aa (by rw[ad];omega)
   rw[<-Mc,<-Mc,bd c (by simp_all) w i v (by simp_all),<-hk] at B;exact B
 ·rw[b4];show(k2.s.g:Int)=m-a.N;omega
 ·simp_all
end
theorem IP {N y g:Nat}{ws Y G:List Int}(h:ey N y g ws Y G)(hy:y<=N)(Q:List b8){c:Int}(hc:c∈Y\/c∈G)(b:pk (ld N y g ws c)≠5):(∀i:Nat,i<L (fJ N y g ws Q c)->X (fJ N y g ws Q c) i 0=ld N y g ws (c+1+(i:Int)))/\(∀i:Nat,(i:Int)<pf (ld N y g ws c)->ld N y g ws (c+1+(i:Int))∈fJ N y g ws Q c):=by grind [AK,fJ]
theorem IQ {k:b_}{j:cy}{x:Int}(f:di x=O5->cq x∈k.T/\j.f (cq x)≠-1)(g:∀c∈k.T,j.f c≠-1->0<=j.f c/\j.f c<1000000):m2 (λc=>c∈k.T/\j.f c≠-1) j.f x (k.nw j x)/\(di (k.nw j x)=O5->∃c∈k.T,j.f c≠-1/\cq (k.nw j x)=j.f c):=by
 cases ha:di x
 ·have e:k.nw j x=x:=by grind [b_.nw,b_.jt]
  rw[e];refine⟨aI ⟨λi=>?_,rfl,rfl⟩,λi=>?_⟩
  all_goals grind [IM]
 ·obtain⟨b,d⟩:=f ha;have e:k.nw j x=ew 3 (j.f (cq x)):=by grind [b_.nw,b_.jt]
  obtain⟨m,b1⟩:=g _ b d;obtain⟨n,hn⟩:∃n:Nat,j.f (cq x)=n:=⟨K (j.f (cq x)),aa⟩
  obtain⟨w1,l⟩:=oy n aa;rw[<-hn,<-e] at w1 l;refine⟨aK ⟨A9 ha,A9 w1,⟨(oZ x ha▸b),(oZ x ha▸d)⟩,?_⟩,λ_=>(by grind)⟩
  grind [oZ]
def cy.lf (j:cy)(T:List Int):List Int:=(T.filter (λc=>!(j.f c==-1))).map j.f
section
variable {a:Wc}{s s':eL}{Y G:List Int}{j:cy}
theorem nD.bd (g:nD a s (G++Y) j s'):∀c∈G++Y,j.f c≠-1->(a.N:Int)<=j.f c/\j.f c+(1+pf (ld a.N s.y s.g s.ws c))<=a.N+s'.g:=λc hc b=>g.pos.bd (by simp[du]) c hc (by simp_all)
theorem wj {T:List Int}{x:Int}:x∈j.lf T↔∃c∈T,j.f c≠-1/\j.f c=x:=by grind [cy.lf]
theorem nD.full (g:nD a s (G++Y) j s')(h:ey a.N s.y s.g s.ws Y G):ey a.N 0 s'.g s'.ws [] (j.lf (G++Y)):=by
 refine⟨rfl,g.pos.v5 (by simp[du]) (λc hc e=>?_)⟩
 have b:j.f c≠-1:=by grind
 rw[g.hd c hc b];refine⟨?_,rfl⟩
 rcases bw.1 hc with d|d
 ·exact(h.eC.mem c d).2.2
 ·exact(h.ty.mem c d).2.2
end
theorem A_:di 2=O4:=ae
section
variable {k:b_}{s:cy}
theorem dh.nw {X:Int->Prop}(h:dh k X s)(x:Int):k.nw s x=x:=by grind [self,xW,b_.nw,cq,di,b_.jt]
theorem wm {t:cy×List b8}{r:List b8}(h:∀e∈r,k.al t.1 e.2=O5):k.tS t r=t:=by
 have e:r.filter (λe=>!k.al t.1 e.2)=[]:=by grind [List.filter_eq_nil_iff]
 show gu (et cy) (λs x=>k.al s.1 x) k.ct t r=t;unfold gu;rw[e];rfl
end
section
variable {a:Wc}{S:cv}{Y G:List Int}
theorem sO (c:c8 (S.s.j0 a) iw):∀e∈S.r3 a,(S.s.j0 a).al (S.cI a) e.2=O5:=by
 obtain⟨d,g,_⟩:=pF c;intro e he;obtain⟨b,i,f⟩:=bS.1 he;rw[<-f];show(S.s.j0 a).al (S.cI a) ((S.s.j0 a).nw (S.cI a) b.2)=O5;rw[(d.kY.nw b.2)]
 grind [AB]
structure sP (a:Wc)(s:eL)(T:List Int)(j:cy):Prop where
 rt:∀i,i<12->di (X s.rs i 0)=O5->cq (X s.rs i 0)∈T/\j.f (cq (X s.rs i 0))≠-1
 fd:∀c∈T,j.f c≠-1->∀i,0<=i->i<pf (ld a.N s.y s.g s.ws c)->di ((s.j0 a).jx j c i)=O5->cq ((s.j0 a).jx j c i)∈T/\j.f (cq ((s.j0 a).jx j c i))≠-1
theorem nD.inv {s b:eL}{j:cy}(g:nD a s (G++Y) j b)(h:eA a s Y G)(hb:cL a s)(al:sP a s (G++Y) j):eA a b [] (j.lf (G++Y))/\cL a b:=by
 obtain⟨_,_,f⟩:=my h.inv.full hb;have hN:=hb.n1;have hO:=hb.o1;have o:=g.g;have p:∀c∈(s.j0 a).T,j.f c≠-1->0<=j.f c/\j.f c<1000000:=λc hc k=>by
  rw[f] at hc;have:=g.bd c hc k;have:=du (ld a.N s.y s.g s.ws c)
  omega
 have key:∀x,(di x=O5->cq x∈G++Y/\j.f (cq x)≠-1)->di ((s.j0 a).nw j x)=O5->cq ((s.j0 a).nw j x)∈j.lf (G++Y):=λx d ha=>by grind [IQ,wj]
 refine⟨⟨?_,λv _ i _ _ _ hy=>by grind⟩,⟨hb.n0,(by assumption),(by assumption),(g.y▸a4 _),g.g,g.l,g.rl⟩⟩
 rw[g.y];refine⟨(g.full h.inv.full),λx d ha=>?_,λv hv i q l ha=>?_⟩
 ·obtain⟨i,hi,e⟩:=bP.1 d;have m:X b.rs i 0=x:=by simp_all
  have n:i<12:=(g.rl▸hi)
  rw[<-m,g.rs i n] at ha⊢
  grind [sP.rt]
 ·obtain⟨c,c1,c2,c3⟩:=wj.1 (hv.resolve_left ac)
  rw[<-c3] at l ha⊢
  grind [fd,hd,sP.fd]
structure wn (a:Wc)(S:cv)(Y G:List Int)(j:cy):Prop where
 gc:nD a S.s (G++Y) j (S.dR a).s
 al:sP a S.s (G++Y) j
 g:((S.dR a).s.g:Int)=S.n4 a
 iff:∀c∈G++Y,j.f c=-1↔(S.cI a).f c=-1
 j:S.cM a=j
theorem nE (h:eA a S.s Y G)(hb:cL a S.s)(m:S.gD a=O4):(∃F,je (S.k5 a) (S.d_ a) F/\F 0 (S.k5 a,0))/\wn a S Y G (S.cM a)/\S.d_ a=S.cM a:=by
 have b:=c8.start hb.n1 hb.o1 hb.y1 hb.g1;obtain⟨n,ai,al⟩:=pF (S:=S) b;obtain⟨l1,l2,am⟩:=my h.inv.full hb;have hm:((S.s.j0 a).pl (S.cI a)).2<=a.N+a.O:=by
  have:=of_decide_eq_false m
  grind [cv.n4]
 obtain⟨g1,g2,g3,g4⟩:=IN h.inv.full hb (S.cI a) hm;have p:((S.s.j0 a).pl (S.cI a)).1=S.cM a:=rfl;rw[p] at g1 g2 g3 g4;have l:(S.s.j0 a).fK (S.cM a)=S.k5 a:=rfl;rw[l] at g1 g2 g4;have an:(S.k5 a).T=(S.s.j0 a).T:=by
  obtain⟨_,s,t3,_⟩:=qR ⟨hb.l1,hb.y1,hb.g1⟩ hb.r1 b.nd (pJ h.inv.full hb) (qX h.inv.full hb)
  rw[l] at s t3
  grind [b_.T]
 have t:∀x,(S.s.j0 a).dd (S.cM a) x=(S.s.j0 a).dd (S.cI a) x:=λx=>by grind [qN,b_.dd]
 have u:S.d_ a=S.cM a:=by
  have q:(S.k5 a).tS (S.cM a,S.q3 a) (S.r3 a)=(S.cM a,S.q3 a):=wm (λe he=>by
   have q1:=sO (S:=S) b e he
   grind [b_.al,b_.dd,b_.jt])
  grind [cv.d_]
 have v:(S.k5 a).sl (S.cM a)=S.k6 a:=by grind [cv.k6]
 rw[v] at g1 g2;have w:(S.dR a).s=(S.k6 a).s:=by grind [cv.dR]
 have B:∀x,di x=O5->cq x∈G++Y->(S.s.j0 a).dd (S.cI a) x=O4->(S.cM a).f (cq x)≠-1:=λx ha hm ao=>by grind [b_.sA,b_.jt]
 rw[u];refine⟨g4,⟨by simp_all,⟨λi hi ha=>?_,λc hc N i d f ha=>?_⟩,(w▸g2),g3,rfl⟩,rfl⟩
 ·have W:X S.s.rs i 0∈S.s.rs:=by grind [cL.r1]
  have g:=bw.2 (h.inv.rt _ W ha).symm
  grind
 ·have j:pc (ld a.N S.s.y S.s.g S.s.ws c)=0:=(pJ h.inv.full hb c (by grind)).c;have ab:c∈(S.s.j0 a).T:=by simp_all
  have ad:_:=λe=>N ((g3 c hc).2 e)
  have hM:lH (S.s.j0 a) (S.cI a) c:=by
   rcases n.kY.cmp c ab ad with q|q|q
   all_goals grind [fS.td]
  have mem:∀i,0<=i->i<pf (ld a.N S.s.y S.s.g S.s.ws c)->di (ld a.N S.s.y S.s.g S.s.ws (c+1+i))=O5->_:=λi d f ha=>bw.2 (h.inv.fd c (by grind) i d f ha).symm;unfold b_.jx at ha⊢;rw[t] at ha⊢;by_cases cb:((pk ((S.s.j0 a).ld c)=3\/pk ((S.s.j0 a).ld c)=4)/\(S.s.j0 a).dd (S.cI a) ((S.s.j0 a).ld (c+1))=O5)/\(i=0\/(pk ((S.s.j0 a).ld c)=4/\i=1))
  ·rw[aN cb] at ha;exact absurd ha ae
  ·rw[aJ cb] at ha⊢;have ha:=ha;have g:=mem i d f ha;refine⟨g,B _ ha g ?_⟩
   by_cases k:pk ((S.s.j0 a).ld c)=1\/pk ((S.s.j0 a).ld c)=2
   ·have q:=hM.p k (K i) (by show(K i:Int)<pf (ld a.N S.s.y S.s.g S.s.ws c);omega)
    grind
   ·by_cases k3:pk ((S.s.j0 a).ld c)=3
    ·have ag:=iJ j (aI (aK k3))
     by_cases z:i=0
     ·grind
     ·have o:i=1:=aa
      grind [lH.w]
    ·by_cases k4:pk ((S.s.j0 a).ld c)=4
     ·have ag:=iJ j (aI (aI k4))
      have ap:(S.s.j0 a).dd (S.cI a) ((S.s.j0 a).ld (c+1))=O4:=by grind
      by_cases z:i=0
      ·grind
      ·have o:i=1:=aa
       grind [lH.e,fS.ep]
     ·have q1:=AH j;have ar:pf (ld a.N S.s.y S.s.g S.s.ws c)=0:=by
       have q3:pk (ld a.N S.s.y S.s.g S.s.ws c)≠1/\pk (ld a.N S.s.y S.s.g S.s.ws c)≠2/\pk (ld a.N S.s.y S.s.g S.s.ws c)≠3/\pk (ld a.N S.s.y S.s.g S.s.ws c)≠4:=⟨λe=>k (aK e),λe=>k (aI e),k3,k4⟩
       omega
      omega
theorem IR (a:Wc)(S:cv):L (S.dR a).r+L (S.dR a).q<=L S.r+L S.q:=by
 unfold cv.dR;split
 ·omega
 ·have b:L (S.j2 a).2=L S.q:=qK _ _ _;have c:L (S.r3 a)+L (S.q3 a)<=L S.r+L (S.j2 a).2:=sD (et cy) (λs x=>(S.s.j0 a).al s.1 x) _ (λs x=>(S.s.j0 a).nw s.1 x) (λs x=>sv _ s x) (S.j2 a) S.r;have d:L ((S.k5 a).tR (S.cM a,S.q3 a) (S.r3 a))+L ((S.k5 a).i7 (S.cM a,S.q3 a) (S.r3 a))<=L (S.r3 a)+L (S.q3 a):=sD (et cy) (λs x=>(S.k5 a).al s.1 x) _ (λs x=>(S.k5 a).nw s.1 x) (λ_ _=>rfl) (S.cM a,S.q3 a) (S.r3 a)
  grind
theorem eA.dR (h:eA a S.s Y G)(hb:cL a S.s):(S.gD a=O4->∃F,je (S.k5 a) (S.d_ a) F/\F 0 (S.k5 a,0))/\(∃c d,eA a (S.dR a).s c d)/\L (S.dR a).s.M<=L S.s.M:=by
 refine⟨λb=>(nE h hb b).1,?_⟩
 cases b:S.gD a
 ·obtain⟨_,g,_⟩:=nE h hb b;obtain⟨e,_⟩:=g.gc.inv h hb g.al;exact⟨⟨[],_,e⟩,(g.gc.M▸a4 _)⟩
 ·have f:S.dR a=S:=by grind [cv.dR]
  grind
end
structure m3 (k:b_)(C:Int->Prop):Prop where
 rt:∀i,i<12->k.jt (X k.s.rs i 0)=O5->C (cq (X k.s.rs i 0))
 p:∀a∈k.T,C a->pk (k.ld a)=1\/pk (k.ld a)=2->∀i:Nat,(i:Int)<pf (k.ld a)->k.jt (k.ld (a+1+i))=O5->C (cq (k.ld (a+1+i)))
 w:∀a∈k.T,C a->pk (k.ld a)=3->k.jt (k.ld (a+2))=O5->C (cq (k.ld (a+2)))
 e:∀a∈k.T,C a->pk (k.ld a)=4->(k.jt (k.ld (a+1))=O5->C (cq (k.ld (a+1))))->k.jt (k.ld (a+2))=O5->C (cq (k.ld (a+2)))
def qY (k:b_)(C:Int->Prop)(q:List b8):Prop:=∀e∈q,(k.jt e.1=O5->C (cq e.1))->k.jt e.2=O5->C (cq e.2)
structure dW (k:b_)(C:Int->Prop)(s:cy):Prop where
 snd:∀a∈k.T,s.f a≠-1->C a
 ea:∀a∈s.ep,a∈k.T/\s.f a≠-1/\pk (k.ld a)=4
section
variable {k:b_}{C:Int->Prop}{s:cy}
theorem dW.dd (h:dW k C s){x:Int}(b:k.dd s x=O4):k.jt x=O5->C (cq x):=λht=>h.snd _ (qN ht) ((b_.sA ht).1 b)
theorem dW.al (h:dW k C s){x:Int}(b:k.al s x=O5):k.jt x=O5->C (cq x):=(by grind [dd,b_.al])
theorem dW.ma (h:dW k C s)(x:Int)(d:k.jt x=O5->C (cq x))(le:dx k s (k.ma s x)):dW k C (k.ma s x):=by
 refine⟨λb hb f=>?_,λb hb=>?_⟩
 ·by_cases c:k.dd s x=O5
  ·have e:(k.ma s x).f b=if b=cq x then cq x else s.f b:=by unfold b_.ma;rw[aN c];rfl
   grind [snd,b_.dd]
  grind [snd,b_.ma]
 ·rw[v4] at hb;obtain⟨q1,g,q3⟩:=h.ea b hb
  grind [dx.f]
theorem dW.fQ {X:Int->Prop}(h:dW k C s)(m:dh k X s)(a:Int):∀n:Nat,(∀i:Nat,i<n->k.jt (k.ld (a+1+i))=O5->C (cq (k.ld (a+1+i))))->dW k C (k.fQ s a n)
 |0,_=>h
 |n+1,b=>by obtain⟨m1,_⟩:=m.fQ a n;exact(dW.fQ h m a n (by grind)).ma _ (by grind) (m1.ma _).2.1
theorem dW.l1 (h:dW k C s)(m:dh k (λ_=>False) s)(j:m3 k C)(hl:0<L s.td):dW k C (k.l1 s):=by
 obtain⟨x,l⟩:∃x,X s.td (L s.td-1) 0=x:=(by grind)
 have hm:x∈s.td:=by grind
 have c:=m.fG.td x hm;have d:=m.td x hm;have hc:=h.snd x c d;have e:k.l1 s=k.lk {s with td:=s.td.take (L s.td-1)} x:=by grind [b_.l1]
 have hs:=m.fG.sum;have n:L (s.td.take (L s.td-1))=L s.td-1:=by simp_all
 have f:dh k (λb=>b∈s.td) {s with td:=s.td.take (L s.td-1)}:=⟨⟨m.fG.nd,m.fG.ps,λa ha=>m.fG.td a (by grind),m.fG.ep,m.fG.tl,by
  show k.lost s+L (s.td.take _)+L s.ep<=_;omega⟩,m.self,λa ha=>m.td a (by grind),λa ha g=>by
  rcases m.cmp a ha g with q|q|q
  ·grind
  ·grind
  ·exact aI (aI ⟨q.p,q.w,q.e⟩)⟩
 have h0:dW k C {s with td:=s.td.take (L s.td-1)}:=⟨h.snd,h.ea⟩
 rw[e];unfold b_.lk;by_cases c1:pk (k.ld x)=1\/pk (k.ld x)=2
 ·grind [fQ,m3.p]
 ·rw[aJ c1];by_cases c3:pk (k.ld x)=3
  ·rw[aN c3];exact h0.ma _ (by grind [m3.w]) (f.ma _).2.1
  ·rw[aJ c3];by_cases i:pk (k.ld x)=4
   ·rw[aN i];refine⟨h.snd,λb hb=>?_⟩
    grind [ea]
   grind
theorem dW.lm (b:m3 k C):∀(n:Nat){s:cy},dW k C s->dh k (λ_=>False) s->dW k C (k.lm n s)
 |0,s,h,_=>h
 |n+1,s,h,m=>by
  unfold b_.lm;by_cases c:0<L s.td
  ·rw[aN c];exact dW.lm b n (h.l1 m b c) (m.l1 c).1
  grind
theorem dW.jd (b:m3 k C):∀(l:List Int){t:List Int×cy},dW k C t.2->dh k (λ_=>False) t.2->(∀a∈l,a∈k.T/\t.2.f a≠-1/\pk (k.ld a)=4)->dW k C (l.foldl k.cX t).2/\∀a∈(l.foldl k.cX t).1,a∈t.1\/a∈l
 |[],t,h,_,_=>(by grind)
 |a::l,t,h,m,hl=>by
  rw[a8];obtain⟨a1,a2,d⟩:=hl a ac;by_cases c:k.dd t.2 (k.ld (a+1))=O5
  ·have e:k.cX t a=(t.1++[a],t.2):=by grind [b_.cX]
   rw[e];obtain⟨f,g⟩:=dW.jd b l (t:=(t.1++[a],t.2)) h m (by grind)
   grind
  ·have e:k.cX t a=(t.1,k.ma t.2 (k.ld (a+2))):=by grind [b_.cX]
   rw[e];obtain⟨m1,i,_⟩:=m.ma _;obtain⟨f,g⟩:=dW.jd b l (t:=(t.1,k.ma t.2 _)) (h.ma _ (b.e a a1 (h.snd a a1 a2) d (h.dd (by simpa using c))) i) m1 (by grind [dx.f])
   grind
theorem dW.kv (c:m3 k C)(h:dW k C s)(m:dh k (λ_=>False) s):dW k C (k.kv s).2:=by
 obtain⟨d,e⟩:=dW.jd c s.ep (t:=([],s)) h m h.ea;obtain⟨_,le,_⟩:=dh.jd s.ep (t:=([],s)) m;refine⟨d.snd,λb hb=>?_⟩
 have hb:=hb;rcases e b hb with q|q
 ·grind
 ·obtain⟨q1,f,q3⟩:=h.ea b q;exact⟨q1,by show(s.ep.foldl k.cX ([],s)).2.f b≠-1;grind [dx.f],q3⟩
theorem dW.lI (q:List b8)(b:qY k C q):∀(l:List Nat)(t:(cy×List b8)×Bool),t.1.2=q->(∀i∈l,i<L q)->dW k C t.1.1->dh k (λ_=>False) t.1.1->dW k C (l.foldl (dN k.al k.mp) t).1.1
 |[],t,_,_,h,_=>h
 |i::l,t,e,hl,h,m=>by
  rw[a8];have hi:=hl i ac;by_cases c:(k.al t.1.1 (X t.1.2 i (0,0)).2||!k.al t.1.1 (X t.1.2 i (0,0)).1)=O5
  ·have d:dN k.al k.mp t i=t:=by grind [dN]
   rw[d];exact dW.lI q b l t e (by grind) h m
  ·have d:dN k.al k.mp t i=((k.ma t.1.1 (X t.1.2 i (0,0)).2,t.1.2),O5):=by exact Ay
   rw[d];have hm:X t.1.2 i (0,0)∈q:=by simp_all
   have hg:k.al t.1.1 (X t.1.2 i (0,0)).1=O5:=by simp_all
   obtain⟨m1,f,_⟩:=m.ma _;exact dW.lI q b l _ e (by grind) (h.ma _ (b _ hm (h.al hg)) f) m1
theorem dW.de (b:m3 k C):∀(n:Nat)(t:cy×List b8),qY k C t.2->dW k C t.1->dh k (λ_=>False) t.1->dW k C (k.de n t).1
 |0,t,_,h,_=>h
 |n+1,t,c,h,m=>by
  obtain⟨l1,_⟩:=m.fe;have d:=dW.kv b (dW.lm b _ h m) l1;obtain⟨v1,_⟩:=l1.kv;have e:dW k C (k.wa ((k.kv (k.fe t.1)).2,t.2)).1.1:=dW.lI t.2 c _ (((k.kv _).2,t.2),O4) rfl (by grind) d v1;obtain⟨w1,_,f,_⟩:=dh.wa (t:=((k.kv _).2,t.2)) v1;unfold b_.de;split
  ·exact dW.de b n _ c d v1
  ·split
   ·exact dW.de b n _ (by simp_all) e w1
   omega
theorem dW.ke (b:m3 k C){t:cy×List b8}(c:qY k C t.2)(h:dW k C t.1)(m:dh k (λ_=>False) t.1)(x:Int)(d:k.jt x=O5->C (cq x)):dW k C (k.ke t x).2.1:=by obtain⟨m1,e,_⟩:=m.ma x;exact dW.de b _ (k.ma t.1 x,t.2) c (h.ma x d e) m1
end
def mz (k:b_)(l:List b8):Prop:=∀e∈l,k.jt e.1=O5/\k.jt e.2=O5
section
variable {a:Wc}{S:cv}{Y G:List Int}
theorem Ba (h:eA a S.s Y G)(hb:cL a S.s)(b:S.gD a=O4):(S.dR a).q=(((S.s.j0 a).fB (S.j2 a) S.r).2.filter (λe=>(S.s.j0 a).al (S.cI a) e.1)).map (λe=>((S.s.j0 a).nw (S.cM a) e.1,(S.s.j0 a).nw (S.cM a) e.2)):=by
 have c:=c8.start hb.n1 hb.o1 hb.y1 hb.g1;obtain⟨d1,i,j⟩:=pF (S:=S) c;obtain⟨_,l2,l⟩:=my h.inv.full hb;obtain⟨_,g,m⟩:=nE h hb b;obtain⟨_,d,t3,_⟩:=qR (s:=S.cM a) (k:=S.s.j0 a) ⟨hb.l1,hb.y1,hb.g1⟩ hb.r1 c.nd (pJ h.inv.full hb) (qX h.inv.full hb)
 have d:(S.k5 a).Y=(S.s.j0 a).Y:=d;have t3:(S.k5 a).G=(S.s.j0 a).G:=t3;have n:(S.k5 a).T=(S.s.j0 a).T:=by grind [b_.T]
 have o:∀x,(S.k5 a).al (S.cM a) x=(S.s.j0 a).al (S.cI a) x:=λx=>by grind [wn.iff,b_.dd,b_.jt,b_.al]
 have q3:S.q3 a=((S.s.j0 a).fB (S.j2 a) S.r).2.filter (λe=>(S.s.j0 a).al (S.cI a) e.1):=by show((((S.s.j0 a).fB (S.j2 a) S.r).2.filter (λe=>(S.s.j0 a).al (S.cI a) e.1)).map λe=>((S.s.j0 a).nw (S.cI a) e.1,(S.s.j0 a).nw (S.cI a) e.2))=_;exact AZ
 have f:(S.k5 a).tS (S.cM a,S.q3 a) (S.r3 a)=(S.cM a,S.q3 a):=(by simp_all [wm,sO])
 unfold cv.dR;rw[b,aJ ac];show fq (et cy) (λs x=>(S.k5 a).al s.1 x) _ (λs x=>(S.k5 a).nw s.1 x) (S.cM a,S.q3 a) (S.r3 a)=_;unfold fq;have e:gu (et cy) (λs x=>(S.k5 a).al s.1 x) (S.k5 a).ct (S.cM a,S.q3 a) (S.r3 a)=(S.cM a,S.q3 a):=f;rw[e];show((S.q3 a).filter (λe=>(S.k5 a).al (S.cM a) e.1)).map (λe=>((S.k5 a).nw (S.cM a) e.1,(S.k5 a).nw (S.cM a) e.2))=_
 grind [b_.me,nX]
end
theorem IS {k:b_}{j:cy}{x:Int}(b:k.jt x=O5)(c:j.f (cq x)≠-1)(hb:0<=j.f (cq x)/\j.f (cq x)<1000000):k.nw j x=ew 3 (j.f (cq x))/\di (k.nw j x)=O5/\cq (k.nw j x)=j.f (cq x):=by
 have e:k.nw j x=ew 3 (j.f (cq x)):=by grind [b_.nw]
 obtain⟨n,hn⟩:∃n:Nat,j.f (cq x)=n:=⟨K (j.f (cq x)),aa⟩
 grind [oy]
def kD (a:Wc)(W:cv):Prop:=∀e,(e∈W.r\/e∈W.q)->tB a.N W.s.y W.s.g W.s.ws e.1=O5/\tB a.N W.s.y W.s.g W.s.ws e.2=O5
section
variable {a:Wc}{S:cv}{Y G:List Int}
theorem jS {N O y g:Nat}{ws Y G:List Int}(h:ey N y g ws Y G)(hN:N<=256)(hy:y<=N)(hO:O<=1024)(hg:g<=O){x:Int}:tB N y g ws x=O5↔di x=O5/\(cq x∈Y\/cq x∈G):=by grind [ey.lists,tB]
theorem sT (h:eA a S.s Y G)(hb:cL a S.s){x:Int}:(S.s.j0 a).jt x=O5↔tB a.N S.s.y S.s.g S.s.ws x=O5:=by
 obtain⟨_,_,b⟩:=my h.inv.full hb;rw[jS h.inv.full hb.n1 hb.y1 hb.o1 hb.g1]
 grind [b_.jt]
theorem kD.ok (h:kD a S)(hk:eA a S.s Y G)(hb:cL a S.s):mz (S.s.j0 a) S.r/\mz (S.s.j0 a) S.q:=
 ⟨λe he=>⟨(sT hk hb).2 (h e (by grind)).1,(sT hk hb).2 (h e (by grind)).2⟩,λe he=>⟨(sT hk hb).2 (h e (by grind)).1,(sT hk hb).2 (h e (by grind)).2⟩⟩
theorem IT (q:c8 (S.s.j0 a) iw)(hr:mz (S.s.j0 a) S.r)(hq:mz (S.s.j0 a) S.q):∀e∈((S.s.j0 a).fB (S.j2 a) S.r).2,(S.s.j0 a).jt e.1=O5/\(S.s.j0 a).jt e.2=O5:=by
 obtain⟨v,_,_⟩:=(dh.start q).cO 12;obtain⟨w,_,g⟩:=dh.sp (t:=((S.s.j0 a).cO iw 12,S.q)) v;have g:(S.j2 a).2=S.q:=g;have key:∀(n:Nat)(t:cy×List b8)(d:List b8),fS (S.s.j0 a) t.1 t.2->mz (S.s.j0 a) t.2->mz (S.s.j0 a) d->mz (S.s.j0 a) (e5 (S.s.j0 a).gx n t d).1.2:=λn=>by
  have pl:∀(l:List b8)(u:List b8×List b8×(cy×List b8)),fS (S.s.j0 a) u.2.2.1 u.2.2.2->mz (S.s.j0 a) u.2.2.2->mz (S.s.j0 a) l->mz (S.s.j0 a) (l.foldl (eZ (S.s.j0 a).gx) u).2.2.2:=λl=>by
   induction l with
   |nil=>intro u _ f _;exact f
   |cons e l i=>
    intro u k f hl;have m:(eZ (S.s.j0 a).gx u e).2.2=((S.s.j0 a).gx u.2.2 e).2:=by unfold eZ;split<;>rfl
    refine i _ ((m▸(k.cm e).1)) ?_ (λb hb=>hl b (bj _ hb))
    rw[m];cases c:(S.s.j0 a).al u.2.2.1 e.1
    ·have j:(S.s.j0 a).gx u.2.2 e=(O4,u.2.2):=oc c;rw[j];exact f
    ·obtain⟨_,_,x,_⟩:=k.kY.ke e.2;have j:(S.s.j0 a).gx u.2.2 e=(O5,(((S.s.j0 a).ke u.2.2 e.2).2.1,u.2.2.2++[e])):=by refine(oe (s:=u.2.2) c).trans ?_;show(O5,(((S.s.j0 a).ke u.2.2 e.2).2.1,((S.s.j0 a).ke u.2.2 e.2).2.2++[(e.1,e.2)]))=_;rw[x]
     rw[j];intro b hb;rcases bw.1 hb with hb|hb
     ·exact f b hb
     ·rw[bN.1 hb];exact hl e ac
  induction n with
  |zero=>intro t d _ ht _;exact ht
  |succ n i=>
   intro t d o ht hd;have p:=pl d ([],[],t) o ht hd;by_cases c:L (dF (S.s.j0 a).gx t d).1=0
   ·rw[og _ _ _ _ c];exact p
   ·rw[nh _ _ _ _ c];exact i _ _ (fS.pl d ([],[],t) o).1 p (λe he=>hd e (uR _ t d e (aI he)))
 exact key _ (S.j2 a) _ w ((g▸hq)) (λe he=>hr e (bK.1 he).1)
theorem kD.dR (h:kD a S)(hk:eA a S.s Y G)(hb:cL a S.s):kD a (S.dR a):=by
 cases hf:S.gD a
 ·have n:=c8.start hb.n1 hb.o1 hb.y1 hb.g1;obtain⟨hr,hq⟩:=h.ok hk hb;obtain⟨o,al,_⟩:=pF n;obtain⟨_,_,u⟩:=my hk.inv.full hb;obtain⟨_,g,j⟩:=nE hk hb hf;obtain⟨v,B1⟩:=g.gc.inv hk hb g.al;have hN:=hb.n1;have hO:=hb.o1;have am:=g.gc.g;have bnd:∀c∈G++Y,(S.cM a).f c≠-1->0<=(S.cM a).f c/\(S.cM a).f c<1000000:=λc hc w=>by
   have q1:=g.gc.bd c hc w;have l:=du (ld a.N S.s.y S.s.g S.s.ws c)
   omega
  have B:∀x,(S.s.j0 a).jt x=O5->(S.s.j0 a).al (S.cI a) x=O5->(S.cM a).f (cq x)≠-1:=λx b ha q=>by grind [qN,b_.sA,wn.iff,b_.al]
  have key:∀x,(S.s.j0 a).jt x=O5->(S.s.j0 a).al (S.cI a) x=O5->tB a.N (S.dR a).s.y (S.dR a).s.g (S.dR a).s.ws ((S.s.j0 a).nw (S.cM a) x)=O5:=λx b ha=>by
   have hm:=qN b;rw[u] at hm;have F:=B x b ha;obtain⟨_,l,q3⟩:=IS b F (by grind)
   refine(jS v.inv.full B1.n1 B1.y1 B1.o1 B1.g1).2 ⟨l,aI ?_⟩
   grind [wj]
  obtain⟨_,d,t3,_⟩:=qR ⟨hb.l1,hb.y1,hb.g1⟩ hb.r1 n.nd (pJ hk.inv.full hb) (qX hk.inv.full hb)
  have d:=d;have t3:=t3;intro e he;rcases he with he|he
  ·have N:(S.dR a).r=(S.k5 a).tR (S.cM a,S.q3 a) (S.r3 a):=by grind [cv.dR]
   rw[N] at he;have he:e∈(((S.r3 a).filter (λe=>(S.k5 a).al (S.cM a) e.2)).filter (λe=>(S.k5 a).al ((S.k5 a).tS (S.cM a,S.q3 a) (S.r3 a)).1 e.1)).map λe=>((S.k5 a).nw ((S.k5 a).tS (S.cM a,S.q3 a) (S.r3 a)).1 e.1,(S.k5 a).nw ((S.k5 a).tS (S.cM a,S.q3 a) (S.r3 a)).1 e.2):=he;have j:((S.k5 a).tS (S.cM a,S.q3 a) (S.r3 a)).1=S.cM a:=j;rw[j] at he;obtain⟨f,p,s⟩:=bS.1 he;have m:=(bK.1 (bK.1 p).1).1;have m:f∈((S.r.filter (λe=>(S.s.j0 a).al (S.j2 a).1 e.2)).filter (λe=>(S.s.j0 a).al (S.cI a) e.1)).map λe=>((S.s.j0 a).nw (S.cI a) e.1,(S.s.j0 a).nw (S.cI a) e.2):=m;obtain⟨W,ab,i⟩:=bS.1 m;obtain⟨ad,ag⟩:=bK.1 ab;obtain⟨t,ai⟩:=bK.1 ad;rw[o.kY.nw,o.kY.nw] at i;have i:W=f:=i;rw[i] at ag t ai;obtain⟨q1,l⟩:=hr f t;rw[<-s,b_.me (k:=S.k5 a) _ _ d t3,b_.me (k:=S.k5 a) _ _ d t3]
   grind [AB]
  ·rw[Ba hk hb hf] at he;obtain⟨f,p,s⟩:=bS.1 he
   grind [IT,fS.wq]
 grind [cv.dR]
theorem kD.more {W:cv}{b:eL}{c d:List Int}(h:kD a W)(hk:eA a W.s Y G)(hb:cL a W.s)(i:ey a.N b.y b.g b.ws c d)(hy:b.y<=a.N)(hg:b.g<=a.O)(hs:∀v,(v∈Y\/v∈G)->(v∈c\/v∈d)):kD a ⟨b,W.r,W.q⟩:=λe he=>by
 have key:∀x,tB a.N W.s.y W.s.g W.s.ws x=O5->tB a.N b.y b.g b.ws x=O5:=λx f=>by
  obtain⟨q1,g⟩:=(jS hk.inv.full hb.n1 hb.y1 hb.o1 hb.g1).1 f
  grind [jS,cL.n1,cL.o1]
 obtain⟨q1,g⟩:=h e he
 grind
end
def k8 (k:cf)(z:C0)(x:Int):Prop:=di x=O5/\(cq x∈k.T\/cq x∈z.G)
def iK (k:cf)(z:C0)(s:cn)(q:List b8):Prop:=∀e∈q,k8 k z e.1/\∃b,k8 k z b/\k.ml s b e.2
def wu (k:cf)(s:cn)(q:List b8):Prop:=∀e∈q,k.al s e.2=O5\/k.al s e.1=O4
section
variable {k:cf}{z:C0}{s t u:cn}{D H:List Int}{q:List b8}
theorem iK.kB (h:iK k z s q)(p:c_ k s t):iK k z t q:=λe he=>by
 obtain⟨b,c,d,f⟩:=h e he
 grind [c_.ml]
theorem qZ (p:c_ k s t){x:Int}(h:k.al s x=O5):k.al t x=O5:=by grind [c_.f,cf.al,cf.ls]
theorem sU {x:Int}(h:k.cP x=O4):k.al s x=O5:=by grind [cf.al,cf.ls]
theorem iK.mv:∀(l:List Nat)(t:(cn×List b8)×Bool)(H:List Int),LI k z t.1.1 H D->dU k z t.1.1 H->(∀i∈l,i<L t.1.2)->iK k z t.1.1 t.1.2->iK k z (l.foldl (dN k.al k.br) t).1.1 (l.foldl (dN k.al k.br) t).1.2
 |[],_,_,_,_,_,e=>e
 |i::l,t,H,h,w,hl,e=>by
  rw[a8];by_cases c:(k.al t.1.1 (X t.1.2 i (0,0)).2||!k.al t.1.1 (X t.1.2 i (0,0)).1)=O5
  ·have b:dN k.al k.br t i=t:=by grind [dN]
   rw[b];exact iK.mv l t H h w (by grind) e
  ·have b:dN k.al k.br t i=(((k.br t.1.1 (X t.1.2 i (0,0)).2).2,t.1.2.set i ((X t.1.2 i (0,0)).1,(k.br t.1.1 (X t.1.2 i (0,0)).2).1)),O5):=by grind [dN]
   have hi:=hl i ac;have hm:X t.1.2 i (0,0)∈t.1.2:=by simp_all
   obtain⟨g,l1,w1,m,_⟩:=df.br _ H h w;obtain⟨_,_,_,_,_,m1,_⟩:=h.mi.br _;rw[b];refine iK.mv l _ g l1 w1 (λj n=>?_) ?_
   ·grind
   ·intro d hd;have hd:=hd;rcases List.mem_or_eq_of_mem_set hd with hd|rfl
    ·exact e.kB m d hd
    ·obtain⟨g1,f,g2,g3⟩:=e _ hm;exact⟨g1,f,g2,m1 f g3⟩
theorem iK.wa {t:cn×List b8}(h:LI k z t.1 H D)(w:dU k z t.1 H)(e:iK k z t.1 t.2):iK k z (k.wa t).1.1 (k.wa t).1.2:=
 iK.mv _ (t,O4) H h w (by grind) e
theorem iK.de:∀(n:Nat)(t:cn×List b8)(H:List Int),LI k z t.1 H D->dU k z t.1 H->iK k z t.1 t.2->iK k z (k.de n t).1 (k.de n t).2
 |0,_,_,_,_,e=>e
 |n+1,t,H,h,w,e=>by
  obtain⟨f,l1,w1,g,_⟩:=df.lb (k.O+1) H h w;obtain⟨c,l2,b,i,_⟩:=df.kv f l1 w1;have d:=e.kB (g.trans i)
  obtain⟨j,l,m,_,_⟩:=df.wa ((k.kv _).2,t.2) c l2 b;have o:=iK.wa (t:=((k.kv _).2,t.2)) l2 b d;unfold cf.de;split
  ·exact iK.de n ((k.kv _).2,t.2) c l2 b d
  ·split
   ·exact iK.de n _ j l m o
   omega
theorem Bb (k:cf):∀(l:List Nat)(t:(cn×List b8)×Bool),(l.foldl (dN k.al k.br) t).2=O4->∀i∈l,k.al t.1.1 (X t.1.2 i (0,0)).2=O5\/k.al t.1.1 (X t.1.2 i (0,0)).1=O4
 |[],_,_,_,hi=>by cases hi
 |j::l,t,h,i,hi=>by
  rw[a8] at h;obtain⟨_,b⟩:=v6 k l _ h;by_cases c:(k.al t.1.1 (X t.1.2 j (0,0)).2||!k.al t.1.1 (X t.1.2 j (0,0)).1)=O5
  ·have d:dN k.al k.br t j=t:=by unfold dN;rw[aN c]
   rw[d] at h;rcases List.mem_cons.1 hi with rfl|hi
   ·simpa using c
   ·exact Bb k l t h i hi
  ·unfold dN at b;rw[aJ c] at b;cases b
theorem sV:∀(n:Nat)(t:cn×List b8)(H:List Int),LI k z t.1 H D->dU k z t.1 H->eD k t.1->k.mu t.1<n->wu k (k.de n t).1 (k.de n t).2
 |0,t,H,_,_,_,e=>aa
 |n+1,t,H,h,w,hb,e=>by
  obtain⟨x,l1,w1,_,_,_⟩:=LI.pH (k.O+1) h w;obtain⟨c1,c2,c3⟩:=CI.lb h.mi.ci hb (k.O+1)
  obtain⟨j,b,B,l⟩:=CI.kv c1 c2;obtain⟨c,l2,f,_,_⟩:=l1.kv w1;unfold cf.de;cases hk:(k.kv _).1
  ·rw[aJ ac];obtain⟨F,m,N,S,o⟩:=CI.wa (s:=((k.kv _).2,t.2)) j b;cases hw:(k.wa ((k.kv _).2,t.2)).2
   ·rw[aJ ac,v7 k _ hw];intro d hd;obtain⟨i,hi,W⟩:=bP.1 hd;have q:=Bb k _ (((k.kv _).2,t.2),O4) hw i (by grind)
    grind
   ·obtain⟨p,u,v,_,_⟩:=df.wa ((k.kv _).2,t.2) c l2 f;have g:=o hw;dsimp only at g;exact sV n _ p u v m aa
  ·rw[aN rfl];have g:=l hk;exact sV n ((k.kv _).2,t.2) c l2 f b (by grind)
def iL (k:cf)(z:C0)(D:List Int)(t:cn×List b8):Prop:=∃H,LI k z t.1 H D/\dU k z t.1 H/\eD k t.1/\iK k z t.1 t.2/\wu k t.1 t.2
theorem iL.sp {t:cn×List b8}(h:LI k z t.1 H D)(w:dU k z t.1 H)(hb:eD k t.1)(e:iK k z t.1 t.2):iL k z D (k.sp t):=by obtain⟨K,m1,b,_,_⟩:=df.sp t H h w;exact⟨K,m1,b,(qT _ t h.mi.ci hb).2,iK.de _ t H h w e,sV _ t H h w hb aa⟩
theorem iL.cm {t:cn×List b8}(h:iL k z D t){e:b8}(f:k8 k z e.1)(j2:k8 k z e.2):iL k z D (cm (et cn) (λs x=>k.al s.1 x) k.ke t e).2:=by
 cases c:k.al t.1 e.1
 ·grind [oc]
 ·rw[oe (o:=et cn) (is:=λs x=>k.al s.1 x) (kp:=k.ke) (s:=t) (e:=e) c];obtain⟨H,b,g,u,i,v⟩:=h;obtain⟨j,l1,w1,l,_⟩:=df.br (k:=k) (z:=z) (D:=D) (s:=t.1) e.2 H b g;obtain⟨_,_,_,y1,_,m1,_⟩:=b.mi.br e.2;obtain⟨_,w,B,F⟩:=nA k t.1 e.2;have hb:eD k (k.br t.1 e.2).2:=⟨by simp_all [eD.wk],by simp_all [eD.ep]⟩
  obtain⟨K,q1,m,q3,n,p⟩:=iL.sp (t:=((k.br t.1 e.2).2,t.2)) l1 w1 hb (i.kB l)
  obtain⟨_,_,_,q,_⟩:=df.sp (k:=k) (z:=z) (D:=D) ((k.br t.1 e.2).2,t.2) j l1 w1;show iL k z D ((k.sp ((k.br t.1 e.2).2,t.2)).1,(k.sp ((k.br t.1 e.2).2,t.2)).2++[(e.1,(k.br t.1 e.2).1)])
  refine⟨K,q1,m,q3,λd hd=>?_,λd hd=>?_⟩
  ·rcases bw.1 hd with hd|hd
   ·exact n d hd
   ·rw[bN.1 hd];exact⟨f,e.2,j2,q.ml (m1 _ (aK rfl))⟩
  ·rcases bw.1 hd with hd|hd
   ·exact p d hd
   grind [sU]
theorem iL.pl:∀(l:List b8)(u:List b8×List b8×(cn×List b8)),iL k z D u.2.2->(∀e∈l,k8 k z e.1/\k8 k z e.2)->iL k z D (l.foldl (eZ (Go.Proofs.YtjckpdepffejnaaGreatDoor.cm (et cn) (λs x=>k.al s.1 x) k.ke)) u).2.2
 |[],_,h,_=>h
 |e::l,u,h,hl=>by
  have key:(eZ (Go.Proofs.YtjckpdepffejnaaGreatDoor.cm (et cn) (λs x=>k.al s.1 x) k.ke) u e).2.2=(Go.Proofs.YtjckpdepffejnaaGreatDoor.cm (et cn) (λs x=>k.al s.1 x) k.ke u.2.2 e).2:=by grind [eZ]
  refine iL.pl l _ ?_ (by grind)
  grind [cm]
theorem iL.e5:∀(n:Nat)(t:cn×List b8)(d:List b8),iL k z D t->(∀e∈d,k8 k z e.1/\k8 k z e.2)->iL k z D (e5 (Go.Proofs.YtjckpdepffejnaaGreatDoor.cm (et cn) (λs x=>k.al s.1 x) k.ke) n t d).1
 |0,_,_,h,_=>h
 |n+1,t,d,h,hd=>by
  have b:=iL.pl d ([],[],t) h hd;have b:iL k z D (dF (Go.Proofs.YtjckpdepffejnaaGreatDoor.cm (et cn) (λs x=>k.al s.1 x) k.ke) t d).2.2:=b;by_cases c:L (dF (Go.Proofs.YtjckpdepffejnaaGreatDoor.cm (et cn) (λs x=>k.al s.1 x) k.ke) t d).1=0
  ·grind [og]
  ·rw[nh _ _ _ _ c];exact iL.e5 n _ _ b (λe he=>(by grind [uR]))
theorem Bc (k:cf):∀(l:List Int)(s:cn),(l.foldl k.e8 s).g=s.g
 |[],_=>rfl
 |x::l,s=>by rw[a8,Bc k l];unfold cf.e8;split<;>rfl
theorem Bd (k:cf):∀(l:List Int)(s:cn),(l.foldl k.ie s).g=s.g
 |[],_=>rfl
 |x::l,s=>by rw[a8,Bd k l];rfl
end
section
variable {a:Wc}{S:cv}{Y G:List Int}
theorem IU (h:eA a S.s Y G)(hb:cL a S.s)(hr:S.s.y<=a.O-S.s.g)(he:kD a S):∃D,iL (S.s.k0 a) (S.s.z0 G) D ((S.s.k0 a).fB (S.t3 a) S.r)/\c_ (S.s.k0 a) (S.t3 a).1 (S.s4 a):=by
 have q:(S.s.k0 a).T=Y:=pI h.inv.full hb.n1 hb.y1 hb.o1 hb.g1;have f:∀x,tB a.N S.s.y S.s.g S.s.ws x=O5->k8 (S.s.k0 a) (S.s.z0 G) x:=λx g=>by
  obtain⟨q1,q2⟩:=(jS h.inv.full hb.n1 hb.y1 hb.o1 hb.g1).1 g;refine⟨q1,?_⟩
  rw[q];exact q2
 have j:=LI.start h.inv.full hb.n0 hb.n1 hb.o1 hb.y1 hb.g1 hb.l1 hr;obtain⟨H1,c,s,⟨ab,ad⟩,l1,y1,_,m1⟩:=j.cO 12 (by show 12<=L S.s.rs;rw[hb.r1];omega)
 have k:dM a.N S.s.y (S.s.s1 a).g (S.s.s1 a).ws=G++H1:=(c.mi.full.lists hb.n1 hb.y1 hb.o1 c.mi.ci.hg).2;have u:(S.s.s1 a).nx=((S.s.k0 a).N:Int)+(S.s.z0 G).g:=(nB _ _ 12).2.2;have v:eR ((S.s.k0 a).l0 (S.s.z0 G)) (((S.s.k0 a).N:Int)+(S.s.z0 G).g) (S.s.k0 a).N (S.s.z0 G).G:=h.inv.full.eC;obtain⟨m,i,n,o,B,⟨ag,ai⟩,_,hD⟩:=LI.qS (dT a.O) S.s.M v (G++H1) c ((dU.start a S.s G).cO j.mi 12 c.mi s (by grind)) (λx g=>(bw.1 g).imp id (λd=>c.mi.hlo x d))
 have F:(G++H1).foldl ((S.s.k0 a).hK (((S.s.k0 a).N:Int)+(S.s.z0 G).g) (dT a.O) S.s.M) ((S.s.k0 a).cO (S.s.s0 a) 12)=S.s.s2 a:=by unfold eL.s2 cf.lm;rw[k,u];rfl
 have hlen:=sK (S.s.k0 a) (((S.s.k0 a).N:Int)+(S.s.z0 G).g) (dT a.O) S.s.M (G++H1) ((S.s.k0 a).cO (S.s.s0 a) 12)
 rw[F] at n o B hlen;have al:L (G++H1)<=2000:=(k▸jp _ _)
 obtain⟨q1,q2,q3⟩:=nB _ _ 12;have cb:eD (S.s.k0 a) (S.s.s2 a):=by exact v_
 have key:∀s2:cn,LI (S.s.k0 a) (S.s.z0 G) s2 m i->dU (S.s.k0 a) (S.s.z0 G) s2 m->eD (S.s.k0 a) s2->_:=λs2 l w b=>
  iL.sp (t:=(s2,S.q)) l w b (λe hq=>⟨f _ (he e (by grind)).1,e.2,f _ (he e (by grind)).2,aK rfl⟩)
 have p:iL (S.s.k0 a) (S.s.z0 G) i (S.t3 a):=by exact key _ n o cb
 refine⟨i,iL.e5 _ (S.t3 a) _ p (λe hq=>?_),?_⟩
 ·have hq:=(bK.1 hq).1;exact⟨f _ (he e (by grind)).1,f _ (he e (by grind)).2⟩
 ·obtain⟨K,r1,N,_⟩:=p;obtain⟨_,_,_,W,_⟩:=df.fB (S.t3 a) S.r K r1 N;exact W
theorem kD.cut (h:eA a S.s Y G)(hb:cL a S.s)(he:kD a S):kD a (S.cut a):=by
 cases hf:S.full a
 ·have hr:S.s.y<=a.O-S.s.g:=by have:=of_decide_eq_false hf;omega
  obtain⟨K,D,c⟩:=sL h hb hr;obtain⟨W,⟨H,s1,s2,_,s4,s5⟩,kB⟩:=IU h hb hr he;have p:(S.s.k0 a).T=Y:=pI h.inv.full hb.n1 hb.y1 hb.o1 hb.g1;have hN:=hb.n1;have hO:=hb.o1;have hg:=c.li.mi.ci.hg;have ab:(S.s.k0 a).N=a.N:=rfl;have ad:(S.s.k0 a).O=a.O:=rfl;have ag:(S.s6 a).g=(S.s4 a).g:=(Bd _ _ _).trans (Bc _ _ _)
  have s:S.cut a=⟨⟨0,(S.s6 a).g,(S.s6 a).ws,[],(S.s6 a).rs⟩,(S.s.k0 a).sR (S.t3 a) S.r,(S.s.k0 a).j8 (S.t3 a) S.r⟩:=by grind [cv.cut]
  have t:∀x,di x=O5->cq x∈G++K->tB a.N (S.cut a).s.y (S.cut a).s.g (S.cut a).s.ws x=O5:=λx g i=>(s▸(jS (O:=a.O) (c.done h hb).full hN aa hO aa).2 (by grind))
  have ai:∀v∈(S.s.k0 a).T,(S.s4 a).f v≠-1->di (ew 3 ((S.s4 a).f v))=O5/\cq (ew 3 ((S.s4 a).f v))∈G++K:=λv hv u=>by
   have w:=c.li.mi.fh _ hv u;have al:=c.li.mi.jR w;obtain⟨n,hn⟩:∃n:Nat,(S.s4 a).f v=n:=⟨((S.s4 a).f v).toNat,aa⟩
   grind [oy]
  have am:∀x,(S.s.k0 a).cP x=O5->cq x∈(S.s.k0 a).T:=λx m=>by grind [cf.cP]
  have key:∀x,k8 (S.s.k0 a) (S.s.z0 G) x->(S.s.k0 a).al (S.s4 a) x=O5->tB a.N (S.cut a).s.y (S.cut a).s.g (S.cut a).s.ws ((S.s.k0 a).nw (S.s4 a) x)=O5:=λx j ha=>by
   cases hy:(S.s.k0 a).cP x
   ·have b:(S.s.k0 a).nw (S.s4 a) x=x:=by grind [cf.nw]
    rw[b];refine t x j.1 (List.mem_append_left _ ?_)
    rcases j.2 with q|q
    ·unfold cf.cP at hy;rw[j.1] at hy
     grind
    ·exact q
   grind [cf.al,cf.ls,cf.nw]
  have B:∀d x,k8 (S.s.k0 a) (S.s.z0 G) d->(S.s.k0 a).ml (S.s4 a) d x->(S.s.k0 a).al (S.s4 a) x=O5->tB a.N (S.cut a).s.y (S.cut a).s.g (S.cut a).s.ws ((S.s.k0 a).nw (S.s4 a) x)=O5:=λd x j hm ha=>by
   rcases hm with rfl|⟨m1,an,ao⟩
   all_goals grind [cf.nw]
  have ap:∀x,tB a.N S.s.y S.s.g S.s.ws x=O5->k8 (S.s.k0 a) (S.s.z0 G) x:=λx m=>by
   obtain⟨q1,F⟩:=(jS (O:=a.O) h.inv.full (by assumption) hb.y1 (by assumption) hb.g1).1 m;refine⟨q1,?_⟩
   rw[p];exact F
  intro e hm;rcases hm with hm|hm
  ·have b:(S.cut a).r=(S.s.k0 a).sR (S.t3 a) S.r:=by grind
   rw[b] at hm;have hm:=hm;obtain⟨f,g,i⟩:=bS.1 hm;obtain⟨k,l⟩:=bK.1 g;obtain⟨ar,N⟩:=bK.1 k;obtain⟨o,j2⟩:=he f (by grind)
   rw[<-i];exact⟨key _ (by grind) l,key _ (by grind) (qZ kB N)⟩
  ·have b:(S.cut a).q=(S.s.k0 a).j8 (S.t3 a) S.r:=by grind
   rw[b] at hm;have hm:e∈(((S.s.k0 a).fB (S.t3 a) S.r).2.filter (λe=>(S.s.k0 a).al (S.s4 a) e.1)).map λe=>((S.s.k0 a).nw (S.s4 a) e.1,(S.s.k0 a).nw (S.s4 a) e.2):=hm;obtain⟨f,g,i⟩:=bS.1 hm;obtain⟨k,l⟩:=bK.1 g;obtain⟨o,d,j2,cI⟩:=s4 f k;rw[<-i];refine⟨key _ o l,B d _ j2 cI ?_⟩
   rcases s5 f k with q|q
   ·exact q
   ·have q:(S.s.k0 a).al (S.s4 a) f.1=O4:=q
    grind
 grind [cv.cut]
end
def cv.kx (a:Wc)(S:cv)(x:Int):Int:=if tB a.N S.s.y S.s.g S.s.ws x=O5 then pk (ld a.N S.s.y S.s.g S.s.ws (cq x)) else 0
def cv.fx (a:Wc)(S:cv)(x:Int):Int:=if tB a.N S.s.y S.s.g S.s.ws x=O5 then pf (ld a.N S.s.y S.s.g S.s.ws (cq x)) else 0
def cv.ex (a:Wc)(S:cv)(x:Int):Int:=if tB a.N S.s.y S.s.g S.s.ws x=O5 then pc (ld a.N S.s.y S.s.g S.s.ws (cq x)) else 2
def cv.room (a:Wc)(S:cv)(m:Int):Int×cv:=if m<=(a.N:Int)-S.s.y then(0,S) else if(S.s.y:Int)<=(a.O:Int)-S.s.g then(S.code a,S.cut a) else(S.jf a,S.dR a)
def cv.put (a:Wc)(S:cv)(kd:Int)(rl:List Nat):cv:=⟨{S.s with y:=S.s.y+1+L rl,ws:=jP S.s.rs S.s.y (gH a.N S.s.y kd (L rl) S.s.ws) rl (L rl)},S.r,S.q⟩
def cv.grow (a:Wc)(S:cv)(kd:Int)(rl:List Nat):Int×Int×cv:=if(S.room a (1+L rl)).1=0 then(ew 3 (S.room a (1+L rl)).2.s.y,0,(S.room a (1+L rl)).2.put a kd rl) else(0,(S.room a (1+L rl)).1,(S.room a (1+L rl)).2)
def cv.pop (a:Wc)(S:cv)(x:Int):Int×Int×cv:=
 if S.kx a x=5 then(if eh x S.q<L S.q then((X S.q (eh x S.q) (0,0)).2,0,⟨S.s,S.r,S.q.take (eh x S.q)++S.q.drop (eh x S.q+1)⟩) else(0,4,S)) else(0,2,S)
def cv.len (a:Wc)(S:cv)(x:Int):Int×Int×cv:=if S.ex a x=0/\S.kx a x≠5 then(ew 1 (S.fx a x),vc 1 (S.fx a x),S) else(0,2,S)
def cv.rt (a:Wc)(S:cv)(k:Int)(A B:Nat)(I n:Int):Int×Int×cv:=
 if k=1 then(ew 1 n,vc 1 n,S) else if k=3 then(X S.s.rs A 0,0,S) else if k=4 then S.grow a 1 [A,B] else if k=5 then S.grow a 2 (List.replicate (K n) A)
 else if k=6 then S.grow a 3 [A,B] else if k=7 then S.grow a 4 [A,B] else if k=8 then S.grow a 5 [] else if k=10 then S.pop a (X S.s.rs A 0)
 else if k=11 then((if eV a.N S.s.y S.s.g S.s.ws (X S.s.rs A 0) I=0 then ld a.N S.s.y S.s.g S.s.ws (cq (X S.s.rs A 0)+1+I) else 0),eV a.N S.s.y S.s.g S.s.ws (X S.s.rs A 0) I,S)
 else if k=13 then S.len a (X S.s.rs A 0) else if k=14 then(if X S.s.rs A 0=X S.s.rs B 0 then ew 1 1 else ew 1 0,0,S) else(2,0,S)
def cv.reg (a:Wc)(S:cv)(t g:Int):Int×cv:=
 if S.ex a t=0 then(if S.kx a g=5 then(if 24<=L S.r+L S.q then(3,S) else(0,⟨S.s,S.r++[(g,t)],S.q⟩)) else(2,S)) else(S.ex a t,S)
def cv.set (a:Wc)(S:cv)(x i z:Int):cv:=⟨{S.s with ws:=hI a.N S.s.y S.s.g S.s.ws x i z,M:=stM a.N S.s.y S.s.g S.s.ws x i z (dT a.O) S.s.M},S.r,S.q⟩
def cv.st (S:cv)(R:Nat)(x:Int):cv:=⟨{S.s with rs:=S.s.rs.set R x},S.r,S.q⟩
def cv.hd (a:Wc)(S:cv)(k R A B I n:Int):Int×cv:=
 if dY k R A B n=0 then(if k=9 then S.reg a (X S.s.rs (K A) 0) (X S.s.rs (K B) 0) else if k=12 then(eV a.N S.s.y S.s.g S.s.ws (X S.s.rs (K A) 0) I,S.set a (X S.s.rs (K A) 0) I (X S.s.rs (K B) 0))
  else if k=15 then(S.code a,S.cut a) else if k=16 then(S.jf a,S.dR a)
  else if(S.rt a k (K A) (K B) I n).2.1=0 then(0,(S.rt a k (K A) (K B) I n).2.2.st (K R) (S.rt a k (K A) (K B) I n).1) else((S.rt a k (K A) (K B) I n).2.1,(S.rt a k (K A) (K B) I n).2.2))
 else(dY k R A B n,S)
theorem Be (k:cf):∀(l:List Int)(s:cn),(l.foldl k.e8 s).rs=s.rs
 |[],_=>rfl
 |x::l,s=>by rw[a8,Be k l];unfold cf.e8;split<;>rfl
theorem Bf (k:cf):∀(l:List Int)(s:cn),(l.foldl k.ie s).rs=s.rs
 |[],_=>rfl
 |x::l,s=>by rw[a8,Bf k l];rfl
section
variable {a:Wc}{S:cv}{Y G:List Int}
theorem eA.IV (h:eA a S.s Y G)(hb:cL a S.s):cL a (S.cut a).s:=by
 unfold cv.cut;cases hf:S.full a
 ·have hr:S.s.y<=a.O-S.s.g:=by grind [cv.full]
  obtain⟨K,D,c⟩:=sL h hb hr;rw[aJ ac];have d:=c.li.mi.ci;have f:=(d.mw (λx b=>(d.jc x b).1)).1;have g:=(f.be (λx b=>(f.i1 x b).1)).1;have e:(S.s6 a).rs=(S.s4 a).rs:=(Bf _ _ _).trans (Be _ _ _)
  exact⟨hb.n0,hb.n1,hb.o1,a4 _,g.hg,g.len,(e▸c.rl)⟩
 grind
theorem eA.IW (h:eA a S.s Y G)(hb:cL a S.s):cL a (S.dR a).s:=by
 cases hf:S.gD a
 ·obtain⟨_,g,_⟩:=nE h hb hf;exact(g.gc.inv h hb g.al).2
 grind [cv.dR]
theorem eA.store {s:eL}(h:eA a s Y G)(hb:cL a s){v i z:Int}(hv:v∈Y)(c:0<=i)(d:i<pf (ld a.N s.y s.g s.ws v))(hz:di z=O5->cq z∈Y\/cq z∈G):eA a {s with ws:=s.ws.set (K (v+1+i)) z} Y G:=by
 refine⟨h.inv.set hb.l1 hb.y1 hb.g1 (by grind) c d hz,?_⟩
 obtain⟨_,hk⟩:=h.inv.full.set hb.l1 hb.y1 hb.g1 (by grind) c d;have k:=oz h.inv.full hv c d;have l:=hb.y1;have hl:=hb.l1;intro u e j j0 b ha f;rw[hk u (by grind)] at b;have m:=oA h.inv.full e j0 b;have hi:=lK h.inv.full (by grind) j0 b;have g:ld a.N s.y s.g (s.ws.set (K (v+1+i)) z) (u+1+j)=ld a.N s.y s.g s.ws (u+1+j):=by grind [gg]
 rw[g] at ha f;exact h.cd u e j j0 b ha f
end
theorem eA.any {a:Wc}{s:eL}{Y G:List Int}(h:eA a s Y G)(i:Nat)(ha:di (X s.rs i 0)=O5):cq (X s.rs i 0)∈Y\/cq (X s.rs i 0)∈G:=by
 by_cases hi:i<L s.rs
 ·exact h.inv.at i hi ha
 ·rw[aM,List.getElem?_eq_none aa] at ha;exact absurd ha ae
theorem ww (ws:List Int)(y:Nat)(x:Int):∀k,L (gs ws y x k)=L ws
 |0=>by simp[gs]
 |k+1=>by rw[gs,List.length_set];exact ww ws y x k
structure sW (a:Wc)(S:cv)(kd:Int)(rl:List Nat)(Y G:List Int)(ws:List Int):Prop where
 k:eA a {S.s with y:=S.s.y+1+L rl,ws:=ws} (Y++[(S.s.y:Int)]) G
 l:L ws=a.N+a.O
 p:ld a.N (S.s.y+1+L rl) S.s.g ws S.s.y=hw kd (L rl)
 h:∀v,(v∈Y\/v∈G)->ld a.N (S.s.y+1+L rl) S.s.g ws v=ld a.N S.s.y S.s.g S.s.ws v
theorem wy {a:Wc}{S:cv}{Y G:List Int}{kd:Int}{rl:List Nat}(h:eA a S.s Y G)(hb:cL a S.s)(hk:hc kd (L rl)=0)(hr:S.s.y+1+L rl<=a.N):∀j,j<=L rl->sW a S kd rl Y G (jP S.s.rs S.s.y (gH a.N S.s.y kd (L rl) S.s.ws) rl j)
 |0,_=>by
  have hm:jo a.N S.s.y kd (L rl)=O5:=by grind [jo]
  have i:jM a.N S.s.y kd (L rl)=S.s.y+1+L rl:=by grind [jM]
  have k:gH a.N S.s.y kd (L rl) S.s.ws=gs S.s.ws S.s.y (hw kd (L rl)) (L rl):=by grind [gH]
  have n:=hb.l1;have o:S.s.y+L rl<L S.s.ws:=aa;have m1:=h.inv.make (by assumption) hm;have c:=mr.make h.inv h.cd (by assumption) hm;rw[i] at m1 c;have l:L (gH a.N S.s.y kd (L rl) S.s.ws)=a.N+a.O:=by grind [ww]
  refine⟨⟨m1,c⟩,l,?_,λv hv=>?_⟩
  ·show ld a.N _ S.s.g (gH a.N S.s.y kd (L rl) S.s.ws) S.s.y=_
   grind [gg,jE,j6]
  ·show ld a.N _ S.s.g (gH a.N S.s.y kd (L rl) S.s.ws) v=_;rw[k];rcases hv with d|d
   ·have hi:=h.inv.full.jr v d
    grind [gg,jE,j6]
   ·have hi:=h.inv.full.io v d
    grind [gg,iZ,j6]
 |j+1,p=>by
  have b:=wy h hb hk hr j aa;have e:jP S.s.rs S.s.y (gH a.N S.s.y kd (L rl) S.s.ws) rl (j+1)=(jP S.s.rs S.s.y (gH a.N S.s.y kd (L rl) S.s.ws) rl j).set (S.s.y+1+j) (X S.s.rs (X rl j 0) 0):=rfl;rw[e];generalize jP S.s.rs S.s.y _ rl j=ws at b⊢;have f:cL a {S.s with y:=S.s.y+1+L rl,ws:=ws}:=⟨hb.n0,hb.n1,hb.o1,hr,hb.g1,b.l,hb.r1⟩
  have m:(S.s.y:Int)∈Y++[(S.s.y:Int)]:=ac;have g:((j:Nat):Int)<pf (ld a.N (S.s.y+1+L rl) S.s.g ws S.s.y):=by rw[b.p,(rL kd (L rl) hk).2.1];omega
  have st:=b.k.store f (z:=X S.s.rs (X rl j 0) 0) m aa g (by grind [eA.any])
  have q:K ((S.s.y:Int)+1+(j:Nat))=S.s.y+1+j:=aa;have hs:=(b.k.inv.full.set (z:=X S.s.rs (X rl j 0) 0) b.l (by assumption) f.g1 (by grind) aa g).2;refine⟨st,by grind [sW.l],(by grind [sW.p]),λv hv=>(by grind [sW.h])⟩
end Go.Proofs.YtjckpdepffejnaaGreatDoor
