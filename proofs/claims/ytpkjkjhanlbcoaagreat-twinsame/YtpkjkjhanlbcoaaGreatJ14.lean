import Derived.Test.YtpkjkjhanlbcoaaGreatJ13
namespace Go.Proofs.YtpkjkjhanlbcoaaGreat
open Go.RowKit W Kp cf
theorem t4 {P:Prop}(h:P:=by
 obtain⟨u1,u2,u3,_⟩:=hlen;rw[q1] at u1;rw[q2] at u2;rw[q3] at u3;have u1:(S.s.s2 a).wk.length<=0+(G++H1).length:=u1;have u2:(S.s.s2 a).ep.length<=0+(G++H1).length:=u2;have u3:=u3;have o1:=hb.o1;refine⟨?_,?_⟩
 ·rw[u3];show(S.s.s2 a).wk.length+((a.N:Int)+a.O+13-((a.N:Int)+S.s.g)).toNat<=4000;omega
 ·rw[u3];show(S.s.s2 a).ep.length+((a.N:Int)+a.O+13-((a.N:Int)+S.s.g)).toNat<=4000;omega):P:=h
theorem zf {P:Prop}(h:P:=by
 have q0:(S.k5 a).cS (S.cE a) x=(S.s.j0 a).cS (S.cE a) x:=by unfold b9.cS b9.jt;rw[zi]
 unfold b9.al;rw[q0];cases hj:(S.s.j0 a).jt x
 ·unfold b9.cS;rw[hj];rfl
 ·have hmem:=og hj;rw[l3] at hmem;have q:=g.iff _ hmem;unfold b9.cS;by_cases c:(S.cA a).f (cg x)=-1
  ·rw[c,q.2 c]
  ·rw[beq_false_of_ne c,beq_false_of_ne (fun d=>c (q.1 d))]):P:=h
theorem zj {P:Prop}(h:P:=by
 unfold ce.gh;by_cases hG:b∈z.G
 ·split
  ·rw[aG (fun e=>jy ⟨hG,e⟩)]
  ·rfl
 ·have:=(hl b Z).resolve_left hG;rw[aG V]):P:=h
theorem zk {P:Prop}(h:P:=by
 have:(fun e:b7=>((S.s.j0 a).nw (S.cA a) e.1,(S.s.j0 a).nw (S.cA a) e.2))=id:=by
  funext e
  rw[d1.jQ.nw,d1.jQ.nw];rfl
 rw[this,List.map_id]):P:=h
section
variable {k:ce}{z:C0}{s t:cj}{H K D:List Int}
theorem lB (k:ce)(s:cj):∀n,(k.cJ s n).wk=s.wk/\(k.cJ s n).ep=s.ep/\(k.cJ s n).nx=s.nx
 |0=>⟨rfl,rfl,rfl⟩
 |n+1=>by obtain⟨b,c,d⟩:=lB k s n;obtain⟨_,e,j2,cA⟩:=l7 k _ _;exact⟨e.trans b,j2.trans c,cA.trans d⟩
theorem dL.cJ (w:dL k z s H)(h:dE k z s H)(n:Nat)(ht:dE k z (k.cJ s n) K)(p:dh k s (k.cJ s n))(b:∃c,K=H++c):dL k z (k.cJ s n) K:=
 w.go h ht p b (lB k s n).1 (lB k s n).2.1
theorem LI.pt (c:Int)(M:List Int)(hz:d4 (k.l0 z) ((k.N:Int)+z.g) k.N z.G):∀(l:List Int){s:cj}{H D:List Int},LI k z s H D->dL k z s H->(∀a∈l,a∈z.G\/(k.N:Int)+z.g<=a)->∃g i,LI k z (l.foldl (k.gh ((k.N:Int)+z.g) c M) s) g i/\dL k z (l.foldl (k.gh ((k.N:Int)+z.g) c M) s) g/\dh k s (l.foldl (k.gh ((k.N:Int)+z.g) c M) s)/\(∃f,g=H++f)/\(∀a∈D,a∈i)/\∀a∈l,a∈z.G->(fZ k.N c a&&M.contains (cN k.N a))=true->a∈i
 |[],s,H,D,h,w,_=>⟨H,D,h,w,dh.refl _ _,⟨[],Z⟩,fun _ d=>d,fun a ha=>by cases ha⟩
 |b::l,s,H,D,h,w,hl=>by
  rw[a8];have u:=dj (k.ld s b)
  by_cases jy:b∈z.G/\(fZ k.N c b&&M.contains (cN k.N b))=true
  ·have hb:=(hz.mem b jy.1).2.1;have j:k.gh ((k.N:Int)+z.g) c M s b=k.lk s b:=by unfold ce.gh;rw[aI (by rw[(h.mi.hd b b (aK ⟨rfl,jy.1⟩))];omega),aI jy.2]
   rw[j];obtain⟨v,m1,p,⟨f,q⟩⟩:=h.lk jy.1;obtain⟨m,n,o,kq,j2,⟨t,cA⟩,cE,dC⟩:=LI.pt c M hz l m1 (w.lk h.mi (aX H jy.1) m1.mi p ⟨f,q⟩) (fun a ha=>hl a (aO _ ha))
   refine⟨m,n,o,kq,p.trans j2,⟨f++t,by rw[cA,q,ba]⟩,fun a d=>cE a (aO _ d),fun a ha hg hm=>?_⟩
   rcases List.mem_cons.1 ha with d|d
   ·exact cE a (by rw[d];simp)
   ·exact dC a d hg hm
  ·have j:k.gh ((k.N:Int)+z.g) c M s b=s:=by exact zj
   rw[j];obtain⟨m,n,o,kq,j2,cA,cE,dC⟩:=LI.pt c M hz l h w (fun a ha=>hl a (aO _ ha))
   refine⟨m,n,o,kq,j2,cA,cE,fun a ha hg hm=>?_⟩
   rcases List.mem_cons.1 ha with d|d
   ·exact absurd ⟨by rw[<-d];exact hg,by rw[<-d];exact hm⟩ jy
   ·exact dC a d hg hm
end
def Rest (k:ce)(z:C0)(D:List Int)(H:List Int)(s:cj):Prop:=∃K,LI k z s K D/\dL k z s K/\ee k s/\hB k.N s.g s.nx=false/\∃b,K=H++b
section
variable {k:ce}{z:C0}{D H:List Int}
theorem pu:∀(n:Nat)(t:cj×List b7),CI k t.1->ee k t.1->CI k (k.cW n t).1/\ee k (k.cW n t).1
 |0,t,h,hb=>⟨h,hb⟩
 |n+1,t,h,hb=>by
  obtain⟨c1,c2,c3⟩:=CI.lb h hb (k.O+1)
  obtain⟨b,c,f,g⟩:=CI.kv c1 c2;obtain⟨d,e,_⟩:=CI.wa (s:=((k.kv _).2,t.2)) b c;unfold ce.cW;split
  ·exact pu n ((k.kv _).2,t.2) b c
  ·split
   ·exact pu n _ d e
   ·exact⟨d,e⟩
theorem Rest.sp {t:cj×List b7}{b:List Int}(h:LI k z t.1 b D)(w:dL k z t.1 b)(hb:ee k t.1)(e:∃c,b=H++c):Rest k z D H (k.sp t).1:=by obtain⟨K,m1,d,_,⟨B,f⟩⟩:=cX.sp t b h w;obtain⟨A,e⟩:=e;exact⟨K,m1,d,(pu _ t h.mi.ci hb).2,qL _ t b h w hb V,⟨A++B,by rw[f,e,ba]⟩⟩
theorem Rest.ke {t:cj×List b7}(h:Rest k z D H t.1)(x:Int):Rest k z D H (k.ke t x).2.1:=by
 obtain⟨K,m1,d,b,_,⟨A,e⟩⟩:=h;obtain⟨j,f,j2,_,⟨B,cE⟩⟩:=cX.br x K m1 d;obtain⟨_,g,i,c⟩:=l7 k t.1 x;have hb:ee k (k.br t.1 x).2:=⟨by rw[g,c];exact b.wk,by rw[i,c];exact b.ep⟩
 exact Rest.sp f j2 hb ⟨A++B,by rw[cE,e,ba]⟩
theorem Rest.one {t:cj×List b7}(h:Rest k z D H t.1)(e:b7):Rest k z D H (cm (dI cj) (fun s x=>k.al s.1 x) k.ke t e).2.1:=by
 unfold cm;split
 ·exact h.ke e.2
 ·exact h
theorem Rest.part (l:List b7){t:cj×List b7}(h:Rest k z D H t.1):Rest k z D H (pts (cm (dI cj) (fun s x=>k.al s.1 x) k.ke) t l).2.2.1:=by
 have key:∀(l:List b7)(p:List b7×List b7×(cj×List b7)),Rest k z D H p.2.2.1->Rest k z D H (l.foldl (eh (cm (dI cj) (fun s x=>k.al s.1 x) k.ke)) p).2.2.1:=by
  intro l
  induction l with
  |nil=>exact fun p h=>h
  |cons e l c=>
   intro p hp;refine c _ ?_;have b:=hp.one e;unfold eh;split
   ·exact b
   ·exact b
 exact key l ([],[],t) h
theorem Rest.turn:∀(n:Nat){t:cj×List b7}(b:List b7),Rest k z D H t.1->Rest k z D H (eB (cm (dI cj) (fun s x=>k.al s.1 x) k.ke) n t b).1.1
 |0,t,b,h=>h
 |n+1,t,b,h=>by
  unfold eB;split
  ·exact h.part b
  ·exact Rest.turn n _ (h.part b)
theorem Rest.eW {t:cj×List b7}(h:Rest k z D H t.1)(r:List b7):Rest k z D H (k.eW t r).1:=Rest.turn _ _ h
end
section
variable {k:ce}{z:C0}{s:cj}{H D:List Int}
theorem LI.fy (h:LI k z s H D)
 (hz:∀v,(v∈k.T\/v∈z.G)->∀i,0<=i->i<pf (k.l0 z v)->cY (k.l0 z (v+1+i))=true->cg (k.l0 z (v+1+i))∈k.T\/cg (k.l0 z (v+1+i))∈z.G)
 {b:Int}(hb:b∈z.G++H){i:Int}(i0:0<=i)(i1:i<pf (k.ld s b))(ha:cY (k.ld s (b+1+i))=true)(hy:k.cK (k.ld s (b+1+i))=false):cg (k.ld s (b+1+i))∈z.G++H:=by
 obtain⟨a,o⟩:=h.mi.from hb;rw[(h.mi.hd a b o)] at i1;have hm:=h.mi.fd a b o i i0 i1;have yZ:a∈k.T\/a∈z.G:=by
  rcases o with⟨e,d⟩|⟨d,_⟩
  ·exact aJ (by rw[e];exact d)
  ·exact aK d
 exact yY
theorem dE.om (h:dE k z s H){x:Int}(b:cg x∈z.G++H):k.cK x=false:=by
 unfold ce.cK;have e:k.T.contains (cg x)=false:=by
  cases hc:k.T.contains (cg x)
  ·rfl
  ·exact absurd (by simpa using hc) (h.ci.yQ (h.bd b).1)
 rw[e,Bool.and_false]
theorem zl (k:ce):∀(n:Nat)(s:cj),(k.lb n s).rs=s.rs
 |0,s=>rfl
 |n+1,s=>by
  unfold ce.lb;split
  ·exact(zl k n _).trans (qG k s s.nx).2
  ·rfl
theorem zm (k:ce):∀(l:List Int)(t:List Int×cj),(l.foldl k.cP t).2.rs=t.2.rs
 |[],t=>rfl
 |a::l,t=>by
  refine(zm k l _).trans ?_;unfold ce.cP;split
  ·rfl
  ·exact(jS ..).2.2.2.trans (jS ..).2.2.2
theorem Gr (k:ce)(s:cj):(k.kv s).2.rs=s.rs:=zm k s.ep ([],s)
theorem zn (k:ce):∀(l:List Nat)(t:(cj×List b7)×Bool),(l.foldl (dB k.al k.br) t).1.1.rs=t.1.1.rs
 |[],t=>rfl
 |a::l,t=>by
  refine(zn k l _).trans ?_;unfold dB;split
  ·rfl
  ·exact(l7 ..).1
theorem qN (k:ce):∀(n:Nat)(t:cj×List b7),(k.cW n t).1.rs=t.1.rs
 |0,t=>rfl
 |n+1,t=>by
  have b:(k.kv (k.lb (k.O+1) t.1)).2.rs=t.1.rs:=(Gr ..).trans (zl ..)
  have c:(k.wa ((k.kv (k.lb (k.O+1) t.1)).2,t.2)).1.1.rs=t.1.rs:=(zn k _ (((k.kv _).2,t.2),false)).trans b;unfold ce.cW;split
  ·exact(qN k n _).trans b
  ·split
   ·exact(qN k n _).trans c
   ·exact c
theorem Gs (k:ce)(t:cj×List b7)(x:Int):(k.ke t x).2.1.rs=t.1.rs:=(qN ..).trans (l7 ..).1
theorem Gt (k:ce)(t:cj×List b7)(e:b7):(cm (dI cj) (fun s x=>k.al s.1 x) k.ke t e).2.1.rs=t.1.rs:=by
 unfold cm;split
 ·exact Gs k t e.2
 ·rfl
theorem zo (k:ce)(l:List b7)(t:cj×List b7):(pts (cm (dI cj) (fun s x=>k.al s.1 x) k.ke) t l).2.2.1.rs=t.1.rs:=by
 have key:∀(l:List b7)(p:List b7×List b7×(cj×List b7)),(l.foldl (eh (cm (dI cj) (fun s x=>k.al s.1 x) k.ke)) p).2.2.1.rs=p.2.2.1.rs:=by
  intro l
  induction l with
  |nil=>exact fun p=>rfl
  |cons e l c=>
   intro p;refine(c _).trans ?_;have b:=Gt k p.2.2 e;unfold eh;split
   ·exact b
   ·exact b
 exact key l ([],[],t)
theorem zp (k:ce):∀(n:Nat)(t:cj×List b7)(b:List b7),(eB (cm (dI cj) (fun s x=>k.al s.1 x) k.ke) n t b).1.1.rs=t.1.rs
 |0,t,b=>rfl
 |n+1,t,b=>by
  unfold eB;split
  ·exact zo k b t
  ·exact(zp k n _ _).trans (zo k b t)
theorem Gu (k:ce)(t:cj×List b7)(r:List b7):(k.eW t r).1.rs=t.1.rs:=zp k _ _ _
theorem qO (k:ce)(e c:Int)(M:List Int):∀(l:List Int)(s:cj),(l.foldl (k.gh e c M) s).wk.length<=s.wk.length+l.length/\(l.foldl (k.gh e c M) s).ep.length<=s.ep.length+l.length/\(l.foldl (k.gh e c M) s).nx=s.nx/\(l.foldl (k.gh e c M) s).rs=s.rs
 |[],s=>⟨aD _,aD _,rfl,rfl⟩
 |b::l,s=>by
  rw[a8];obtain⟨o,p,f,g⟩:=qO k e c M l _;have key:(k.gh e c M s b).wk.length<=s.wk.length+1/\(k.gh e c M s b).ep.length<=s.ep.length+1/\(k.gh e c M s b).nx=s.nx/\(k.gh e c M s b).rs=s.rs:=by
   unfold ce.gh;split
   ·split
    ·obtain⟨w1,i⟩:=za k s b;obtain⟨n1,j⟩:=qG k s b;refine⟨?_,?_,n1,j⟩
     ·rcases w1 with d|⟨_,d⟩
      ·rw[d];omega
      ·rw[d,aZ];simp
     ·rcases i with d|⟨_,d⟩
      ·rw[d];omega
      ·rw[d,aZ];simp
    ·exact⟨Nat.le_succ _,Nat.le_succ _,rfl,rfl⟩
   ·exact⟨Nat.le_succ _,Nat.le_succ _,rfl,rfl⟩
  obtain⟨k1,q,m,n⟩:=key;simp only [List.length_cons];exact⟨V,V,f.trans m,g.trans n⟩
end
theorem oo {N O y g:Nat}{ws Y G:List Int}(h:d5 N y g ws Y G)(hN:N<=256)(hy:y<=N)(hO:O<=1024)(hg:g<=O):mZ N y g ws=Y:=by unfold mZ;rw[(h.lists hN hy hO hg).1];exact List.filter_eq_self.2 (fun x b=>bh (by have:=(h.ty.mem x b).2.1;omega))
def d9.z0 (s:d9)(G:List Int):C0:=⟨s.g,s.ws,G⟩
theorem LI.start {a:Wc}{s:d9}{Y G:List Int}(h:d5 a.N s.y s.g s.ws Y G)(hN:16<=a.N)(hN':a.N<=256)(hO:a.O<=1024)(hy:s.y<=a.N)(hg:s.g<=a.O)(hl:s.ws.length=a.N+a.O)(hr:s.y<=a.O-s.g):LI (s.k0 a) (s.z0 G) (s.s0 a) [] []:=by
 have d:(s.k0 a).T=Y:=oo h hN' hy hO hg;refine⟨⟨CI.start hN hN' hO hy hg hl hr,aD _,?_,fun b hb=>(h.io b hb).2,fun _ _ _=>rfl,fun a _ e=>absurd rfl e,fun a _ b _ e=>absurd rfl e,fun b hb=>(by cases hb),fun b hb=>(by cases hb),fun a b o=>?_,fun a b o i f g=>?_⟩,aJ rfl,fun b hb=>(by cases hb),fun b hb=>(by cases hb),fun b hb=>(by cases hb)⟩
 ·rw[d,List.append_nil];exact h
 ·rcases o with⟨e,_⟩|⟨_,e,c⟩
  ·rw[e];rfl
  ·exact absurd e.symm c
 ·rcases o with⟨e,_⟩|⟨_,e,c⟩
  ·rw[e];exact aK rfl
  ·exact absurd e.symm c
theorem dL.start (a:Wc)(s:d9)(G:List Int):dL (s.k0 a) (s.z0 G) (s.s0 a) []:=⟨fun b hb=>(by cases hb),fun b hb=>(by cases hb)⟩
structure pv (a:Wc)(S:cq)(G K D:List Int):Prop where
 li:LI (S.s.k0 a) (S.s.z0 G) (S.s4 a) K D
 we:dL (S.s.k0 a) (S.s.z0 G) (S.s4 a) K
 he:hB a.N (S.s4 a).g (S.s4 a).nx=false
 hz:∀v,(v∈(S.s.k0 a).T\/v∈G)->∀i,0<=i->i<pf ((S.s.k0 a).l0 (S.s.z0 G) v)->cY ((S.s.k0 a).l0 (S.s.z0 G) (v+1+i))=true->cg ((S.s.k0 a).l0 (S.s.z0 G) (v+1+i))∈(S.s.k0 a).T\/cg ((S.s.k0 a).l0 (S.s.z0 G) (v+1+i))∈G
 hc:∀v∈G,v∉D->∀i,0<=i->i<pf ((S.s.k0 a).l0 (S.s.z0 G) v)->(S.s.k0 a).cK ((S.s.k0 a).l0 (S.s.z0 G) (v+1+i))=false
 rl:(S.s4 a).rs.length=12
 zq:∀i,i<12->(S.s.k0 a).cK ((S.s4 a).rs.getD i 0)=false
 rm:∀i,i<12->(S.s.k0 a).ml (S.s4 a) (S.s.rs.getD i 0) ((S.s4 a).rs.getD i 0)
section
variable {a:Wc}{S:cq}{Y G:List Int}
theorem qP (h:el a S.s Y G)(hb:cI a S.s)(hr:S.s.y<=a.O-S.s.g):∃K D,pv a S G K D:=by
 have n:(S.s.k0 a).T=Y:=oo h.inv.full hb.n1 hb.y1 hb.o1 hb.g1;have o:=LI.start h.inv.full hb.n0 hb.n1 hb.o1 hb.y1 hb.g1 hb.l1 hr;obtain⟨H1,d,s,⟨W,u⟩,l1,y1,_,m1⟩:=o.cJ 12 (by show 12<=S.s.rs.length;rw[hb.r1];exact aD _)
 have p:dD a.N S.s.y (S.s.s1 a).g (S.s.s1 a).ws=G++H1:=(d.mi.full.lists hb.n1 hb.y1 hb.o1 d.mi.ci.hg).2;have A:(S.s.s1 a).nx=((S.s.k0 a).N:Int)+(S.s.z0 G).g:=(lB _ _ 12).2.2;have C:d4 ((S.s.k0 a).l0 (S.s.z0 G)) (((S.s.k0 a).N:Int)+(S.s.z0 G).g) (S.s.k0 a).N (S.s.z0 G).G:=h.inv.full.ec;obtain⟨c,e,g,j,q,⟨X,ab⟩,_,E⟩:=LI.pt (dF a.O) S.s.M C (G++H1) d ((dL.start a S.s G).cJ o.mi 12 d.mi s ⟨_,u⟩) (fun x F=>(List.mem_append.1 F).imp id (fun H=>d.mi.hlo x H))
 have I:(G++H1).foldl ((S.s.k0 a).gh (((S.s.k0 a).N:Int)+(S.s.z0 G).g) (dF a.O) S.s.M) ((S.s.k0 a).cJ (S.s.s0 a) 12)=S.s.s2 a:=by unfold d9.s2 ce.lm;rw[p,A];rfl
 have hlen:=qO (S.s.k0 a) (((S.s.k0 a).N:Int)+(S.s.z0 G).g) (dF a.O) S.s.M (G++H1) ((S.s.k0 a).cJ (S.s.s0 a) 12)
 rw[I] at g j q hlen;have ad:(G++H1).length<=2000:=by rw[<-p];exact iL _ _
 obtain⟨q1,q2,q3⟩:=lB _ _ 12;have cb:ee (S.s.k0 a) (S.s.s2 a):=by exact t4
 have J:Rest (S.s.k0 a) (S.s.z0 G) e c (S.t3 a).1:=by
  have key:∀s2:cj,LI (S.s.k0 a) (S.s.z0 G) s2 c e->dL (S.s.k0 a) (S.s.z0 G) s2 c->ee (S.s.k0 a) s2->_:=fun s2 l w b=>Rest.sp (t:=(s2,S.q)) l w b ⟨[],(List.append_nil _).symm⟩
  exact key _ g j cb
 have L:Rest (S.s.k0 a) (S.s.z0 G) e c (S.s4 a):=by exact J.eW S.r
 obtain⟨K,M,N,_,he,⟨B,ag⟩⟩:=L;have k:(S.s4 a).rs=(S.s.s1 a).rs:=by unfold cq.s4;rw[Gu];unfold cq.t3 ce.sp;rw[qN];exact hlen.2.2.2
 have iW:dh (S.s.k0 a) (S.s.s1 a) (S.s4 a):=by
  have key:∀s2:cj,LI (S.s.k0 a) (S.s.z0 G) s2 c e->dL (S.s.k0 a) (S.s.z0 G) s2 c->dh (S.s.k0 a) s2 ((S.s.k0 a).eW ((S.s.k0 a).sp (s2,S.q)) S.r).1:=fun s2 l w=>by obtain⟨O,f,Q,R,_⟩:=cX.sp (s2,S.q) c l w;obtain⟨ai,_,_,cA,_⟩:=cX.eW _ S.r O f Q;exact R.trans cA
  exact q.trans (key _ g j)
 refine⟨K,e,M,N,he,fun v hv i m f ha=>?_,fun v hv U i m f=>?_,?_,fun i hi=>?_,fun i hi=>?_⟩
 ·rw[n] at hv⊢;exact h.inv.fd v hv i m f ha
 ·cases hc:(S.s.k0 a).cK _
  ·rfl
  ·exfalso;unfold ce.cK at hc;rw[a_,n] at hc;exact U (E v (aX _ hv) hv (h.cd v hv i m f hc.1 (List.contains_iff_mem.1 hc.2)))
 ·rw[k];exact l1.trans hb.r1
 ·rw[k];exact y1 i hi
 ·rw[k];exact iW.ml (m1 i hi)
theorem pv.root {K D:List Int}(c:pv a S G K D)(h:el a S.s Y G)(hb:cI a S.s):∀x∈(S.s4 a).rs,jT (S.s.k0 a) (G++K) x:=fun x j ha=>by
 have k:(S.s.k0 a).T=Y:=oo h.inv.full hb.n1 hb.y1 hb.o1 hb.g1;obtain⟨i,hi,e⟩:=List.mem_iff_getElem.1 j;have b:i<12:=by rw[<-c.rl];exact hi
 have l:(S.s4 a).rs.getD i 0=x:=by rw[aE,aL hi,e];rfl
 have hy:=c.zq i b;have hm:=c.rm i b;rw[l] at hy hm;refine⟨hy,?_⟩
 rcases hm with m|⟨g1,g2,g3⟩
 ·have d:S.s.rs.getD i 0∈S.s.rs:=by
   have hl:i<S.s.rs.length:=by rw[hb.r1];exact b
   rw[aE,aL hl];exact a6 hl
  rw[<-m] at d;rcases h.inv.rt x d ha with g|g
  ·unfold ce.cK at hy;rw[ha,k] at hy;simp at hy;exact absurd g hy
  ·exact aX _ g
 ·have o:cg (S.s.rs.getD i 0)∈(S.s.k0 a).T:=by unfold ce.cK at g1;rw[a_] at g1;simpa using g1.2
  have f:=c.li.mi.fh _ o g2;have p:=c.li.mi.i5 f;have hN:=hb.n1;have hO:=hb.o1;have hg:=c.li.mi.ci.hg;have q:(S.s.k0 a).N=a.N:=rfl;have s:(S.s.k0 a).O=a.O:=rfl;obtain⟨n,hn⟩:∃n:Nat,(S.s4 a).f (cg (S.s.rs.getD i 0))=n:=⟨((S.s4 a).f (cg (S.s.rs.getD i 0))).toNat,V⟩
  rw[g3,hn,(m5 n V).2,<-hn];exact a9 _ f
theorem pv.done {K D:List Int}(c:pv a S G K D)(h:el a S.s Y G)(hb:cI a S.s):ig a.N 0 (S.s6 a).g (S.s6 a).ws [] (G++K) (S.s6 a).rs:=by
 have ci:=c.li.mi.ci;have u:gM (S.s.k0 a) (G++K) (fun b i=>(i=0/\b∈(S.s4 a).wk)\/((i=0\/i=1)/\b∈(S.s4 a).ep)) (S.s4 a):=by
  refine⟨c.li.mi.full,ci.len,ci.hy,ci.hg,fun b hb i k l=>?_,fun b hb i k l hy ha=>⟨hy,c.li.fy c.hz hb k l ha hy⟩⟩
  cases ha:cY _
  ·exact aK (fun e=>by rw[ha] at e;cases e)
  ·rcases c.li.fields c.he c.hz c.hc hb k l ha with s|⟨f,d,v⟩|⟨f,d⟩
   ·exact aK (fun _=>⟨c.li.mi.om s,s⟩)
   ·exact aJ (aK ⟨d,v⟩)
   ·have E:=ih (c.li.mi.bd hb).2.2 (aJ (aJ f))
    exact aJ (aJ ⟨V,d⟩)
 obtain⟨m,k5,g5,n,j⟩:=gM.mw hb.n1 hb.o1 _ u (fun x g=>c.we.wk x g) (fun x g w=>a9 _ (c.li.mi.fh x g w))
 have m:gM (S.s.k0 a) (G++K) _ (S.s5 a):=m;have j:(S.s5 a).ep=(S.s4 a).ep:=j;have n:(S.s5 a).rs=(S.s4 a).rs:=n;have k5:∀b∈G++K,(S.s.k0 a).ld (S.s5 a) b=(S.s.k0 a).ld (S.s4 a) b:=k5;obtain⟨o,k6,F,q⟩:=gM.be (S.s5 a).ep m (fun x g=>by rw[j] at g;obtain⟨q1,A⟩:=c.we.ep x g;exact⟨q1,by rw[k5 x q1];exact A⟩)
 have q:(S.s6 a).rs=(S.s5 a).rs:=q;have o:=o.imp (fun b i p=>by
  obtain⟨⟨B,C⟩,t⟩:=p;rw[j] at t;rcases B with⟨f,d⟩|⟨f,d⟩
  ·exact C ⟨d,f⟩
  ·exact t ⟨d,f⟩)
 exact o.done (by rw[q,n];exact c.root h hb)
theorem el.cut (h:el a S.s Y G)(hb:cI a S.s):∃b d,el a (S.cut a).s b d:=by
 unfold cq.cut;cases hf:S.full a
 ·have hr:S.s.y<=a.O-S.s.g:=by exact qr
  obtain⟨K,D,c⟩:=qP h hb hr;rw[aG Z];exact⟨[],G++K,c.done h hb,fun v _ i _ _ _ hy=>by cases hy⟩
 ·exact⟨Y,G,h⟩
end
open W
def jj (b:Int->Int->Prop):List Int->List Int->Prop
 |[],[]=>True
 |x::l,c::d=>b x c/\jj b l d
 |_,_=>False
theorem jj.of {c:Int->Int->Prop}:∀{l b:List Int},l.length=b.length->(∀i,i<l.length->c (l.getD i 0) (b.getD i 0))->jj c l b
 |[],[],_,_=>trivial
 |[],d::b,h,_=>by simp at h
 |x::l,[],h,_=>by simp at h
 |x::l,d::b,h,hi=>⟨by simpa using hi 0 Z,jj.of (by simpa using h) (fun i e=>by
  have:=hi (i+1) (by simpa using e)
  simpa using this)⟩
def lC (R:Int->Prop)(f:Int->Int)(x b:Int):Prop:=(dk x=3/\dk b=3/\R (de x)/\de b=f (de x))\/(dk x≠3/\dk b=dk x/\de b=de x)
structure px (R:Int->Prop)(f:Int->Int)(T:List Int)(kd:Int->Int)(sh:Int->List Int)(T':List Int)(kd':Int->Int)(sh':Int->List Int):Prop where
 qQ:∀a,R a->a∈T
 qR:∀a,R a->f a∈T'
 inj:∀a b,R a->R b->f a=f b->a=b
 kd:∀a,R a->kd' (f a)=kd a
 sh:∀a,R a->jj (lC R f) (sh a) (sh' (f a))
structure Bs (R:Int->Prop)(f:Int->Int)(T T':List Int)(s s':cQ):Prop where
 ok:e9 T s
 ok':e9 T' s'
 ms:s'.1=s.1.map f
 nd:s'.2=s.2
 rs:∀a∈s.1,R a
section
variable {R:Int->Prop}{f:Int->Int}{T T':List Int}{kd kd':Int->Int}{sh sh':Int->List Int}
theorem zr (inj:∀a b,R a->R b->f a=f b->a=b){d:Int}(hd:R d):∀l:List Int,(∀a∈l,R a)->(l.map f).idxOf (f d)=l.idxOf d
 |[],_=>rfl
 |x::l,h=>by
  rw[List.map_cons,List.idxOf_cons,List.idxOf_cons,zr inj hd l (fun a ha=>h a (aO _ ha))];by_cases e:x=d
  ·rw[e,beq_self_eq_true,beq_self_eq_true]
  ·have g:_:=fun c=>e (inj x d (h x List.mem_cons_self) hd c)
   rw[beq_false_of_ne e,beq_false_of_ne g]
theorem t5 (inj:∀a b,R a->R b->f a=f b->a=b){d:Int}(hd:R d){l:List Int}(h:∀a∈l,R a):f d∈l.map f↔d∈l:=by
 refine⟨fun c=>?_,fun c=>List.mem_map_of_mem c⟩
 obtain⟨x,e,g⟩:=List.mem_map.1 c;rw[<-inj x d (h x e) hd g];exact e
def t6 (R:Int->Prop)(f:Int->Int)(T T':List Int)(n c:Nat)(M d:cQ->Int->cQ):Prop:=
 ∀s b a,Bs R f T T' s b->R a->a∉s.1->T.length<=s.1.length+n->T'.length<=b.1.length+c->Bs R f T T' (M s a) (d b (f a))
theorem Gv (B:px R f T kd sh T' kd' sh'){n l:Nat}{M j:cQ->Int->cQ}(hM:t6 R f T T' n l M j){s d:cQ}(h:Bs R f T T' s d)(hn:T.length<=s.1.length+n)(m:T'.length<=d.1.length+l){x k:Int}(o:lC R f x k):
 (eg M T s x).1=(eg j T' d k).1/\Bs R f T T' (eg M T s x).2 (eg j T' d k).2:=by
 unfold eg;rcases o with⟨g,i,b,p⟩|⟨g,i,b⟩
 ·rw[aI g,aI i,aI (List.contains_iff_mem.2 (B.qQ _ b)),p,aI (List.contains_iff_mem.2 (B.qR _ b))];have hm:=t5 B.inj b h.rs;rw[<-h.ms] at hm;by_cases c:de x∈s.1
  ·rw[aI (List.contains_iff_mem.2 c),aI (List.contains_iff_mem.2 (hm.2 c))];refine⟨?_,h⟩
   rw[h.ms,zr B.inj b s.1 h.rs]
  ·rw[aG (fun e=>c (List.contains_iff_mem.1 e)),aG (fun e=>c (hm.1 (List.contains_iff_mem.1 e)))];refine⟨?_,hM s d (de x) h b c hn m⟩
   rw[h.ms,aW]
 ·rw[aG g,aG (by rw[i];exact g),i,b];exact⟨rfl,h⟩
theorem t7 (B:px R f T kd sh T' kd' sh'){n g:Nat}{M c:cQ->Int->cQ}(i:kX T kd sh n M)(j:kX T' kd' sh' g c)(hM:t6 R f T T' n g M c):∀(l d:List Int)(r b:List (Int×Int)×cQ),jj (lC R f) l d->r.1=b.1->Bs R f T T' r.2 b.2->T.length<=r.2.1.length+n->T'.length<=b.2.1.length+g->
 (l.foldl (fun r x=>(r.1++[(eg M T r.2 x).1],(eg M T r.2 x).2)) r).1=(d.foldl (fun r x=>(r.1++[(eg c T' r.2 x).1],(eg c T' r.2 x).2)) b).1/\Bs R f T T' (l.foldl (fun r x=>(r.1++[(eg M T r.2 x).1],(eg M T r.2 x).2)) r).2 (d.foldl (fun r x=>(r.1++[(eg c T' r.2 x).1],(eg c T' r.2 x).2)) b).2
 |[],[],r,b,_,e,h,_,_=>⟨e,h⟩
 |[],k::d,r,b,hw,_,_,_,_=>absurd hw (by simp[jj])
 |x::l,[],r,b,hw,_,_,_,_=>absurd hw (by simp[jj])
 |x::l,k::d,r,b,hw,e,h,hn,m=>by obtain⟨w1,o⟩:=hw;obtain⟨p,q⟩:=Gv B hM h hn m w1;have g1:=(oG i h.ok hn x).le;have g2:=(oG j h.ok' m k).le;rw[a8,a8];exact t7 B i j hM l d _ _ o (by rw[e,p]) q (by dsimp only;omega) (by dsimp only;omega)
theorem zs (B:px R f T kd sh T' kd' sh'):∀n d:Nat,t6 R f T T' n d (met T kd sh n) (met T' kd' sh' d)
 |0,_=>fun s b a h ha e hn _=>by have:=h.ok.lt (B.qQ a ha) e;omega
 |n+1,0=>fun s b a h ha e _ l=>by
  have:=h.ok'.lt (B.qR a ha) (fun c=>e ((t5 B.inj ha h.rs).1 (by rw[<-h.ms];exact c)))
  omega
 |n+1,d+1=>fun s b a h ha e hn l=>by
  have m:_:=fun c=>e ((t5 B.inj ha h.rs).1 (by rw[<-h.ms];exact c))
  have o:Bs R f T T' (s.1++[a],s.2++[(kd a,[])]) (b.1++[f a],b.2++[(kd' (f a),[])]):=⟨h.ok.more (B.qQ a ha) e _,h.ok'.more (B.qR a ha) m _,by rw[h.ms];simp,by rw[h.nd,B.kd a ha],fun c hc=>by
   rcases List.mem_append.1 hc with g|g
   ·exact h.rs c g
   ·rw[bv] at g;rw[g];exact ha⟩
  obtain⟨i,j⟩:=t7 B (jG n) (jG d) (zs B n d) (sh a) _ ([],(s.1++[a],s.2++[(kd a,[])])) ([],(b.1++[f a],b.2++[(kd' (f a),[])])) (B.sh a ha) rfl o (by simp;omega) (by simp;omega)
  refine⟨(jG (n+1) s a h.ok (B.qQ a ha) e hn).ok,(jG (d+1) b (f a) h.ok' (B.qR a ha) m l).ok,j.ms,?_,j.rs⟩
  have k:=j.nd;show(dz _ T' (b.1++[f a],b.2++[(kd' (f a),[])]) _).2.2.set _ (kd' (f a),(dz _ T' (b.1++[f a],b.2++[(kd' (f a),[])]) _).1)=(dz _ T (s.1++[a],s.2++[(kd a,[])]) (sh a)).2.2.set _ (kd a,(dz _ T (s.1++[a],s.2++[(kd a,[])]) (sh a)).1)
  have i:(dz (met T kd sh n) T (s.1++[a],s.2++[(kd a,[])]) (sh a)).1=(dz (met T' kd' sh' d) T' (b.1++[f a],b.2++[(kd' (f a),[])]) (sh' (f a))).1:=i;have k:(dz (met T' kd' sh' d) T' (b.1++[f a],b.2++[(kd' (f a),[])]) (sh' (f a))).2.2=(dz (met T kd sh n) T (s.1++[a],s.2++[(kd a,[])]) (sh a)).2.2:=k;rw[k,<-i,B.kd a ha,h.ms,aW]
theorem Gw (B:px R f T kd sh T' kd' sh'){l c:List Int}(hl:jj (lC R f) l c){n b:Nat}(hn:T.length<=n)(e:T'.length<=b):(dz (met T kd sh n) T ([],[]) l).1=(dz (met T' kd' sh' b) T' ([],[]) c).1/\(dz (met T' kd' sh' b) T' ([],[]) c).2.2=(dz (met T kd sh n) T ([],[]) l).2.2/\(dz (met T' kd' sh' b) T' ([],[]) c).2.1=(dz (met T kd sh n) T ([],[]) l).2.1.map f:=by
 obtain⟨g,d⟩:=t7 B (jG n) (jG b) (zs B n b) l c ([],([],[])) ([],([],[])) hl rfl ⟨e9.start T,e9.start T',rfl,rfl,fun a ha=>by cases ha⟩ (by simpa using hn) (by simpa using e)
 exact⟨g,d.nd,d.ms⟩
end
theorem Gx {x:Int}(h:dk x=3):cY x=true:=by
 unfold cY;have h0:dc x=0:=by
  unfold dk at h;split at h
  ·assumption
  ·omega
 rw[h,h0];rfl
theorem t8 {x:Int}(h:cY x=true):dk x=3:=by unfold cY at h;rw[a_] at h;simpa using h.2
section
variable {a:Wc}{S:cq}{Y G K D:List Int}
end
theorem Pos.same {z g:Int->Int}{al i:Int->Bool}{f j:Int->Int}:∀{l:List Int}{n m:Int},(∀a∈l,z a=g a/\al a=i a/\f a=j a)->Pos z al f n l m->Pos g i j n l m
 |[],n,m,_,h=>h
 |a::l,n,m,he,h=>by
  obtain⟨q,k,o⟩:=he a Z;have p:∀{n m:Int},Pos z al f n l m->_:=fun h=>Pos.same (fun b hb=>he b (aO _ hb)) h;refine⟨fun c=>?_,fun c=>?_⟩
  ·obtain⟨d,e⟩:=h.1 (by rw[k];exact c)
   rw[<-o,<-q];exact⟨d,p e⟩
  ·obtain⟨d,e⟩:=h.2 (by rw[k];exact c)
   rw[<-o];exact⟨d,p e⟩
structure l9 (a:Wc)(s:d9)(T:List Int)(j:cu)(s':d9):Prop where
 y:s'.y=0
 M:s'.M=[]
 rl:s'.rs.length=12
 g:s'.g<=a.O
 l:s'.ws.length=a.N+a.O
 pos:Pos (fun c=>pf (ld a.N s.y s.g s.ws c)) (fun c=>!(j.f c==-1)) j.f a.N T (a.N+s'.g)
 rs:∀i,i<12->s'.rs.getD i 0=(s.j0 a).nw j (s.rs.getD i 0)
 hd:∀c∈T,j.f c≠-1->ld a.N 0 s'.g s'.ws (j.f c)=ld a.N s.y s.g s.ws c
 fd:∀c∈T,j.f c≠-1->∀i,0<=i->i<pf (ld a.N s.y s.g s.ws c)->ld a.N 0 s'.g s'.ws (j.f c+1+i)=(s.j0 a).nw j ((s.j0 a).ii j c i)
section
variable {a:Wc}{s:d9}{Y G:List Int}
theorem kN (h:d5 a.N s.y s.g s.ws Y G)(hb:cI a s):(s.j0 a).Y=Y/\(s.j0 a).G=G/\(s.j0 a).T=G++Y:=by
 have c:(s.j0 a).Y=Y:=by show eb _ _=Y;rw[(h.lists hb.n1 hb.y1 hb.o1 hb.g1).1];exact qD (fun x b=>bq (by have:=(h.ty.mem x b).2.1;omega))
 have d:(s.j0 a).G=G:=by show eb _ _=G;rw[(h.lists hb.n1 hb.y1 hb.o1 hb.g1).2];exact qD (fun x b=>bq (by have:=(h.ec.mem x b).2.1;omega))
 exact⟨c,d,by unfold b9.T;rw[c,d]⟩
theorem oq (h:d5 a.N s.y s.g s.ws Y G)(hb:cI a s):∀c∈(s.j0 a).T,kM (s.j0 a) c:=fun c hc=>by
 obtain⟨l,m,f⟩:=kN h hb;rw[f] at hc;rcases List.mem_append.1 hc with d|d
 ·obtain⟨g,j,e⟩:=h.ec.mem c d;exact⟨e,fun i k b=>hY (by show(a.N:Int)<=_;omega) (by have b:i<=pf (ld a.N s.y s.g s.ws c):=b;show c+i<(a.N:Int)+s.g;omega)⟩
 ·obtain⟨g,j,e⟩:=h.ty.mem c d;exact⟨e,fun i k b=>iK V (by have b:i<=pf (ld a.N s.y s.g s.ws c):=b;show c+i<(s.y:Int);omega)⟩
theorem py (h:d5 a.N s.y s.g s.ws Y G)(hb:cI a s):∀c∈(s.j0 a).T,∀b∈(s.j0 a).T,c<b->c+(1+pf ((s.j0 a).ld c))<=b:=fun c hc b hd q=>by
 obtain⟨g,i,d⟩:=kN h hb;rw[d] at hc hd;show c+(1+pf (ld a.N s.y s.g s.ws c))<=b;have hy:=hb.y1;rcases List.mem_append.1 hc with hc|hc<;>rcases List.mem_append.1 hd with hd|hd
 ·exact h.ec.apart c hc b hd q
 ·have e:=(h.ec.mem c hc).1;have f:=(h.ty.mem b hd).2.1;have:=dj (ld a.N s.y s.g s.ws b)
  omega
 ·have e:=(h.ty.mem c hc).2.1;have f:=(h.ec.mem b hd).1;omega
 ·exact h.ty.apart c hc b hd q
theorem Gy (h:d5 a.N s.y s.g s.ws Y G)(hb:cI a s)(cA:cu)(hm:((s.j0 a).pl cA).2<=a.N+a.O):
 l9 a s (G++Y) ((s.j0 a).pl cA).1 (((s.j0 a).e3 ((s.j0 a).pl cA).1).sl ((s.j0 a).pl cA).1).s/\((((s.j0 a).e3 ((s.j0 a).pl cA).1).sl ((s.j0 a).pl cA).1).s.g:Int)=((s.j0 a).pl cA).2-a.N/\
 (∀c∈G++Y,((s.j0 a).pl cA).1.f c=-1↔cA.f c=-1)/\(∃F,iC ((s.j0 a).e3 ((s.j0 a).pl cA).1) ((s.j0 a).pl cA).1 F/\F 0 ((s.j0 a).e3 ((s.j0 a).pl cA).1,0)):=by
 obtain⟨U,W,o⟩:=kN h hb;have ew:=oq h hb;have X:=py h hb;have J:=(cV.start (s:=s) hb.n1 hb.o1 hb.y1 hb.g1).nd;have hz:∀c,0<=(fun c=>pf ((s.j0 a).ld c)) c:=fun c=>(dj _).1;obtain⟨k,hk⟩:∃k,s.j0 a=k:=⟨_,rfl⟩
 have H:k.a=a:=by rw[<-hk];rfl
 have p:k.s=s:=by rw[<-hk];rfl
 have v:∀x,k.ld x=ld a.N s.y s.g s.ws x:=fun x=>by rw[<-hk];rfl
 have bn:jU k:=⟨by rw[p,H];exact hb.l1,by rw[p,H];exact hb.y1,by rw[p,H];exact hb.g1⟩
 obtain⟨t,_,_,_⟩:=pn (s.j0 a) (fun c=>!(cA.f c==-1)) (s.j0 a).T (cA,a.N) J (fun c _=>rfl)
 have t:Pos (fun c=>pf ((s.j0 a).ld c)) (fun c=>!(cA.f c==-1)) ((s.j0 a).pl cA).1.f a.N (s.j0 a).T ((s.j0 a).pl cA).2:=t;rw[hk] at U W o ew X J hz t hm⊢;obtain⟨j,ab⟩:∃j,(k.pl cA).1=j:=⟨_,rfl⟩
 obtain⟨m,K⟩:∃m,(k.pl cA).2=m:=⟨_,rfl⟩
 rw[ab,K] at t;rw[K] at hm;rw[ab,K];have B:∀c∈k.T,(!(cA.f c==-1))=!(j.f c==-1):=fun c hc=>by
  cases q:(!(cA.f c==-1))
  ·rw[t.no c hc q];rfl
  ·have:=(t.bd hz c hc q).1;rw[beq_false_of_ne V];rfl
 have P:=t.same (fun c hc=>⟨rfl,B c hc,rfl⟩)
 have bo:∀c∈k.T,j.f c=-1↔cA.f c=-1:=fun c hc=>by
  have:=B c hc;constructor
  ·intro q;rw[q] at this
   simpa using this
  ·intro q;rw[q] at this
   simpa using this.symm
 obtain⟨ad,ag,t3,ai,al,g,am,an,C,ao⟩:=pr (s:=j) bn (by rw[p];exact hb.r1) J ew X;obtain⟨k5,bp⟩:∃k5,k.e3 j=k5:=⟨_,rfl⟩
 rw[bp] at ad ag t3 ai al g am an C ao⊢;have L:∀c∈k.T,pf (k5.ld c)=pf (k.ld c):=fun c hc=>by rw[C c hc]
 have f:=ad.trans H;have M:=t3.trans W;have I:∀c,c∈G\/c∈Y->c∈k.T:=fun c hc=>by rw[o];exact List.mem_append.2 hc
 rw[o] at P;obtain⟨N,br,bs⟩:=P.app;have ap:Pos (fun c=>pf (k5.ld c)) (fun c=>!(j.f c==-1)) j.f (k5.a.N+(0:Int)) G N:=by rw[f,Int.add_zero];exact br.same (fun c hc=>⟨(L c (I c (aK hc))).symm,rfl,rfl⟩)
 have ar:=bs.same (fun c hc=>⟨(L c (I c (aJ hc))).symm,rfl,rfl⟩)
 have aB:∀c,0<=(fun c=>pf (k5.ld c)) c:=fun c=>(dj _).1;have b6:=ar.le aB;have aF:jh k5 (fun c=>!(j.f c==-1)) j.f N [] G (k5,0):=by
  refine⟨ks.refl _,rfl,Int.le_refl _,ap,⟨a.N,?_,by rw[f];dsimp only;omega,fun _ _ _=>rfl⟩,fun _ _ _=>rfl,fun c hc=>by cases hc⟩
  rw[f,al,p];exact h.ec.heads (fun x aR=>by rw[C x (I x (aK aR)),v])
 have aV:∀c∈k5.G,(fun c=>!(j.f c==-1)) c=!(j.f c==-1):=fun _ _=>rfl;have l:=jh.all g.l g.y g.g aV G [] (k5,0) (fun c hc=>by rw[M];exact hc) aF;have O:=l.pos;have a0:k5.lz j k5.G=gU (fun _ a=>j.f a) (b9.i4 j) (k5,0) G:=by unfold b9.lz;rw[M]
 obtain⟨d,bt⟩:∃d,gU (fun _ a=>j.f a) (b9.i4 j) (k5,0) G=d:=⟨_,rfl⟩
 rw[bt] at l O a0;have u0:=l.u0;rw[f] at O;have bx:=g.g;have a1:=g.y;rw[f] at bx a1;obtain⟨k1,a2⟩:∃k1,k5.sl1 j=k1:=⟨_,rfl⟩
 have w:k1=d.1.ar d.1.s.y d.2.toNat d.1.s.ws:=by rw[<-a2];unfold b9.sl1;rw[a0]
 have g1:(k1.s.g:Int)=d.2:=by rw[w];show(d.2.toNat:Int)=_;omega
 have Q:=l.sm.a;have R:=l.sm.y;have bb:∀x:Int,(0<=x/\x<k5.s.y)\/((a.N:Int)<=x/\x<a.N+d.2/\x<a.N+k5.s.g)->k1.ld x=d.1.ld x:=fun x aR=>by
  have u:dd d.1.a.N d.1.s.y d.1.s.g x=true:=by rw[Q,R,l.g,f];exact(lj _ _ _ _).2 V
  have bY:dd d.1.a.N d.1.s.y d.2.toNat x=true:=by rw[Q,R,f];exact(lj _ _ _ _).2 V
  rw[w];show ld d.1.a.N d.1.s.y d.2.toNat d.1.s.ws x=ld d.1.a.N d.1.s.y d.1.s.g d.1.s.ws x;rw[dW u,dW bY]
 obtain⟨b,bZ,b0,_⟩:=l.tl;have b1:_=_:=bZ;rw[f] at b0 b1;have C0:lA k5 (fun c=>!(j.f c==-1)) j.f m G Y k1:=by
  refine⟨⟨by rw[w];exact Q,by rw[w];exact R,by rw[w];exact l.sm.rs,by rw[w];exact l.sm.len⟩,by rw[f];omega,?_,fun x bd be=>?_,fun c hc B=>?_⟩
  ·rw[f,g1,O];exact ar
  ·rw[bb x (aK ⟨bd,be⟩)];exact l.cK x bd be
  ·obtain⟨r1,bg⟩:=l.rel c hc B;have r3:=(ap.bd aB c hc B).1;rw[f] at r1 r3⊢;refine⟨V,V,fun i D u=>?_⟩
   rw[bb _ (aJ ⟨V,V,V⟩)];exact bg i D u
 have n:=lA.all (s:=j) g.l g.y (by rw[f];exact hm) Y G k1 (fun c hc=>by
  have S:=I c (aJ hc)
  obtain⟨q1,b2,q3⟩:=h.ty.mem c hc;rw[C c S,v,ai,p];exact⟨rfl,q1,b2,q3⟩) C0
 obtain⟨e,bi⟩:∃e,k1.pj j Y=e:=⟨_,rfl⟩
 rw[bi] at n;have b3:k5.sl2 j=e:=by unfold b9.sl2;rw[a2,(ag.trans U)];exact bi
 have bl:(k5.sl j).s=⟨0,e.s.g,e.s.ws,[],e.s.rs⟩:=by unfold b9.sl;rw[b3];rfl
 have b4:(a.N:Int)+e.s.g=m:=by
  have:=n.pos;rw[f] at this
  exact this
 have b5:e.s.y<=a.N:=by rw[n.sm.y];exact a1
 have rel:∀c∈G++Y,j.f c≠-1->(a.N:Int)<=j.f c/\∀i,0<=i->i<=pf (k.ld c)->ld a.N 0 e.s.g e.s.ws (j.f c+i)=k5.ld (c+i):=fun c hc A=>by
  have S:c∈k.T:=by rw[o];exact hc
  obtain⟨r1,bg,r3⟩:=n.rel c hc (by rw[beq_false_of_ne A];rfl)
  rw[f] at r1;refine⟨r1,fun i D u=>?_⟩
  rw[tZ (y:=e.s.y) V b5,<-r3 i D (by rw[L c S];exact u)];show ld a.N e.s.y e.s.g e.s.ws _=ld e.a.N e.s.y e.s.g e.s.ws _;rw[(n.sm.a.trans f)]
 refine⟨?_,?_,fun c hc=>bo c (by rw[o];exact hc),⟨_,(jh.qM (m:=N) g.l g.y g.g (by rw[f];exact hb.n1) (by rw[f];exact hb.o1) aV (by rw[f];omega)),?_⟩⟩
 ·rw[bl];refine⟨rfl,rfl,?_,?_,?_,?_,fun i hi=>?_,fun c hc A=>?_,fun c hc A i D u=>?_⟩
  ·show e.s.rs.length=12;rw[n.sm.rs];exact am
  ·show e.s.g<=a.O;omega
  ·show e.s.ws.length=a.N+a.O;rw[n.sm.len,g.l,f]
  ·show Pos _ _ _ _ _ _;rw[b4];exact P.same (fun c hc=>⟨by rw[v],rfl,rfl⟩)
  ·show e.s.rs.getD i 0=_;rw[n.sm.rs,an i hi,p,hk]
  ·have E:=(rel c hc A).2 0 V (dj _).1;rw[Int.add_zero,Int.add_zero,C c (by rw[o];exact hc),v] at E;exact E
  ·have E:=(rel c hc A).2 (1+i) V (by rw[v];omega)
   rw[<-Int.add_assoc,<-Int.add_assoc,ao c (by rw[o];exact hc) A i D (by rw[v];exact u),<-hk] at E;exact E
 ·rw[bl];show(e.s.g:Int)=m-a.N;omega
 ·rw[List.take_zero,List.drop_zero,M];exact aF
end
section
variable {T:List Int}{kd:Int->Int}{sh:Int->List Int}
end
theorem Gz {N y g:Nat}{ws Y G:List Int}(h:d5 N y g ws Y G)(hy:y<=N)(Q:List b7){c:Int}(hc:c∈Y\/c∈G)(d:pk (ld N y g ws c)≠5):(∀i:Nat,i<(eV N y g ws Q c).length->(eV N y g ws Q c).getD i 0=ld N y g ws (c+1+(i:Int)))/\(∀i:Nat,(i:Int)<pf (ld N y g ws c)->ld N y g ws (c+1+(i:Int))∈eV N y g ws Q c):=by
 have hl:=yU h hy Q hc d;have key:∀i:Nat,i<(eV N y g ws Q c).length->(eV N y g ws Q c).getD i 0=ld N y g ws (c+1+(i:Int)):=fun i hi=>by unfold eV at hi⊢;rw[aG d] at hi⊢;rw[aE,aL hi];simp
 refine⟨key,fun i hi=>?_⟩
 have b:i<(eV N y g ws Q c).length:=V;rw[<-key i b,aE,aL b];exact a6 b
section
variable {a:Wc}{s:d9}{Y G:List Int}
theorem GA {k:b9}{j:cu}{x:Int}(i:cY x=true->cg x∈k.T/\j.f (cg x)≠-1)(l:∀c∈k.T,j.f c≠-1->0<=j.f c/\j.f c<1000000):lC (fun c=>c∈k.T/\j.f c≠-1) j.f x (k.nw j x)/\(cY (k.nw j x)=true->∃c∈k.T,j.f c≠-1/\cg (k.nw j x)=j.f c):=by
 cases ha:cY x
 ·have e:k.nw j x=x:=by unfold b9.nw b9.jt;rw[ha];rfl
  rw[e];refine⟨aJ ⟨fun b=>?_,rfl,rfl⟩,fun b=>?_⟩
  ·rw[Gx b] at ha;cases ha
  ·rw[ha] at b;cases b
 ·obtain⟨d,f⟩:=i ha;have e:k.nw j x=ew 3 (j.f (cg x)):=by unfold b9.nw b9.jt;rw[ha,List.contains_iff_mem.2 d,beq_false_of_ne f];rfl
  obtain⟨m,b1⟩:=l _ d f;obtain⟨n,hn⟩:∃n:Nat,j.f (cg x)=n:=⟨(j.f (cg x)).toNat,V⟩
  obtain⟨w1,g⟩:=m5 n V;rw[<-hn,<-e] at w1 g;refine⟨aK ⟨t8 ha,t8 w1,⟨by rw[<-lM x ha];exact d,by rw[<-lM x ha];exact f⟩,?_⟩,fun _=>⟨cg x,d,f,g⟩⟩
  rw[<-lM x ha,<-lM _ w1];exact g
end
def cu.lf (j:cu)(T:List Int):List Int:=(T.filter (fun c=>!(j.f c==-1))).map j.f
section
variable {a:Wc}{s s':d9}{Y G:List Int}{j:cu}
theorem l9.bd (g:l9 a s (G++Y) j s'):∀c∈G++Y,j.f c≠-1->(a.N:Int)<=j.f c/\j.f c+(1+pf (ld a.N s.y s.g s.ws c))<=a.N+s'.g:=fun c hc b=>g.pos.bd (fun c=>(dj _).1) c hc (by rw[beq_false_of_ne b];rfl)
theorem t9 {T:List Int}{x:Int}:x∈j.lf T↔∃c∈T,j.f c≠-1/\j.f c=x:=by
 unfold cu.lf;rw[List.mem_map];constructor
 ·rintro⟨c,b,d⟩
  obtain⟨e,f⟩:=List.mem_filter.1 b;exact⟨c,e,by simpa using f,d⟩
 ·rintro⟨c,b,d,e⟩
  exact⟨c,List.mem_filter.2 ⟨b,by rw[beq_false_of_ne d];rfl⟩,e⟩
theorem l9.full (g:l9 a s (G++Y) j s')(h:d5 a.N s.y s.g s.ws Y G):d5 a.N 0 s'.g s'.ws [] (j.lf (G++Y)):=by
 refine⟨rfl,g.pos.tW (fun c=>(dj _).1) (fun c hc d=>?_)⟩
 have e:j.f c≠-1:=by simpa using d
 rw[g.hd c hc e];refine⟨?_,rfl⟩
 rcases List.mem_append.1 hc with b|b
 ·exact(h.ec.mem c b).2.2
 ·exact(h.ty.mem c b).2.2
end
section
variable {a:Wc}{S:cq}{Y G:List Int}
end
section
variable {c:kh}{F:Nat->Prop}{S:cq×ck}{w:ax}
end
section
variable {c:kh}{F:Nat->Prop}{S:cq×ck}{w:ax}{j:Nat}
theorem zt:cY 2=false:=aa
end
section
variable {a:Wc}{s:d9}{Y G:List Int}
end
section
variable {k:b9}{s:cu}
theorem cZ.nw {X:Int->Prop}(h:cZ k X s)(x:Int):k.nw s x=x:=by
 unfold b9.nw;split
 ·rename_i c;rw[a_] at c;have b:s.f (cg x)≠-1:=by simpa using c.2
  have ha:cY x=true:=by have q:=c.1;unfold b9.jt at q;rw[a_] at q;exact q.1
  have h0:dc x=0:=by have q:=ha;unfold cY at q;rw[a_] at q;simpa using q.1
  rw[h.self _ (og c.1) b,lM x ha];have q:=(vB x h0).2;rw[t8 ha] at q;exact q
 ·rfl
theorem t_ {t:cu×List b7}{r:List b7}(h:∀e∈r,k.al t.1 e.2=true):k.tS t r=t:=by
 have e:r.filter (fun e=>!k.al t.1 e.2)=[]:=by rw[List.filter_eq_nil_iff];intro e he;rw[h e he];simp
 show ft (dI cu) (fun s x=>k.al s.1 x) k.ch t r=t;unfold ft;rw[e];rfl
end
section
variable {a:Wc}{S:cq}{Y G:List Int}
theorem qS (c:cV (S.s.j0 a) gL):∀e∈S.r3 a,(S.s.j0 a).al (S.cA a) e.2=true:=by obtain⟨d,f,_⟩:=oh c;intro e he;obtain⟨b,g,i⟩:=List.mem_map.1 he;rw[<-i];show(S.s.j0 a).al (S.cA a) ((S.s.j0 a).nw (S.cA a) b.2)=true;rw[(d.jQ.nw b.2)];exact yK f (List.mem_filter.1 (List.mem_filter.1 g).1).2
structure zu (a:Wc)(s:d9)(T:List Int)(j:cu):Prop where
 rt:∀i,i<12->cY (s.rs.getD i 0)=true->cg (s.rs.getD i 0)∈T/\j.f (cg (s.rs.getD i 0))≠-1
 fd:∀c∈T,j.f c≠-1->∀i,0<=i->i<pf (ld a.N s.y s.g s.ws c)->cY ((s.j0 a).ii j c i)=true->cg ((s.j0 a).ii j c i)∈T/\j.f (cg ((s.j0 a).ii j c i))≠-1
theorem l9.inv {s b:d9}{j:cu}(g:l9 a s (G++Y) j b)(h:el a s Y G)(hb:cI a s)(al:zu a s (G++Y) j):el a b [] (j.lf (G++Y))/\cI a b:=by
 obtain⟨_,_,f⟩:=kN h.inv.full hb;have hN:=hb.n1;have hO:=hb.o1;have t:=g.g;have n:∀c∈(s.j0 a).T,j.f c≠-1->0<=j.f c/\j.f c<1000000:=fun c hc o=>by
  rw[f] at hc;have:=g.bd c hc o;have:=dj (ld a.N s.y s.g s.ws c)
  omega
 have key:∀x,(cY x=true->cg x∈G++Y/\j.f (cg x)≠-1)->cY ((s.j0 a).nw j x)=true->cg ((s.j0 a).nw j x)∈j.lf (G++Y):=fun x k ha=>by obtain⟨_,p⟩:=GA (fun ha=>by rw[f];exact k ha) n;obtain⟨c,c1,c2,c3⟩:=p ha;rw[f] at c1;exact t9.2 ⟨c,c1,c2,c3.symm⟩
 refine⟨⟨?_,fun v _ i _ _ _ hy=>by cases hy⟩,⟨hb.n0,hb.n1,hb.o1,by rw[g.y];exact aY _,g.g,g.l,g.rl⟩⟩
 rw[g.y];refine⟨(g.full h.inv.full),fun x k ha=>?_,fun v hv i l d ha=>?_⟩
 ·obtain⟨i,hi,e⟩:=List.mem_iff_getElem.1 k;have q:b.rs.getD i 0=x:=by rw[aE,aL hi,e];rfl
  have m:i<12:=by rw[<-g.rl];exact hi
  rw[<-q,g.rs i m] at ha⊢;exact aJ (key _ (al.rt i m) ha)
 ·obtain⟨c,c1,c2,c3⟩:=t9.1 (hv.resolve_left Z)
  rw[<-c3] at d ha⊢;rw[g.hd c c1 c2] at d;rw[g.fd c c1 c2 i l d] at ha⊢;exact aJ (key _ (al.fd c c1 c2 i l d) ha)
structure GB (a:Wc)(S:cq)(Y G:List Int)(j:cu):Prop where
 gc:l9 a S.s (G++Y) j (S.dy a).s
 al:zu a S.s (G++Y) j
 g:((S.dy a).s.g:Int)=S.n4 a
 iff:∀c∈G++Y,j.f c=-1↔(S.cA a).f c=-1
 j:S.cE a=j
theorem l_ (h:el a S.s Y G)(hb:cI a S.s)(t:S.fM a=false):(∃F,iC (S.k5 a) (S.dC a) F/\F 0 (S.k5 a,0))/\GB a S Y G (S.cE a)/\S.dC a=S.cE a:=by
 have j:=cV.start hb.n1 hb.o1 hb.y1 hb.g1;obtain⟨k,U,H⟩:=oh (S:=S) j;obtain⟨l1,l2,d⟩:=kN h.inv.full hb;have hm:((S.s.j0 a).pl (S.cA a)).2<=a.N+a.O:=by
  have:=of_decide_eq_false t;unfold cq.n4 at this
  omega
 obtain⟨g1,g2,g3,g4⟩:=Gy h.inv.full hb (S.cA a) hm;have I:((S.s.j0 a).pl (S.cA a)).1=S.cE a:=rfl;rw[I] at g1 g2 g3 g4;have u:(S.s.j0 a).e3 (S.cE a)=S.k5 a:=rfl;rw[u] at g1 g2 g4;have J:(S.k5 a).T=(S.s.j0 a).T:=by
  obtain⟨_,v,t3,_⟩:=pr ⟨hb.l1,hb.y1,hb.g1⟩ hb.r1 j.nd (oq h.inv.full hb) (py h.inv.full hb)
  rw[u] at v t3;unfold b9.T;rw[v,t3]
 have w:∀x,(S.s.j0 a).cS (S.cE a) x=(S.s.j0 a).cS (S.cA a) x:=fun x=>by
  cases hj:(S.s.j0 a).jt x
  ·unfold b9.cS;rw[hj];rfl
  ·have A:=og hj;rw[d] at A;have q:=g3 _ A;unfold b9.cS;by_cases c:(S.cA a).f (cg x)=-1
   ·rw[c,q.2 c]
   ·rw[beq_false_of_ne c,beq_false_of_ne (fun K=>c (q.1 K))]
 have B:S.dC a=S.cE a:=by
  have q:(S.k5 a).tS (S.cE a,S.q3 a) (S.r3 a)=(S.cE a,S.q3 a):=t_ (fun e he=>by
   have q1:=qS (S:=S) j e he;unfold b9.al at q1⊢;have C:(S.k5 a).cS (S.cE a) e.2=(S.s.j0 a).cS (S.cE a) e.2:=by unfold b9.cS b9.jt;rw[J]
   rw[C,w];exact q1)
  unfold cq.dC;rw[q]
 have L:(S.k5 a).sl (S.cE a)=S.k6 a:=by unfold cq.k6;rw[B]
 rw[L] at g1 g2;have D:(S.dy a).s=(S.k6 a).s:=by unfold cq.dy;rw[t,aG Z]
 have E:∀x,cY x=true->cg x∈G++Y->(S.s.j0 a).cS (S.cA a) x=false->(S.cE a).f (cg x)≠-1:=fun x ha hm hj=>by
  have M:(S.s.j0 a).jt x=true:=by unfold b9.jt;rw[ha,d,List.contains_iff_mem.2 hm];rfl
  rw[b9.pm M] at hj;exact fun e=>hj ((g3 _ hm).1 e)
 rw[B];refine⟨g4,⟨by rw[D];exact g1,⟨fun i hi ha=>?_,fun c hc N i l m ha=>?_⟩,by rw[D];exact g2,g3,rfl⟩,rfl⟩
 ·have O:S.s.rs.getD i 0∈S.s.rs:=by rw[aE,aL (by rw[hb.r1];exact hi)];exact a6 _
  have b:=List.mem_append.2 (h.inv.rt _ O ha).symm;exact⟨b,E _ ha b (H i hi)⟩
 ·have n:pc (ld a.N S.s.y S.s.g S.s.ws c)=0:=(oq h.inv.full hb c (by rw[d];exact hc)).c;have P:c∈(S.s.j0 a).T:=by rw[d];exact hc
  have Q:_:=fun e=>N ((g3 c hc).2 e)
  have hM:m3 (S.s.j0 a) (S.cA a) c:=by
   rcases k.jQ.cmp c P Q with q|q|q
   ·rw[k.td] at q;cases q
   ·exact absurd q id
   ·exact q
  have mem:∀i,0<=i->i<pf (ld a.N S.s.y S.s.g S.s.ws c)->cY (ld a.N S.s.y S.s.g S.s.ws (c+1+i))=true->_:=fun i l m ha=>List.mem_append.2 (h.inv.fd c (List.mem_append.1 hc).symm i l m ha).symm;unfold b9.ii at ha⊢;rw[w] at ha⊢;by_cases cb:((pk ((S.s.j0 a).ld c)=3\/pk ((S.s.j0 a).ld c)=4)/\(S.s.j0 a).cS (S.cA a) ((S.s.j0 a).ld (c+1))=true)/\(i=0\/(pk ((S.s.j0 a).ld c)=4/\i=1))
  ·rw[aI cb] at ha;exact absurd ha aa
  ·rw[aG cb] at ha⊢;have ha:=ha;have b:=mem i l m ha;refine⟨b,E _ ha b ?_⟩
   by_cases p:pk ((S.s.j0 a).ld c)=1\/pk ((S.s.j0 a).ld c)=2
   ·have q:=hM.p p i.toNat (by show(i.toNat:Int)<pf (ld a.N S.s.y S.s.g S.s.ws c);omega)
    rwa [show((i.toNat:Nat):Int)=i from by omega] at q
   ·by_cases f:pk ((S.s.j0 a).ld c)=3
    ·have R:=ih n (aJ (aK f))
     by_cases z:i=0
     ·cases hl:(S.s.j0 a).cS (S.cA a) ((S.s.j0 a).ld (c+1))
      ·rw[z,Int.add_zero];exact hl
      ·exact absurd ⟨⟨aK f,hl⟩,aK z⟩ cb
     ·have o:i=1:=V;rw[o,show c+1+1=c+2 from by omega];exact hM.w f
    ·by_cases g:pk ((S.s.j0 a).ld c)=4
     ·have R:=ih n (aJ (aJ g))
      have s:(S.s.j0 a).cS (S.cA a) ((S.s.j0 a).ld (c+1))=false:=by
       cases hl:(S.s.j0 a).cS (S.cA a) _
       ·rfl
       ·exact absurd ⟨⟨aJ g,hl⟩,V⟩ cb
      by_cases z:i=0
      ·rw[z,Int.add_zero];exact s
      ·have o:i=1:=V;rw[o,show c+1+1=c+2 from by omega];rcases hM.e g with q|q
       ·rw[k.ep c q] at s;cases s
       ·exact q
     ·have q1:=yR n;have C:pf (ld a.N S.s.y S.s.g S.s.ws c)=0:=by
       have q3:pk (ld a.N S.s.y S.s.g S.s.ws c)≠1/\pk (ld a.N S.s.y S.s.g S.s.ws c)≠2/\pk (ld a.N S.s.y S.s.g S.s.ws c)≠3/\pk (ld a.N S.s.y S.s.g S.s.ws c)≠4:=⟨fun e=>p (aK e),fun e=>p (aJ e),f,g⟩
       omega
      omega
theorem GC (a:Wc)(S:cq):(S.dy a).r.length+(S.dy a).q.length<=S.r.length+S.q.length:=by
 unfold cq.dy;split
 ·exact aD _
 ·have b:(S.j2 a).2.length=S.q.length:=pd _ _ _;have c:(S.r3 a).length+(S.q3 a).length<=S.r.length+(S.j2 a).2.length:=qH (dI cu) (fun s x=>(S.s.j0 a).al s.1 x) _ (fun s x=>(S.s.j0 a).nw s.1 x) (fun s x=>qB _ s x) (S.j2 a) S.r;have d:((S.k5 a).tR (S.cE a,S.q3 a) (S.r3 a)).length+((S.k5 a).ic (S.cE a,S.q3 a) (S.r3 a)).length<=(S.r3 a).length+(S.q3 a).length:=qH (dI cu) (fun s x=>(S.k5 a).al s.1 x) _ (fun s x=>(S.k5 a).nw s.1 x) (fun _ _=>rfl) (S.cE a,S.q3 a) (S.r3 a)
  dsimp only;omega
theorem el.dy (h:el a S.s Y G)(hb:cI a S.s):(S.fM a=false->∃F,iC (S.k5 a) (S.dC a) F/\F 0 (S.k5 a,0))/\(∃c d,el a (S.dy a).s c d)/\(S.dy a).s.M.length<=S.s.M.length:=by
 refine⟨fun b=>(l_ h hb b).1,?_⟩
 cases b:S.fM a
 ·obtain⟨_,g,_⟩:=l_ h hb b;obtain⟨e,_⟩:=g.gc.inv h hb g.al;exact⟨⟨[],_,e⟩,by rw[g.gc.M];exact aY _⟩
 ·have f:S.dy a=S:=by unfold cq.dy;rw[aI b]
  rw[f];exact⟨⟨Y,G,h⟩,aD _⟩
end
structure nc (k:b9)(C:Int->Prop):Prop where
 rt:∀i,i<12->k.jt (k.s.rs.getD i 0)=true->C (cg (k.s.rs.getD i 0))
 p:∀a∈k.T,C a->pk (k.ld a)=1\/pk (k.ld a)=2->∀i:Nat,(i:Int)<pf (k.ld a)->k.jt (k.ld (a+1+i))=true->C (cg (k.ld (a+1+i)))
 w:∀a∈k.T,C a->pk (k.ld a)=3->k.jt (k.ld (a+2))=true->C (cg (k.ld (a+2)))
 e:∀a∈k.T,C a->pk (k.ld a)=4->(k.jt (k.ld (a+1))=true->C (cg (k.ld (a+1))))->k.jt (k.ld (a+2))=true->C (cg (k.ld (a+2)))
def pz (k:b9)(C:Int->Prop)(q:List b7):Prop:=∀e∈q,(k.jt e.1=true->C (cg e.1))->k.jt e.2=true->C (cg e.2)
structure dG (k:b9)(C:Int->Prop)(s:cu):Prop where
 snd:∀a∈k.T,s.f a≠-1->C a
 ea:∀a∈s.ep,a∈k.T/\s.f a≠-1/\pk (k.ld a)=4
section
variable {k:b9}{C:Int->Prop}{s:cu}
theorem dG.cS (h:dG k C s){x:Int}(b:k.cS s x=false):k.jt x=true->C (cg x):=fun ht=>h.snd _ (og ht) ((b9.pm ht).1 b)
theorem dG.al (h:dG k C s){x:Int}(b:k.al s x=true):k.jt x=true->C (cg x):=h.cS (by unfold b9.al at b;simpa using b)
theorem dG.ma (h:dG k C s)(x:Int)(i:k.jt x=true->C (cg x))(le:dQ k s (k.ma s x)):dG k C (k.ma s x):=by
 refine⟨fun b hb d=>?_,fun b hb=>?_⟩
 ·by_cases c:k.cS s x=true
  ·have e:(k.ma s x).f b=if b=cg x then cg x else s.f b:=by unfold b9.ma;rw[aI c];rfl
   rw[e] at d;by_cases f:b=cg x
   ·rw[f];refine i ?_;unfold b9.cS at c;rw[a_] at c;exact c.1
   ·rw[aG f] at d;exact h.snd b hb d
  ·have e:k.ma s x=s:=by unfold b9.ma;rw[aG c]
   rw[e] at d;exact h.snd b hb d
 ·rw[qE] at hb;obtain⟨q1,g,q3⟩:=h.ea b hb;exact⟨q1,by rw[le.f b g];exact g,q3⟩
theorem dG.e7 {X:Int->Prop}(h:dG k C s)(m:cZ k X s)(a:Int):∀n:Nat,(∀i:Nat,i<n->k.jt (k.ld (a+1+i))=true->C (cg (k.ld (a+1+i))))->dG k C (k.e7 s a n)
 |0,_=>h
 |n+1,b=>by obtain⟨m1,_⟩:=m.e7 a n;exact(dG.e7 h m a n (fun i hi=>b i V)).ma _ (b n V) (m1.ma _).2.1
theorem dG.l1 (h:dG k C s)(m:cZ k (fun _=>False) s)(d:nc k C)(hl:0<s.td.length):dG k C (k.l1 s):=by
 obtain⟨x,e⟩:∃x,s.td.getD (s.td.length-1) 0=x:=⟨_,rfl⟩
 have hm:x∈s.td:=by rw[<-e,aE,aL V];exact a6 _
 have c:=m.eX.td x hm;have f:=m.td x hm;have hc:=h.snd x c f;have j:k.l1 s=k.lk {s with td:=s.td.take (s.td.length-1)} x:=by unfold b9.l1;rw[e]
 have hs:=m.eX.sum;have n:(s.td.take (s.td.length-1)).length=s.td.length-1:=by rw[bw];omega
 have g:cZ k (fun b=>b∈s.td) {s with td:=s.td.take (s.td.length-1)}:=⟨⟨m.eX.nd,m.eX.ps,fun a ha=>m.eX.td a (List.mem_of_mem_take ha),m.eX.ep,m.eX.tl,by
  show k.lost s+(s.td.take _).length+s.ep.length<=_;omega⟩,m.self,fun a ha=>m.td a (List.mem_of_mem_take ha),fun a ha l=>by
  rcases m.cmp a ha l with q|q|q
  ·exact aJ (aK q)
  ·exact absurd q id
  ·exact aJ (aJ ⟨q.p,q.w,q.e⟩)⟩
 have h0:dG k C {s with td:=s.td.take (s.td.length-1)}:=⟨h.snd,h.ea⟩
 rw[j];unfold b9.lk;by_cases c1:pk (k.ld x)=1\/pk (k.ld x)=2
 ·rw[aI c1];exact h0.e7 g x _ (fun i hi=>d.p x c hc c1 i V)
 ·rw[aG c1];by_cases c3:pk (k.ld x)=3
  ·rw[aI c3];exact h0.ma _ (d.w x c hc c3) (g.ma _).2.1
  ·rw[aG c3];by_cases c4:pk (k.ld x)=4
   ·rw[aI c4];refine⟨h.snd,fun b hb=>?_⟩
    rcases List.mem_append.1 hb with hb|hb
    ·exact h.ea b hb
    ·rw[List.mem_singleton.1 hb];exact⟨c,f,c4⟩
   ·rw[aG c4];exact h0
theorem dG.lm (b:nc k C):∀(n:Nat){s:cu},dG k C s->cZ k (fun _=>False) s->dG k C (k.lm n s)
 |0,s,h,_=>h
 |n+1,s,h,m=>by
  unfold b9.lm;by_cases c:0<s.td.length
  ·rw[aI c];exact dG.lm b n (h.l1 m b c) (m.l1 c).1
  ·rw[aG c];exact h
theorem dG.iA (d:nc k C):∀(l:List Int){t:List Int×cu},dG k C t.2->cZ k (fun _=>False) t.2->(∀a∈l,a∈k.T/\t.2.f a≠-1/\pk (k.ld a)=4)->dG k C (l.foldl k.cP t).2/\∀a∈(l.foldl k.cP t).1,a∈t.1\/a∈l
 |[],t,h,_,_=>⟨h,fun _ ha=>aK ha⟩
 |a::l,t,h,m,hl=>by
  rw[a8];obtain⟨a1,a2,j⟩:=hl a Z;by_cases c:k.cS t.2 (k.ld (a+1))=true
  ·have e:k.cP t a=(t.1++[a],t.2):=by unfold b9.cP;rw[aI c]
   rw[e];obtain⟨f,g⟩:=dG.iA d l (t:=(t.1++[a],t.2)) h m (fun b hb=>hl b (aO _ hb))
   refine⟨f,fun b hb=>?_⟩
   rcases g b hb with q|q
   ·rcases List.mem_append.1 q with q|q
    ·exact aK q
    ·exact aJ (by rw[List.mem_singleton.1 q];simp)
   ·exact aJ (aO _ q)
  ·have e:k.cP t a=(t.1,k.ma t.2 (k.ld (a+2))):=by unfold b9.cP;rw[aG c]
   rw[e];obtain⟨m1,i,_⟩:=m.ma _;obtain⟨f,g⟩:=dG.iA d l (t:=(t.1,k.ma t.2 _)) (h.ma _ (d.e a a1 (h.snd a a1 a2) j (h.cS (by simpa using c))) i) m1 (fun b hb=>by
    obtain⟨b1,b2,b3⟩:=hl b (aO _ hb)
    exact⟨b1,by rw[i.f b b2];exact b2,b3⟩)
   exact⟨f,fun b hb=>(g b hb).imp id (fun q=>aO _ q)⟩
theorem dG.kv (d:nc k C)(h:dG k C s)(m:cZ k (fun _=>False) s):dG k C (k.kv s).2:=by
 obtain⟨e,f⟩:=dG.iA d s.ep (t:=([],s)) h m h.ea;obtain⟨_,le,_⟩:=cZ.iA s.ep (t:=([],s)) m;refine⟨e.snd,fun b hb=>?_⟩
 have hb:=hb;rcases f b hb with q|q
 ·cases q
 ·obtain⟨q1,c,q3⟩:=h.ea b q;exact⟨q1,by show(s.ep.foldl k.cP ([],s)).2.f b≠-1;rw[le.f b c];exact c,q3⟩
theorem dG.km (q:List b7)(b:pz k C q):∀(l:List Nat)(t:(cu×List b7)×Bool),t.1.2=q->(∀i∈l,i<q.length)->dG k C t.1.1->cZ k (fun _=>False) t.1.1->dG k C (l.foldl (dB k.al k.mp) t).1.1
 |[],t,_,_,h,_=>h
 |i::l,t,e,hl,h,m=>by
  rw[a8];have hi:=hl i Z;by_cases c:(k.al t.1.1 (t.1.2.getD i (0,0)).2||!k.al t.1.1 (t.1.2.getD i (0,0)).1)=true
  ·have d:dB k.al k.mp t i=t:=by unfold dB;rw[aI c]
   rw[d];exact dG.km q b l t e (fun j f=>hl j (aO _ f)) h m
  ·have d:dB k.al k.mp t i=((k.ma t.1.1 (t.1.2.getD i (0,0)).2,t.1.2),true):=by exact yA
   rw[d];have hm:t.1.2.getD i (0,0)∈q:=by rw[e,aE,aL hi];exact a6 hi
   have hg:k.al t.1.1 (t.1.2.getD i (0,0)).1=true:=by
    cases hh:k.al t.1.1 _
    ·exact absurd (by rw[hh];simp) c
    ·rfl
   obtain⟨m1,g,_⟩:=m.ma _;exact dG.km q b l _ e (fun j f=>hl j (aO _ f)) (h.ma _ (b _ hm (h.al hg)) g) m1
theorem dG.cW (b:nc k C):∀(n:Nat)(t:cu×List b7),pz k C t.2->dG k C t.1->cZ k (fun _=>False) t.1->dG k C (k.cW n t).1
 |0,t,_,h,_=>h
 |n+1,t,c,h,m=>by
  obtain⟨l1,_⟩:=m.eJ;have d:=dG.kv b (dG.lm b _ h m) l1;obtain⟨v1,_⟩:=l1.kv;have e:dG k C (k.wa ((k.kv (k.eJ t.1)).2,t.2)).1.1:=dG.km t.2 c _ (((k.kv _).2,t.2),false) rfl (fun i hi=>by simpa using hi) d v1;obtain⟨w1,_,f,_⟩:=cZ.wa (t:=((k.kv _).2,t.2)) v1;unfold b9.cW;split
  ·exact dG.cW b n _ c d v1
  ·split
   ·exact dG.cW b n _ (by rw[f];exact c) e w1
   ·exact e
theorem dG.ke (b:nc k C){t:cu×List b7}(c:pz k C t.2)(h:dG k C t.1)(m:cZ k (fun _=>False) t.1)(x:Int)(d:k.jt x=true->C (cg x)):dG k C (k.ke t x).2.1:=by obtain⟨m1,e,_⟩:=m.ma x;exact dG.cW b _ (k.ma t.1 x,t.2) c (h.ma x d e) m1
end
section
variable {k:b9}
end
def kO (k:b9)(l:List b7):Prop:=∀e∈l,k.jt e.1=true/\k.jt e.2=true
section
variable {a:Wc}{S:cq}{Y G:List Int}
theorem zv (h:el a S.s Y G)(hb:cI a S.s)(j:S.fM a=false):(S.dy a).q=(((S.s.j0 a).eW (S.j2 a) S.r).2.filter (fun e=>(S.s.j0 a).al (S.cA a) e.1)).map (fun e=>((S.s.j0 a).nw (S.cE a) e.1,(S.s.j0 a).nw (S.cE a) e.2)):=by
 have i:=cV.start hb.n1 hb.o1 hb.y1 hb.g1;obtain⟨d1,o,p⟩:=oh (S:=S) i;obtain⟨_,l2,l3⟩:=kN h.inv.full hb;obtain⟨_,g,t⟩:=l_ h hb j;obtain⟨_,b,t3,_⟩:=pr (s:=S.cE a) (k:=S.s.j0 a) ⟨hb.l1,hb.y1,hb.g1⟩ hb.r1 i.nd (oq h.inv.full hb) (py h.inv.full hb)
 have b:(S.k5 a).Y=(S.s.j0 a).Y:=b;have t3:(S.k5 a).G=(S.s.j0 a).G:=t3;have zi:(S.k5 a).T=(S.s.j0 a).T:=by unfold b9.T;rw[b,t3]
 have l:∀x,(S.k5 a).al (S.cE a) x=(S.s.j0 a).al (S.cA a) x:=fun x=>by exact zf
 have q3:S.q3 a=((S.s.j0 a).eW (S.j2 a) S.r).2.filter (fun e=>(S.s.j0 a).al (S.cA a) e.1):=by show((((S.s.j0 a).eW (S.j2 a) S.r).2.filter (fun e=>(S.s.j0 a).al (S.cA a) e.1)).map fun e=>((S.s.j0 a).nw (S.cA a) e.1,(S.s.j0 a).nw (S.cA a) e.2))=_;exact zk
 have m:(S.k5 a).tS (S.cE a,S.q3 a) (S.r3 a)=(S.cE a,S.q3 a):=t_ (fun e he=>by rw[l];exact qS i e he)
 unfold cq.dy;rw[j,aG Z];show eP (dI cu) (fun s x=>(S.k5 a).al s.1 x) _ (fun s x=>(S.k5 a).nw s.1 x) (S.cE a,S.q3 a) (S.r3 a)=_;unfold eP;have e:ft (dI cu) (fun s x=>(S.k5 a).al s.1 x) (S.k5 a).ch (S.cE a,S.q3 a) (S.r3 a)=(S.cE a,S.q3 a):=m;rw[e];show((S.q3 a).filter (fun e=>(S.k5 a).al (S.cE a) e.1)).map (fun e=>((S.k5 a).nw (S.cE a) e.1,(S.k5 a).nw (S.cE a) e.2))=_;have n:(S.q3 a).filter (fun e=>(S.k5 a).al (S.cE a) e.1)=S.q3 a:=List.filter_eq_self.2 (fun e he=>by rw[l];rw[q3] at he;exact(List.mem_filter.1 he).2)
 rw[n,q3];refine List.map_congr_left (fun e _=>?_)
 rw[b9.kl _ _ b t3,b9.kl _ _ b t3]
end
theorem GD {k:b9}{j:cu}{x:Int}(b:k.jt x=true)(c:j.f (cg x)≠-1)(hb:0<=j.f (cg x)/\j.f (cg x)<1000000):k.nw j x=ew 3 (j.f (cg x))/\cY (k.nw j x)=true/\cg (k.nw j x)=j.f (cg x):=by
 have e:k.nw j x=ew 3 (j.f (cg x)):=by unfold b9.nw;rw[b,beq_false_of_ne c];rfl
 obtain⟨n,hn⟩:∃n:Nat,j.f (cg x)=n:=⟨(j.f (cg x)).toNat,V⟩
 obtain⟨w1,d⟩:=m5 n V;rw[e,hn];exact⟨rfl,w1,d⟩
section
variable {a:Wc}{S:cq}{Y G:List Int}
end
section
variable {a:Wc}{S:cq}{G:List Int}
end
def jz (a:Wc)(W:cq):Prop:=∀e,(e∈W.r\/e∈W.q)->tB a.N W.s.y W.s.g W.s.ws e.1=true/\tB a.N W.s.y W.s.g W.s.ws e.2=true
section
variable {a:Wc}{S:cq}{Y G:List Int}
theorem i6 {N O y g:Nat}{ws Y G:List Int}(h:d5 N y g ws Y G)(hN:N<=256)(hy:y<=N)(hO:O<=1024)(hg:g<=O){x:Int}:tB N y g ws x=true↔cY x=true/\(cg x∈Y\/cg x∈G):=by
 refine⟨yP h hN hy hO hg,fun⟨b,c⟩=>?_⟩
 obtain⟨d,e⟩:=h.lists hN hy hO hg;unfold tB;rw[b,d,e];rcases c with q|q
 ·rw[List.contains_iff_mem.2 q];rfl
 ·rw[List.contains_iff_mem.2 q,Bool.or_true];rfl
theorem qT (h:el a S.s Y G)(hb:cI a S.s){x:Int}:(S.s.j0 a).jt x=true↔tB a.N S.s.y S.s.g S.s.ws x=true:=by
 obtain⟨_,_,d⟩:=kN h.inv.full hb;rw[i6 h.inv.full hb.n1 hb.y1 hb.o1 hb.g1];unfold b9.jt;rw[d,a_];constructor
 ·rintro⟨b,c⟩
  exact⟨b,(List.mem_append.1 (List.contains_iff_mem.1 c)).symm⟩
 ·rintro⟨b,c⟩
  exact⟨b,List.contains_iff_mem.2 (List.mem_append.2 c.symm)⟩
theorem jz.ok (h:jz a S)(hk:el a S.s Y G)(hb:cI a S.s):kO (S.s.j0 a) S.r/\kO (S.s.j0 a) S.q:=
 ⟨fun e he=>⟨(qT hk hb).2 (h e (aK he)).1,(qT hk hb).2 (h e (aK he)).2⟩,fun e he=>⟨(qT hk hb).2 (h e (aJ he)).1,(qT hk hb).2 (h e (aJ he)).2⟩⟩
theorem GE (u:cV (S.s.j0 a) gL)(hr:kO (S.s.j0 a) S.r)(hq:kO (S.s.j0 a) S.q):∀e∈((S.s.j0 a).eW (S.j2 a) S.r).2,(S.s.j0 a).jt e.1=true/\(S.s.j0 a).jt e.2=true:=by
 obtain⟨v,_,_⟩:=(cZ.start u).cJ 12;obtain⟨w,_,i⟩:=cZ.sp (t:=((S.s.j0 a).cJ gL 12,S.q)) v;have i:(S.j2 a).2=S.q:=i;have key:∀(n:Nat)(t:cu×List b7)(f:List b7),fN (S.s.j0 a) t.1 t.2->kO (S.s.j0 a) t.2->kO (S.s.j0 a) f->kO (S.s.j0 a) (eB (S.s.j0 a).fF n t f).1.2:=fun n=>by
  have pl:∀(l:List b7)(d:List b7×List b7×(cu×List b7)),fN (S.s.j0 a) d.2.2.1 d.2.2.2->kO (S.s.j0 a) d.2.2.2->kO (S.s.j0 a) l->kO (S.s.j0 a) (l.foldl (eh (S.s.j0 a).fF) d).2.2.2:=fun l=>by
   induction l with
   |nil=>intro d _ g _;exact g
   |cons e l j=>
    intro d m g hl;have o:(eh (S.s.j0 a).fF d e).2.2=((S.s.j0 a).fF d.2.2 e).2:=by unfold eh;split<;>rfl
    refine j _ (by rw[o];exact(m.cm e).1) ?_ (fun b hb=>hl b (aO _ hb))
    rw[o];cases c:(S.s.j0 a).al d.2.2.1 e.1
    ·have k:(S.s.j0 a).fF d.2.2 e=(false,d.2.2):=mR c;rw[k];exact g
    ·obtain⟨_,_,x,_⟩:=m.jQ.ke e.2;have k:(S.s.j0 a).fF d.2.2 e=(true,(((S.s.j0 a).ke d.2.2 e.2).2.1,d.2.2.2++[e])):=by refine(mS (s:=d.2.2) c).trans ?_;show(true,(((S.s.j0 a).ke d.2.2 e.2).2.1,((S.s.j0 a).ke d.2.2 e.2).2.2++[(e.1,e.2)]))=_;rw[x]
     rw[k];intro b hb;rcases List.mem_append.1 hb with hb|hb
     ·exact g b hb
     ·rw[List.mem_singleton.1 hb];exact hl e Z
  induction n with
  |zero=>intro t f _ ht _;exact ht
  |succ n j=>
   intro t f p ht hd;have q:=pl f ([],[],t) p ht hd;by_cases c:(pts (S.s.j0 a).fF t f).1.length=0
   ·rw[lQ _ _ _ _ c];exact q
   ·rw[lR _ _ _ _ c];exact j _ _ (fN.pl f ([],[],t) p).1 q (fun e he=>hd e (sD _ t f e (aJ he)))
 exact key _ (S.j2 a) _ w (by rw[i];exact hq) (fun e he=>hr e (List.mem_filter.1 he).1)
theorem jz.dy (h:jz a S)(hk:el a S.s Y G)(hb:cI a S.s):jz a (S.dy a):=by
 cases hf:S.fM a
 ·have n:=cV.start hb.n1 hb.o1 hb.y1 hb.g1;obtain⟨hr,hq⟩:=h.ok hk hb;obtain⟨o,D,_⟩:=oh n;obtain⟨_,_,w⟩:=kN hk.inv.full hb;obtain⟨_,g,p⟩:=l_ hk hb hf;obtain⟨E,B1⟩:=g.gc.inv hk hb g.al;have hN:=hb.n1;have hO:=hb.o1;have K:=g.gc.g;have bnd:∀c∈G++Y,(S.cE a).f c≠-1->0<=(S.cE a).f c/\(S.cE a).f c<1000000:=fun c hc F=>by
   have q1:=g.gc.bd c hc F;have b:=dj (ld a.N S.s.y S.s.g S.s.ws c)
   omega
  have H:∀x,(S.s.j0 a).jt x=true->(S.s.j0 a).al (S.cA a) x=true->(S.cE a).f (cg x)≠-1:=fun x d ha q=>by
   have hm:=og d;rw[w] at hm;unfold b9.al at ha;have b:(S.s.j0 a).cS (S.cA a) x=false:=by simpa using ha
   exact(b9.pm d).1 b ((g.iff _ hm).1 q)
  have key:∀x,(S.s.j0 a).jt x=true->(S.s.j0 a).al (S.cA a) x=true->tB a.N (S.dy a).s.y (S.dy a).s.g (S.dy a).s.ws ((S.s.j0 a).nw (S.cE a) x)=true:=fun x d ha=>by
   have hm:=og d;rw[w] at hm;have s:=H x d ha;obtain⟨_,b,q3⟩:=GD d s (bnd _ hm s)
   refine(i6 E.inv.full B1.n1 B1.y1 B1.o1 B1.g1).2 ⟨b,aJ ?_⟩
   rw[q3];exact t9.2 ⟨_,hm,s,rfl⟩
  obtain⟨_,j,t3,_⟩:=pr ⟨hb.l1,hb.y1,hb.g1⟩ hb.r1 n.nd (oq hk.inv.full hb) (py hk.inv.full hb)
  have j:=j;have t3:=t3;intro e he;rcases he with he|he
  ·have t:(S.dy a).r=(S.k5 a).tR (S.cE a,S.q3 a) (S.r3 a):=by unfold cq.dy;rw[hf,aG Z]
   rw[t] at he;have he:e∈(((S.r3 a).filter (fun e=>(S.k5 a).al (S.cE a) e.2)).filter (fun e=>(S.k5 a).al ((S.k5 a).tS (S.cE a,S.q3 a) (S.r3 a)).1 e.1)).map fun e=>((S.k5 a).nw ((S.k5 a).tS (S.cE a,S.q3 a) (S.r3 a)).1 e.1,(S.k5 a).nw ((S.k5 a).tS (S.cE a,S.q3 a) (S.r3 a)).1 e.2):=he;have p:((S.k5 a).tS (S.cE a,S.q3 a) (S.r3 a)).1=S.cE a:=p;rw[p] at he;obtain⟨f,u,v⟩:=List.mem_map.1 he;have i:=(List.mem_filter.1 (List.mem_filter.1 u).1).1;have i:f∈((S.r.filter (fun e=>(S.s.j0 a).al (S.j2 a).1 e.2)).filter (fun e=>(S.s.j0 a).al (S.cA a) e.1)).map fun e=>((S.s.j0 a).nw (S.cA a) e.1,(S.s.j0 a).nw (S.cA a) e.2):=i;obtain⟨I,l,m⟩:=List.mem_map.1 i;obtain⟨J,A⟩:=List.mem_filter.1 l;obtain⟨B,C⟩:=List.mem_filter.1 J;rw[o.jQ.nw,o.jQ.nw] at m;have m:I=f:=m;rw[m] at A B C;obtain⟨q1,b⟩:=hr f B;rw[<-v,b9.kl (k:=S.k5 a) _ _ j t3,b9.kl (k:=S.k5 a) _ _ j t3];exact⟨key _ q1 A,key _ b (yK D C)⟩
  ·rw[zv hk hb hf] at he;obtain⟨f,u,v⟩:=List.mem_map.1 he;obtain⟨i,l⟩:=List.mem_filter.1 u;obtain⟨q1,b⟩:=GE n hr hq f i;rw[<-v];refine⟨key _ q1 l,key _ b ?_⟩
   rcases o.wq f i with q|q
   ·exact q
   ·rw[l] at q;cases q
 ·have t:S.dy a=S:=by unfold cq.dy;rw[aI hf]
  rw[t];exact h
theorem jz.more {W:cq}{b:d9}{d f:List Int}(h:jz a W)(hk:el a W.s Y G)(hb:cI a W.s)(g:d5 a.N b.y b.g b.ws d f)(hy:b.y<=a.N)(hg:b.g<=a.O)(hs:∀v,(v∈Y\/v∈G)->(v∈d\/v∈f)):jz a ⟨b,W.r,W.q⟩:=fun e he=>by
 have key:∀x,tB a.N W.s.y W.s.g W.s.ws x=true->tB a.N b.y b.g b.ws x=true:=fun x i=>by obtain⟨q1,c⟩:=(i6 hk.inv.full hb.n1 hb.y1 hb.o1 hb.g1).1 i;exact(i6 g hb.n1 hy hb.o1 hg).2 ⟨q1,hs _ c⟩
 obtain⟨q1,c⟩:=h e he;exact⟨key _ q1,key _ c⟩
end
end Go.Proofs.YtpkjkjhanlbcoaaGreat
