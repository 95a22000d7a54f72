import Derived.Test.YtjpjpjemibgjpaaGreatJ35
import Derived.Test.YtjpjpjemibgjpaaGreatJ24
import Derived.Test.YtjpjpjemibgjpaaGreatJ33
import Derived.Test.YtjpjpjemibgjpaaGreatJ00
import Derived.Test.YtjpjpjemibgjpaaGreatJ29
import Derived.Test.YtjpjpjemibgjpaaGreatJ02
import Derived.Test.YtjpjpjemibgjpaaGreatJ07
import Derived.Test.YtjpjpjemibgjpaaGreatJ19
import Derived.Test.YtjpjpjemibgjpaaGreatJ03
import Derived.Test.YtjpjpjemibgjpaaGreatJ05
namespace Go.Proofs.YtjpjpjemibgjpaaGreat
open Go.RowKit W Kp bY
section
variable {k:bP}{z:C0}{s:bU}{H D:List Int}
theorem LI.fy (h:LI k z s H D)
 (hz:∀v,(v∈k.T\/v∈z.G)->∀i,0<=i->i<pf (k.l0 z v)->cI (k.l0 z (v+1+i))=true->bQ (k.l0 z (v+1+i))∈k.T\/bQ (k.l0 z (v+1+i))∈z.G)
 {b:Int}(l:b∈z.G++H){i:Int}(f:0<=i)(d:i<pf (k.ld s b))(ha:cI (k.ld s (b+1+i))=true)(hy:k.cq (k.ld s (b+1+i))=false):bQ (k.ld s (b+1+i))∈z.G++H:=by
 obtain⟨a,o⟩:=h.mi.from l;have m:=h.mi.hd a b o;rw[m] at d;have hm:=h.mi.fd a b o i f d;have p:a∈k.T\/a∈z.G:=by
  rcases o with⟨e,c⟩|⟨c,_⟩
  ·exact an (by rw[e];exact c)
  ·exact ap c
 rcases hm with e|⟨g1,g2,g3⟩
 ·rw[e] at ha hy⊢;rcases hz a p i f d ha with c|c
  ·unfold bP.cq at hy;rw[ha] at hy;simp at hy;exact absurd c hy
  ·exact aL _ c
 ·have q:bQ (k.l0 z (a+1+i))∈k.T:=by unfold bP.cq at g1;rw[aQ] at g1;simpa using g1.2
  have g:=h.mi.fh _ q g2;have t:=h.mi.hu g;have hN:=h.mi.ci.hN';have hO:=h.mi.ci.hO;have hg:=h.mi.ci.hg;obtain⟨n,j⟩:∃n:Nat,s.f (bQ (k.l0 z (a+1+i)))=n:=⟨(s.f (bQ (k.l0 z (a+1+i)))).toNat,I⟩
  rw[g3,j,(kR n I).2,<-j];exact aS _ g
theorem di.mT (h:di k z s H){x:Int}(a:bQ x∈z.G++H):k.cq x=false:=by
 have b:=h.ci.t6 (h.bd a).1;unfold bP.cq;have e:k.T.contains (bQ x)=false:=by
  cases hc:k.T.contains (bQ x)
  ·rfl
  ·exact absurd (by simpa using hc) b
 rw[e,Bool.and_false]
theorem ut (k:bP):∀(n:Nat)(s:bU),(k.lb n s).rs=s.rs
 |0,s=>rfl
 |n+1,s=>by
  unfold bP.lb;split
  ·exact(ut k n _).trans (mP k s s.nx).2
  ·rfl
theorem uu (k:bP):∀(l:List Int)(t:List Int×bU),(l.foldl k.cr t).2.rs=t.2.rs
 |[],t=>rfl
 |a::l,t=>by
  rw[aI];refine(uu k l _).trans ?_;unfold bP.cr;split
  ·rfl
  ·exact(il ..).2.2.2.trans (il ..).2.2.2
theorem AR (k:bP)(s:bU):(k.kv s).2.rs=s.rs:=uu k s.ep ([],s)
theorem uv (k:bP):∀(l:List Nat)(t:(bU×List bN)×Bool),(l.foldl (dt k.al k.br) t).1.1.rs=t.1.1.rs
 |[],t=>rfl
 |a::l,t=>by
  rw[aI];refine(uv k l _).trans ?_;unfold dt;split
  ·rfl
  ·exact(kZ ..).1
theorem og (k:bP):∀(n:Nat)(t:bU×List bN),(k.cK n t).1.rs=t.1.rs
 |0,t=>rfl
 |n+1,t=>by
  have a:(k.kv (k.lb (k.O+1) t.1)).2.rs=t.1.rs:=(AR ..).trans (ut ..)
  have b:(k.wa ((k.kv (k.lb (k.O+1) t.1)).2,t.2)).1.1.rs=t.1.rs:=(uv k _ (((k.kv (k.lb (k.O+1) t.1)).2,t.2),false)).trans a;unfold bP.cK;split
  ·exact(og k n _).trans a
  ·split
   ·exact(og k n _).trans b
   ·exact b
theorem AS (k:bP)(t:bU×List bN)(x:Int):(k.ke t x).2.1.rs=t.1.rs:=(og ..).trans (kZ ..).1
theorem AT (k:bP)(t:bU×List bN)(e:bN):(cm (dE bU) (fun s x=>k.al s.1 x) k.ke t e).2.1.rs=t.1.rs:=by
 unfold cm;split
 ·exact AS k t e.2
 ·rfl
theorem uw (k:bP)(l:List bN)(t:bU×List bN):(pts (cm (dE bU) (fun s x=>k.al s.1 x) k.ke) t l).2.2.1.rs=t.1.rs:=by
 have key:∀(l:List bN)(p:List bN×List bN×(bU×List bN)),(l.foldl (ec (cm (dE bU) (fun s x=>k.al s.1 x) k.ke)) p).2.2.1.rs=p.2.2.1.rs:=by
  intro l
  induction l with
  |nil=>exact fun p=>rfl
  |cons e l b=>
   intro p;rw[aI];refine(b _).trans ?_;have a:=AT k p.2.2 e;unfold ec;split
   ·exact a
   ·exact a
 exact key l ([],[],t)
theorem ux (k:bP):∀(n:Nat)(t:bU×List bN)(a:List bN),(eu (cm (dE bU) (fun s x=>k.al s.1 x) k.ke) n t a).1.1.rs=t.1.rs
 |0,t,a=>rfl
 |n+1,t,a=>by
  unfold eu;split
  ·exact uw k a t
  ·exact(ux k n _ _).trans (uw k a t)
theorem AU (k:bP)(t:bU×List bN)(r:List bN):(k.d_ t r).1.rs=t.1.rs:=ux k _ _ _
theorem qc (k:bP)(e c:Int)(M:List Int):∀(l:List Int)(s:bU),(l.foldl (k.ff e c M) s).wk.length<=s.wk.length+l.length/\(l.foldl (k.ff e c M) s).ep.length<=s.ep.length+l.length/\(l.foldl (k.ff e c M) s).nx=s.nx/\(l.foldl (k.ff e c M) s).rs=s.rs
 |[],s=>⟨ak _,ak _,rfl,rfl⟩
 |b::l,s=>by
  rw[aI];obtain⟨n,o,d,f⟩:=qc k e c M l (k.ff e c M s b)
  have key:(k.ff e c M s b).wk.length<=s.wk.length+1/\(k.ff e c M s b).ep.length<=s.ep.length+1/\(k.ff e c M s b).nx=s.nx/\(k.ff e c M s b).rs=s.rs:=by
   unfold bP.ff;split
   ·split
    ·obtain⟨w1,g⟩:=um k s b;obtain⟨n1,i⟩:=mP k s b;refine⟨?_,?_,n1,i⟩
     ·rcases w1 with a|⟨_,a⟩
      ·rw[a];omega
      ·rw[a,aJ];simp
     ·rcases g with a|⟨_,a⟩
      ·rw[a];omega
      ·rw[a,aJ];simp
    ·exact⟨Nat.le_succ _,Nat.le_succ _,rfl,rfl⟩
   ·exact⟨Nat.le_succ _,Nat.le_succ _,rfl,rfl⟩
  obtain⟨k1,p,j,m⟩:=key;simp only [List.length_cons];exact⟨I,I,d.trans j,f.trans m⟩
end
theorem oh {N O y g:Nat}{ws Y G:List Int}(h:dS N y g ws Y G)(hN:N<=256)(hy:y<=N)(hO:O<=1024)(hg:g<=O):kN N y g ws=Y:=by unfold kN;rw[(h.lists hN hy hO hg).1];exact List.filter_eq_self.2 (fun x a=>a8 (by have:=(h.ty.mem x a).2.1;omega))
def dT.z0 (s:dT)(G:List Int):C0:=⟨s.g,s.ws,G⟩
theorem LI.start {a:Wc}{s:dT}{Y G:List Int}(h:dS a.N s.y s.g s.ws Y G)(hN:16<=a.N)(hN':a.N<=256)(hO:a.O<=1024)(hy:s.y<=a.N)(hg:s.g<=a.O)(hl:s.ws.length=a.N+a.O)(f:s.y<=a.O-s.g):LI (s.k0 a) (s.z0 G) (s.s0 a) [] []:=by
 have g:(s.k0 a).T=Y:=oh h hN' hy hO hg;refine⟨⟨CI.start hN hN' hO hy hg hl f,ak _,?_,fun b c=>(h.io b c).2,fun _ _ _=>rfl,fun a _ e=>absurd rfl e,fun a _ b _ e=>absurd rfl e,fun b c=>(by cases c),fun b c=>(by cases c),fun a b o=>?_,fun a b o i j k=>?_⟩,an rfl,fun b c=>(by cases c),fun b c=>(by cases c),fun b c=>(by cases c)⟩
 ·rw[g,List.append_nil];exact h
 ·rcases o with⟨e,_⟩|⟨_,e,d⟩
  ·rw[e];rfl
  ·exact absurd e.symm d
 ·rcases o with⟨e,_⟩|⟨_,e,d⟩
  ·rw[e];exact ap rfl
  ·exact absurd e.symm d
theorem dJ.start (a:Wc)(s:dT)(G:List Int):dJ (s.k0 a) (s.z0 G) (s.s0 a) []:=⟨fun b c=>(by cases c),fun b c=>(by cases c)⟩
structure mU (a:Wc)(S:bZ)(G K D:List Int):Prop where
 li:LI (S.s.k0 a) (S.s.z0 G) (S.s4 a) K D
 we:dJ (S.s.k0 a) (S.s.z0 G) (S.s4 a) K
 he:hB a.N (S.s4 a).g (S.s4 a).nx=false
 hz:∀v,(v∈(S.s.k0 a).T\/v∈G)->∀i,0<=i->i<pf ((S.s.k0 a).l0 (S.s.z0 G) v)->cI ((S.s.k0 a).l0 (S.s.z0 G) (v+1+i))=true->bQ ((S.s.k0 a).l0 (S.s.z0 G) (v+1+i))∈(S.s.k0 a).T\/bQ ((S.s.k0 a).l0 (S.s.z0 G) (v+1+i))∈G
 hc:∀v∈G,v∉D->∀i,0<=i->i<pf ((S.s.k0 a).l0 (S.s.z0 G) v)->(S.s.k0 a).cq ((S.s.k0 a).l0 (S.s.z0 G) (v+1+i))=false
 rl:(S.s4 a).rs.length=12
 uy:∀i,i<12->(S.s.k0 a).cq ((S.s4 a).rs.getD i 0)=false
 rm:∀i,i<12->(S.s.k0 a).ml (S.s4 a) (S.s.rs.getD i 0) ((S.s4 a).rs.getD i 0)
section
variable {a:Wc}{S:bZ}{Y G:List Int}
theorem AV (h:d3 a S.s Y G)(c:cG a S.s)(L:S.s.y<=a.O-S.s.g):∃K D,mU a S G K D:=by
 have E:(S.s.k0 a).T=Y:=oh h.inv.full c.n1 c.y1 c.o1 c.g1;have F:=LI.start h.inv.full c.n0 c.n1 c.o1 c.y1 c.g1 c.l1 L;have M:=dJ.start a S.s G;obtain⟨f,j,N,⟨aV,P⟩,l1,y1,_,m1⟩:=F.cg 12 (by show 12<=S.s.rs.length;rw[c.r1];exact ak _)
 have Q:=M.cg F.mi 12 j.mi N ⟨_,P⟩
 have H:c8 a.N S.s.y (S.s.s1 a).g (S.s.s1 a).ws=G++f:=(j.mi.full.lists (O:=a.O) c.n1 c.y1 c.o1 j.mi.ci.hg).2;have R:(S.s.s1 a).nx=((S.s.k0 a).N:Int)+(S.s.z0 G).g:=(k3 (S.s.k0 a) (S.s.s0 a) 12).2.2;have U:dK ((S.s.k0 a).l0 (S.s.z0 G)) (((S.s.k0 a).N:Int)+(S.s.z0 G).g) (S.s.k0 a).N (S.s.z0 G).G:=h.inv.full.dN;obtain⟨d,e,o,p,J,⟨a0,a1⟩,_,hD⟩:=LI.od (dx a.O) S.s.M U (G++f) j Q (fun x W=>(List.mem_append.1 W).imp id (fun X=>j.mi.hlo x X))
 have ad:(G++f).foldl ((S.s.k0 a).ff (((S.s.k0 a).N:Int)+(S.s.z0 G).g) (dx a.O) S.s.M) ((S.s.k0 a).cg (S.s.s0 a) 12)=S.s.s2 a:=by unfold dT.s2 bP.lm;rw[H,R];rfl
 have q:=qc (S.s.k0 a) (((S.s.k0 a).N:Int)+(S.s.z0 G).g) (dx a.O) S.s.M (G++f) ((S.s.k0 a).cg (S.s.s0 a) 12)
 rw[ad] at o p J q;have a2:(G++f).length<=2000:=by rw[<-H];exact gx _ _
 obtain⟨q1,ai,q3⟩:=k3 (S.s.k0 a) (S.s.s0 a) 12;have cb:d6 (S.s.k0 a) (S.s.s2 a):=by
  obtain⟨s,u,m,_⟩:=q;rw[q1] at s;rw[ai] at u;rw[q3] at m;have s:(S.s.s2 a).wk.length<=0+(G++f).length:=s;have u:(S.s.s2 a).ep.length<=0+(G++f).length:=u;have m:(S.s.s2 a).nx=(a.N:Int)+S.s.g:=m;have o1:=c.o1;refine⟨?_,?_⟩
  ·rw[m];show(S.s.s2 a).wk.length+((a.N:Int)+a.O+13-((a.N:Int)+S.s.g)).toNat<=4000;omega
  ·rw[m];show(S.s.s2 a).ep.length+((a.N:Int)+a.O+13-((a.N:Int)+S.s.g)).toNat<=4000;omega
 have al:Rest (S.s.k0 a) (S.s.z0 G) e d (S.t3 a).1:=by
  have key:∀s2:bU,LI (S.s.k0 a) (S.s.z0 G) s2 d e->dJ (S.s.k0 a) (S.s.z0 G) s2 d->d6 (S.s.k0 a) s2->Rest (S.s.k0 a) (S.s.z0 G) e d ((S.s.k0 a).sp (s2,S.q)).1:=fun s2 l w b=>Rest.sp (t:=(s2,S.q)) l w b ⟨[],(List.append_nil _).symm⟩
  unfold bZ.t3;exact key _ o p cb
 have ar:Rest (S.s.k0 a) (S.s.z0 G) e d (S.s4 a):=by unfold bZ.s4;exact al.d_ S.r
 obtain⟨K,L4,ax,_,he,⟨B,a3⟩⟩:=ar;have A:(S.s4 a).rs=(S.s.s1 a).rs:=by unfold bZ.s4;rw[AU];unfold bZ.t3 bP.sp;rw[og];exact q.2.2.2
 have i8:c5 (S.s.k0 a) (S.s.s1 a) (S.s4 a):=by
  have key:∀s2:bU,LI (S.s.k0 a) (S.s.z0 G) s2 d e->dJ (S.s.k0 a) (S.s.z0 G) s2 d->c5 (S.s.k0 a) s2 ((S.s.k0 a).d_ ((S.s.k0 a).sp (s2,S.q)) S.r).1:=fun s2 l w=>by obtain⟨aB,n,aF,aR,_⟩:=cP.sp (k:=S.s.k0 a) (z:=S.s.z0 G) (D:=e) (s2,S.q) d l w;obtain⟨bb,_,_,b7,_⟩:=cP.d_ (k:=S.s.k0 a) (z:=S.s.z0 G) (D:=e) ((S.s.k0 a).sp (s2,S.q)) S.r aB n aF;exact aR.trans b7
  unfold bZ.s4 bZ.t3;exact J.trans (key _ o p)
 refine⟨K,e,L4,ax,he,fun v g i C n ha=>?_,fun v g aT i C n=>?_,?_,fun i hi=>?_,fun i hi=>?_⟩
 ·rw[E] at g⊢;exact h.inv.fd v g i C n ha
 ·cases hc:(S.s.k0 a).cq ((S.s.k0 a).l0 (S.s.z0 G) (v+1+i))
  ·rfl
  ·exfalso;unfold bP.cq at hc;rw[aQ,E] at hc;have hm:=h.cd v g i C n hc.1 (List.contains_iff_mem.1 hc.2)
   exact aT (hD v (aL _ g) g hm)
 ·rw[A];exact l1.trans c.r1
 ·rw[A];exact y1 i hi
 ·rw[A];exact i8.ml (m1 i hi)
theorem mU.root {K D:List Int}(c:mU a S G K D)(h:d3 a S.s Y G)(b:cG a S.s):∀x∈(S.s4 a).rs,it (S.s.k0 a) (G++K) x:=fun x l ha=>by
 have m:(S.s.k0 a).T=Y:=oh h.inv.full b.n1 b.y1 b.o1 b.g1;obtain⟨i,hi,e⟩:=List.mem_iff_getElem.1 l;have d:i<12:=by rw[<-c.rl];exact hi
 have o:(S.s4 a).rs.getD i 0=x:=by rw[aj,am hi,e];rfl
 have hy:=c.uy i d;have hm:=c.rm i d;rw[o] at hy hm;refine⟨hy,?_⟩
 rcases hm with p|⟨g1,g2,g3⟩
 ·have f:S.s.rs.getD i 0∈S.s.rs:=by
   have hl:i<S.s.rs.length:=by rw[b.r1];exact d
   rw[aj,am hl];exact aK hl
  rw[<-p] at f;rcases h.inv.rt x f ha with g|g
  ·unfold bP.cq at hy;rw[ha,m] at hy;simp at hy;exact absurd g hy
  ·exact aL _ g
 ·have q:bQ (S.s.rs.getD i 0)∈(S.s.k0 a).T:=by unfold bP.cq at g1;rw[aQ] at g1;simpa using g1.2
  have j:=c.li.mi.fh _ q g2;have s:=c.li.mi.hu j;have hN:=b.n1;have hO:=b.o1;have hg:=c.li.mi.ci.hg;have t:(S.s.k0 a).N=a.N:=rfl;have u:(S.s.k0 a).O=a.O:=rfl;obtain⟨n,k⟩:∃n:Nat,(S.s4 a).f (bQ (S.s.rs.getD i 0))=n:=⟨((S.s4 a).f (bQ (S.s.rs.getD i 0))).toNat,I⟩
  rw[g3,k,(kR n I).2,<-k];exact aS _ j
theorem mU.done {K D:List Int}(c:mU a S G K D)(h:d3 a S.s Y G)(d:cG a S.s):gm a.N 0 (S.s6 a).g (S.s6 a).ws [] (G++K) (S.s6 a).rs:=by
 have ci:=c.li.mi.ci;have v:fN (S.s.k0 a) (G++K) (fun b i=>(i=0/\b∈(S.s4 a).wk)\/((i=0\/i=1)/\b∈(S.s4 a).ep)) (S.s4 a):=by
  refine⟨c.li.mi.full,ci.len,ci.hy,ci.hg,fun b d i l m=>?_,fun b d i l m hy ha=>⟨hy,c.li.fy c.hz d l m ha hy⟩⟩
  cases ha:cI ((S.s.k0 a).ld (S.s4 a) (b+1+i))
  ·exact ap (fun e=>by rw[ha] at e;cases e)
  ·rcases c.li.fields c.he c.hz c.hc d l m ha with t|⟨g,f,w⟩|⟨g,f⟩
   ·exact ap (fun _=>⟨c.li.mi.mT t,t⟩)
   ·exact an (ap ⟨f,w⟩)
   ·have F:=fV (c.li.mi.bd d).2.2 (an (an g))
    exact an (an ⟨I,f⟩)
 obtain⟨n,k5,H,o,k⟩:=fN.mw d.n1 d.o1 (S.s4 a).wk v (fun x j=>c.we.wk x j) (fun x j A=>aS _ (c.li.mi.fh x j A))
 have n:fN (S.s.k0 a) (G++K) _ (S.s5 a):=n;have k:(S.s5 a).ep=(S.s4 a).ep:=k;have o:(S.s5 a).rs=(S.s4 a).rs:=o;have k5:∀b∈G++K,(S.s.k0 a).ld (S.s5 a) b=(S.s.k0 a).ld (S.s4 a) b:=k5;obtain⟨q,k6,J,s⟩:=fN.be (S.s5 a).ep n (fun x j=>by rw[k] at j;obtain⟨q1,B⟩:=c.we.ep x j;exact⟨q1,by rw[k5 x q1];exact B⟩)
 have s:(S.s6 a).rs=(S.s5 a).rs:=s;have q:=q.imp (Q:=fun _ _=>False) (fun b i p=>by
  obtain⟨⟨C,E⟩,u⟩:=p;rw[k] at u;rcases C with⟨g,f⟩|⟨g,f⟩
  ·exact E ⟨f,g⟩
  ·exact u ⟨f,g⟩)
 exact q.done (rs:=(S.s6 a).rs) (by rw[s,o];exact c.root h d)
end
open W
def gT (a:Int->Int->Prop):List Int->List Int->Prop
 |[],[]=>True
 |x::l,b::c=>a x b/\gT a l c
 |_,_=>False
theorem gT.of {b:Int->Int->Prop}:∀{l a:List Int},l.length=a.length->(∀i,i<l.length->b (l.getD i 0) (a.getD i 0))->gT b l a
 |[],[],_,_=>trivial
 |[],c::a,h,_=>by simp at h
 |x::l,[],h,_=>by simp at h
 |x::l,c::a,h,hi=>⟨by simpa using hi 0 V,gT.of (by simpa using h) (fun i d=>by
  have:=hi (i+1) (by simpa using d)
  simpa using this)⟩
def iw (R:Int->Prop)(f:Int->Int)(x a:Int):Prop:=(dk x=3/\dk a=3/\R (cL x)/\cL a=f (cL x))\/(dk x≠3/\dk a=dk x/\cL a=cL x)
structure lT (R:Int->Prop)(f:Int->Int)(T:List Int)(kd:Int->Int)(sh:Int->List Int)(T':List Int)(kd':Int->Int)(sh':Int->List Int):Prop where
 oi:∀a,R a->a∈T
 oj:∀a,R a->f a∈T'
 inj:∀a b,R a->R b->f a=f b->a=b
 kd:∀a,R a->kd' (f a)=kd a
 sh:∀a,R a->gT (iw R f) (sh a) (sh' (f a))
structure Bs (R:Int->Prop)(f:Int->Int)(T T':List Int)(s s':ck):Prop where
 ok:eb T s
 ok':eb T' s'
 ms:s'.1=s.1.map f
 nd:s'.2=s.2
 rs:∀a∈s.1,R a
section
variable {R:Int->Prop}{f:Int->Int}{T T':List Int}{kd kd':Int->Int}{sh sh':Int->List Int}
theorem uz (inj:∀a b,R a->R b->f a=f b->a=b){d:Int}(hd:R d):∀l:List Int,(∀a∈l,R a)->(l.map f).idxOf (f d)=l.idxOf d
 |[],_=>rfl
 |x::l,h=>by
  rw[List.map_cons,List.idxOf_cons,List.idxOf_cons,uz inj hd l (fun a ha=>h a (ay _ ha))];by_cases e:x=d
  ·rw[e,beq_self_eq_true,beq_self_eq_true]
  ·have g:f x≠f d:=fun c=>e (inj x d (h x List.mem_cons_self) hd c)
   rw[a6 e,a6 g]
theorem qd (inj:∀a b,R a->R b->f a=f b->a=b){d:Int}(hd:R d){l:List Int}(h:∀a∈l,R a):f d∈l.map f↔d∈l:=by
 refine⟨fun c=>?_,fun c=>List.mem_map_of_mem c⟩
 obtain⟨x,e,g⟩:=List.mem_map.1 c;rw[<-inj x d (h x e) hd g];exact e
def qe (R:Int->Prop)(f:Int->Int)(T T':List Int)(n n':Nat)(M b:ck->Int->ck):Prop:=
 ∀s s' a,Bs R f T T' s s'->R a->a∉s.1->T.length<=s.1.length+n->T'.length<=s'.1.length+n'->Bs R f T T' (M s a) (b s' (f a))
theorem AW (B:lT R f T kd sh T' kd' sh'){n n':Nat}{M g:ck->Int->ck}(hM:qe R f T T' n n' M g){s s':ck}(h:Bs R f T T' s s')(j:T.length<=s.1.length+n)(k:T'.length<=s'.1.length+n'){x i:Int}(l:iw R f x i):
 (cX M T s x).1=(cX g T' s' i).1/\Bs R f T T' (cX M T s x).2 (cX g T' s' i).2:=by
 unfold cX;rcases l with⟨b,d,a,m⟩|⟨b,d,a⟩
 ·rw[aq b,aq d,aq (List.contains_iff_mem.2 (B.oi _ a)),m,aq (List.contains_iff_mem.2 (B.oj _ a))];have hm:=qd B.inj a h.rs;rw[<-h.ms] at hm;by_cases c:cL x∈s.1
  ·rw[aq (List.contains_iff_mem.2 c),aq (List.contains_iff_mem.2 (hm.2 c))];refine⟨?_,h⟩
   dsimp only;rw[h.ms,uz B.inj a s.1 h.rs]
  ·rw[ao (fun e=>c (List.contains_iff_mem.1 e)),ao (fun e=>c (hm.1 (List.contains_iff_mem.1 e)))];refine⟨?_,hM s s' (cL x) h a c j k⟩
   dsimp only;rw[h.ms,aE]
 ·rw[ao b,ao (by rw[d];exact b),d,a];exact⟨rfl,h⟩
theorem qf (B:lT R f T kd sh T' kd' sh'){n n':Nat}{M b:ck->Int->ck}(d:h6 T kd sh n M)(g:h6 T' kd' sh' n' b)(hM:qe R f T T' n n' M b):∀(l c:List Int)(r a:List (Int×Int)×ck),gT (iw R f) l c->r.1=a.1->Bs R f T T' r.2 a.2->T.length<=r.2.1.length+n->T'.length<=a.2.1.length+n'->
 (l.foldl (fun r x=>(r.1++[(cX M T r.2 x).1],(cX M T r.2 x).2)) r).1=(c.foldl (fun r x=>(r.1++[(cX b T' r.2 x).1],(cX b T' r.2 x).2)) a).1/\Bs R f T T' (l.foldl (fun r x=>(r.1++[(cX M T r.2 x).1],(cX M T r.2 x).2)) r).2 (c.foldl (fun r x=>(r.1++[(cX b T' r.2 x).1],(cX b T' r.2 x).2)) a).2
 |[],[],r,a,_,e,h,_,_=>⟨e,h⟩
 |[],i::c,r,a,hw,_,_,_,_=>absurd hw (by simp[gT])
 |x::l,[],r,a,hw,_,_,_,_=>absurd hw (by simp[gT])
 |x::l,i::c,r,a,hw,e,h,j,k=>by obtain⟨w1,m⟩:=hw;obtain⟨o,p⟩:=AW B hM h j k w1;have g1:=(m4 d h.ok j x).le;have g2:=(m4 g h.ok' k i).le;rw[aI,aI];exact qf B d g hM l c _ _ m (by dsimp only;rw[e,o]) p (by dsimp only;omega) (by dsimp only;omega)
theorem uA (B:lT R f T kd sh T' kd' sh'):∀n n':Nat,qe R f T T' n n' (met T kd sh n) (met T' kd' sh' n')
 |0,_=>fun s s' a h ha b j _=>by have:=h.ok.lt (B.oi a ha) b;omega
 |n+1,0=>fun s s' a h ha b _ k=>by
  have:=h.ok'.lt (B.oj a ha) (fun c=>b ((qd B.inj ha h.rs).1 (by rw[<-h.ms];exact c)))
  omega
 |n+1,n'+1=>fun s s' a h ha b j k=>by
  have l:f a∉s'.1:=fun c=>b ((qd B.inj ha h.rs).1 (by rw[<-h.ms];exact c))
  have o1:=(hE (kd:=kd) (sh:=sh) (n+1) s a h.ok (B.oi a ha) b j).ok;have m:=(hE (kd:=kd') (sh:=sh') (n'+1) s' (f a) h.ok' (B.oj a ha) l k).ok;have o:Bs R f T T' (s.1++[a],s.2++[(kd a,[])]) (s'.1++[f a],s'.2++[(kd' (f a),[])]):=⟨h.ok.more (B.oi a ha) b _,h.ok'.more (B.oj a ha) l _,by dsimp only;rw[h.ms];simp,by dsimp only;rw[h.nd,B.kd a ha],fun c hc=>by
   rcases List.mem_append.1 hc with d|d
   ·exact h.rs c d
   ·rw[a7] at d;rw[d];exact ha⟩
  obtain⟨e,g⟩:=qf B (hE n) (hE n') (uA B n n') (sh a) (sh' (f a)) ([],(s.1++[a],s.2++[(kd a,[])])) ([],(s'.1++[f a],s'.2++[(kd' (f a),[])])) (B.sh a ha) rfl o (by simp;omega) (by simp;omega)
  refine⟨o1,m,g.ms,?_,g.rs⟩
  have i:=g.nd;show(cD (met T' kd' sh' n') T' (s'.1++[f a],s'.2++[(kd' (f a),[])]) (sh' (f a))).2.2.set s'.1.length (kd' (f a),(cD (met T' kd' sh' n') T' (s'.1++[f a],s'.2++[(kd' (f a),[])]) (sh' (f a))).1)=(cD (met T kd sh n) T (s.1++[a],s.2++[(kd a,[])]) (sh a)).2.2.set s.1.length (kd a,(cD (met T kd sh n) T (s.1++[a],s.2++[(kd a,[])]) (sh a)).1)
  have e:(cD (met T kd sh n) T (s.1++[a],s.2++[(kd a,[])]) (sh a)).1=(cD (met T' kd' sh' n') T' (s'.1++[f a],s'.2++[(kd' (f a),[])]) (sh' (f a))).1:=e;have i:(cD (met T' kd' sh' n') T' (s'.1++[f a],s'.2++[(kd' (f a),[])]) (sh' (f a))).2.2=(cD (met T kd sh n) T (s.1++[a],s.2++[(kd a,[])]) (sh a)).2.2:=i;rw[i,<-e,B.kd a ha,h.ms,aE]
theorem uB (B:lT R f T kd sh T' kd' sh'){l b:List Int}(hl:gT (iw R f) l b){n n':Nat}(d:T.length<=n)(e:T'.length<=n'):(cD (met T kd sh n) T ([],[]) l).1=(cD (met T' kd' sh' n') T' ([],[]) b).1/\(cD (met T' kd' sh' n') T' ([],[]) b).2.2=(cD (met T kd sh n) T ([],[]) l).2.2/\(cD (met T' kd' sh' n') T' ([],[]) b).2.1=(cD (met T kd sh n) T ([],[]) l).2.1.map f:=by
 obtain⟨g,c⟩:=qf B (hE n) (hE n') (uA B n n') l b ([],([],[])) ([],([],[])) hl rfl ⟨eb.start T,eb.start T',rfl,rfl,fun a ha=>by cases ha⟩ (by simpa using d) (by simpa using e)
 exact⟨g,c.nd,c.ms⟩
end
theorem uC {x:Int}(h:dk x=3):cI x=true:=by
 unfold cI;have h0:dc x=0:=by
  unfold dk at h;split at h
  ·assumption
  ·omega
 rw[h,h0];rfl
theorem ol {x:Int}(h:cI x=true):dk x=3:=by unfold cI at h;rw[aQ] at h;simpa using h.2
def gH (a:Wc)(s:dT)(Y G:List Int):Prop:=∀v,(v∈Y\/v∈G)->pk (ld a.N s.y s.g s.ws v)=1\/pk (ld a.N s.y s.g s.ws v)=2
section
variable {a:Wc}{S:bZ}{Y G K D:List Int}
end
theorem Pos.same {z d:Int->Int}{al e:Int->Bool}{f g:Int->Int}:∀{l:List Int}{n m:Int},(∀a∈l,z a=d a/\al a=e a/\f a=g a)->Pos z al f n l m->Pos d e g n l m
 |[],n,m,_,h=>h
 |a::l,n,m,he,h=>by
  obtain⟨q,k,o⟩:=he a V;have p:∀{n m:Int},Pos z al f n l m->Pos d e g n l m:=fun h=>Pos.same (fun b s=>he b (ay _ s)) h;refine⟨fun c=>?_,fun c=>?_⟩
  ·obtain⟨i,j⟩:=h.1 (by rw[k];exact c)
   rw[<-o,<-q];exact⟨i,p j⟩
  ·obtain⟨i,j⟩:=h.2 (by rw[k];exact c)
   rw[<-o];exact⟨i,p j⟩
structure iW (a:Wc)(s:dT)(T:List Int)(j:bX)(s':dT):Prop where
 y:s'.y=0
 M:s'.M=[]
 rl:s'.rs.length=12
 g:s'.g<=a.O
 l:s'.ws.length=a.N+a.O
 pos:Pos (fun c=>pf (ld a.N s.y s.g s.ws c)) (fun c=>!(j.f c==-1)) j.f a.N T (a.N+s'.g)
 rs:∀i,i<12->s'.rs.getD i 0=(s.j0 a).nw j (s.rs.getD i 0)
 hd:∀c∈T,j.f c≠-1->ld a.N 0 s'.g s'.ws (j.f c)=ld a.N s.y s.g s.ws c
 fd:∀c∈T,j.f c≠-1->∀i,0<=i->i<pf (ld a.N s.y s.g s.ws c)->ld a.N 0 s'.g s'.ws (j.f c+1+i)=(s.j0 a).nw j ((s.j0 a).fO j c i)
section
variable {a:Wc}{s:dT}{Y G:List Int}
theorem h4 (h:dS a.N s.y s.g s.ws Y G)(b:cG a s):(s.j0 a).Y=Y/\(s.j0 a).G=G/\(s.j0 a).T=G++Y:=by
 have d:(s.j0 a).Y=Y:=by show dA _ (dv a.N s.y s.g s.ws)=Y;rw[(h.lists (O:=a.O) b.n1 b.y1 b.o1 b.g1).1];exact nU (fun x c=>aZ (by have:=(h.ty.mem x c).2.1;omega))
 have e:(s.j0 a).G=G:=by show dA _ (c8 a.N s.y s.g s.ws)=G;rw[(h.lists (O:=a.O) b.n1 b.y1 b.o1 b.g1).2];exact nU (fun x c=>aZ (by have:=(h.dN.mem x c).2.1;omega))
 exact⟨d,e,by unfold bL.T;rw[d,e]⟩
theorem mV (h:dS a.N s.y s.g s.ws Y G)(f:cG a s):∀c∈(s.j0 a).T,jc (s.j0 a) c:=fun c hc=>by
 obtain⟨m,n,g⟩:=h4 h f;rw[g] at hc;rcases List.mem_append.1 hc with d|d
 ·obtain⟨j,k,e⟩:=h.dN.mem c d;exact⟨e,fun i l b=>eK (by show(a.N:Int)<=_;omega) (by have b:i<=pf (ld a.N s.y s.g s.ws c):=b;show c+i<(a.N:Int)+s.g;omega)⟩
 ·obtain⟨j,k,e⟩:=h.ty.mem c d;exact⟨e,fun i l b=>gM I (by have b:i<=pf (ld a.N s.y s.g s.ws c):=b;show c+i<(s.y:Int);omega)⟩
theorem om (h:dS a.N s.y s.g s.ws Y G)(d:cG a s):∀c∈(s.j0 a).T,∀b∈(s.j0 a).T,c<b->c+(1+pf ((s.j0 a).ld c))<=b:=fun c hc b hd q=>by
 obtain⟨i,j,e⟩:=h4 h d;rw[e] at hc hd;show c+(1+pf (ld a.N s.y s.g s.ws c))<=b;have hy:=d.y1;rcases List.mem_append.1 hc with hc|hc<;>rcases List.mem_append.1 hd with hd|hd
 ·exact h.dN.apart c hc b hd q
 ·have f:=(h.dN.mem c hc).1;have g:=(h.ty.mem b hd).2.1;have:=cU (ld a.N s.y s.g s.ws b)
  omega
 ·have f:=(h.ty.mem c hc).2.1;have g:=(h.dN.mem b hd).1;omega
 ·exact h.ty.apart c hc b hd q
theorem uD (h:dS a.N s.y s.g s.ws Y G)(f:cG a s)(b7:bX)(hm:((s.j0 a).pl b7).2<=a.N+a.O):
 iW a s (G++Y) ((s.j0 a).pl b7).1 (((s.j0 a).es ((s.j0 a).pl b7).1).sl ((s.j0 a).pl b7).1).s/\((((s.j0 a).es ((s.j0 a).pl b7).1).sl ((s.j0 a).pl b7).1).s.g:Int)=((s.j0 a).pl b7).2-a.N/\
 (∀c∈G++Y,((s.j0 a).pl b7).1.f c=-1↔b7.f c=-1)/\(∃F,hK ((s.j0 a).es ((s.j0 a).pl b7).1) ((s.j0 a).pl b7).1 F/\F 0 ((s.j0 a).es ((s.j0 a).pl b7).1,0)):=by
 obtain⟨ai,al,o⟩:=h4 h f;have ew:=mV h f;have ar:=om h f;have M:(s.j0 a).T.Nodup:=(cu.start (s:=s) f.n1 f.o1 f.y1 f.g1).nd;have hz:∀c,0<=(fun c=>pf ((s.j0 a).ld c)) c:=fun c=>(cU _).1;obtain⟨k,hk⟩:∃k,s.j0 a=k:=⟨_,rfl⟩
 have K:k.a=a:=by rw[<-hk];rfl
 have p:k.s=s:=by rw[<-hk];rfl
 have w:∀x,k.ld x=ld a.N s.y s.g s.ws x:=fun x=>by rw[<-hk];rfl
 have bx:iu k:=⟨by rw[p,K];exact f.l1,by rw[p,K];exact f.y1,by rw[p,K];exact f.g1⟩
 obtain⟨t,_,_,_⟩:=lQ (s.j0 a) (fun c=>!(b7.f c==-1)) (s.j0 a).T (b7,a.N) M (fun c _=>rfl)
 have t:Pos (fun c=>pf ((s.j0 a).ld c)) (fun c=>!(b7.f c==-1)) ((s.j0 a).pl b7).1.f a.N (s.j0 a).T ((s.j0 a).pl b7).2:=t;rw[hk] at ai al o ew ar M hz t hm⊢;obtain⟨j,ax⟩:∃j,(k.pl b7).1=j:=⟨_,rfl⟩
 obtain⟨m,N⟩:∃m,(k.pl b7).2=m:=⟨_,rfl⟩
 rw[ax,N] at t;rw[N] at hm;rw[ax,N];have D:∀c∈k.T,(!(b7.f c==-1))=!(j.f c==-1):=fun c hc=>by
  cases q:(!(b7.f c==-1))
  ·rw[t.no c hc q];rfl
  ·have:=(t.bd hz c hc q).1;rw[a6 I];rfl
 have P:Pos (fun c=>pf (k.ld c)) (fun c=>!(j.f c==-1)) j.f a.N k.T m:=t.same (fun c hc=>⟨rfl,D c hc,rfl⟩)
 have bM:∀c∈k.T,j.f c=-1↔b7.f c=-1:=fun c hc=>by
  have:=D c hc;constructor
  ·intro q;rw[q] at this
   simpa using this
  ·intro q;rw[q] at this
   simpa using this.symm
 obtain⟨aB,aF,t3,aR,aT,g,aV,a0,E,a1⟩:=oc (s:=j) bx (by rw[p];exact f.r1) M ew ar;obtain⟨k5,bN⟩:∃k5,k.es j=k5:=⟨_,rfl⟩
 rw[bN] at aB aF t3 aR aT g aV a0 E a1⊢;have O:∀c∈k.T,pf (k5.ld c)=pf (k.ld c):=fun c hc=>by rw[E c hc]
 have e:k5.a=a:=aB.trans K;have Q:k5.G=G:=t3.trans al;have bO:k5.Y=Y:=aF.trans ai;have L:∀c,c∈G\/c∈Y->c∈k.T:=fun c hc=>by rw[o];exact List.mem_append.2 hc
 rw[o] at P;obtain⟨A,bP,bQ⟩:=P.app;have R:Pos (fun c=>pf (k5.ld c)) (fun c=>!(j.f c==-1)) j.f (k5.a.N+(0:Int)) G A:=by rw[e,Int.add_zero];exact bP.same (fun c hc=>⟨(O c (L c (ap hc))).symm,rfl,rfl⟩)
 have a2:Pos (fun c=>pf (k5.ld c)) (fun c=>!(j.f c==-1)) j.f A Y m:=bQ.same (fun c hc=>⟨(O c (L c (an hc))).symm,rfl,rfl⟩)
 have S:∀c,0<=(fun c=>pf (k5.ld c)) c:=fun c=>(cU _).1;have b5:=a2.le S;have b6:=R.le S;have a3:g6 k5 (fun c=>!(j.f c==-1)) j.f A [] G (k5,0):=by
  refine⟨iV.refl _,rfl,Int.le_refl _,R,⟨a.N,?_,by rw[e];dsimp only;omega,fun _ _ _=>rfl⟩,fun _ _ _=>rfl,fun c hc=>by cases hc⟩
  rw[e,aT,p];exact h.dN.heads (fun x bb=>by rw[E x (L x (ap bb)),w])
 have bd:∀c∈k5.G,(fun c=>!(j.f c==-1)) c=!(j.f c==-1):=fun _ _=>rfl;have bR:=g6.AO (k:=k5) (s:=j) (m:=A) g.l g.y g.g (by rw[e];exact f.n1) (by rw[e];exact f.o1) bd (by rw[e];omega)
 have l:=g6.all g.l g.y g.g bd G [] (k5,0) (fun c hc=>by rw[Q];exact hc) a3;rw[List.nil_append] at l;have U:k5.a.N+(fL (fun _ a=>j.f a) (bL.gR j) (k5,0) G).2=A:=l.pos;have be:k5.jz j k5.G=fL (fun _ a=>j.f a) (bL.gR j) (k5,0) G:=by unfold bL.jz;rw[Q]
 obtain⟨u,bS⟩:∃u,fL (fun _ a=>j.f a) (bL.gR j) (k5,0) G=u:=⟨_,rfl⟩
 rw[bS] at l U be;have u0:=l.u0;rw[e] at U;have bT:=g.g;have bg:=g.y;rw[e] at bT bg;obtain⟨k1,bi⟩:∃k1,k5.sl1 j=k1:=⟨_,rfl⟩
 have B:k1=u.1.ar u.1.s.y u.2.toNat u.1.s.ws:=by rw[<-bi];unfold bL.sl1;rw[be]
 have g1:(k1.s.g:Int)=u.2:=by rw[B];show(u.2.toNat:Int)=_;omega
 have W:=l.sm.a;have X:=l.sm.y;have bU:=l.g;have bl:∀x:Int,(0<=x/\x<k5.s.y)\/((a.N:Int)<=x/\x<a.N+u.2/\x<a.N+k5.s.g)->k1.ld x=u.1.ld x:=fun x bb=>by
  have v:cO u.1.a.N u.1.s.y u.1.s.g x=true:=by rw[W,X,bU,e];exact(ih _ _ _ _).2 I
  have bV:cO u.1.a.N u.1.s.y u.2.toNat x=true:=by rw[W,X,e];exact(ih _ _ _ _).2 I
  rw[B];show ld u.1.a.N u.1.s.y u.2.toNat u.1.s.ws x=ld u.1.a.N u.1.s.y u.1.s.g u.1.s.ws x;rw[dh v,dh bV]
 obtain⟨b,bW,bY,_⟩:=l.tl;have bZ:b=k5.a.N+k5.s.g:=bW;rw[e] at bY bZ;have C0:jG k5 (fun c=>!(j.f c==-1)) j.f m G Y k1:=by
  refine⟨⟨by rw[B];exact W,by rw[B];exact X,by rw[B];exact l.sm.rs,by rw[B];exact l.sm.len⟩,by rw[e];omega,?_,fun x bn bo=>?_,fun c hc D=>?_⟩
  ·rw[e,g1,U];exact a2
  ·rw[bl x (ap ⟨bn,bo⟩)];exact l.cq x bn bo
  ·obtain⟨r1,bp⟩:=l.rel c hc D;have r3:=(R.bd S c hc D).1;rw[e] at r1 r3⊢;refine⟨I,I,fun i H v=>?_⟩
   rw[bl _ (an ⟨I,I,I⟩)];exact bp i H v
 have n:=jG.all (s:=j) g.l g.y (by rw[e];exact hm) Y G k1 (fun c hc=>by
  have ad:=L c (an hc)
  obtain⟨q1,b0,q3⟩:=h.ty.mem c hc;rw[E c ad,w,aR,p];exact⟨rfl,q1,b0,q3⟩) C0
 obtain⟨d,br⟩:∃d,k1.mL j Y=d:=⟨_,rfl⟩
 rw[br] at n;have b1:k5.sl2 j=d:=by unfold bL.sl2;rw[bi,bO];exact br
 have bs:(k5.sl j).s=⟨0,d.s.g,d.s.ws,[],d.s.rs⟩:=by unfold bL.sl;rw[b1];rfl
 have b2:(a.N:Int)+d.s.g=m:=by
  have:=n.pos;rw[e] at this
  exact this
 have b3:d.a=a:=n.sm.a.trans e;have b4:d.s.y<=a.N:=by rw[n.sm.y];exact bg
 have rel:∀c∈G++Y,j.f c≠-1->(a.N:Int)<=j.f c/\∀i,0<=i->i<=pf (k.ld c)->ld a.N 0 d.s.g d.s.ws (j.f c+i)=k5.ld (c+i):=fun c hc C=>by
  have ad:c∈k.T:=by rw[o];exact hc
  obtain⟨r1,bp,r3⟩:=n.rel c hc (by rw[a6 C];rfl)
  rw[e] at r1;refine⟨r1,fun i H v=>?_⟩
  rw[qa (y:=d.s.y) I b4,<-r3 i H (by rw[O c ad];exact v)];show ld a.N d.s.y d.s.g d.s.ws (j.f c+i)=ld d.a.N d.s.y d.s.g d.s.ws (j.f c+i)
  rw[b3]
 refine⟨?_,?_,fun c hc=>bM c (by rw[o];exact hc),⟨_,bR,?_⟩⟩
 ·rw[bs];refine⟨rfl,rfl,?_,?_,?_,?_,fun i hi=>?_,fun c hc C=>?_,fun c hc C i H v=>?_⟩
  ·show d.s.rs.length=12;rw[n.sm.rs];exact aV
  ·show d.s.g<=a.O;omega
  ·show d.s.ws.length=a.N+a.O;rw[n.sm.len,g.l,e]
  ·show Pos _ _ _ _ _ ((a.N:Int)+d.s.g)
   rw[b2];exact P.same (fun c hc=>⟨by rw[w],rfl,rfl⟩)
  ·show d.s.rs.getD i 0=_;rw[n.sm.rs,a0 i hi,p,hk]
  ·have J:=(rel c hc C).2 0 I (cU _).1;rw[Int.add_zero,Int.add_zero,E c (by rw[o];exact hc),w] at J;exact J
  ·have J:=(rel c hc C).2 (1+i) I (by rw[w];omega)
   rw[<-Int.add_assoc,<-Int.add_assoc,a1 c (by rw[o];exact hc) C i H (by rw[w];exact v),<-hk] at J;exact J
 ·rw[bs];show(d.s.g:Int)=m-a.N;omega
 ·show g6 k5 _ j.f A (k5.G.take 0) (k5.G.drop 0) (k5,0)
  rw[List.take_zero,List.drop_zero,Q];exact a3
end
section
variable {T:List Int}{kd:Int->Int}{sh:Int->List Int}
def jH (T l:List Int)(x:Int):Prop:=dk x=3->cL x∈T->cL x∈l
theorem jH.mono {l b:List Int}{x:Int}(h:jH T l x)(hs:∀a∈l,a∈b):jH T b x:=fun c d=>hs _ (h c d)
structure hP (T:List Int)(sh:Int->List Int)(s s':ck):Prop where
 sub:∀a∈s.1,a∈s'.1
 new:∀a∈s'.1,a∉s.1->∀x∈sh a,jH T s'.1 x
theorem hP.refl (s:ck):hP T sh s s:=⟨fun _ h=>h,fun _ a b=>absurd a b⟩
theorem hP.trans {s s' b:ck}(h:hP T sh s s')(k:hP T sh s' b):hP T sh s b:=
 ⟨fun a ha=>k.sub a (h.sub a ha),fun a e f x d=>by
  by_cases c:a∈s'.1
  ·exact(h.new a c f x d).mono k.sub
  ·exact k.new a e c x d⟩
def qg (T:List Int)(sh:Int->List Int)(n:Nat)(M:ck->Int->ck):Prop:=
 ∀s a,eb T s->a∈T->a∉s.1->T.length<=s.1.length+n->hP T sh s (M s a)/\a∈(M s a).1
theorem AX {n:Nat}{M:ck->Int->ck}(hM:qg T sh n M){s:ck}(h:eb T s)(e:T.length<=s.1.length+n)(x:Int):hP T sh s (cX M T s x).2/\jH T (cX M T s x).2.1 x:=by
 unfold cX;by_cases b:dk x=3
 ·rw[aq b];by_cases a:T.contains (cL x)=true
  ·rw[aq a];by_cases hs:s.1.contains (cL x)=true
   ·rw[aq hs];exact⟨hP.refl _,fun _ _=>List.contains_iff_mem.1 hs⟩
   ·rw[ao hs];obtain⟨f,g⟩:=hM s (cL x) h (List.contains_iff_mem.1 a) (fun c=>hs (List.contains_iff_mem.2 c)) e;exact⟨f,fun _ _=>g⟩
  ·rw[ao a];exact⟨hP.refl _,fun _ d=>absurd (List.contains_iff_mem.2 d) a⟩
 ·rw[ao b];exact⟨hP.refl _,fun d=>absurd d b⟩
theorem uE {n:Nat}{M:ck->Int->ck}(c:h6 T kd sh n M)(hM:qg T sh n M){s:ck}(h:eb T s)(d:T.length<=s.1.length+n)(l:List Int):hP T sh s (cD M T s l).2/\∀x∈l,jH T (cD M T s l).2.1 x:=by
 have key:∀k,k<=l.length->hP T sh s (cD M T s (l.take k)).2/\∀x∈l.take k,jH T (cD M T s (l.take k)).2.1 x:=by
  intro k
  induction k with
  |zero=>intro _;exact⟨hP.refl _,fun x a=>by simp at a⟩
  |succ k e=>
   intro hk;obtain⟨f,i⟩:=e I;have g:=km c h d (l.take k)
   have hl:=g.le;obtain⟨b,j2⟩:=AX hM g.ok I l[k];rw[List.take_succ_eq_append_getElem I,kl];refine⟨f.trans b,fun x a=>?_⟩
   rcases List.mem_append.1 a with a|a
   ·exact(i x a).mono b.sub
   ·rw[a7] at a;rw[a];exact j2
 have:=key l.length bJ
 rwa [aP] at this
theorem uF:∀n,qg T sh n (met T kd sh n)
 |0=>fun s a h ha g hl=>by have:=h.lt ha g;omega
 |n+1=>fun s a h ha i g=>by
  have j:=h.more ha i (kd a,[])
  obtain⟨d,j2⟩:=uE (hE n) (uF n) j (by simp;omega) (sh a)
  have hm:a∈(cD (met T kd sh n) T (s.1++[a],s.2++[(kd a,[])]) (sh a)).2.1:=d.sub a V;refine⟨⟨fun b k=>d.sub b (by simp[k]),fun b l m x f=>?_⟩,hm⟩
  by_cases e:b=a
  ·rw[e] at f;exact j2 x f
  ·exact d.new b l (fun c=>by
    rcases List.mem_append.1 c with c|c
    ·exact m c
    ·exact e (List.mem_singleton.1 c)) x f
theorem AY {n:Nat}(b:T.length<=n)(l:List Int):(∀x∈l,jH T (cD (met T kd sh n) T ([],[]) l).2.1 x)/\∀a∈(cD (met T kd sh n) T ([],[]) l).2.1,∀x∈sh a,jH T (cD (met T kd sh n) T ([],[]) l).2.1 x:=by obtain⟨c,d⟩:=uE (kd:=kd) (hE n) (uF n) (eb.start T) (by simpa using b) l;exact⟨d,fun a ha x e=>c.new a ha V x e⟩
def qh (C:Int->Prop)(M:ck->Int->ck):Prop:=∀s a,(∀b∈s.1,C b)->C a->∀b∈(M s a).1,C b
theorem AZ {C:Int->Prop}{M:ck->Int->ck}(hM:qh C M){s:ck}(h:∀b∈s.1,C b){x:Int}(d:dk x=3->cL x∈T->C (cL x)):∀b∈(cX M T s x).2.1,C b:=by
 unfold cX;by_cases a:dk x=3
 ·rw[aq a];by_cases c:T.contains (cL x)=true
  ·rw[aq c];by_cases hs:s.1.contains (cL x)=true
   ·rw[aq hs];exact h
   ·rw[ao hs];exact hM s (cL x) h (d a (List.contains_iff_mem.1 c))
  ·rw[ao c];exact h
 ·rw[ao a];exact h
theorem uG {C:Int->Prop}{M:ck->Int->ck}(hM:qh C M){s:ck}(h:∀b∈s.1,C b){l:List Int}(hl:∀x∈l,dk x=3->cL x∈T->C (cL x)):∀b∈(cD M T s l).2.1,C b:=by
 have key:∀k,k<=l.length->∀b∈(cD M T s (l.take k)).2.1,C b:=by
  intro k
  induction k with
  |zero=>intro _;exact h
  |succ k a=>
   intro hk;rw[List.take_succ_eq_append_getElem I,kl];exact AZ hM (a I) (hl _ (aK _))
 have:=key l.length bJ
 rwa [aP] at this
theorem uH {C:Int->Prop}(e:∀a,C a->∀x∈sh a,dk x=3->cL x∈T->C (cL x)):∀n,qh C (met T kd sh n)
 |0=>fun s a h _ b d=>h b d
 |n+1=>fun s a h ha b d=>by
  refine uG (uH e n) (s:=(s.1++[a],s.2++[(kd a,[])])) (fun c hc=>?_) (l:=sh a) (fun x f=>e a ha x f) b d;rcases List.mem_append.1 hc with hc|hc
  ·exact h c hc
  ·rw[List.mem_singleton.1 hc];exact ha
theorem A0 {C:Int->Prop}(c:∀a,C a->∀x∈sh a,dk x=3->cL x∈T->C (cL x)){n:Nat}{l:List Int}(hl:∀x∈l,dk x=3->cL x∈T->C (cL x)):∀b∈(cD (met T kd sh n) T ([],[]) l).2.1,C b:=
 uG (uH c n) (fun b d=>by cases d) hl
end
end Go.Proofs.YtjpjpjemibgjpaaGreat
