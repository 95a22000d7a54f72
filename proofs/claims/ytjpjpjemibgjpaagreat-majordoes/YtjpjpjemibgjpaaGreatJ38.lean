import Derived.Test.YtjpjpjemibgjpaaGreatJ26
import Derived.Test.YtjpjpjemibgjpaaGreatJ37
import Derived.Test.YtjpjpjemibgjpaaGreatJ11
import Derived.Test.YtjpjpjemibgjpaaGreatJ36
import Derived.Test.YtjpjpjemibgjpaaGreatJ29
import Derived.Test.YtjpjpjemibgjpaaGreatJ02
import Derived.Test.YtjpjpjemibgjpaaGreatJ00
import Derived.Test.YtjpjpjemibgjpaaGreatJ07
import Derived.Test.YtjpjpjemibgjpaaGreatJ19
import Derived.Test.YtjpjpjemibgjpaaGreatJ01
import Derived.Test.YtjpjpjemibgjpaaGreatJ03
namespace Go.Proofs.YtjpjpjemibgjpaaGreat
open Go.RowKit W Kp bY
structure k8 (k:bL)(C:Int->Prop):Prop where
 rt:∀i,i<12->k.jt (k.s.rs.getD i 0)=true->C (bQ (k.s.rs.getD i 0))
 p:∀a∈k.T,C a->pk (k.ld a)=1\/pk (k.ld a)=2->∀i:Nat,(i:Int)<pf (k.ld a)->k.jt (k.ld (a+1+i))=true->C (bQ (k.ld (a+1+i)))
 w:∀a∈k.T,C a->pk (k.ld a)=3->k.jt (k.ld (a+2))=true->C (bQ (k.ld (a+2)))
 e:∀a∈k.T,C a->pk (k.ld a)=4->(k.jt (k.ld (a+1))=true->C (bQ (k.ld (a+1))))->k.jt (k.ld (a+2))=true->C (bQ (k.ld (a+2)))
def mY (k:bL)(C:Int->Prop)(q:List bN):Prop:=∀e∈q,(k.jt e.1=true->C (bQ e.1))->k.jt e.2=true->C (bQ e.2)
structure dm (k:bL)(C:Int->Prop)(s:bX):Prop where
 snd:∀a∈k.T,s.f a≠-1->C a
 ea:∀a∈s.ep,a∈k.T/\s.f a≠-1/\pk (k.ld a)=4
section
variable {k:bL}{C:Int->Prop}{s:bX}
theorem dm.co (h:dm k C s){x:Int}(a:k.co s x=false):k.jt x=true->C (bQ x):=fun ht=>h.snd _ (mN ht) ((bL.jA ht).1 a)
theorem dm.al (h:dm k C s){x:Int}(a:k.al s x=true):k.jt x=true->C (bQ x):=h.co (by unfold bL.al at a;simpa using a)
theorem dm.ma (h:dm k C s)(x:Int)(i:k.jt x=true->C (bQ x))(le:c7 k s (k.ma s x)):dm k C (k.ma s x):=by
 refine⟨fun b a d=>?_,fun b a=>?_⟩
 ·by_cases c:k.co s x=true
  ·have e:(k.ma s x).f b=if b=bQ x then bQ x else s.f b:=by unfold bL.ma;rw[aq c];rfl
   rw[e] at d;by_cases f:b=bQ x
   ·rw[f];refine i ?_;unfold bL.co at c;rw[aQ] at c;exact c.1
   ·rw[ao f] at d;exact h.snd b a d
  ·have e:k.ma s x=s:=by unfold bL.ma;rw[ao c]
   rw[e] at d;exact h.snd b a d
 ·rw[nV] at a;obtain⟨q1,g,q3⟩:=h.ea b a;exact⟨q1,by rw[le.f b g];exact g,q3⟩
theorem dm.d7 {X:Int->Prop}(h:dm k C s)(m:cM k X s)(a:Int):∀n:Nat,(∀i:Nat,i<n->k.jt (k.ld (a+1+i))=true->C (bQ (k.ld (a+1+i))))->dm k C (k.d7 s a n)
 |0,_=>h
 |n+1,b=>by
  have c:=dm.d7 h m a n (fun i hi=>b i I)
  obtain⟨m1,_⟩:=m.d7 a n;exact c.ma _ (b n I) (m1.ma _).2.1
theorem dm.l1 (h:dm k C s)(m:cM k (fun _=>False) s)(g:k8 k C)(hl:0<s.td.length):dm k C (k.l1 s):=by
 obtain⟨x,j⟩:∃x,s.td.getD (s.td.length-1) 0=x:=⟨_,rfl⟩
 have hm:x∈s.td:=by rw[<-j,aj,am I];exact aK _
 have d:=m.dy.td x hm;have l:=m.td x hm;have hc:=h.snd x d l;have o:k.l1 s=k.lk {s with td:=s.td.take (s.td.length-1)} x:=by unfold bL.l1;rw[j]
 have hs:=m.dy.sum;have t:(s.td.take (s.td.length-1)).length=s.td.length-1:=by rw[a5];omega
 have n:cM k (fun b=>b∈s.td) {s with td:=s.td.take (s.td.length-1)}:=⟨⟨m.dy.nd,m.dy.ps,fun a ha=>m.dy.td a (List.mem_of_mem_take ha),m.dy.ep,m.dy.tl,by
  show k.lost s+(s.td.take (s.td.length-1)).length+s.ep.length<=_;omega⟩,m.self,fun a ha=>m.td a (List.mem_of_mem_take ha),fun a ha p=>by
  rcases m.cmp a ha p with q|q|q
  ·exact an (ap q)
  ·exact absurd q id
  ·exact an (an ⟨q.p,q.w,q.e⟩)⟩
 have h0:dm k C {s with td:=s.td.take (s.td.length-1)}:=⟨h.snd,h.ea⟩
 rw[o];unfold bL.lk;by_cases c1:pk (k.ld x)=1\/pk (k.ld x)=2
 ·rw[aq c1];exact h0.d7 n x _ (fun i hi=>g.p x d hc c1 i I)
 ·rw[ao c1];by_cases e:pk (k.ld x)=3
  ·rw[aq e];exact h0.ma _ (g.w x d hc e) (n.ma _).2.1
  ·rw[ao e];by_cases f:pk (k.ld x)=4
   ·rw[aq f];refine⟨h.snd,fun b c=>?_⟩
    rcases List.mem_append.1 c with c|c
    ·exact h.ea b c
    ·rw[List.mem_singleton.1 c];exact⟨d,l,f⟩
   ·rw[ao f];exact h0
theorem dm.lm (a:k8 k C):∀(n:Nat){s:bX},dm k C s->cM k (fun _=>False) s->dm k C (k.lm n s)
 |0,s,h,_=>h
 |n+1,s,h,m=>by
  unfold bL.lm;by_cases c:0<s.td.length
  ·rw[aq c];exact dm.lm a n (h.l1 m a c) (m.l1 c).1
  ·rw[ao c];exact h
theorem dm.gE (f:k8 k C):∀(l:List Int){t:List Int×bX},dm k C t.2->cM k (fun _=>False) t.2->(∀a∈l,a∈k.T/\t.2.f a≠-1/\pk (k.ld a)=4)->dm k C (l.foldl k.cr t).2/\∀a∈(l.foldl k.cr t).1,a∈t.1\/a∈l
 |[],t,h,_,_=>⟨h,fun _ ha=>ap ha⟩
 |a::l,t,h,m,hl=>by
  rw[aI];obtain⟨a1,a2,n⟩:=hl a V;by_cases c:k.co t.2 (k.ld (a+1))=true
  ·have e:k.cr t a=(t.1++[a],t.2):=by unfold bL.cr;rw[aq c]
   rw[e];obtain⟨g,i⟩:=dm.gE f l (t:=(t.1++[a],t.2)) h m (fun b d=>hl b (ay _ d))
   refine⟨g,fun b d=>?_⟩
   rcases i b d with q|q
   ·rcases List.mem_append.1 q with q|q
    ·exact ap q
    ·exact an (by rw[List.mem_singleton.1 q];simp)
   ·exact an (ay _ q)
  ·have e:k.cr t a=(t.1,k.ma t.2 (k.ld (a+2))):=by unfold bL.cr;rw[ao c]
   rw[e];obtain⟨m1,j,_⟩:=m.ma (k.ld (a+2))
   have o:=h.ma (k.ld (a+2)) (f.e a a1 (h.snd a a1 a2) n (h.co (by simpa using c))) j;obtain⟨g,i⟩:=dm.gE f l (t:=(t.1,k.ma t.2 (k.ld (a+2)))) o m1 (fun b d=>by
    obtain⟨b1,b2,b3⟩:=hl b (ay _ d)
    exact⟨b1,by rw[j.f b b2];exact b2,b3⟩)
   exact⟨g,fun b d=>(i b d).imp id (fun q=>ay _ q)⟩
theorem dm.kv (d:k8 k C)(h:dm k C s)(m:cM k (fun _=>False) s):dm k C (k.kv s).2:=by
 obtain⟨e,f⟩:=dm.gE d s.ep (t:=([],s)) h m h.ea;obtain⟨_,le,_⟩:=cM.gE s.ep (t:=([],s)) m;refine⟨e.snd,fun b a=>?_⟩
 have a:b∈(s.ep.foldl k.cr ([],s)).1:=a;rcases f b a with q|q
 ·cases q
 ·obtain⟨q1,c,q3⟩:=h.ea b q;exact⟨q1,by show(s.ep.foldl k.cr ([],s)).2.f b≠-1;rw[le.f b c];exact c,q3⟩
theorem dm.iR (q:List bN)(a:mY k C q):∀(l:List Nat)(t:(bX×List bN)×Bool),t.1.2=q->(∀i∈l,i<q.length)->dm k C t.1.1->cM k (fun _=>False) t.1.1->dm k C (l.foldl (dt k.al k.mp) t).1.1
 |[],t,_,_,h,_=>h
 |i::l,t,e,hl,h,m=>by
  rw[aI];have hi:=hl i V;by_cases c:(k.al t.1.1 (t.1.2.getD i (0,0)).2||!k.al t.1.1 (t.1.2.getD i (0,0)).1)=true
  ·have b:dt k.al k.mp t i=t:=by unfold dt;rw[aq c]
   rw[b];exact dm.iR q a l t e (fun j d=>hl j (ay _ d)) h m
  ·have b:dt k.al k.mp t i=((k.ma t.1.1 (t.1.2.getD i (0,0)).2,t.1.2),true):=by unfold dt;rw[ao c];show((k.ma t.1.1 (t.1.2.getD i (0,0)).2,t.1.2.set i ((t.1.2.getD i (0,0)).1,(t.1.2.getD i (0,0)).2)),true)=_;have f:t.1.2.set i ((t.1.2.getD i (0,0)).1,(t.1.2.getD i (0,0)).2)=t.1.2:=tX _ _ _;rw[f]
   rw[b];have hm:t.1.2.getD i (0,0)∈q:=by rw[e,aj,am hi];exact aK hi
   have hg:k.al t.1.1 (t.1.2.getD i (0,0)).1=true:=by
    cases hh:k.al t.1.1 (t.1.2.getD i (0,0)).1
    ·exact absurd (by rw[hh];simp) c
    ·rfl
   obtain⟨m1,g,_⟩:=m.ma (t.1.2.getD i (0,0)).2;exact dm.iR q a l _ e (fun j d=>hl j (ay _ d)) (h.ma _ (a _ hm (h.al hg)) g) m1
theorem dm.cK (a:k8 k C):∀(n:Nat)(t:bX×List bN),mY k C t.2->dm k C t.1->cM k (fun _=>False) t.1->dm k C (k.cK n t).1
 |0,t,_,h,_=>h
 |n+1,t,b,h,m=>by
  obtain⟨l1,_⟩:=m.c6;have e:dm k C (k.c6 t.1):=dm.lm a _ h m;have c:=dm.kv a e l1;obtain⟨v1,_⟩:=l1.kv;have d:dm k C (k.wa ((k.kv (k.c6 t.1)).2,t.2)).1.1:=dm.iR t.2 b _ (((k.kv (k.c6 t.1)).2,t.2),false) rfl (fun i hi=>by simpa using hi) c v1;obtain⟨w1,_,w3,_⟩:=cM.wa (t:=((k.kv (k.c6 t.1)).2,t.2)) v1;unfold bL.cK;split
  ·exact dm.cK a n _ b c v1
  ·split
   ·exact dm.cK a n _ (by rw[w3];exact b) d w1
   ·exact d
theorem dm.ke (a:k8 k C){t:bX×List bN}(b:mY k C t.2)(h:dm k C t.1)(m:cM k (fun _=>False) t.1)(x:Int)(c:k.jt x=true->C (bQ x)):dm k C (k.ke t x).2.1:=by obtain⟨m1,d,_⟩:=m.ma x;exact dm.cK a _ (k.ma t.1 x,t.2) b (h.ma x c d) m1
end
section
variable {k:bL}
end
section
variable {a:Wc}{S:bZ}{Y G:List Int}
theorem Bg (h:d3 a S.s Y G)(b:cG a S.s)(i:S.e5 a=false):(S.cW a).q=(((S.s.j0 a).d_ (S.j2 a) S.r).2.filter (fun e=>(S.s.j0 a).al (S.b7 a) e.1)).map (fun e=>((S.s.j0 a).nw (S.b9 a) e.1,(S.s.j0 a).nw (S.b9 a) e.2)):=by
 have f:cu (S.s.j0 a) dw:=cu.start b.n1 b.o1 b.y1 b.g1;obtain⟨j,v,w⟩:=mO (S:=S) f;obtain⟨_,l2,n⟩:=h4 h.inv.full b;obtain⟨_,g,A⟩:=mX h b i;obtain⟨_,d,t3,_⟩:=oc (s:=S.b9 a) (k:=S.s.j0 a) ⟨b.l1,b.y1,b.g1⟩ b.r1 f.nd (mV h.inv.full b) (om h.inv.full b)
 have d:(S.k5 a).Y=(S.s.j0 a).Y:=d;have t3:(S.k5 a).G=(S.s.j0 a).G:=t3;have o:(S.k5 a).T=(S.s.j0 a).T:=by unfold bL.T;rw[d,t3]
 have l:∀x,(S.k5 a).al (S.b9 a) x=(S.s.j0 a).al (S.b7 a) x:=fun x=>by
  have q0:(S.k5 a).co (S.b9 a) x=(S.s.j0 a).co (S.b9 a) x:=by unfold bL.co bL.jt;rw[o]
  unfold bL.al;rw[q0];cases hj:(S.s.j0 a).jt x
  ·unfold bL.co;rw[hj];rfl
  ·have m:=mN hj;rw[n] at m;have q:=g.iff _ m;unfold bL.co;rw[hj,Bool.true_and,Bool.true_and];by_cases c:(S.b7 a).f (bQ x)=-1
   ·rw[c,q.2 c]
   ·rw[a6 c,a6 (fun p=>c (q.1 p))]
 have q3:S.q3 a=((S.s.j0 a).d_ (S.j2 a) S.r).2.filter (fun e=>(S.s.j0 a).al (S.b7 a) e.1):=by
  show((((S.s.j0 a).d_ (S.j2 a) S.r).2.filter (fun e=>(S.s.j0 a).al (S.b7 a) e.1)).map fun e=>((S.s.j0 a).nw (S.b7 a) e.1,(S.s.j0 a).nw (S.b7 a) e.2))=_;have:(fun e:bN=>((S.s.j0 a).nw (S.b7 a) e.1,(S.s.j0 a).nw (S.b7 a) e.2))=id:=by
   funext e
   rw[j.iQ.nw,j.iQ.nw];rfl
  rw[this,List.map_id]
 have t:(S.k5 a).tS (S.b9 a,S.q3 a) (S.r3 a)=(S.b9 a,S.q3 a):=qk (fun e he=>by show(S.k5 a).al (S.b9 a) e.2=true;rw[l];exact ot (S:=S) f e he)
 unfold bZ.cW;rw[i,ao V];show em (dE bX) (fun s x=>(S.k5 a).al s.1 x) (S.k5 a).bW (fun s x=>(S.k5 a).nw s.1 x) (S.b9 a,S.q3 a) (S.r3 a)=_;unfold em;have e:eH (dE bX) (fun s x=>(S.k5 a).al s.1 x) (S.k5 a).bW (S.b9 a,S.q3 a) (S.r3 a)=(S.b9 a,S.q3 a):=t;rw[e];show((S.q3 a).filter (fun e=>(S.k5 a).al (S.b9 a) e.1)).map (fun e=>((S.k5 a).nw (S.b9 a) e.1,(S.k5 a).nw (S.b9 a) e.2))=_;have u:(S.q3 a).filter (fun e=>(S.k5 a).al (S.b9 a) e.1)=S.q3 a:=List.filter_eq_self.2 (fun e he=>by rw[l];rw[q3] at he;exact(List.mem_filter.1 he).2)
 rw[u,q3];refine List.map_congr_left (fun e _=>?_)
 rw[bL.jy (k:=S.k5 a) (k0:=S.s.j0 a) _ _ d t3,bL.jy (k:=S.k5 a) (k0:=S.s.j0 a) _ _ d t3]
end
section
variable {a:Wc}{S:bZ}{Y G:List Int}
end
section
variable {a:Wc}{S:bZ}{G:List Int}
end
section
variable {a:Wc}{S:bZ}{Y G:List Int}
theorem uP {N O y g:Nat}{ws Y G:List Int}(h:dS N y g ws Y G)(hN:N<=256)(hy:y<=N)(hO:O<=1024)(hg:g<=O){x:Int}:tB N y g ws x=true↔cI x=true/\(bQ x∈Y\/bQ x∈G):=by
 refine⟨pY (O:=O) h hN hy hO hg,fun⟨a,b⟩=>?_⟩
 obtain⟨c,d⟩:=h.lists (O:=O) hN hy hO hg;unfold tB;rw[a,c,d];rcases b with q|q
 ·rw[List.contains_iff_mem.2 q];rfl
 ·rw[List.contains_iff_mem.2 q,Bool.or_true];rfl
end
def uQ (k:bP)(s:bU)(q:List bN):Prop:=∀e∈q,k.al s e.2=true\/k.al s e.1=false
section
variable {k:bP}{z:C0}{s t u:bU}{D H:List Int}{q:List bN}
theorem ou (p:c5 k s t){x:Int}(h:k.al s x=true):k.al t x=true:=by
 unfold bP.al bP.ls at h⊢;cases c:k.cq x
 ·rfl
 ·rw[c] at h;have a:s.f (bQ x)≠-1:=by intro e;rw[e] at h;simp at h
  rw[p.f _ a];simpa using a
theorem ql {x:Int}(h:k.cq x=false):k.al s x=true:=by unfold bP.al bP.ls;rw[h];rfl
theorem uR (k:bP):∀(l:List Nat)(t:(bU×List bN)×Bool),(l.foldl (dt k.al k.br) t).2=false->∀i∈l,k.al t.1.1 (t.1.2.getD i (0,0)).2=true\/k.al t.1.1 (t.1.2.getD i (0,0)).1=false
 |[],_,_,_,hi=>by cases hi
 |j::l,t,h,i,hi=>by
  rw[aI] at h;obtain⟨_,a⟩:=p9 k l _ h;by_cases c:(k.al t.1.1 (t.1.2.getD j (0,0)).2||!k.al t.1.1 (t.1.2.getD j (0,0)).1)=true
  ·have b:dt k.al k.br t j=t:=by unfold dt;rw[aq c]
   rw[b] at h;rcases List.mem_cons.1 hi with rfl|hi
   ·simpa using c
   ·exact uR k l t h i hi
  ·unfold dt at a;rw[ao c] at a;cases a
theorem qm:∀(n:Nat)(t:bU×List bN)(H:List Int),LI k z t.1 H D->dJ k z t.1 H->d6 k t.1->k.mu t.1<n->uQ k (k.cK n t).1 (k.cK n t).2
 |0,t,H,_,_,_,e=>absurd e I
 |n+1,t,H,h,w,f,e=>by
  obtain⟨A,l1,w1,_,_,_⟩:=LI.mR (k.O+1) h w;obtain⟨c1,c2,B⟩:=CI.lb h.mi.ci f (k.O+1)
  obtain⟨g,a,C,j⟩:=CI.kv c1 c2;obtain⟨b,l2,c,_,_⟩:=l1.kv w1;unfold bP.cK;cases hk:(k.kv (k.lb (k.O+1) t.1)).1
  ·rw[ao V];obtain⟨E,l,F,G,m⟩:=CI.wa (s:=((k.kv (k.lb (k.O+1) t.1)).2,t.2)) g a;cases hw:(k.wa ((k.kv (k.lb (k.O+1) t.1)).2,t.2)).2
   ·rw[ao V,p_ k _ hw];intro o hd;obtain⟨i,hi,p⟩:=List.mem_iff_getElem.1 hd;have q:=uR k (List.range t.2.length) (((k.kv (k.lb (k.O+1) t.1)).2,t.2),false) hw i (List.mem_range.2 hi)
    have u:t.2.getD i (0,0)=o:=by rw[aj,am hi,p];rfl
    dsimp only at q;rw[u] at q;exact q
   ·rw[aq rfl];obtain⟨v,x,w3,_,_⟩:=cP.wa (k:=k) (z:=z) (D:=D) ((k.kv (k.lb (k.O+1) t.1)).2,t.2) b l2 c;have d:=m hw;dsimp only at d;exact qm n _ v x w3 l I
  ·rw[aq rfl];have d:=j hk;exact qm n ((k.kv (k.lb (k.O+1) t.1)).2,t.2) b l2 c a (by dsimp only;omega)
end
section
variable {a:Wc}{S:bZ}{Y G:List Int}
end
def wv (m:Nat->Int)(v:Int×Int):Int:=if v.1=3 then ew 3 (m v.2.toNat) else ew v.1 v.2
def we (m:Nat->Int)(e:bN):bN:=(ew 3 (m e.1.toNat),ew 3 (m e.2.toNat))
structure d4 (T:List cE)(v:Int×Int):Prop where
 t:v.1=3->0<=v.2/\cv T v.2.toNat
 o:v.1≠3->vc v.1 v.2=0
structure gI (T:List cE)(e:bN):Prop where
 g0:0<=e.1
 g:cv T e.1.toNat
 k:(T.getD e.1.toNat t0).1=5
 h0:0<=e.2
 h:cv T e.2.toNat
structure cj (a:Wc)(S:bZ)(W:b_)(m:Nat->Int)(Y G:List Int):Prop where
 kv:d3 a S.s Y G
 rl:W.rs.length=12
 rv:∀v∈W.rs,d4 W.T v
 fv:∀i,cv W.T i->∀v∈(W.T.getD i t0).2.1,d4 W.T v
 rs:S.s.rs=W.rs.map (wv m)
 gp:∀i,cv W.T i->(W.T.getD i t0).2.2.1=false->m i∈Y
 old:∀i,cv W.T i->(W.T.getD i t0).2.2.1=true->m i∈G
 inj:∀i j,cv W.T i->cv W.T j->m i=m j->i=j
 e8:∀v,(v∈Y\/v∈G)->∃i,cv W.T i/\m i=v
 hd:∀i,cv W.T i->hc (W.T.getD i t0).1 (W.T.getD i t0).2.1.length=0/\ld a.N S.s.y S.s.g S.s.ws (m i)=hw (W.T.getD i t0).1 (W.T.getD i t0).2.1.length
 fd:∀i,cv W.T i->∀k:Nat,k<(W.T.getD i t0).2.1.length->ld a.N S.s.y S.s.g S.s.ws (m i+1+k)=wv m ((W.T.getD i t0).2.1.getD k (0,0))
 rg:S.r=W.rg.map (we m)
 gv:∀e∈W.rg,gI W.T e
 wt:S.q=W.wt.map (we m)
 de:∀e∈W.wt,gI W.T e
 tl:∀i,(W.T.getD i t0).2.1.length<=12
theorem ow {a:Type}(l:List a)(i j:Nat)(x b:a)(h:i<l.length):(l.set i x).getD j b=if i=j then x else l.getD j b:=by
 rw[aj,aj,List.getElem?_set];split
 ·rename_i e;subst e;rfl
 ·rfl
theorem iX {a b:Type}(f:a->b)(l:List a)(i:Nat)(c:a)(e:b)(h:i<l.length):(l.map f).getD i e=f (l.getD i c):=by rw[aj,aX,aj,am h];rfl
theorem fW {m:Nat->Int}{v:Int×Int}(h:v.1=3):wv m v=ew 3 (m v.2.toNat):=by unfold wv;rw[aq h]
theorem iz {m:Nat->Int}{v:Int×Int}(h:v.1≠3):wv m v=ew v.1 v.2:=by unfold wv;rw[ao h]
theorem qn {T:List cE}{m a:Nat->Int}(h:∀i,cv T i->a i=m i){v:Int×Int}(b:d4 T v):wv a v=wv m v:=by
 by_cases c:v.1=3
 ·rw[fW c,fW c,h _ (b.t c).2]
 ·rw[iz c,iz c]
theorem uS {T:List cE}{m a:Nat->Int}(h:∀i,cv T i->a i=m i){e:bN}(he:gI T e):we a e=we m e:=by unfold we;rw[h _ he.g,h _ he.h]
theorem d4.of {T:List cE}{k n:Int}(a:k≠3)(h:vc k n=0):d4 T (k,n):=⟨fun e=>absurd e a,fun _=>h⟩
theorem d4.nil (T:List cE):d4 T (0,0):=d4.of Z Z
theorem d4.mono {T b:List cE}(h:∀i,cv T i->cv b i){v:Int×Int}(a:d4 T v):d4 b v:=⟨fun e=>⟨(a.t e).1,h _ (a.t e).2⟩,a.o⟩
theorem Bh {N y g:Nat}{ws Y G:List Int}(h:dS N y g ws Y G)(hy:y<=N){u v i j:Int}(a:u∈Y\/u∈G)(b:v∈Y\/v∈G)(d:0<=i)(f:i<pf (ld N y g ws u))(j0:0<=j)(k:j<pf (ld N y g ws v))(e:u+1+i=v+1+j):u=v:=by
 rcases a with a|a<;>rcases b with b|b
 ·rcases Int.lt_trichotomy u v with c|c|c
  ·have:=h.ty.apart u a v b c;omega
  ·exact c
  ·have:=h.ty.apart v b u a c;omega
 ·have l:=lO h a d f;have m:=kS h b j0 k;omega
 ·have l:=lO h b j0 k;have m:=kS h a d f;omega
 ·exact ud h a b d f j0 k e
section
variable {a:Wc}{S:bZ}{W:b_}{m:Nat->Int}{Y G:List Int}
theorem cj.mem (h:cj a S W m Y G){i:Nat}(hi:cv W.T i):m i∈Y\/m i∈G:=by
 cases e:(W.T.getD i t0).2.2.1
 ·exact ap (h.gp i hi e)
 ·exact an (h.old i hi e)
theorem cj.bd (h:cj a S W m Y G)(b:cG a S.s){i:Nat}(hi:cv W.T i):0<=m i/\m i<1280:=by
 have d:=b.n1;have e:=b.o1;have f:=b.y1;have g:=b.g1;rcases h.mem hi with c|c
 ·have:=h.kv.inv.full.f4 _ c;omega
 ·have:=h.kv.inv.full.io _ c;omega
theorem cj.word (h:cj a S W m Y G)(c:cG a S.s){i:Nat}(hi:cv W.T i):vc 3 (m i)=0/\cI (ew 3 (m i))=true/\bQ (ew 3 (m i))=m i:=by have hB:=h.bd c hi;have h0:=lZ (m i) hB.1 I;have b:=kk 3 (m i) h0;exact⟨h0,b.1,b.2 rfl⟩
theorem cj.vt (h:cj a S W m Y G)(c:cG a S.s){v:Int×Int}(d:d4 W.T v)(b:v.1=3):cI (wv m v)=true/\bQ (wv m v)=m v.2.toNat:=by rw[fW b];exact(h.word c (d.t b).2).2
theorem d4.no {T:List cE}{v:Int×Int}(b:d4 T v)(a:v.1≠3):cI (wv m v)=false:=by rw[iz a,(kk _ _ (b.o a)).1];simpa using a
theorem cj.qo (h:cj a S W m Y G)(d:cG a S.s){v:Int×Int}(b:d4 W.T v):cI (wv m v)=(v.1==3):=by
 by_cases c:v.1=3
 ·rw[(h.vt d b c).1,c];rfl
 ·rw[b.no c];simp[c]
theorem cj.at (h:cj a S W m Y G)(c:cG a S.s){v:Int×Int}(b:d4 W.T v)(ha:cI (wv m v)=true):bQ (wv m v)∈Y\/bQ (wv m v)∈G:=by
 rw[h.qo c b] at ha;have d:v.1=3:=by simpa using ha
 rw[(h.vt c b d).2];exact h.mem (b.t d).2
theorem cj.dec (h:cj a S W m Y G)(d:cG a S.s){v:Int×Int}(b:d4 W.T v):dc (wv m v)=0/\dk (wv m v)=v.1/\cL (wv m v)=if v.1=3 then m v.2.toNat else v.2:=by
 by_cases c:v.1=3
 ·rw[fW c,aq c,c];exact m2 3 _ (h.word d (b.t c).2).1
 ·rw[iz c,ao c];exact m2 _ _ (b.o c)
theorem cj.parts (h:cj a S W m Y G){i:Nat}(hi:cv W.T i):pk (ld a.N S.s.y S.s.g S.s.ws (m i))=(W.T.getD i t0).1/\pf (ld a.N S.s.y S.s.g S.s.ws (m i))=(W.T.getD i t0).2.1.length/\pc (ld a.N S.s.y S.s.g S.s.ws (m i))=0:=by obtain⟨b,c⟩:=h.hd i hi;rw[c];exact m3 _ _ b
theorem cj.tB (h:cj a S W m Y G)(b:cG a S.s){v:Int×Int}(d:d4 W.T v):tB a.N S.s.y S.s.g S.s.ws (wv m v)=(v.1==3):=by
 by_cases c:v.1=3
 ·rw[(uP (O:=a.O) h.kv.inv.full b.n1 b.y1 b.o1 b.g1).2 ⟨(h.vt b d c).1,h.at b d (h.vt b d c).1⟩,c];rfl
 ·have e:(v.1==3)=false:=by simpa using c
  rw[e,Bool.eq_false_iff];intro f;have:=((uP (O:=a.O) h.kv.inv.full b.n1 b.y1 b.o1 b.g1).1 f).1;rw[d.no c] at this
  cases this
theorem cj.root (h:cj a S W m Y G){i:Nat}(hi:i<12):S.s.rs.getD i 0=wv m (W.rs.getD i (0,0))/\d4 W.T (W.rs.getD i (0,0)):=by
 have hl:i<W.rs.length:=by rw[h.rl];exact hi
 exact⟨by rw[h.rs];exact iX _ _ _ _ _ hl,h.rv _ (getD_in hl)⟩
theorem cj.code (h:cj a S W m Y G)(f:cG a S.s){b:Nat}(l:b<12)(j:Int):dH a.N S.s.y S.s.g S.s.ws (S.s.rs.getD b 0) j=W.gc b j:=by
 obtain⟨e,g⟩:=h.root l;rw[e];unfold dH b_.gc b_.th;rw[h.tB f g];by_cases c:(W.rs.getD b (0,0)).1=3
 ·have i:((W.rs.getD b (0,0)).1==3)=true:=by simpa using c
  obtain⟨z,al⟩:=g.t c;obtain⟨n,o,_⟩:=h.parts al;rw[i,aq rfl,aq c,(h.vt f g c).2,h.kv.inv.full.stands f.y1 (h.mem al),n,o];have p:W.T.getD (W.rs.getD b (0,0)).2.toNat (0,[],false,false)=W.T.getD (W.rs.getD b (0,0)).2.toNat t0:=rfl;rw[p];by_cases d:(W.T.getD (W.rs.getD b (0,0)).2.toNat t0).1=5
  ·rw[aq d,aq (an d)]
  ·have q:¬((W.rs.getD b (0,0)).2<0\/(W.T.getD (W.rs.getD b (0,0)).2.toNat t0).1=5):=fun k=>k.elim (fun k=>absurd z I) d;rw[ao d,ao q]
 ·have i:((W.rs.getD b (0,0)).1==3)=false:=by simpa using c
  rw[i,ao V,ao c,aq (ap Z)]
theorem cj.put (h:cj a S W m Y G)(c:cG a S.s)(k:Nat){v:Int×Int}(b:d4 W.T v):cj a ⟨{S.s with rs:=S.s.rs.set k (wv m v)},S.r,S.q⟩ {W with rs:=W.rs.set k v} m Y G:=
 {
  kv:=h.kv.root k _ (fun ha=>h.at c b ha),rl:=by rw[aM];exact h.rl
  rv:=fun u d=>(kY d).elim (h.rv u) (fun e=>by rw[e];exact b),fv:=h.fv
  rs:=by show S.s.rs.set k (wv m v)=(W.rs.set k v).map (wv m);rw[h.rs,List.map_set]
  gp:=h.gp,old:=h.old,inj:=h.inj,e8:=h.e8,hd:=h.hd,fd:=h.fd,rg:=h.rg,gv:=h.gv,wt:=h.wt,de:=h.de,tl:=h.tl}
theorem cj.beside (h:cj a S W m Y G){r q:List bN}(b:∀e∈r,gI W.T e)(hq:∀e∈q,gI W.T e):cj a ⟨S.s,r.map (we m),q.map (we m)⟩ {W with rg:=r,wt:=q} m Y G:=
 {kv:=h.kv,rl:=h.rl,rv:=h.rv,fv:=h.fv,rs:=h.rs,gp:=h.gp,old:=h.old,inj:=h.inj,e8:=h.e8,hd:=h.hd,fd:=h.fd,rg:=rfl,gv:=b,wt:=rfl,de:=hq,tl:=h.tl}
theorem Bj {T:List cE}{i:Nat}{t:cE}(hi:i<T.length)(hd:t.2.2.2=(T.getD i t0).2.2.2)(j:Nat):cv (T.set i t) j↔cv T j:=by
 unfold cv;rw[aM,ow _ _ _ _ _ hi];by_cases e:i=j
 ·subst e;rw[aq rfl,hd]
 ·rw[ao e]
theorem cj.store (h:cj a S W m Y G)(f:cG a S.s){i k:Nat}(hi:cv W.T i)(hk:k<(W.T.getD i t0).2.1.length){v:Int×Int}(x:d4 W.T v){ws M:List Int}(ew:ws=S.s.ws.set (m i+1+k).toNat (wv m v))(A:d3 a {S.s with ws:=ws,M:=M} Y G):
 cj a ⟨{S.s with ws:=ws,M:=M},S.r,S.q⟩ {W with T:=W.T.set i ((W.T.getD i t0).1,(W.T.getD i t0).2.1.set k v,(W.T.getD i t0).2.2)} m Y G:=by
 have al:∀j,cv (W.T.set i ((W.T.getD i t0).1,(W.T.getD i t0).2.1.set k v,(W.T.getD i t0).2.2)) j↔cv W.T j:=Bj (T:=W.T) hi.1 rfl;have g:∀j,(W.T.set i ((W.T.getD i t0).1,(W.T.getD i t0).2.1.set k v,(W.T.getD i t0).2.2)).getD j t0=if i=j then((W.T.getD i t0).1,(W.T.getD i t0).2.1.set k v,(W.T.getD i t0).2.2) else W.T.getD j t0:=fun j=>ow _ _ _ _ _ hi.1
 have gl:∀j,((W.T.set i ((W.T.getD i t0).1,(W.T.getD i t0).2.1.set k v,(W.T.getD i t0).2.2)).getD j t0).2.1.length=(W.T.getD j t0).2.1.length:=fun j=>by
  rw[g];split
  ·rename_i e;subst e;simp
  ·rfl
 have g1:∀j,((W.T.set i ((W.T.getD i t0).1,(W.T.getD i t0).2.1.set k v,(W.T.getD i t0).2.2)).getD j t0).1=(W.T.getD j t0).1:=fun j=>by
  rw[g];split
  ·rename_i e;subst e;rfl
  ·rfl
 have g2:∀j,((W.T.set i ((W.T.getD i t0).1,(W.T.getD i t0).2.1.set k v,(W.T.getD i t0).2.2)).getD j t0).2.2=(W.T.getD j t0).2.2:=fun j=>by
  rw[g];split
  ·rename_i e;subst e;rfl
  ·rfl
 obtain⟨E,B,_⟩:=h.parts hi;have k1:(k:Int)<pf (ld a.N S.s.y S.s.g S.s.ws (m i)):=by rw[B];omega
 obtain⟨_,s⟩:=h.kv.inv.full.set (z:=wv m v) f.l1 f.y1 f.g1 (h.mem hi) (Int.natCast_nonneg k) k1;rw[<-ew] at s;have l:∀u,d4 W.T u->d4 (W.T.set i ((W.T.getD i t0).1,(W.T.getD i t0).2.1.set k v,(W.T.getD i t0).2.2)) u:=fun u c=>c.mono (fun j b=>(al j).2 b)
 have t:∀e,gI W.T e->gI (W.T.set i ((W.T.getD i t0).1,(W.T.getD i t0).2.1.set k v,(W.T.getD i t0).2.2)) e:=fun e he=>⟨he.g0,(al _).2 he.g,by rw[g1];exact he.k,he.h0,(al _).2 he.h⟩
 have C:=i6 h.kv.inv.full (h.mem hi) (Int.natCast_nonneg k) k1;have F:=gV (O:=a.O) C f.y1 f.g1;exact
 {
  kv:=A,rl:=h.rl,rv:=fun u c=>l u (h.rv u c)
  fv:=fun j b u c=>by
   have d:=(al j).1 b;have c:u∈((W.T.set i ((W.T.getD i t0).1,(W.T.getD i t0).2.1.set k v,(W.T.getD i t0).2.2)).getD j t0).2.1:=c;rw[g] at c;split at c
   ·rename_i e;rcases kY c with o|o
    ·exact l u (h.fv i hi u o)
    ·rw[o];exact l v x
   ·exact l u (h.fv j d u c)
  rs:=h.rs
  gp:=fun j b e=>h.gp j ((al j).1 b) (by rw[<-g2];exact e)
  old:=fun j b e=>h.old j ((al j).1 b) (by rw[<-g2];exact e)
  inj:=fun j w b d e=>h.inj j w ((al j).1 b) ((al w).1 d) e
  e8:=fun u c=>by obtain⟨j,b,e⟩:=h.e8 u c;exact⟨j,(al j).2 b,e⟩
  hd:=fun j b=>by have d:=(al j).1 b;show hc ((W.T.set i _).getD j t0).1 ((W.T.set i _).getD j t0).2.1.length=0/\ld a.N S.s.y S.s.g ws (m j)=hw ((W.T.set i _).getD j t0).1 ((W.T.set i _).getD j t0).2.1.length;rw[gl,g1,s _ (h.mem d)];exact h.hd j d
  fd:=fun j b n p=>by
   have d:=(al j).1 b;have p:n<((W.T.set i ((W.T.getD i t0).1,(W.T.getD i t0).2.1.set k v,(W.T.getD i t0).2.2)).getD j t0).2.1.length:=p;rw[gl] at p;show ld a.N S.s.y S.s.g ws (m j+1+n)=wv m (((W.T.set i ((W.T.getD i t0).1,(W.T.getD i t0).2.1.set k v,(W.T.getD i t0).2.2)).getD j t0).2.1.getD n (0,0))
   obtain⟨_,D,_⟩:=h.parts d;have n1:(n:Int)<pf (ld a.N S.s.y S.s.g S.s.ws (m j)):=by rw[D];omega
   have q:=i6 h.kv.inv.full (h.mem d) (Int.natCast_nonneg n) n1;have H:=gV (O:=a.O) q f.y1 f.g1;rw[dh q,ew,i1 _ _ _ _ (by have:=f.l1;omega),<-dh q,h.fd j d n p,g];by_cases e:i=j
   ·subst e;rw[aq rfl];show _=wv m (((W.T.getD i t0).2.1.set k v).getD n (0,0))
    rw[ow _ _ _ _ _ hk];by_cases eR:k=n
    ·subst eR;rw[aq rfl,aq rfl]
    ·rw[ao eR,ao I]
   ·rw[ao e,ao (fun o=>e ?_)];exact h.inj i j hi d (Bh h.kv.inv.full f.y1 (h.mem hi) (h.mem d) (Int.natCast_nonneg k) k1 (Int.natCast_nonneg n) n1 I)
  rg:=h.rg,gv:=fun e he=>t e (h.gv e he),wt:=h.wt,de:=fun e he=>t e (h.de e he)
  tl:=fun j=>by show((W.T.set i _).getD j t0).2.1.length<=12;rw[gl];exact h.tl j}
theorem uT {T:List cE}{t:cE}(ht:t.2.2.2=false)(j:Nat):cv (T++[t]) j↔cv T j\/j=T.length:=by
 unfold cv;rw[aJ];rcases Nat.lt_trichotomy j T.length with a|a|a
 ·rw[aj,ba a,<-aj];exact⟨fun q=>ap ⟨a,q.2⟩,fun q=>q.elim (fun q=>⟨by simp;omega,q.2⟩) (fun e=>absurd a I)⟩
 ·subst a;rw[aj,a9 bJ];simp[ht]
 ·simp;omega
theorem jI {a:Type}(l:List a)(t b:a)(j:Nat)(h:j<l.length):(l++[t]).getD j b=l.getD j b:=by rw[aj,ba h,<-aj]
theorem k9 {a:Type}(l:List a)(t b:a):(l++[t]).getD l.length b=t:=by rw[aj,a9 bJ];simp
def hC (m:Nat->Int)(n:Nat)(y:Int)(i:Nat):Int:=if i=n then y else m i
theorem cj.new (h:cj a S W m Y G){kd:Int}{vs:List (Int×Int)}(hk:hc kd vs.length=0)(t:∀v∈vs,d4 W.T v){s':dT}(er:s'.rs=S.s.rs)(D:s'.y<=a.N)(q:d3 a s' (Y++[(S.s.y:Int)]) G)
 (x:ld a.N s'.y s'.g s'.ws S.s.y=hw kd vs.length)(A:∀k:Nat,k<vs.length->ld a.N s'.y s'.g s'.ws (S.s.y+1+k)=wv m (vs.getD k (0,0)))
 (h0:∀v,(v∈Y\/v∈G)->ld a.N s'.y s'.g s'.ws v=ld a.N S.s.y S.s.g S.s.ws v)(B:∀v,(v∈Y\/v∈G)->∀k:Nat,(k:Int)<pf (ld a.N S.s.y S.s.g S.s.ws v)->ld a.N s'.y s'.g s'.ws (v+1+k)=ld a.N S.s.y S.s.g S.s.ws (v+1+k)):
 cj a ⟨s',S.r,S.q⟩ {W with T:=W.T++[(kd,vs,false,false)]} (hC m W.T.length S.s.y) (Y++[(S.s.y:Int)]) G:=by
 have al:∀j,cv (W.T++[(kd,vs,false,false)]) j↔cv W.T j\/j=W.T.length:=uT rfl;have d:∀i,cv W.T i->hC m W.T.length S.s.y i=m i:=fun i hi=>by unfold hC;rw[ao (by have:=hi.1;omega)]
 have n:hC m W.T.length S.s.y W.T.length=S.s.y:=by unfold hC;rw[aq rfl]
 have s:∀u,d4 W.T u->d4 (W.T++[(kd,vs,false,false)]) u:=fun u f=>f.mono (fun j c=>(al j).2 (ap c))
 have w:∀e,gI W.T e->gI (W.T++[(kd,vs,false,false)]) e:=fun e he=>⟨he.g0,(al _).2 (ap he.g),by rw[jI _ _ _ _ he.g.1];exact he.k,he.h0,(al _).2 (ap he.h)⟩
 have fresh:∀j,cv W.T j->m j≠S.s.y:=fun j c e=>by
  rcases h.mem c with b|b
  ·have:=h.kv.inv.full.f4 _ b;omega
  ·have C:(S.s.y:Int)∈Y++[(S.s.y:Int)]:=V;have n1:=q.inv.full.f4 _ C;have E:=q.inv.full.io _ b;omega
 exact
 {
  kv:=q,rl:=h.rl,rv:=fun u f=>s u (h.rv u f)
  fv:=fun j c u f=>by
   rcases(al j).1 c with b|b
   ·have f:u∈((W.T++[(kd,vs,false,false)]).getD j t0).2.1:=f;rw[jI _ _ _ _ b.1] at f;exact s u (h.fv j b u f)
   ·have f:u∈((W.T++[(kd,vs,false,false)]).getD j t0).2.1:=f;rw[b,k9] at f;exact s u (t u f)
  rs:=by
   show s'.rs=W.rs.map (wv (hC m W.T.length S.s.y))
   rw[er,h.rs];exact List.map_congr_left (fun v l=>(qn d (h.rv v l)).symm)
  gp:=fun j c e=>by
   rcases(al j).1 c with b|b
   ·have e:((W.T++[(kd,vs,false,false)]).getD j t0).2.2.1=false:=e;rw[jI _ _ _ _ b.1] at e;rw[d j b];exact aL _ (h.gp j b e)
   ·rw[b,n];simp
  old:=fun j c e=>by
   have e:((W.T++[(kd,vs,false,false)]).getD j t0).2.2.1=true:=e;rcases(al j).1 c with b|b
   ·rw[jI _ _ _ _ b.1] at e;rw[d j b];exact h.old j b e
   ·rw[b,k9] at e;cases e
  inj:=fun i j hi c e=>by
   rcases(al i).1 hi with b|b<;>rcases(al j).1 c with o|o
   ·rw[d i b,d j o] at e;exact h.inj i j b o e
   ·rw[d i b,o,n] at e;exact absurd e (fresh i b)
   ·rw[d j o,b,n] at e;exact absurd e.symm (fresh j o)
   ·omega
  e8:=fun v l=>by
   have p:(v∈Y\/v∈G)\/v=S.s.y:=by
    rcases l with l|l
    ·rcases List.mem_append.1 l with b|b
     ·exact ap (ap b)
     ·exact an (List.mem_singleton.1 b)
    ·exact ap (an l)
   rcases p with p|p
   ·obtain⟨j,c,e⟩:=h.e8 v p;exact⟨j,(al j).2 (ap c),by rw[d j c];exact e⟩
   ·exact⟨W.T.length,(al _).2 (an rfl),by rw[n,p]⟩
  hd:=fun j c=>by
   show hc ((W.T++[(kd,vs,false,false)]).getD j t0).1 ((W.T++[(kd,vs,false,false)]).getD j t0).2.1.length=0/\ld a.N s'.y s'.g s'.ws (hC m W.T.length S.s.y j)=hw ((W.T++[(kd,vs,false,false)]).getD j t0).1 ((W.T++[(kd,vs,false,false)]).getD j t0).2.1.length;rcases(al j).1 c with b|b
   ·rw[jI _ _ _ _ b.1,d j b,h0 _ (h.mem b)];exact h.hd j b
   ·rw[b,k9,n];exact⟨hk,x⟩
  fd:=fun j c k g=>by
   have g:k<((W.T++[(kd,vs,false,false)]).getD j t0).2.1.length:=g;show ld a.N s'.y s'.g s'.ws (hC m W.T.length S.s.y j+1+k)=wv (hC m W.T.length S.s.y) (((W.T++[(kd,vs,false,false)]).getD j t0).2.1.getD k (0,0))
   rcases(al j).1 c with b|b
   ·rw[jI _ _ _ _ b.1] at g⊢;rw[d j b,B _ (h.mem b) k (by rw[(h.parts b).2.1];omega),h.fd j b k g];exact(qn d (h.fv j b _ (getD_in g))).symm
   ·rw[b,k9] at g⊢;rw[n,A k g];exact(qn d (t _ (getD_in g))).symm
  rg:=by
   show S.r=W.rg.map (we (hC m W.T.length S.s.y))
   rw[h.rg];exact List.map_congr_left (fun e he=>(uS d (h.gv e he)).symm)
  gv:=fun e he=>w e (h.gv e he)
  wt:=by
   show S.q=W.wt.map (we (hC m W.T.length S.s.y))
   rw[h.wt];exact List.map_congr_left (fun e he=>(uS d (h.de e he)).symm)
  de:=fun e he=>w e (h.de e he)
  tl:=fun j=>by
   show((W.T++[(kd,vs,false,false)]).getD j t0).2.1.length<=12;rcases Nat.lt_trichotomy j W.T.length with b|b|b
   ·rw[jI _ _ _ _ b];exact h.tl j
   ·rw[b,k9];have:=gK _ _ hk;show vs.length<=12;omega
   ·rw[aj,List.getElem?_eq_none (by simp;omega)];simp[t0]}
end
end Go.Proofs.YtjpjpjemibgjpaaGreat
