import Derived.Test.YtjpjpjemibgjpaaGreatJ21
namespace Go.Proofs.YtjpjpjemibgjpaaGreat
open Go.RowKit W Kp cg
theorem Ac {P:Prop}(h:P:=by
 have q0:(S.k5 a).cQ (S.cz a) x=(S.s.j0 a).cQ (S.cz a) x:=by unfold b8.cQ b8.jt;rw[Ad]
 unfold b8.al;rw[q0];cases hj:(S.s.j0 a).jt x
 ·unfold b8.cQ;rw[hj];rfl
 ·have hmem:=nV hj;rw[l3] at hmem;have q:=g.iff _ hmem;unfold b8.cQ;by_cases c:(S.cy a).f (cf x)=-1
  ·rw[c,q.2 c]
  ·rw[beq_false_of_ne c,beq_false_of_ne (fun d=>c (q.1 d))]):P:=h
theorem Ae {P:Prop}(h:P:=by
 have:(fun e:bZ=>((S.s.j0 a).nw (S.cy a) e.1,(S.s.j0 a).nw (S.cy a) e.2))=id:=by
  funext e
  rw[d1.jE.nw,d1.jE.nw];rfl
 rw[this,List.map_id]):P:=h
structure m2 (k:b8)(C:Int->Prop):Prop where
 rt:∀i,i<12->k.jt (k.s.rs.getD i 0)=true->C (cf (k.s.rs.getD i 0))
 p:∀a∈k.T,C a->pk (k.ld a)=1\/pk (k.ld a)=2->∀i:Nat,(i:Int)<pf (k.ld a)->k.jt (k.ld (a+1+i))=true->C (cf (k.ld (a+1+i)))
 w:∀a∈k.T,C a->pk (k.ld a)=3->k.jt (k.ld (a+2))=true->C (cf (k.ld (a+2)))
 e:∀a∈k.T,C a->pk (k.ld a)=4->(k.jt (k.ld (a+1))=true->C (cf (k.ld (a+1))))->k.jt (k.ld (a+2))=true->C (cf (k.ld (a+2)))
def pA (k:b8)(C:Int->Prop)(q:List bZ):Prop:=∀e∈q,(k.jt e.1=true->C (cf e.1))->k.jt e.2=true->C (cf e.2)
structure dH (k:b8)(C:Int->Prop)(s:ct):Prop where
 snd:∀a∈k.T,s.f a≠-1->C a
 ea:∀a∈s.ep,a∈k.T/\s.f a≠-1/\pk (k.ld a)=4
section
variable {k:b8}{C:Int->Prop}{s:ct}
theorem dH.cQ (h:dH k C s){x:Int}(b:k.cQ s x=false):k.jt x=true->C (cf x):=fun ht=>h.snd _ (nV ht) ((b8.pm ht).1 b)
theorem dH.al (h:dH k C s){x:Int}(b:k.al s x=true):k.jt x=true->C (cf x):=h.cQ (by unfold b8.al at b;simpa using b)
theorem dH.ma (h:dH k C s)(x:Int)(j:k.jt x=true->C (cf x))(le:dO k s (k.ma s x)):dH k C (k.ma s x):=by
 refine⟨fun b d f=>?_,fun b d=>?_⟩
 ·by_cases c:k.cQ s x=true
  ·have e:(k.ma s x).f b=if b=cf x then cf x else s.f b:=by unfold b8.ma;rw[aH c];rfl
   rw[e] at f;by_cases g:b=cf x
   ·rw[g];refine j ?_;unfold b8.cQ at c;rw[ba] at c;exact c.1
   ·rw[aE g] at f;exact h.snd b d f
  ·have e:k.ma s x=s:=by unfold b8.ma;rw[aE c]
   rw[e] at f;exact h.snd b d f
 ·rw[qN] at d;obtain⟨q1,i,q3⟩:=h.ea b d;exact⟨q1,by rw[le.f b i];exact i,q3⟩
theorem dH.e3 {X:Int->Prop}(h:dH k C s)(m:cZ k X s)(a:Int):∀n:Nat,(∀i:Nat,i<n->k.jt (k.ld (a+1+i))=true->C (cf (k.ld (a+1+i))))->dH k C (k.e3 s a n)
 |0,_=>h
 |n+1,b=>by obtain⟨m1,_⟩:=m.e3 a n;exact(dH.e3 h m a n (fun i hi=>b i V)).ma _ (b n V) (m1.ma _).2.1
theorem dH.l1 (h:dH k C s)(m:cZ k (fun _=>False) s)(e:m2 k C)(hl:0<s.td.length):dH k C (k.l1 s):=by
 obtain⟨x,f⟩:∃x,s.td.getD (s.td.length-1) 0=x:=⟨_,rfl⟩
 have hm:x∈s.td:=by rw[<-f,aC,aG V];exact a6 _
 have d:=m.eS.td x hm;have g:=m.td x hm;have hc:=h.snd x d g;have l:k.l1 s=k.lk {s with td:=s.td.take (s.td.length-1)} x:=by unfold b8.l1;rw[f]
 have hs:=m.eS.sum;have o:(s.td.take (s.td.length-1)).length=s.td.length-1:=by rw[bf];omega
 have j:cZ k (fun b=>b∈s.td) {s with td:=s.td.take (s.td.length-1)}:=⟨⟨m.eS.nd,m.eS.ps,fun a ha=>m.eS.td a (bE ha),m.eS.ep,m.eS.tl,by
  show k.lost s+(s.td.take _).length+s.ep.length<=_;omega⟩,m.self,fun a ha=>m.td a (bE ha),fun a ha n=>by
  rcases m.cmp a ha n with q|q|q
  ·exact aI (aJ q)
  ·exact absurd q id
  ·exact aI (aI ⟨q.p,q.w,q.e⟩)⟩
 have h0:dH k C {s with td:=s.td.take (s.td.length-1)}:=⟨h.snd,h.ea⟩
 rw[l];unfold b8.lk;by_cases c1:pk (k.ld x)=1\/pk (k.ld x)=2
 ·rw[aH c1];exact h0.e3 j x _ (fun i hi=>e.p x d hc c1 i V)
 ·rw[aE c1];by_cases c3:pk (k.ld x)=3
  ·rw[aH c3];exact h0.ma _ (e.w x d hc c3) (j.ma _).2.1
  ·rw[aE c3];by_cases c4:pk (k.ld x)=4
   ·rw[aH c4];refine⟨h.snd,fun b c=>?_⟩
    rcases List.mem_append.1 c with c|c
    ·exact h.ea b c
    ·rw[List.mem_singleton.1 c];exact⟨d,g,c4⟩
   ·rw[aE c4];exact h0
theorem dH.lm (b:m2 k C):∀(n:Nat){s:ct},dH k C s->cZ k (fun _=>False) s->dH k C (k.lm n s)
 |0,s,h,_=>h
 |n+1,s,h,m=>by
  unfold b8.lm;by_cases c:0<s.td.length
  ·rw[aH c];exact dH.lm b n (h.l1 m b c) (m.l1 c).1
  ·rw[aE c];exact h
theorem dH.ik (f:m2 k C):∀(l:List Int){t:List Int×ct},dH k C t.2->cZ k (fun _=>False) t.2->(∀a∈l,a∈k.T/\t.2.f a≠-1/\pk (k.ld a)=4)->dH k C (l.foldl k.cO t).2/\∀a∈(l.foldl k.cO t).1,a∈t.1\/a∈l
 |[],t,h,_,_=>⟨h,fun _ ha=>aJ ha⟩
 |a::l,t,h,m,hl=>by
  rw[a8];obtain⟨a1,a2,n⟩:=hl a Z;by_cases c:k.cQ t.2 (k.ld (a+1))=true
  ·have e:k.cO t a=(t.1++[a],t.2):=by unfold b8.cO;rw[aH c]
   rw[e];obtain⟨g,i⟩:=dH.ik f l (t:=(t.1++[a],t.2)) h m (fun b d=>hl b (aO _ d))
   refine⟨g,fun b d=>?_⟩
   rcases i b d with q|q
   ·rcases List.mem_append.1 q with q|q
    ·exact aJ q
    ·exact aI (by rw[List.mem_singleton.1 q];simp)
   ·exact aI (aO _ q)
  ·have e:k.cO t a=(t.1,k.ma t.2 (k.ld (a+2))):=by unfold b8.cO;rw[aE c]
   rw[e];obtain⟨m1,j,_⟩:=m.ma _;obtain⟨g,i⟩:=dH.ik f l (t:=(t.1,k.ma t.2 _)) (h.ma _ (f.e a a1 (h.snd a a1 a2) n (h.cQ (by simpa using c))) j) m1 (fun b d=>by
    obtain⟨b1,b2,b3⟩:=hl b (aO _ d)
    exact⟨b1,by rw[j.f b b2];exact b2,b3⟩)
   exact⟨g,fun b d=>(i b d).imp id (fun q=>aO _ q)⟩
theorem dH.kv (e:m2 k C)(h:dH k C s)(m:cZ k (fun _=>False) s):dH k C (k.kv s).2:=by
 obtain⟨f,g⟩:=dH.ik e s.ep (t:=([],s)) h m h.ea;obtain⟨_,le,_⟩:=cZ.ik s.ep (t:=([],s)) m;refine⟨f.snd,fun b c=>?_⟩
 have c:=c;rcases g b c with q|q
 ·cases q
 ·obtain⟨q1,d,q3⟩:=h.ea b q;exact⟨q1,by show(s.ep.foldl k.cO ([],s)).2.f b≠-1;rw[le.f b d];exact d,q3⟩
theorem dH.j9 (q:List bZ)(b:pA k C q):∀(l:List Nat)(t:(ct×List bZ)×Bool),t.1.2=q->(∀i∈l,i<q.length)->dH k C t.1.1->cZ k (fun _=>False) t.1.1->dH k C (l.foldl (dB k.al k.mp) t).1.1
 |[],t,_,_,h,_=>h
 |i::l,t,e,hl,h,m=>by
  rw[a8];have hi:=hl i Z;by_cases c:(k.al t.1.1 (t.1.2.getD i (0,0)).2||!k.al t.1.1 (t.1.2.getD i (0,0)).1)=true
  ·have d:dB k.al k.mp t i=t:=by unfold dB;rw[aH c]
   rw[d];exact dH.j9 q b l t e (fun j f=>hl j (aO _ f)) h m
  ·have d:dB k.al k.mp t i=((k.ma t.1.1 (t.1.2.getD i (0,0)).2,t.1.2),true):=by exact zk
   rw[d];have hm:t.1.2.getD i (0,0)∈q:=by rw[e,aC,aG hi];exact a6 hi
   have hg:k.al t.1.1 (t.1.2.getD i (0,0)).1=true:=by
    cases hh:k.al t.1.1 _
    ·exact absurd (by rw[hh];simp) c
    ·rfl
   obtain⟨m1,g,_⟩:=m.ma _;exact dH.j9 q b l _ e (fun j f=>hl j (aO _ f)) (h.ma _ (b _ hm (h.al hg)) g) m1
theorem dH.cV (b:m2 k C):∀(n:Nat)(t:ct×List bZ),pA k C t.2->dH k C t.1->cZ k (fun _=>False) t.1->dH k C (k.cV n t).1
 |0,t,_,h,_=>h
 |n+1,t,c,h,m=>by
  obtain⟨l1,_⟩:=m.eI;have d:=dH.kv b (dH.lm b _ h m) l1;obtain⟨v1,_⟩:=l1.kv;have e:dH k C (k.wa ((k.kv (k.eI t.1)).2,t.2)).1.1:=dH.j9 t.2 c _ (((k.kv _).2,t.2),false) rfl (fun i hi=>by simpa using hi) d v1;obtain⟨w1,_,w3,_⟩:=cZ.wa (t:=((k.kv _).2,t.2)) v1;unfold b8.cV;split
  ·exact dH.cV b n _ c d v1
  ·split
   ·exact dH.cV b n _ (by rw[w3];exact c) e w1
   ·exact e
theorem dH.ke (b:m2 k C){t:ct×List bZ}(c:pA k C t.2)(h:dH k C t.1)(m:cZ k (fun _=>False) t.1)(x:Int)(d:k.jt x=true->C (cf x)):dH k C (k.ke t x).2.1:=by obtain⟨m1,e,_⟩:=m.ma x;exact dH.cV b _ (k.ma t.1 x,t.2) c (h.ma x d e) m1
end
section
variable {k:b8}
end
def kL (k:b8)(l:List bZ):Prop:=∀e∈l,k.jt e.1=true/\k.jt e.2=true
section
variable {a:Wc}{S:ck}{Y G:List Int}
theorem Af (h:em a S.s Y G)(b:cI a S.s)(l:S.fD a=false):(S.dA a).q=(((S.s.j0 a).eO (S.j2 a) S.r).2.filter (fun e=>(S.s.j0 a).al (S.cy a) e.1)).map (fun e=>((S.s.j0 a).nw (S.cz a) e.1,(S.s.j0 a).nw (S.cz a) e.2)):=by
 have j:=cU.start b.n1 b.o1 b.y1 b.g1;obtain⟨d1,p,t⟩:=nW (S:=S) j;obtain⟨_,l2,l3⟩:=kK h.inv.full b;obtain⟨_,g,u⟩:=l4 h b l;obtain⟨_,i,t3,_⟩:=pt (s:=S.cz a) (k:=S.s.j0 a) ⟨b.l1,b.y1,b.g1⟩ b.r1 j.nd (n5 h.inv.full b) (pz h.inv.full b)
 have i:(S.k5 a).Y=(S.s.j0 a).Y:=i;have t3:(S.k5 a).G=(S.s.j0 a).G:=t3;have Ad:(S.k5 a).T=(S.s.j0 a).T:=by unfold b8.T;rw[i,t3]
 have m:∀x,(S.k5 a).al (S.cz a) x=(S.s.j0 a).al (S.cy a) x:=fun x=>by exact Ac
 have q3:S.q3 a=((S.s.j0 a).eO (S.j2 a) S.r).2.filter (fun e=>(S.s.j0 a).al (S.cy a) e.1):=by show((((S.s.j0 a).eO (S.j2 a) S.r).2.filter (fun e=>(S.s.j0 a).al (S.cy a) e.1)).map fun e=>((S.s.j0 a).nw (S.cy a) e.1,(S.s.j0 a).nw (S.cy a) e.2))=_;exact Ae
 have n:(S.k5 a).tS (S.cz a,S.q3 a) (S.r3 a)=(S.cz a,S.q3 a):=uo (fun e he=>by rw[m];exact q8 j e he)
 unfold ck.dA;rw[l,aE Z];show eQ (dK ct) (fun s x=>(S.k5 a).al s.1 x) _ (fun s x=>(S.k5 a).nw s.1 x) (S.cz a,S.q3 a) (S.r3 a)=_;unfold eQ;have e:fi (dK ct) (fun s x=>(S.k5 a).al s.1 x) (S.k5 a).co (S.cz a,S.q3 a) (S.r3 a)=(S.cz a,S.q3 a):=n;rw[e];show((S.q3 a).filter (fun e=>(S.k5 a).al (S.cz a) e.1)).map (fun e=>((S.k5 a).nw (S.cz a) e.1,(S.k5 a).nw (S.cz a) e.2))=_;have o:(S.q3 a).filter (fun e=>(S.k5 a).al (S.cz a) e.1)=S.q3 a:=List.filter_eq_self.2 (fun e he=>by rw[m];rw[q3] at he;exact(List.mem_filter.1 he).2)
 rw[o,q3];refine List.map_congr_left (fun e _=>?_)
 rw[b8.j8 _ _ i t3,b8.j8 _ _ i t3]
end
theorem HH {k:b8}{j:ct}{x:Int}(b:k.jt x=true)(c:j.f (cf x)≠-1)(g:0<=j.f (cf x)/\j.f (cf x)<1000000):k.nw j x=ew 3 (j.f (cf x))/\cX (k.nw j x)=true/\cf (k.nw j x)=j.f (cf x):=by
 have e:k.nw j x=ew 3 (j.f (cf x)):=by unfold b8.nw;rw[b,beq_false_of_ne c];rfl
 obtain⟨n,d⟩:∃n:Nat,j.f (cf x)=n:=⟨(j.f (cf x)).toNat,V⟩
 obtain⟨w1,f⟩:=mU n V;rw[e,d];exact⟨rfl,w1,f⟩
section
variable {a:Wc}{S:ck}{Y G:List Int}
end
section
variable {a:Wc}{S:ck}{G:List Int}
end
def jn (a:Wc)(W:ck):Prop:=∀e,(e∈W.r\/e∈W.q)->tB a.N W.s.y W.s.g W.s.ws e.1=true/\tB a.N W.s.y W.s.g W.s.ws e.2=true
section
variable {a:Wc}{S:ck}{Y G:List Int}
theorem iW {N O y g:Nat}{ws Y G:List Int}(h:d6 N y g ws Y G)(hN:N<=256)(hy:y<=N)(hO:O<=1024)(hg:g<=O){x:Int}:tB N y g ws x=true↔cX x=true/\(cf x∈Y\/cf x∈G):=by
 refine⟨zz h hN hy hO hg,fun⟨b,c⟩=>?_⟩
 obtain⟨d,e⟩:=h.lists hN hy hO hg;unfold tB;rw[b,d,e];rcases c with q|q
 ·rw[List.contains_iff_mem.2 q];rfl
 ·rw[List.contains_iff_mem.2 q,Bool.or_true];rfl
theorem q9 (h:em a S.s Y G)(b:cI a S.s){x:Int}:(S.s.j0 a).jt x=true↔tB a.N S.s.y S.s.g S.s.ws x=true:=by
 obtain⟨_,_,e⟩:=kK h.inv.full b;rw[iW h.inv.full b.n1 b.y1 b.o1 b.g1];unfold b8.jt;rw[e,ba];constructor
 ·rintro⟨c,d⟩
  exact⟨c,(List.mem_append.1 (List.contains_iff_mem.1 d)).symm⟩
 ·rintro⟨c,d⟩
  exact⟨c,List.contains_iff_mem.2 (List.mem_append.2 d.symm)⟩
theorem jn.ok (h:jn a S)(hk:em a S.s Y G)(b:cI a S.s):kL (S.s.j0 a) S.r/\kL (S.s.j0 a) S.q:=
 ⟨fun e he=>⟨(q9 hk b).2 (h e (aJ he)).1,(q9 hk b).2 (h e (aJ he)).2⟩,fun e he=>⟨(q9 hk b).2 (h e (aI he)).1,(q9 hk b).2 (h e (aI he)).2⟩⟩
theorem HI (v:cU (S.s.j0 a) gF)(w:kL (S.s.j0 a) S.r)(hq:kL (S.s.j0 a) S.q):∀e∈((S.s.j0 a).eO (S.j2 a) S.r).2,(S.s.j0 a).jt e.1=true/\(S.s.j0 a).jt e.2=true:=by
 obtain⟨x,_,_⟩:=(cZ.start v).cJ 12;obtain⟨A,_,i⟩:=cZ.sp (t:=((S.s.j0 a).cJ gF 12,S.q)) x;have i:(S.j2 a).2=S.q:=i;have key:∀(n:Nat)(t:ct×List bZ)(d:List bZ),fE (S.s.j0 a) t.1 t.2->kL (S.s.j0 a) t.2->kL (S.s.j0 a) d->kL (S.s.j0 a) (eD (S.s.j0 a).fu n t d).1.2:=fun n=>by
  have pl:∀(l:List bZ)(u:List bZ×List bZ×(ct×List bZ)),fE (S.s.j0 a) u.2.2.1 u.2.2.2->kL (S.s.j0 a) u.2.2.2->kL (S.s.j0 a) l->kL (S.s.j0 a) (l.foldl (ej (S.s.j0 a).fu) u).2.2.2:=fun l=>by
   induction l with
   |nil=>intro u _ g _;exact g
   |cons e l j=>
    intro u m g hl;have o:(ej (S.s.j0 a).fu u e).2.2=((S.s.j0 a).fu u.2.2 e).2:=by unfold ej;split<;>rfl
    refine j _ (by rw[o];exact(m.cm e).1) ?_ (fun b f=>hl b (aO _ f))
    rw[o];cases c:(S.s.j0 a).al u.2.2.1 e.1
    ·have k:(S.s.j0 a).fu u.2.2 e=(false,u.2.2):=nu c;rw[k];exact g
    ·obtain⟨_,_,B,_⟩:=m.jE.ke e.2;have k:(S.s.j0 a).fu u.2.2 e=(true,(((S.s.j0 a).ke u.2.2 e.2).2.1,u.2.2.2++[e])):=by refine(ny (s:=u.2.2) c).trans ?_;show(true,(((S.s.j0 a).ke u.2.2 e.2).2.1,((S.s.j0 a).ke u.2.2 e.2).2.2++[(e.1,e.2)]))=_;rw[B]
     rw[k];intro b f;rcases List.mem_append.1 f with f|f
     ·exact g b f
     ·rw[List.mem_singleton.1 f];exact hl e Z
  induction n with
  |zero=>intro t d _ ht _;exact ht
  |succ n j=>
   intro t d p ht hd;have q:=pl d ([],[],t) p ht hd;by_cases c:(pts (S.s.j0 a).fu t d).1.length=0
   ·rw[lN _ _ _ _ c];exact q
   ·rw[lO _ _ _ _ c];exact j _ _ (fE.pl d ([],[],t) p).1 q (fun e he=>hd e (sy _ t d e (aI he)))
 exact key _ (S.j2 a) _ A (by rw[i];exact hq) (fun e he=>w e (List.mem_filter.1 he).1)
theorem jn.dA (h:jn a S)(hk:em a S.s Y G)(b:cI a S.s):jn a (S.dA a):=by
 cases hf:S.fD a
 ·have o:=cU.start b.n1 b.o1 b.y1 b.g1;obtain⟨A,hq⟩:=h.ok hk b;obtain⟨p,F,_⟩:=nW o;obtain⟨_,_,B⟩:=kK hk.inv.full b;obtain⟨_,g,s⟩:=l4 hk b hf;obtain⟨H,B1⟩:=g.gc.inv hk b g.al;have hN:=b.n1;have hO:=b.o1;have M:=g.gc.g;have bnd:∀c∈G++Y,(S.cz a).f c≠-1->0<=(S.cz a).f c/\(S.cz a).f c<1000000:=fun c hc I=>by
   have q1:=g.gc.bd c hc I;have d:=di (ld a.N S.s.y S.s.g S.s.ws c)
   omega
  have J:∀x,(S.s.j0 a).jt x=true->(S.s.j0 a).al (S.cy a) x=true->(S.cz a).f (cf x)≠-1:=fun x f ha q=>by
   have hm:=nV f;rw[B] at hm;unfold b8.al at ha;have d:(S.s.j0 a).cQ (S.cy a) x=false:=by simpa using ha
   exact(b8.pm f).1 d ((g.iff _ hm).1 q)
  have key:∀x,(S.s.j0 a).jt x=true->(S.s.j0 a).al (S.cy a) x=true->tB a.N (S.dA a).s.y (S.dA a).s.g (S.dA a).s.ws ((S.s.j0 a).nw (S.cz a) x)=true:=fun x f ha=>by
   have hm:=nV f;rw[B] at hm;have t:=J x f ha;obtain⟨_,d,q3⟩:=HH f t (bnd _ hm t)
   refine(iW H.inv.full B1.n1 B1.y1 B1.o1 B1.g1).2 ⟨d,aI ?_⟩
   rw[q3];exact un.2 ⟨_,hm,t,rfl⟩
  obtain⟨_,l,t3,_⟩:=pt ⟨b.l1,b.y1,b.g1⟩ b.r1 o.nd (n5 hk.inv.full b) (pz hk.inv.full b)
  have l:=l;have t3:=t3;intro e he;rcases he with he|he
  ·have u:(S.dA a).r=(S.k5 a).tR (S.cz a,S.q3 a) (S.r3 a):=by unfold ck.dA;rw[hf,aE Z]
   rw[u] at he;have he:e∈(((S.r3 a).filter (fun e=>(S.k5 a).al (S.cz a) e.2)).filter (fun e=>(S.k5 a).al ((S.k5 a).tS (S.cz a,S.q3 a) (S.r3 a)).1 e.1)).map fun e=>((S.k5 a).nw ((S.k5 a).tS (S.cz a,S.q3 a) (S.r3 a)).1 e.1,(S.k5 a).nw ((S.k5 a).tS (S.cz a,S.q3 a) (S.r3 a)).1 e.2):=he;have s:((S.k5 a).tS (S.cz a,S.q3 a) (S.r3 a)).1=S.cz a:=s;rw[s] at he;obtain⟨i,v,w⟩:=List.mem_map.1 he;have j:=(List.mem_filter.1 (List.mem_filter.1 v).1).1;have j:i∈((S.r.filter (fun e=>(S.s.j0 a).al (S.j2 a).1 e.2)).filter (fun e=>(S.s.j0 a).al (S.cy a) e.1)).map fun e=>((S.s.j0 a).nw (S.cy a) e.1,(S.s.j0 a).nw (S.cy a) e.2):=j;obtain⟨K,m,n⟩:=List.mem_map.1 j;obtain⟨L,C⟩:=List.mem_filter.1 m;obtain⟨D,E⟩:=List.mem_filter.1 L;rw[p.jE.nw,p.jE.nw] at n;have n:K=i:=n;rw[n] at C D E;obtain⟨q1,d⟩:=A i D;rw[<-w,b8.j8 (k:=S.k5 a) _ _ l t3,b8.j8 (k:=S.k5 a) _ _ l t3];exact⟨key _ q1 C,key _ d (zs F E)⟩
  ·rw[Af hk b hf] at he;obtain⟨i,v,w⟩:=List.mem_map.1 he;obtain⟨j,m⟩:=List.mem_filter.1 v;obtain⟨q1,d⟩:=HI o A hq i j;rw[<-w];refine⟨key _ q1 m,key _ d ?_⟩
   rcases p.wq i j with q|q
   ·exact q
   ·rw[m] at q;cases q
 ·have u:S.dA a=S:=by unfold ck.dA;rw[aH hf]
  rw[u];exact h
theorem jn.more {W:ck}{b:ec}{f g:List Int}(h:jn a W)(hk:em a W.s Y G)(c:cI a W.s)(i:d6 a.N b.y b.g b.ws f g)(hy:b.y<=a.N)(hg:b.g<=a.O)(hs:∀v,(v∈Y\/v∈G)->(v∈f\/v∈g)):jn a ⟨b,W.r,W.q⟩:=fun e he=>by
 have key:∀x,tB a.N W.s.y W.s.g W.s.ws x=true->tB a.N b.y b.g b.ws x=true:=fun x j=>by obtain⟨q1,d⟩:=(iW hk.inv.full c.n1 c.y1 c.o1 c.g1).1 j;exact(iW i c.n1 hy c.o1 hg).2 ⟨q1,hs _ d⟩
 obtain⟨q1,d⟩:=h e he;exact⟨key _ q1,key _ d⟩
end
def jJ (k:ca)(z:C0)(x:Int):Prop:=cX x=true/\(cf x∈k.T\/cf x∈z.G)
def gK (k:ca)(z:C0)(s:ch)(q:List bZ):Prop:=∀e∈q,jJ k z e.1/\∃b,jJ k z b/\k.ml s b e.2
def uq (k:ca)(s:ch)(q:List bZ):Prop:=∀e∈q,k.al s e.2=true\/k.al s e.1=false
section
variable {k:ca}{z:C0}{s t u:ch}{D H:List Int}{q:List bZ}
theorem gK.iL (h:gK k z s q)(p:df k s t):gK k z t q:=fun e he=>by obtain⟨b,c,d,f⟩:=h e he;exact⟨b,c,d,p.ml f⟩
theorem pB (p:df k s t){x:Int}(h:k.al s x=true):k.al t x=true:=by
 unfold ca.al ca.ls at h⊢;cases c:k.cK x
 ·rfl
 ·rw[c] at h;have b:s.f (cf x)≠-1:=by intro e;rw[e] at h;simp at h
  rw[p.f _ b];simpa using b
theorem q_ {x:Int}(h:k.cK x=false):k.al s x=true:=by unfold ca.al ca.ls;rw[h];rfl
theorem gK.kI:∀(l:List Nat)(t:(ch×List bZ)×Bool)(H:List Int),LI k z t.1.1 H D->dL k z t.1.1 H->(∀i∈l,i<t.1.2.length)->gK k z t.1.1 t.1.2->gK k z (l.foldl (dB k.al k.br) t).1.1 (l.foldl (dB k.al k.br) t).1.2
 |[],_,_,_,_,_,e=>e
 |i::l,t,H,h,w,hl,e=>by
  rw[a8];by_cases c:(k.al t.1.1 (t.1.2.getD i (0,0)).2||!k.al t.1.1 (t.1.2.getD i (0,0)).1)=true
  ·have b:dB k.al k.br t i=t:=by unfold dB;rw[aH c]
   rw[b];exact gK.kI l t H h w (fun j d=>hl j (aO _ d)) e
  ·have b:dB k.al k.br t i=(((k.br t.1.1 (t.1.2.getD i (0,0)).2).2,t.1.2.set i ((t.1.2.getD i (0,0)).1,(k.br t.1.1 (t.1.2.getD i (0,0)).2).1)),true):=by unfold dB;rw[aE c]
   have hi:=hl i Z;have hm:t.1.2.getD i (0,0)∈t.1.2:=by rw[aC,aG hi];exact a6 hi
   obtain⟨g,l1,w1,m,_⟩:=cW.br _ H h w;obtain⟨_,_,_,_,_,m1,_⟩:=h.mi.br _;rw[b];refine gK.kI l _ g l1 w1 (fun j d=>?_) ?_
   ·show j<(t.1.2.set i _).length;rw[aX];exact hl j (aO _ d)
   ·intro n hd;have hd:=hd;rcases bB hd with hd|rfl
    ·exact e.iL m n hd
    ·obtain⟨g1,f,g2,g3⟩:=e _ hm;exact⟨g1,f,g2,m1 f g3⟩
theorem gK.wa {t:ch×List bZ}(h:LI k z t.1 H D)(w:dL k z t.1 H)(e:gK k z t.1 t.2):gK k z (k.wa t).1.1 (k.wa t).1.2:=
 gK.kI _ (t,false) H h w (fun _ hi=>List.mem_range.1 hi) e
theorem gK.cV:∀(n:Nat)(t:ch×List bZ)(H:List Int),LI k z t.1 H D->dL k z t.1 H->gK k z t.1 t.2->gK k z (k.cV n t).1 (k.cV n t).2
 |0,_,_,_,_,e=>e
 |n+1,t,H,h,w,e=>by
  obtain⟨g,l1,w1,i,_⟩:=cW.lb (k.O+1) H h w;obtain⟨c,l2,b,j,_⟩:=cW.kv g l1 w1;have d:=e.iL (i.trans j)
  obtain⟨l,m,w3,_,_⟩:=cW.wa ((k.kv _).2,t.2) c l2 b;have f:=gK.wa (t:=((k.kv _).2,t.2)) l2 b d;unfold ca.cV;split
  ·exact gK.cV n ((k.kv _).2,t.2) c l2 b d
  ·split
   ·exact gK.cV n _ l m w3 f
   ·exact f
theorem Ag (k:ca):∀(l:List Nat)(t:(ch×List bZ)×Bool),(l.foldl (dB k.al k.br) t).2=false->∀i∈l,k.al t.1.1 (t.1.2.getD i (0,0)).2=true\/k.al t.1.1 (t.1.2.getD i (0,0)).1=false
 |[],_,_,_,hi=>by cases hi
 |j::l,t,h,i,hi=>by
  rw[a8] at h;obtain⟨_,b⟩:=ue k l _ h;by_cases c:(k.al t.1.1 (t.1.2.getD j (0,0)).2||!k.al t.1.1 (t.1.2.getD j (0,0)).1)=true
  ·have d:dB k.al k.br t j=t:=by unfold dB;rw[aH c]
   rw[d] at h;rcases List.mem_cons.1 hi with rfl|hi
   ·simpa using c
   ·exact Ag k l t h i hi
  ·unfold dB at b;rw[aE c] at b;cases b
theorem re:∀(n:Nat)(t:ch×List bZ)(H:List Int),LI k z t.1 H D->dL k z t.1 H->ei k t.1->k.mu t.1<n->uq k (k.cV n t).1 (k.cV n t).2
 |0,t,H,_,_,_,e=>absurd e V
 |n+1,t,H,h,w,g,e=>by
  obtain⟨B,l1,w1,_,_,_⟩:=LI.po (k.O+1) h w;obtain⟨c1,c2,c3⟩:=CI.lb h.mi.ci g (k.O+1)
  obtain⟨j,b,C,l⟩:=CI.kv c1 c2;obtain⟨c,l2,d,_,_⟩:=l1.kv w1;unfold ca.cV;cases hk:(k.kv _).1
  ·rw[aE Z];obtain⟨E,m,F,G,o⟩:=CI.wa (s:=((k.kv _).2,t.2)) j b;cases hw:(k.wa ((k.kv _).2,t.2)).2
   ·rw[aE Z,uf k _ hw];intro p hd;obtain⟨i,hi,u⟩:=List.mem_iff_getElem.1 hd;have q:=Ag k _ (((k.kv _).2,t.2),false) hw i (List.mem_range.2 hi)
    have v:t.2.getD i (0,0)=p:=by rw[aC,aG hi,u];rfl
    rw[v] at q;exact q
   ·obtain⟨x,A,w3,_,_⟩:=cW.wa ((k.kv _).2,t.2) c l2 d;have f:=o hw;dsimp only at f;exact re n _ x A w3 m V
  ·rw[aH rfl];have f:=l hk;exact re n ((k.kv _).2,t.2) c l2 d b (by dsimp only;omega)
def gL (k:ca)(z:C0)(D:List Int)(t:ch×List bZ):Prop:=∃H,LI k z t.1 H D/\dL k z t.1 H/\ei k t.1/\gK k z t.1 t.2/\uq k t.1 t.2
theorem gL.sp {t:ch×List bZ}(h:LI k z t.1 H D)(w:dL k z t.1 H)(b:ei k t.1)(e:gK k z t.1 t.2):gL k z D (k.sp t):=by obtain⟨K,m1,c,_,_⟩:=cW.sp t H h w;exact⟨K,m1,c,(pv _ t h.mi.ci b).2,gK.cV _ t H h w e,re _ t H h w b V⟩
theorem gL.cm {t:ch×List bZ}(h:gL k z D t){e:bZ}(i:jJ k z e.1)(j2:jJ k z e.2):gL k z D (cm (dK ch) (fun s x=>k.al s.1 x) k.ke t e).2:=by
 cases c:k.al t.1 e.1
 ·rw[nu (o:=dK ch) (is:=fun s x=>k.al s.1 x) (kp:=k.ke) (s:=t) (e:=e) c];exact h
 ·rw[ny (o:=dK ch) (is:=fun s x=>k.al s.1 x) (kp:=k.ke) (s:=t) (e:=e) c];obtain⟨H,d,j,f,l,C⟩:=h;obtain⟨m,l1,w1,n,_⟩:=cW.br (k:=k) (z:=z) (D:=D) (s:=t.1) e.2 H d j;obtain⟨_,_,_,y1,_,m1,_⟩:=d.mi.br e.2;obtain⟨_,p,q,g⟩:=lX k t.1 e.2;have u:ei k (k.br t.1 e.2).2:=⟨by rw[p,g];exact f.wk,by rw[q,g];exact f.ep⟩
  obtain⟨K,q1,v,q3,w,A⟩:=gL.sp (t:=((k.br t.1 e.2).2,t.2)) l1 w1 u (l.iL n)
  obtain⟨_,_,_,B,_⟩:=cW.sp (k:=k) (z:=z) (D:=D) ((k.br t.1 e.2).2,t.2) m l1 w1;show gL k z D ((k.sp ((k.br t.1 e.2).2,t.2)).1,(k.sp ((k.br t.1 e.2).2,t.2)).2++[(e.1,(k.br t.1 e.2).1)])
  refine⟨K,q1,v,q3,fun b hd=>?_,fun b hd=>?_⟩
  ·rcases List.mem_append.1 hd with hd|hd
   ·exact w b hd
   ·rw[List.mem_singleton.1 hd];exact⟨i,e.2,j2,B.ml (m1 _ (aJ rfl))⟩
  ·rcases List.mem_append.1 hd with hd|hd
   ·exact A b hd
   ·rw[List.mem_singleton.1 hd];exact aJ (q_ y1)
theorem gL.pl:∀(l:List bZ)(u:List bZ×List bZ×(ch×List bZ)),gL k z D u.2.2->(∀e∈l,jJ k z e.1/\jJ k z e.2)->gL k z D (l.foldl (ej (Go.Proofs.YtjpjpjemibgjpaaGreat.cm (dK ch) (fun s x=>k.al s.1 x) k.ke)) u).2.2
 |[],_,h,_=>h
 |e::l,u,h,hl=>by
  have key:(ej (Go.Proofs.YtjpjpjemibgjpaaGreat.cm (dK ch) (fun s x=>k.al s.1 x) k.ke) u e).2.2=(Go.Proofs.YtjpjpjemibgjpaaGreat.cm (dK ch) (fun s x=>k.al s.1 x) k.ke u.2.2 e).2:=by unfold ej;split<;>rfl
  refine gL.pl l _ ?_ (fun b hd=>hl b (aO _ hd))
  rw[key];exact h.cm (hl e Z).1 (hl e Z).2
theorem gL.eD:∀(n:Nat)(t:ch×List bZ)(b:List bZ),gL k z D t->(∀e∈b,jJ k z e.1/\jJ k z e.2)->gL k z D (eD (Go.Proofs.YtjpjpjemibgjpaaGreat.cm (dK ch) (fun s x=>k.al s.1 x) k.ke) n t b).1
 |0,_,_,h,_=>h
 |n+1,t,b,h,hd=>by
  have d:=gL.pl b ([],[],t) h hd;have d:gL k z D (pts (Go.Proofs.YtjpjpjemibgjpaaGreat.cm (dK ch) (fun s x=>k.al s.1 x) k.ke) t b).2.2:=d;by_cases c:(pts (Go.Proofs.YtjpjpjemibgjpaaGreat.cm (dK ch) (fun s x=>k.al s.1 x) k.ke) t b).1.length=0
  ·rw[lN _ _ _ _ c];exact d
  ·rw[lO _ _ _ _ c];exact gL.eD n _ _ d (fun e he=>hd e (sy _ t b e (aI he)))
theorem Ah (k:ca):∀(l:List Int)(s:ch),(l.foldl k.eF s).g=s.g
 |[],_=>rfl
 |x::l,s=>by rw[a8,Ah k l];unfold ca.eF;split<;>rfl
theorem Ai (k:ca):∀(l:List Int)(s:ch),(l.foldl k.gt s).g=s.g
 |[],_=>rfl
 |x::l,s=>by rw[a8,Ai k l];rfl
end
section
variable {a:Wc}{S:ck}{Y G:List Int}
theorem HL (h:em a S.s Y G)(hb:cI a S.s)(p:S.s.y<=a.O-S.s.g)(he:jn a S):∃D,gL (S.s.k0 a) (S.s.z0 G) D ((S.s.k0 a).eO (S.t3 a) S.r)/\df (S.s.k0 a) (S.t3 a).1 (S.s4 a):=by
 have q:(S.s.k0 a).T=Y:=n3 h.inv.full hb.n1 hb.y1 hb.o1 hb.g1;have d:∀x,tB a.N S.s.y S.s.g S.s.ws x=true->jJ (S.s.k0 a) (S.s.z0 G) x:=fun x f=>by
  obtain⟨q1,q2⟩:=(iW h.inv.full hb.n1 hb.y1 hb.o1 hb.g1).1 f;refine⟨q1,?_⟩
  rw[q];exact q2
 have i:=LI.start h.inv.full hb.n0 hb.n1 hb.o1 hb.y1 hb.g1 hb.l1 p;obtain⟨H1,c,s,⟨I,u⟩,l1,y1,_,m1⟩:=i.cJ 12 (by show 12<=S.s.rs.length;rw[hb.r1];exact aA _)
 have j:dw a.N S.s.y (S.s.s1 a).g (S.s.s1 a).ws=G++H1:=(c.mi.full.lists hb.n1 hb.y1 hb.o1 c.mi.ci.hg).2;have v:(S.s.s1 a).nx=((S.s.k0 a).N:Int)+(S.s.z0 G).g:=(lj _ _ 12).2.2;have A:d5 ((S.s.k0 a).l0 (S.s.z0 G)) (((S.s.k0 a).N:Int)+(S.s.z0 G).g) (S.s.k0 a).N (S.s.z0 G).G:=h.inv.full.ee;obtain⟨k,g,m,n,B,⟨J,L⟩,_,hD⟩:=LI.pu (dU a.O) S.s.M A (G++H1) c ((dL.start a S.s G).cJ i.mi 12 c.mi s ⟨_,u⟩) (fun x f=>(List.mem_append.1 f).imp id (fun C=>c.mi.hlo x C))
 have E:(G++H1).foldl ((S.s.k0 a).ga (((S.s.k0 a).N:Int)+(S.s.z0 G).g) (dU a.O) S.s.M) ((S.s.k0 a).cJ (S.s.s0 a) 12)=S.s.s2 a:=by unfold ec.s2 ca.lm;rw[j,v];rfl
 have hlen:=qY (S.s.k0 a) (((S.s.k0 a).N:Int)+(S.s.z0 G).g) (dU a.O) S.s.M (G++H1) ((S.s.k0 a).cJ (S.s.s0 a) 12)
 rw[E] at m n B hlen;have M:(G++H1).length<=2000:=by rw[<-j];exact iz _ _
 obtain⟨q1,q2,q3⟩:=lj _ _ 12;have cb:ei (S.s.k0 a) (S.s.s2 a):=by exact uh
 have key:∀s2:ch,LI (S.s.k0 a) (S.s.z0 G) s2 k g->dL (S.s.k0 a) (S.s.z0 G) s2 k->ei (S.s.k0 a) s2->_:=fun s2 l w b=>
  gL.sp (t:=(s2,S.q)) l w b (fun e hq=>⟨d _ (he e (aI hq)).1,e.2,d _ (he e (aI hq)).2,aJ rfl⟩)
 have o:gL (S.s.k0 a) (S.s.z0 G) g (S.t3 a):=by exact key _ m n cb
 refine⟨g,gL.eD _ (S.t3 a) _ o (fun e hq=>?_),?_⟩
 ·have hq:=(List.mem_filter.1 hq).1;exact⟨d _ (he e (aJ hq)).1,d _ (he e (aJ hq)).2⟩
 ·obtain⟨K,r1,F,_⟩:=o;obtain⟨_,_,_,H,_⟩:=cW.eO (S.t3 a) S.r K r1 F;exact H
theorem jn.cut (h:em a S.s Y G)(b:cI a S.s)(he:jn a S):jn a (S.cut a):=by
 cases hf:S.full a
 ·have A:S.s.y<=a.O-S.s.g:=by have:=of_decide_eq_false hf;omega
  obtain⟨K,D,c⟩:=qZ h b A;obtain⟨ab,⟨H,s1,s2,_,s4,s5⟩,iL⟩:=HL h b A he;have J:(S.s.k0 a).T=Y:=n3 h.inv.full b.n1 b.y1 b.o1 b.g1;have hN:=b.n1;have hO:=b.o1;have hg:=c.li.mi.ci.hg;have ad:(S.s.k0 a).N=a.N:=rfl;have ag:(S.s.k0 a).O=a.O:=rfl;have L:(S.s6 a).g=(S.s4 a).g:=(Ai _ _ _).trans (Ah _ _ _)
  have i:S.cut a=⟨⟨0,(S.s6 a).g,(S.s6 a).ws,[],(S.s6 a).rs⟩,(S.s.k0 a).sR (S.t3 a) S.r,(S.s.k0 a).i5 (S.t3 a) S.r⟩:=by unfold ck.cut;rw[aE (by rw[hf];simp)]
  have t:∀x,cX x=true->cf x∈G++K->tB a.N (S.cut a).s.y (S.cut a).s.g (S.cut a).s.ws x=true:=fun x j k=>by rw[i];exact(iW (O:=a.O) (c.done h b).full hN (aS _) hO (by rw[L];exact hg)).2 ⟨j,aI k⟩
  have B:∀v∈(S.s.k0 a).T,(S.s4 a).f v≠-1->cX (ew 3 ((S.s4 a).f v))=true/\cf (ew 3 ((S.s4 a).f v))∈G++K:=fun v M N=>by
   have C:=c.li.mi.fh _ M N;have ai:=c.li.mi.iV C;obtain⟨n,u⟩:∃n:Nat,(S.s4 a).f v=n:=⟨((S.s4 a).f v).toNat,V⟩
   rw[u];obtain⟨w1,f⟩:=mU n V;rw[f,<-u];rw[<-u] at w1;exact⟨w1,bc _ C⟩
  have E:∀x,(S.s.k0 a).cK x=true->cf x∈(S.s.k0 a).T:=fun x l=>by unfold ca.cK at l;rw[ba] at l;simpa using l.2
  have key:∀x,jJ (S.s.k0 a) (S.s.z0 G) x->(S.s.k0 a).al (S.s4 a) x=true->tB a.N (S.cut a).s.y (S.cut a).s.g (S.cut a).s.ws ((S.s.k0 a).nw (S.s4 a) x)=true:=fun x m ha=>by
   cases hy:(S.s.k0 a).cK x
   ·have d:(S.s.k0 a).nw (S.s4 a) x=x:=by unfold ca.nw;rw[hy];rfl
    rw[d];refine t x m.1 (aZ _ ?_)
    rcases m.2 with q|q
    ·unfold ca.cK at hy;rw[m.1] at hy;simp at hy;exact absurd q hy
    ·exact q
   ·have F:(S.s4 a).f (cf x)≠-1:=fun e=>by unfold ca.al ca.ls at ha;rw[hy,e] at ha;simp at ha
    have d:(S.s.k0 a).nw (S.s4 a) x=ew 3 ((S.s4 a).f (cf x)):=by unfold ca.nw;rw[hy,aH (by simp[F])]
    rw[d];obtain⟨w1,f⟩:=B _ (E x hy) F;exact t _ w1 f
  have P:∀g x,jJ (S.s.k0 a) (S.s.z0 G) g->(S.s.k0 a).ml (S.s4 a) g x->(S.s.k0 a).al (S.s4 a) x=true->tB a.N (S.cut a).s.y (S.cut a).s.g (S.cut a).s.ws ((S.s.k0 a).nw (S.s4 a) x)=true:=fun g x m hm ha=>by
   rcases hm with rfl|⟨m1,Q,R⟩
   ·exact key _ m ha
   ·obtain⟨w1,f⟩:=B _ (E g m1) Q;rw[<-R] at w1 f;have d:(S.s.k0 a).nw (S.s4 a) x=x:=by unfold ca.nw;rw[(c.li.mi.nZ f)];rfl
    rw[d];exact t _ w1 f
  have I:∀x,tB a.N S.s.y S.s.g S.s.ws x=true->jJ (S.s.k0 a) (S.s.z0 G) x:=fun x l=>by
   obtain⟨q1,U⟩:=(iW (O:=a.O) h.inv.full b.n1 b.y1 b.o1 b.g1).1 l;refine⟨q1,?_⟩
   rw[J];exact U
  intro e hm;rcases hm with hm|hm
  ·have d:(S.cut a).r=(S.s.k0 a).sR (S.t3 a) S.r:=by rw[i]
   rw[d] at hm;have hm:=hm;obtain⟨o,j,k⟩:=List.mem_map.1 hm;obtain⟨p,s⟩:=List.mem_filter.1 j;obtain⟨W,X⟩:=List.mem_filter.1 p;obtain⟨w,j2⟩:=he o (aJ W)
   rw[<-k];exact⟨key _ (I _ w) s,key _ (I _ j2) (pB iL X)⟩
  ·have d:(S.cut a).q=(S.s.k0 a).i5 (S.t3 a) S.r:=by rw[i]
   rw[d] at hm;have hm:e∈(((S.s.k0 a).eO (S.t3 a) S.r).2.filter (fun e=>(S.s.k0 a).al (S.s4 a) e.1)).map fun e=>((S.s.k0 a).nw (S.s4 a) e.1,(S.s.k0 a).nw (S.s4 a) e.2):=hm;obtain⟨o,j,k⟩:=List.mem_map.1 hm;obtain⟨p,s⟩:=List.mem_filter.1 j;obtain⟨w,g,j2,cy⟩:=s4 o p;rw[<-k];refine⟨key _ w s,P g _ j2 cy ?_⟩
   rcases s5 o p with q|q
   ·exact q
   ·have q:(S.s.k0 a).al (S.s4 a) o.1=false:=q;rw[s] at q;cases q
 ·have i:S.cut a=S:=by unfold ck.cut;rw[aH hf]
  rw[i];exact he
end
def wv (m:Nat->Int)(v:Int×Int):Int:=if v.1=3 then ew 3 (m v.2.toNat) else ew v.1 v.2
def we (m:Nat->Int)(e:bZ):bZ:=(ew 3 (m e.1.toNat),ew 3 (m e.2.toNat))
structure dM (T:List cG)(v:Int×Int):Prop where
 t:v.1=3->0<=v.2/\cH T v.2.toNat
 o:v.1≠3->vc v.1 v.2=0
structure im (T:List cG)(e:bZ):Prop where
 g0:0<=e.1
 g:cH T e.1.toNat
 k:(T.getD e.1.toNat t0).1=5
 h0:0<=e.2
 h:cH T e.2.toNat
structure cw (a:Wc)(S:ck)(W:cj)(m:Nat->Int)(Y G:List Int):Prop where
 kv:em a S.s Y G
 rl:W.rs.length=12
 rv:∀v∈W.rs,dM W.T v
 fv:∀i,cH W.T i->∀v∈(W.T.getD i t0).2.1,dM W.T v
 rs:S.s.rs=W.rs.map (wv m)
 h8:∀i,cH W.T i->(W.T.getD i t0).2.2.1=false->m i∈Y
 old:∀i,cH W.T i->(W.T.getD i t0).2.2.1=true->m i∈G
 inj:∀i j,cH W.T i->cH W.T j->m i=m j->i=j
 fV:∀v,(v∈Y\/v∈G)->∃i,cH W.T i/\m i=v
 hd:∀i,cH W.T i->hc (W.T.getD i t0).1 (W.T.getD i t0).2.1.length=0/\ld a.N S.s.y S.s.g S.s.ws (m i)=hw (W.T.getD i t0).1 (W.T.getD i t0).2.1.length
 fd:∀i,cH W.T i->∀k:Nat,k<(W.T.getD i t0).2.1.length->ld a.N S.s.y S.s.g S.s.ws (m i+1+k)=wv m ((W.T.getD i t0).2.1.getD k (0,0))
 rg:S.r=W.rg.map (we m)
 gv:∀e∈W.rg,im W.T e
 wt:S.q=W.wt.map (we m)
 dz:∀e∈W.wt,im W.T e
 tl:∀i,(W.T.getD i t0).2.1.length<=12
theorem pC {b:Type}(l:List b)(i j:Nat)(x c:b)(h:i<l.length):(l.set i x).getD j c=if i=j then x else l.getD j c:=by exact w8
theorem jK {b c:Type}(f:b->c)(l:List b)(i:Nat)(d:b)(e:c)(h:i<l.length):(l.map f).getD i e=f (l.getD i d):=by rw[aC,bq,aC,aG h];rfl
theorem h9 {m:Nat->Int}{v:Int×Int}(h:v.1=3):wv m v=ew 3 (m v.2.toNat):=by unfold wv;rw[aH h]
theorem i8 {m:Nat->Int}{v:Int×Int}(h:v.1≠3):wv m v=ew v.1 v.2:=by unfold wv;rw[aE h]
theorem ur {T:List cG}{m b:Nat->Int}(h:∀i,cH T i->b i=m i){v:Int×Int}(d:dM T v):wv b v=wv m v:=by
 by_cases c:v.1=3
 ·rw[h9 c,h9 c,h _ (d.t c).2]
 ·rw[i8 c,i8 c]
theorem Aj {T:List cG}{m b:Nat->Int}(h:∀i,cH T i->b i=m i){e:bZ}(he:im T e):we b e=we m e:=by unfold we;rw[h _ he.g,h _ he.h]
theorem dM.of {T:List cG}{k n:Int}(b:k≠3)(h:vc k n=0):dM T (k,n):=⟨fun e=>absurd e b,fun _=>h⟩
theorem dM.nil (T:List cG):dM T (0,0):=dM.of aa aa
theorem dM.mono {T c:List cG}(h:∀i,cH T i->cH c i){v:Int×Int}(b:dM T v):dM c v:=⟨fun e=>⟨(b.t e).1,h _ (b.t e).2⟩,b.o⟩
theorem HM {N y g:Nat}{ws Y G:List Int}(h:d6 N y g ws Y G)(hy:y<=N){u v i j:Int}(b:u∈Y\/u∈G)(c:v∈Y\/v∈G)(f:0<=i)(k:i<pf (ld N y g ws u))(j0:0<=j)(l:j<pf (ld N y g ws v))(e:u+1+i=v+1+j):u=v:=by
 rcases b with b|b<;>rcases c with c|c
 ·rcases Int.lt_trichotomy u v with d|d|d
  ·have:=h.ty.apart u b v c d;omega
  ·exact d
  ·have:=h.ty.apart v c u b d;omega
 ·have m:=mV h b f k;have n:=mW h c j0 l;omega
 ·have m:=mV h c j0 l;have n:=mW h b f k;omega
 ·exact zL h b c f k j0 l e
section
variable {a:Wc}{S:ck}{W:cj}{m:Nat->Int}{Y G:List Int}
theorem cw.mem (h:cw a S W m Y G){i:Nat}(hi:cH W.T i):m i∈Y\/m i∈G:=by
 cases e:(W.T.getD i t0).2.2.1
 ·exact aJ (h.h8 i hi e)
 ·exact aI (h.old i hi e)
theorem cw.bd (h:cw a S W m Y G)(b:cI a S.s){i:Nat}(hi:cH W.T i):0<=m i/\m i<1280:=by
 have d:=b.n1;have e:=b.o1;have f:=b.y1;have g:=b.g1;rcases h.mem hi with c|c
 ·have:=h.kv.inv.full.ii _ c;omega
 ·have:=h.kv.inv.full.io _ c;omega
theorem cw.word (h:cw a S W m Y G)(c:cI a S.s){i:Nat}(hi:cH W.T i):vc 3 (m i)=0/\cX (ew 3 (m i))=true/\cf (ew 3 (m i))=m i:=by have hB:=h.bd c hi;have h0:=l_ (m i) hB.1 V;have b:=m6 3 (m i) h0;exact⟨h0,b.1,b.2 rfl⟩
theorem cw.vt (h:cw a S W m Y G)(c:cI a S.s){v:Int×Int}(d:dM W.T v)(b:v.1=3):cX (wv m v)=true/\cf (wv m v)=m v.2.toNat:=by rw[h9 b];exact(h.word c (d.t b).2).2
theorem dM.no {T:List cG}{v:Int×Int}(c:dM T v)(b:v.1≠3):cX (wv m v)=false:=by rw[i8 b,(m6 _ _ (c.o b)).1];simpa using b
theorem cw.ut (h:cw a S W m Y G)(d:cI a S.s){v:Int×Int}(b:dM W.T v):cX (wv m v)=(v.1==3):=by
 by_cases c:v.1=3
 ·rw[(h.vt d b c).1,c];rfl
 ·rw[b.no c];simp[c]
theorem cw.at (h:cw a S W m Y G)(c:cI a S.s){v:Int×Int}(b:dM W.T v)(ha:cX (wv m v)=true):cf (wv m v)∈Y\/cf (wv m v)∈G:=by
 rw[h.ut c b] at ha;have d:v.1=3:=by simpa using ha
 rw[(h.vt c b d).2];exact h.mem (b.t d).2
theorem cw.dec (h:cw a S W m Y G)(d:cI a S.s){v:Int×Int}(b:dM W.T v):dc (wv m v)=0/\dk (wv m v)=v.1/\dv (wv m v)=if v.1=3 then m v.2.toNat else v.2:=by
 by_cases c:v.1=3
 ·rw[h9 c,aH c,c];exact pJ 3 _ (h.word d (b.t c).2).1
 ·rw[i8 c,aE c];exact pJ _ _ (b.o c)
theorem cw.Ak (h:cw a S W m Y G)(f:cI a S.s){v u:Int×Int}(b:dM W.T v)(d:dM W.T u)(e:wv m v=wv m u):v=u:=by
 obtain⟨_,k1,n1⟩:=h.dec f b;obtain⟨_,g,i⟩:=h.dec f d;rw[e] at k1 n1;have eT:=k1.symm.trans g;rw[i] at n1;by_cases c:v.1=3
 ·have c2:=eT▸c
  rw[aH c,aH c2] at n1;have:=h.inj _ _ (d.t c2).2 (b.t c).2 n1;have j:=(b.t c).1;have k:=(d.t c2).1;exact Prod.ext eT V
 ·rw[aE c,aE (eT▸c)] at n1;exact Prod.ext eT n1.symm
theorem cw.parts (h:cw a S W m Y G){i:Nat}(hi:cH W.T i):pk (ld a.N S.s.y S.s.g S.s.ws (m i))=(W.T.getD i t0).1/\pf (ld a.N S.s.y S.s.g S.s.ws (m i))=(W.T.getD i t0).2.1.length/\pc (ld a.N S.s.y S.s.g S.s.ws (m i))=0:=by obtain⟨b,c⟩:=h.hd i hi;rw[c];exact pK _ _ b
theorem cw.tB (h:cw a S W m Y G)(b:cI a S.s){v:Int×Int}(d:dM W.T v):tB a.N S.s.y S.s.g S.s.ws (wv m v)=(v.1==3):=by
 by_cases c:v.1=3
 ·rw[(iW (O:=a.O) h.kv.inv.full b.n1 b.y1 b.o1 b.g1).2 ⟨(h.vt b d c).1,h.at b d (h.vt b d c).1⟩,c];rfl
 ·have e:(v.1==3)=false:=by simpa using c
  rw[e,Bool.eq_false_iff];intro f;have:=((iW (O:=a.O) h.kv.inv.full b.n1 b.y1 b.o1 b.g1).1 f).1;rw[d.no c] at this
  cases this
theorem cw.root (h:cw a S W m Y G){i:Nat}(hi:i<12):S.s.rs.getD i 0=wv m (W.rs.getD i (0,0))/\dM W.T (W.rs.getD i (0,0)):=by
 have hl:i<W.rs.length:=by rw[h.rl];exact hi
 exact⟨by rw[h.rs];exact jK _ _ _ _ _ hl,h.rv _ (getD_in hl)⟩
theorem cw.code (h:cw a S W m Y G)(b:cI a S.s){A:Nat}(i:A<12)(I:Int):dT a.N S.s.y S.s.g S.s.ws (S.s.rs.getD A 0) I=W.gc A I:=by
 obtain⟨e,d⟩:=h.root i;rw[e];unfold dT cj.gc cj.th;rw[h.tB b d];by_cases c:(W.rs.getD A (0,0)).1=3
 ·have f:((W.rs.getD A (0,0)).1==3)=true:=by simpa using c
  obtain⟨z,al⟩:=d.t c;obtain⟨j,k,_⟩:=h.parts al;rw[f,aH rfl,aH c,(h.vt b d c).2,h.kv.inv.full.stands b.y1 (h.mem al),j,k];have l:W.T.getD (W.rs.getD A (0,0)).2.toNat (0,[],false,false)=W.T.getD (W.rs.getD A (0,0)).2.toNat t0:=rfl;rw[l];by_cases c5:(W.T.getD (W.rs.getD A (0,0)).2.toNat t0).1=5
  ·rw[aH c5,aH (aI c5)]
  ·have n:¬((W.rs.getD A (0,0)).2<0\/(W.T.getD (W.rs.getD A (0,0)).2.toNat t0).1=5):=fun g=>g.elim (fun g=>absurd z V) c5;rw[aE c5,aE n]
 ·have f:((W.rs.getD A (0,0)).1==3)=false:=by simpa using c
  rw[f,aE Z,aE c,aH (aJ aa)]
theorem cw.put (h:cw a S W m Y G)(c:cI a S.s)(k:Nat){v:Int×Int}(b:dM W.T v):cw a ⟨{S.s with rs:=S.s.rs.set k (wv m v)},S.r,S.q⟩ {W with rs:=W.rs.set k v} m Y G:=
 {
  kv:=h.kv.root k _ (fun ha=>h.at c b ha),rl:=by rw[aX];exact h.rl
  rv:=fun u d=>(zJ d).elim (h.rv u) (fun e=>by rw[e];exact b),fv:=h.fv
  rs:=by rw[h.rs,List.map_set]
  h8:=h.h8,old:=h.old,inj:=h.inj,fV:=h.fV,hd:=h.hd,fd:=h.fd,rg:=h.rg,gv:=h.gv,wt:=h.wt,dz:=h.dz,tl:=h.tl}
theorem cw.beside (h:cw a S W m Y G){r q:List bZ}(b:∀e∈r,im W.T e)(hq:∀e∈q,im W.T e):cw a ⟨S.s,r.map (we m),q.map (we m)⟩ {W with rg:=r,wt:=q} m Y G:=
 {kv:=h.kv,rl:=h.rl,rv:=h.rv,fv:=h.fv,rs:=h.rs,h8:=h.h8,old:=h.old,inj:=h.inj,fV:=h.fV,hd:=h.hd,fd:=h.fd,rg:=rfl,gv:=b,wt:=rfl,dz:=hq,tl:=h.tl}
theorem HO {T:List cG}{i:Nat}{t:cG}(hi:i<T.length)(hd:t.2.2.2=(T.getD i t0).2.2.2)(j:Nat):cH (T.set i t) j↔cH T j:=by
 unfold cH;rw[aX,pC _ _ _ _ _ hi];by_cases e:i=j
 ·subst e;rw[aH rfl,hd]
 ·rw[aE e]
theorem cw.store (h:cw a S W m Y G)(f:cI a S.s){i k:Nat}(hi:cH W.T i)(hk:k<(W.T.getD i t0).2.1.length){v:Int×Int}(x:dM W.T v){ws M:List Int}(ew:ws=S.s.ws.set (m i+1+k).toNat (wv m v))(A:em a {S.s with ws:=ws,M:=M} Y G):
 cw a ⟨{S.s with ws:=ws,M:=M},S.r,S.q⟩ {W with T:=W.T.set i ((W.T.getD i t0).1,(W.T.getD i t0).2.1.set k v,(W.T.getD i t0).2.2)} m Y G:=by
 have al:∀j,cH (W.T.set i ((W.T.getD i t0).1,(W.T.getD i t0).2.1.set k v,(W.T.getD i t0).2.2)) j↔cH W.T j:=HO hi.1 rfl;have g:∀j,(W.T.set i ((W.T.getD i t0).1,(W.T.getD i t0).2.1.set k v,(W.T.getD i t0).2.2)).getD j t0=if i=j then((W.T.getD i t0).1,(W.T.getD i t0).2.1.set k v,(W.T.getD i t0).2.2) else W.T.getD j t0:=fun j=>pC _ _ _ _ _ hi.1
 have gl:∀j,((W.T.set i ((W.T.getD i t0).1,(W.T.getD i t0).2.1.set k v,(W.T.getD i t0).2.2)).getD j t0).2.1.length=(W.T.getD j t0).2.1.length:=fun j=>by
  rw[g];split
  ·rename_i e;subst e;simp
  ·rfl
 have g1:∀j,((W.T.set i ((W.T.getD i t0).1,(W.T.getD i t0).2.1.set k v,(W.T.getD i t0).2.2)).getD j t0).1=(W.T.getD j t0).1:=fun j=>by
  rw[g];split
  ·rename_i e;subst e;rfl
  ·rfl
 have g2:∀j,((W.T.set i ((W.T.getD i t0).1,(W.T.getD i t0).2.1.set k v,(W.T.getD i t0).2.2)).getD j t0).2.2=(W.T.getD j t0).2.2:=fun j=>by
  rw[g];split
  ·rename_i e;subst e;rfl
  ·rfl
 obtain⟨B,C,_⟩:=h.parts hi;have k1:(k:Int)<pf (ld a.N S.s.y S.s.g S.s.ws (m i)):=V;obtain⟨_,s⟩:=h.kv.inv.full.set f.l1 f.y1 f.g1 (h.mem hi) (Int.natCast_nonneg k) k1;rw[<-ew] at s;have l:∀u,dM W.T u->_:=fun u c=>c.mono (fun j b=>(al j).2 b)
 have t:∀e,im W.T e->im (W.T.set i ((W.T.getD i t0).1,(W.T.getD i t0).2.1.set k v,(W.T.getD i t0).2.2)) e:=fun e he=>⟨he.g0,(al _).2 he.g,by rw[g1];exact he.k,he.h0,(al _).2 he.h⟩
 have D:=jd (jF h.kv.inv.full (h.mem hi) (Int.natCast_nonneg k) k1) f.y1 f.g1;exact
 {
  kv:=A,rl:=h.rl,rv:=fun u c=>l u (h.rv u c)
  fv:=fun j b u c=>by
   have d:=(al j).1 b;have c:=c;rw[g] at c;split at c
   ·rename_i e;rcases zJ c with o|o
    ·exact l u (h.fv i hi u o)
    ·rw[o];exact l v x
   ·exact l u (h.fv j d u c)
  rs:=h.rs
  h8:=fun j b e=>h.h8 j ((al j).1 b) (by rw[<-g2];exact e)
  old:=fun j b e=>h.old j ((al j).1 b) (by rw[<-g2];exact e)
  inj:=fun j w b d e=>h.inj j w ((al j).1 b) ((al w).1 d) e
  fV:=fun u c=>by obtain⟨j,b,e⟩:=h.fV u c;exact⟨j,(al j).2 b,e⟩
  hd:=fun j b=>by have d:=(al j).1 b;rw[gl,g1,s _ (h.mem d)];exact h.hd j d
  fd:=fun j b n p=>by
   have d:=(al j).1 b;have p:=p;rw[gl] at p;obtain⟨_,E,_⟩:=h.parts d;have n1:(n:Int)<pf (ld a.N S.s.y S.s.g S.s.ws (m j)):=V;have q:=jF h.kv.inv.full (h.mem d) (Int.natCast_nonneg n) n1;have F:=jd q f.y1 f.g1;rw[dX q,ew,jS _ _ _ _ (by have:=f.l1;omega),<-dX q,h.fd j d n p,g];by_cases e:i=j
   ·subst e;rw[aH rfl];show _=wv m _;rw[pC _ _ _ _ _ hk];by_cases eT:k=n
    ·subst eT;rw[aH rfl,aH rfl]
    ·rw[aE eT,aE V]
   ·rw[aE e,aE (fun o=>e ?_)];exact h.inj i j hi d (HM h.kv.inv.full f.y1 (h.mem hi) (h.mem d) (Int.natCast_nonneg k) k1 (Int.natCast_nonneg n) n1 V)
  rg:=h.rg,gv:=fun e he=>t e (h.gv e he),wt:=h.wt,dz:=fun e he=>t e (h.dz e he)
  tl:=fun j=>by rw[gl];exact h.tl j}
theorem Al {T:List cG}{t:cG}(ht:t.2.2.2=false)(j:Nat):cH (T++[t]) j↔cH T j\/j=T.length:=by
 unfold cH;rcases Nat.lt_trichotomy j T.length with b|b|b
 ·rw[aC,List.getElem?_append_left b,<-aC];exact⟨fun q=>aJ ⟨b,q.2⟩,fun q=>q.elim (fun q=>⟨by simp;omega,q.2⟩) (fun e=>absurd b V)⟩
 ·subst b;rw[aC,List.getElem?_append_right bW];simp[ht]
 ·simp;omega
theorem lq {b:Type}(l:List b)(t c:b)(j:Nat)(h:j<l.length):(l++[t]).getD j c=l.getD j c:=by rw[aC,List.getElem?_append_left h,<-aC]
theorem m3 {b:Type}(l:List b)(t c:b):(l++[t]).getD l.length c=t:=by simp
def m4 (m:Nat->Int)(n:Nat)(y:Int)(i:Nat):Int:=if i=n then y else m i
theorem cw.new (h:cw a S W m Y G){kd:Int}{l:List _}(hk:hc kd l.length=0)(x:∀v∈l,dM W.T v){c:ec}(er:c.rs=S.s.rs)(H:c.y<=a.N)(t:em a c (Y++[(S.s.y:Int)]) G)
 (C:ld a.N c.y c.g c.ws S.s.y=hw kd l.length)(D:∀k:Nat,k<l.length->ld a.N c.y c.g c.ws (S.s.y+1+k)=wv m (l.getD k (0,0)))
 (h0:∀v,(v∈Y\/v∈G)->ld a.N c.y c.g c.ws v=ld a.N S.s.y S.s.g S.s.ws v)(E:∀v,(v∈Y\/v∈G)->∀k:Nat,(k:Int)<pf (ld a.N S.s.y S.s.g S.s.ws v)->ld a.N c.y c.g c.ws (v+1+k)=ld a.N S.s.y S.s.g S.s.ws (v+1+k)):
 cw a ⟨c,S.r,S.q⟩ {W with T:=W.T++[(kd,l,false,false)]} (m4 m W.T.length S.s.y) (Y++[(S.s.y:Int)]) G:=by
 have al:∀j,cH (W.T++[(kd,l,false,false)]) j↔cH W.T j\/j=W.T.length:=Al rfl;have f:∀i,cH W.T i->m4 m W.T.length S.s.y i=m i:=fun i hi=>by unfold m4;rw[aE (by have:=hi.1;omega)]
 have p:m4 m W.T.length S.s.y W.T.length=S.s.y:=by unfold m4;rw[aH rfl]
 have w:∀u,dM W.T u->_:=fun u g=>g.mono (fun j d=>(al j).2 (aJ d))
 have A:∀e,im W.T e->im (W.T++[(kd,l,false,false)]) e:=fun e he=>⟨he.g0,(al _).2 (aJ he.g),by rw[lq _ _ _ _ he.g.1];exact he.k,he.h0,(al _).2 (aJ he.h)⟩
 have B:∀j,cH W.T j->m j≠S.s.y:=fun j d e=>by
  rcases h.mem d with b|b
  ·have:=h.kv.inv.full.ii _ b;omega
  ·have F:(S.s.y:Int)∈Y++[(S.s.y:Int)]:=Z;have n1:=t.inv.full.ii _ F;have I:=t.inv.full.io _ b;omega
 exact
 {
  kv:=t,rl:=h.rl,rv:=fun u g=>w u (h.rv u g)
  fv:=fun j d u g=>by
   rcases(al j).1 d with b|b
   ·have g:=g;rw[lq _ _ _ _ b.1] at g;exact w u (h.fv j b u g)
   ·have g:=g;rw[b,m3] at g;exact w u (x u g)
  rs:=by show c.rs=W.rs.map _;rw[er,h.rs];exact List.map_congr_left (fun v o=>(ur f (h.rv v o)).symm)
  h8:=fun j d e=>by
   rcases(al j).1 d with b|b
   ·have e:=e;rw[lq _ _ _ _ b.1] at e;rw[f j b];exact aZ _ (h.h8 j b e)
   ·rw[b,p];simp
  old:=fun j d e=>by
   have e:=e;rcases(al j).1 d with b|b
   ·rw[lq _ _ _ _ b.1] at e;rw[f j b];exact h.old j b e
   ·rw[b,m3] at e;cases e
  inj:=fun i j hi d e=>by
   rcases(al i).1 hi with b|b<;>rcases(al j).1 d with q|q
   ·rw[f i b,f j q] at e;exact h.inj i j b q e
   ·rw[f i b,q,p] at e;exact absurd e (B i b)
   ·rw[f j q,b,p] at e;exact absurd e.symm (B j q)
   ·omega
  fV:=fun v o=>by
   have s:(v∈Y\/v∈G)\/v=S.s.y:=by
    rcases o with o|o
    ·rcases List.mem_append.1 o with b|b
     ·exact aJ (aJ b)
     ·exact aI (List.mem_singleton.1 b)
    ·exact aJ (aI o)
   rcases s with s|s
   ·obtain⟨j,d,e⟩:=h.fV v s;exact⟨j,(al j).2 (aJ d),by rw[f j d];exact e⟩
   ·exact⟨W.T.length,(al _).2 (aI rfl),by rw[p,s]⟩
  hd:=fun j d=>by
   show hc _ _=0/\ld a.N c.y c.g c.ws _=hw _ _;rcases(al j).1 d with b|b
   ·rw[lq _ _ _ _ b.1,f j b,h0 _ (h.mem b)];exact h.hd j b
   ·rw[b,m3,p];exact⟨hk,C⟩
  fd:=fun j d k n=>by
   have n:=n;show ld a.N c.y c.g c.ws _=wv _ _;rcases(al j).1 d with b|b
   ·rw[lq _ _ _ _ b.1] at n⊢;rw[f j b,E _ (h.mem b) k (by rw[(h.parts b).2.1];omega),h.fd j b k n];exact(ur f (h.fv j b _ (getD_in n))).symm
   ·rw[b,m3] at n⊢;rw[p,D k n];exact(ur f (x _ (getD_in n))).symm
  rg:=by show S.r=W.rg.map _;rw[h.rg];exact List.map_congr_left (fun e he=>(Aj f (h.gv e he)).symm)
  gv:=fun e he=>A e (h.gv e he)
  wt:=by show S.q=W.wt.map _;rw[h.wt];exact List.map_congr_left (fun e he=>(Aj f (h.dz e he)).symm)
  dz:=fun e he=>A e (h.dz e he)
  tl:=fun j=>by
   show((W.T++[(kd,l,false,false)]).getD j t0).2.1.length<=12;rcases Nat.lt_trichotomy j W.T.length with b|b|b
   ·rw[lq _ _ _ _ b];exact h.tl j
   ·rw[b,m3];have:=iE _ _ hk;show l.length<=12;omega
   ·rw[aC,List.getElem?_eq_none (by simp;omega)];simp[t0]}
end
def fL (P:Nat->Bool)(z:Nat->Nat):Nat->Nat
 |0=>0
 |n+1=>fL P z n+if P n=true then z n else 0
theorem Am {P:Nat->Bool}{z:Nat->Nat}{m:Nat->Int}{f:Int->Nat}:∀n,(∀i,i<n->P i=true->f (m i)=z i)->fL P z n=ge f (((List.range n).filter P).map m)
 |0,_=>by simp[fL,ge]
 |n+1,h=>by
  rw[fL,Am n (fun i hi hp=>h i V hp),List.range_succ,List.filter_append,bA,G3];cases c:P n
  ·simp[c,ge]
  ·simp[c,ge,h n V c]
theorem uu {P:Nat->Bool}{z:Nat->Nat}{m:Nat->Int}{f:Int->Nat}{n:Nat}{l:List Int}(q:∀i,i<n->P i=true->f (m i)=z i)(o:l.Nodup)(inj:∀i j,i<n->j<n->P i=true->P j=true->m i=m j->i=j)(hl:∀v,v∈l↔∃i,i<n/\P i=true/\m i=v):fL P z n=ge f l:=by
 rw[Am n q];have p:∀v,v∈((List.range n).filter P).map m↔v∈l:=fun v=>by
  rw[hl v];simp only [List.mem_map,List.mem_filter,List.mem_range];constructor
  ·rintro⟨i,⟨b,c⟩,d⟩
   exact⟨i,b,c,d⟩
  ·rintro⟨i,b,c,d⟩
   exact⟨i,⟨b,c⟩,d⟩
 have nd:(((List.range n).filter P).map m).Nodup:=by
  unfold List.Nodup;rw[List.pairwise_map];refine List.Pairwise.imp_of_mem (fun {i j} hi g s e=>s ?_) (List.nodup_range.filter _)
  simp only [List.mem_filter,List.mem_range] at hi g;exact inj i j hi.1 g.1 hi.2 g.2 e
 exact Nat.le_antisymm (zD nd o (fun v k=>(p v).1 k)) (zD o nd (fun v k=>(p v).2 k))
theorem An {P Q:Nat->Bool}{z:Nat->Nat}:∀n,(∀i,i<n->P i=true->Q i=true)->fL P z n<=fL Q z n
 |0,_=>aA _
 |n+1,h=>by
  have b:=An (z:=z) n (fun i hi=>h i V)
  rw[fL,fL];by_cases c:P n=true
  ·rw[aH c,aH (h n V c)];omega
  ·rw[aE c];omega
theorem Ao {P Q R:Nat->Bool}{z:Nat->Nat}:∀n,(∀i,i<n->R i=(P i||Q i)/\(P i&&Q i)=false)->fL R z n=fL P z n+fL Q z n
 |0,_=>rfl
 |n+1,h=>by obtain⟨b,c⟩:=h n V;rw[fL,fL,fL,(Ao n (fun i hi=>h i V)),b];cases hp:P n<;>cases hq:Q n<;>simp_all<;>omega
def ip (T:List cG)(i:Nat):Nat:=1+(T.getD i t0).2.1.length
def i9 (T:List cG)(i:Nat):Bool:=!(T.getD i t0).2.2.2&&!(T.getD i t0).2.2.1
def oB (T:List cG)(i:Nat):Bool:=!(T.getD i t0).2.2.2&&(T.getD i t0).2.2.1
theorem Ap (T:List cG):∀n,n<=T.length->dy (T.take n)=((fL (i9 T) (ip T) n:Int),(fL (oB T) (ip T) n:Int))
 |0,_=>by simp[dy,fL]
 |n+1,h=>by
  rw[fz T n V t0,vS,Ap T n V];show iN _ _=(((fL (i9 T) (ip T) n+if i9 T n=true then ip T n else 0:Nat):Int),((fL (oB T) (ip T) n+if oB T n=true then ip T n else 0:Nat):Int))
  unfold iN i9 oB ip;generalize T.getD n t0=t;cases hd:t.2.2.2<;>cases ho:t.2.2.1<;>simp
theorem Aq (T:List cG):dy T=((fL (i9 T) (ip T) T.length:Int),(fL (oB T) (ip T) T.length:Int)):=by
 have:=Ap T T.length bW
 rwa [a_] at this
theorem uv (T:List cG)(L:List Bool):∀n,gR T L n=(fL (fun i=>L.getD i false) (ip T) n:Int)
 |0=>rfl
 |n+1=>by
  rw[gR,uv T L n,fL];split
  ·simp[ip]
  ·simp
section
variable {a:Wc}{S:ck}{W:cj}{m:Nat->Int}{Y G:List Int}
theorem cw.size (h:cw a S W m Y G){i:Nat}(hi:cH W.T i):m0 (ld a.N S.s.y S.s.g S.s.ws) (m i)=ip W.T i:=by unfold m0 ip;rw[(h.parts hi).2.1];simp
theorem l5 {T:List cG}{i:Nat}(b:i<T.length)(c:(T.getD i t0).2.2.2=false):cH T i:=⟨b,c⟩
theorem cw.us (h:cw a S W m Y G)(f:cI a S.s):dy W.T=((S.s.y:Int),(S.s.g:Int)):=by
 have o:=f.y1;have g:fL (i9 W.T) (ip W.T) W.T.length=ge (m0 (ld a.N S.s.y S.s.g S.s.ws)) Y:=by
  refine uu (m:=m) (fun i hi hp=>?_) h.kv.inv.full.ty.nodup (fun i j hi d hp hq e=>?_) (fun v=>⟨fun b=>?_,?_⟩)
  ·unfold i9 at hp;simp at hp;exact h.size (l5 hi hp.1)
  ·unfold i9 at hp hq;simp at hp hq;exact h.inj i j (l5 hi hp.1) (l5 d hq.1) e
  ·obtain⟨i,hi,e⟩:=h.fV v (aJ b)
   refine⟨i,hi.1,?_,e⟩
   unfold i9;rw[hi.2];cases c:(W.T.getD i t0).2.2.1
   ·rfl
   ·have k:=h.kv.inv.full.io _ (h.old i hi c)
    have l:=h.kv.inv.full.ii v b;omega
  ·rintro⟨i,hi,hp,e⟩
   unfold i9 at hp;simp at hp;rw[<-e];exact h.h8 i (l5 hi hp.1) hp.2
 have n:fL (oB W.T) (ip W.T) W.T.length=ge (m0 (ld a.N S.s.y S.s.g S.s.ws)) G:=by
  refine uu (m:=m) (fun i hi hp=>?_) h.kv.inv.full.ee.nodup (fun i j hi d hp hq e=>?_) (fun v=>⟨fun b=>?_,?_⟩)
  ·unfold oB at hp;simp at hp;exact h.size (l5 hi hp.1)
  ·unfold oB at hp hq;simp at hp hq;exact h.inj i j (l5 hi hp.1) (l5 d hq.1) e
  ·obtain⟨i,hi,e⟩:=h.fV v (aI b)
   refine⟨i,hi.1,?_,e⟩
   unfold oB;rw[hi.2];cases c:(W.T.getD i t0).2.2.1
   ·have k:=h.kv.inv.full.ii _ (h.h8 i hi c)
    have l:=h.kv.inv.full.io v b;omega
   ·rfl
  ·rintro⟨i,hi,hp,e⟩
   unfold oB at hp;simp at hp;rw[<-e];exact h.old i (l5 hi hp.1) hp.2
 have p:=h.kv.inv.full.ty.sum;have q:=h.kv.inv.full.ee.sum;rw[Aq,g,n];exact Prod.ext V V
theorem HP:ew 0 0=2:=aa
end
theorem cw.start (a:Wc)(n o:Nat):cw a (iM n o).1 (iM n o).2 (fun _=>0) [] []:=by
 have no:∀i,¬cH (iM n o).2.T i:=fun i hi=>absurd hi.1 (Nat.not_lt_zero i)
 have f:∀x∈(iM n o).1.s.rs,cX x=true->cf x∈([]:List Int)\/cf x∈([]:List Int):=fun x d ha=>by
  have d:x∈tw 2 12:=d;have e:x=2:=by simpa[tw] using d
  rw[e,Aa] at ha;cases ha
 exact
 {
  kv:=⟨⟨d6.start,f,fun v b=>(by rcases b with c|c<;>cases c)⟩,fun v b=>(by cases b)⟩
  rl:=by simp[iM],rv:=fun v b=>by rw[List.eq_of_mem_replicate b];exact dM.nil _
  fv:=fun i hi=>absurd hi (no i),rs:=by show tw 2 12=(List.replicate 12 ((0,0):Int×Int)).map (wv fun _=>0);decide
  h8:=fun i hi=>absurd hi (no i),old:=fun i hi=>absurd hi (no i),inj:=fun i _ hi=>absurd hi (no i)
  fV:=fun v b=>by rcases b with c|c<;>cases c
  hd:=fun i hi=>absurd hi (no i),fd:=fun i hi=>absurd hi (no i),rg:=rfl,gv:=fun e he=>(by cases he),wt:=rfl,dz:=fun e he=>(by cases he)
  tl:=fun i=>by simp[iM,t0]}
section
variable {a:Wc}{S:ck}{W:cj}{m:Nat->Int}{Y G:List Int}
theorem cw.qm (h:cw a S W m Y G)(d:W.T.length<=10000)(f:W.rg.length<=1000)(b:W.wt.length<=1000):gA W:=
 {
  iv:=⟨fun i hi hk=>by have:=oe _ _ (h.hd i hi).1;omega,fun i hi v c b=>(h.fv i hi v c).t b,fun e he=>⟨(h.dz e he).h0,(h.dz e he).h⟩,h.tl⟩
  rv:=fun v c b=>(h.rv v c).t b
  gv:=fun e he=>⟨⟨(h.gv e he).g0,(h.gv e he).g⟩,(h.gv e he).h0,(h.gv e he).h⟩
  wg:=fun e he=>⟨(h.dz e he).g0,(h.dz e he).g⟩
  tl:=d,gl:=f,wl:=b}
theorem cw.iv (h:cw a S W m Y G):gy W.T W.wt:=
 ⟨fun i hi hk=>by have:=oe _ _ (h.hd i hi).1;omega,fun i hi v b c=>(h.fv i hi v b).t c,fun e he=>⟨(h.dz e he).h0,(h.dz e he).h⟩,h.tl⟩
theorem cw.first (h:cw a S W m Y G)(c:Bool):fR W.T (jA W.T W.rs c):=
 ⟨p8 _ _ _,fun k hk=>by
  obtain⟨d,b⟩:=(lL _ _ _ _).1 hk;rcases b with⟨_,b,_⟩|⟨v,f,g,e⟩
  ·exact⟨d,b⟩
  ·rw[<-e];exact((h.rv v f).t g).2⟩
theorem cw.field (h:cw a S W m Y G){i:Nat}(hi:cH W.T i){v:Int×Int}(c:v∈(W.T.getD i t0).2.1):∃k:Nat,k<(W.T.getD i t0).2.1.length/\(W.T.getD i t0).2.1.getD k (0,0)=v/\ld a.N S.s.y S.s.g S.s.ws (m i+1+k)=wv m v:=by
 obtain⟨k,hk,e⟩:=List.mem_iff_getElem.1 c;have b:(W.T.getD i t0).2.1.getD k (0,0)=v:=by rw[aC,aG hk,e];rfl
 exact⟨k,hk,b,by rw[h.fd i hi k hk,b]⟩
theorem cw.two (h:cw a S W m Y G){i:Nat}(hi:cH W.T i)(hk:(W.T.getD i t0).1=1\/(W.T.getD i t0).1=3\/(W.T.getD i t0).1=4):(W.T.getD i t0).2.1.length=2:=by have:=oe _ _ (h.hd i hi).1;omega
end
structure kM (k:ca)(z:C0)(C:Int->Prop):Prop where
 old:∀b∈z.G,C b
 p:∀c,(c∈k.T\/c∈z.G)->C c->pk (k.l0 z c)=1\/pk (k.l0 z c)=2->∀i:Nat,(i:Int)<pf (k.l0 z c)->k.cK (k.l0 z (c+1+i))=true->C (cf (k.l0 z (c+1+i)))
 w:∀c,(c∈k.T\/c∈z.G)->C c->pk (k.l0 z c)=3->k.cK (k.l0 z (c+1+1))=true->C (cf (k.l0 z (c+1+1)))
 e:∀c,(c∈k.T\/c∈z.G)->C c->pk (k.l0 z c)=4->(k.cK (k.l0 z (c+1+0))=true->C (cf (k.l0 z (c+1+0))))->k.cK (k.l0 z (c+1+1))=true->C (cf (k.l0 z (c+1+1)))
def kN (k:ca)(C:Int->Prop)(q:List bZ):Prop:=∀e∈q,(k.cK e.1=true->C (cf e.1))->k.cK e.2=true->C (cf e.2)
def c8 (k:ca)(C:Int->Prop)(s:ch):Prop:=∀a∈k.T,s.f a≠-1->C a
section
variable {k:ca}{z:C0}{s t:ch}{H D:List Int}{C:Int->Prop}
theorem m5 {x:Int}(h:k.cK x=true):cf x∈k.T:=by unfold ca.cK at h;simp at h;exact h.2
theorem l6 {x:Int}(h:k.ls s x=true):k.cK x=true:=by unfold ca.ls at h;rw[ba] at h;exact h.1
theorem c8.br (h:c8 k C s)(x:Int)(f:k.cK x=true->C (cf x)):c8 k C (k.br s x).2:=by
 unfold ca.br;split
 ·rename_i c;intro b g d;by_cases e:b=cf x
  ·rw[e];exact f (l6 c)
  ·refine h b g ?_;have i:(k.cp s (cf x)).f b=s.f b:=by unfold ca.cp gq;dsimp only;rw[aE e]
   have d:=d;rw[i] at d;exact d
 ·exact h
theorem dE.rf (h:dE k z s H){a b i:Int}(c:k.or z s a b)(d:0<=i)(f:i<pf (k.l0 z a))(hl:k.cK (k.ld s (b+1+i))=true):k.ld s (b+1+i)=k.l0 z (a+1+i):=by
 rcases h.fd a b c i d f with e|⟨y1,g,j⟩
 ·exact e
 ·have l:=h.iV (h.fh _ (m5 y1) g)
  have n1:=h.ci.hN';have m:=h.ci.hO;have n:=h.ci.hg;rw[j,mY h.ci l.1 V] at hl;cases hl
theorem c8.kf (h:c8 k C s)(mi:dE k z s H){a b i:Int}(c:k.or z s a b)(d:0<=i)(f:i<pf (k.l0 z a))(g:k.cK (k.l0 z (a+1+i))=true->C (cf (k.l0 z (a+1+i)))):c8 k C (k.kf s (b+1+i)):=
 h.br _ (fun hy=>by have e:=mi.rf c d f hy;rw[e] at hy;rw[e];exact g hy)
theorem c8.fP (h:c8 k C s)(mi:dE k z s H){a b:Int}(c:k.or z s a b)(d:∀i:Nat,(i:Int)<pf (k.l0 z a)->k.cK (k.l0 z (a+1+i))=true->C (cf (k.l0 z (a+1+i)))):∀n:Nat,(n:Int)<=pf (k.l0 z a)->c8 k C (k.fP s b n)
 |0,_=>h
 |n+1,f=>by obtain⟨g,m1,e,_⟩:=mi.fP c n V;exact(c8.fP h mi c d n V).kf m1 (e.or c) V V (d n V)
theorem uw {a b:Int}(c:k.or z s a b):a∈k.T\/a∈z.G:=by
 rcases c with⟨e,h⟩|⟨h,_⟩
 ·rw[e];exact aI h
 ·exact aJ h
theorem c8.or (h:c8 k C s)(d:kM k z C){a b:Int}(f:k.or z s a b):C a:=by
 rcases f with⟨e,c⟩|⟨c,g,i⟩
 ·rw[e];exact d.old b c
 ·exact h a c (by rw[g];exact i)
theorem c8.lk (h:c8 k C s)(mi:dE k z s H)(e:kM k z C){a b:Int}(c:k.or z s a b):c8 k C (k.lk s b):=by
 have ha:=h.or e c;have hm:=uw c;have d:=mi.hd a b c;have i:=mi.bd (mi.mem c)
 have n:=di (k.ld s b)
 unfold ca.lk;by_cases c1:pk (k.ld s b)=1\/pk (k.ld s b)=2
 ·rw[aH c1];exact h.fP mi c (e.p a hm ha (by rw[<-d];exact c1)) _ (by rw[<-d];omega)
 ·rw[aE c1];by_cases c3:pk (k.ld s b)=3
  ·rw[aH c3];have o:=hY i.2.2 (aI (aJ c3))
   have hN:=mi.ci.hN';have hO:=mi.ci.hO;have hg:=mi.ci.hg;have j:=mi.turn (s.wk++[b]) s.ep s.rs s.nx (fun x l=>by
    rcases List.mem_append.1 l with f|f
    ·exact mi.ci.ij x f
    ·rw[bD] at f;omega) mi.ci.g_ mi.ci.gT mi.ci.gB
   have m:c8 k C {s with wk:=s.wk++[b],ep:=s.ep,rs:=s.rs,nx:=s.nx}:=h;have g:=m.kf j c V (by rw[<-d];omega) (e.w a hm ha (by rw[<-d];exact c3))
   have ea:b+1+1=b+2:=V;rw[ea] at g;exact g
  ·rw[aE c3];split
   ·exact h
   ·exact h
theorem c8.lb (b:kM k z C):∀(n:Nat){s:ch}{H:List Int},LI k z s H D->c8 k C s->c8 k C (k.lb n s)
 |0,_,_,_,h=>h
 |n+1,s,H,l,h=>by
  unfold ca.lb;cases hn:hB k.N s.g s.nx
  ·rw[aE Z];exact h
  ·have d:=jc hn;obtain⟨a,c⟩:=l.mi.from (bc z.G (l.bo.resolve_right V))
   obtain⟨e,m1,_,_⟩:=l.kE hn;exact c8.lb b n m1 (h.lk l.mi b c)
theorem c8.key (h:c8 k C s)(mi:dE k z s H){a b:Int}(c:k.or z s a b)(d:0<pf (k.l0 z a))(hl:k.ls s (k.ld s (b+1))=false)(hy:k.cK (k.l0 z (a+1+0))=true):C (cf (k.l0 z (a+1+0))):=by
 refine h _ (m5 hy) ?_;have f:b+1+0=b+1:=V;rcases mi.fd a b c 0 V d with e|⟨y1,g,_⟩
 ·rw[f] at e;intro i;unfold ca.ls at hl;rw[e,hy,i] at hl;simp at hl
 ·exact g
theorem c8.qT (h:c8 k C s)(l:LI k z s H D)(d:kM k z C){b:Int}(e:b∈z.G++H)(f:pk (k.ld s b)=4)(g:k.ls s (k.ld s (b+1))=false):c8 k C (k.kf (k.kf s (b+1)) (b+2)):=by
 obtain⟨a,o⟩:=l.mi.from e;have q:=hY (l.mi.bd e).2.2 (aI (aI f))
 have c:=l.mi.hd a b o;have m:b+1+0=b+1:=V;have n:b+1+1=b+2:=V;obtain⟨t,m1,p,_,_⟩:=l.mi.kf (i:=0) o V (by rw[<-c];omega)
 have j:=(h.kf l.mi o V (by rw[<-c];omega) (h.key l.mi o (by rw[<-c];omega) g)).kf m1 (p.or o) V (by rw[<-c];omega) (d.e a (uw o) (h.or d o) (by rw[<-c];exact f) (h.key l.mi o (by rw[<-c];omega) g))
 rw[m,n] at j;exact j
theorem c8.ik (c:kM k z C):∀(l left:List Int){s:ch}{H:List Int},LI k z s H D->(∀a∈l,a∈z.G++H/\pk (k.ld s a)=4)->c8 k C s->c8 k C (l.foldl k.cO (left,s)).2
 |[],_,_,_,_,_,h=>h
 |b::l,left,s,H,li,hl,h=>by
  rw[a8];cases hls:k.ls s _
  ·have d:k.cO (left,s) b=(left,k.kf (k.kf s (b+1)) (b+2)):=by unfold ca.cO;rw[aE (by rw[hls];simp)]
   rw[d];obtain⟨e,f⟩:=hl b Z;obtain⟨m,m1,g,i,n,o⟩:=li.qT e f;exact c8.ik c l left m1 (fun a ha=>by
    obtain⟨n1,j⟩:=hl a (aO _ ha)
    exact⟨kH i n1,by rw[g.hd li.mi m1.mi n1];exact j⟩) (h.qT li c e f hls)
  ·have d:k.cO (left,s) b=(left++[b],s):=by unfold ca.cO;rw[aH hls]
   rw[d];exact c8.ik c l _ li (fun a ha=>hl a (aO _ ha)) h
theorem c8.kv (b:kM k z C)(l:LI k z s H D)(w:dL k z s H)(h:c8 k C s):c8 k C (k.kv s).2:=c8.ik b s.ep [] l w.ep h
theorem c8.j9:∀(l:List Nat)(t:(ch×List bZ)×Bool)(H:List Int),LI k z t.1.1 H D->dL k z t.1.1 H->(∀i∈l,i<t.1.2.length)->kN k C t.1.2->c8 k C t.1.1->c8 k C (l.foldl (dB k.al k.br) t).1.1/\kN k C (l.foldl (dB k.al k.br) t).1.2
 |[],_,_,_,_,_,q,h=>⟨h,q⟩
 |i::l,t,H,li,w,hl,q,h=>by
  rw[a8];by_cases c:(k.al t.1.1 (t.1.2.getD i (0,0)).2||!k.al t.1.1 (t.1.2.getD i (0,0)).1)=true
  ·have b:dB k.al k.br t i=t:=by unfold dB;rw[aH c]
   rw[b];exact c8.j9 l t H li w (fun j e=>hl j (aO _ e)) q h
  ·have b:dB k.al k.br t i=(((k.br t.1.1 (t.1.2.getD i (0,0)).2).2,t.1.2.set i ((t.1.2.getD i (0,0)).1,(k.br t.1.1 (t.1.2.getD i (0,0)).2).1)),true):=by unfold dB;rw[aE c]
   obtain⟨f,l1,w1,g,_⟩:=cW.br _ H li w;obtain⟨_,_,_,y1,_,_,_⟩:=li.mi.br _;have c2:k.al t.1.1 (t.1.2.getD i (0,0)).1=true:=by
    cases d:k.al t.1.1 _
    ·rw[d] at c;simp at c
    ·rfl
   have hg:k.cK (t.1.2.getD i (0,0)).1=true->_:=fun hy=>h _ (m5 hy) (fun d=>by unfold ca.al ca.ls at c2;rw[hy,d] at c2;simp at c2)
   rw[b];refine c8.j9 l _ f l1 w1 (fun j e=>?_) ?_ (h.br _ (q _ (getD_in (hl i Z)) hg))
   ·show j<(t.1.2.set i _).length;rw[aX];exact hl j (aO _ e)
   ·intro d hd;have hd:=hd;rcases bB hd with hd|rfl
    ·exact q d hd
    ·intro _ hy;rw[y1] at hy;cases hy
theorem c8.wa {t:ch×List bZ}(l:LI k z t.1 H D)(w:dL k z t.1 H)(q:kN k C t.2)(h:c8 k C t.1):c8 k C (k.wa t).1.1/\kN k C (k.wa t).1.2:=
 c8.j9 _ (t,false) H l w (fun _ hi=>List.mem_range.1 hi) q h
theorem c8.cV (b:kM k z C):∀(n:Nat)(t:ch×List bZ)(H:List Int),LI k z t.1 H D->dL k z t.1 H->kN k C t.2->c8 k C t.1->c8 k C (k.cV n t).1/\kN k C (k.cV n t).2
 |0,_,_,_,_,q,h=>⟨h,q⟩
 |n+1,t,H,l,w,q,h=>by
  obtain⟨g,l1,w1,m,_⟩:=cW.lb (k.O+1) H l w;obtain⟨d,l2,c,o,_⟩:=cW.kv g l1 w1;have e:=c8.kv b l1 w1 (c8.lb b (k.O+1) l h)
  obtain⟨i,j,w3,_,_⟩:=cW.wa ((k.kv _).2,t.2) d l2 c;obtain⟨f,q3⟩:=c8.wa (t:=((k.kv _).2,t.2)) l2 c q e;unfold ca.cV;split
  ·exact c8.cV b n ((k.kv _).2,t.2) d l2 c q e
  ·split
   ·exact c8.cV b n _ i j w3 q3 f
   ·exact⟨f,q3⟩
theorem c8.ke (b:kM k z C){t:ch×List bZ}(l:LI k z t.1 H D)(w:dL k z t.1 H)(q:kN k C t.2)(h:c8 k C t.1)(x:Int)(c:k.cK x=true->C (cf x)):c8 k C (k.ke t x).2.1/\kN k C (k.ke t x).2.2:=by obtain⟨d,l1,w1,_,_⟩:=cW.br x H l w;exact c8.cV b _ ((k.br t.1 x).2,t.2) d l1 w1 q (h.br x c)
theorem c8.cJ (l:LI k z s H D)(h:c8 k C s)(b:∀i,i<s.rs.length->k.cK (s.rs.getD i 0)=true->C (cf (s.rs.getD i 0))):∀n,n<=s.rs.length->c8 k C (k.cJ s n)
 |0,_=>h
 |n+1,d=>by
  obtain⟨_,_,_,_,_,_,c,_⟩:=LI.cJ l n V;have:=(c8.cJ l h b n V).br ((k.cJ s n).rs.getD n 0) (by rw[(c n bW)];exact b n V)
  exact this
theorem c8.lm (d:kM k z C)(c:Int)(M:List Int)(hz:d5 (k.l0 z) ((k.N:Int)+z.g) k.N z.G):∀(l:List Int){s:ch}{H D:List Int},LI k z s H D->(∀a∈l,a∈z.G\/(k.N:Int)+z.g<=a)->c8 k C s->c8 k C (l.foldl (k.ga ((k.N:Int)+z.g) c M) s)
 |[],_,_,_,_,_,h=>h
 |b::l,s,H,D,li,hl,h=>by
  rw[a8];have g:=di (k.ld s b)
  by_cases jm:b∈z.G/\(fQ k.N c b&&M.contains (cN k.N b))=true
  ·have i:=(hz.mem b jm.1).2.1;have f:k.ga ((k.N:Int)+z.g) c M s b=k.lk s b:=by unfold ca.ga;rw[aH (by rw[(li.mi.hd b b (aJ ⟨rfl,jm.1⟩))];omega),aH jm.2]
   rw[f];obtain⟨j,m1,m,⟨n,o⟩⟩:=li.lk jm.1;exact c8.lm d c M hz l m1 (fun a ha=>hl a (aO _ ha)) (h.lk li.mi d (aJ ⟨rfl,jm.1⟩))
  ·have f:k.ga ((k.N:Int)+z.g) c M s b=s:=by exact zU
   rw[f];exact c8.lm d c M hz l li (fun a ha=>hl a (aO _ ha)) h
end
section
variable {k:ca}{z:C0}{s t:ch}{H D:List Int}
theorem Ar (k:ca):∀(l left:List Int)(s:ch),left.length+l.length<=(l.foldl k.cO (left,s)).1.length->l.foldl k.cO (left,s)=(left++l,s)/\∀a∈l,k.ls s (k.ld s (a+1))=true
 |[],left,s,_=>⟨Z,fun a ha=>by cases ha⟩
 |b::l,left,s,h=>by
  rw[a8] at h⊢;cases hls:k.ls s _
  ·have c:k.cO (left,s) b=(left,k.kf (k.kf s (b+1)) (b+2)):=by unfold ca.cO;rw[aE (by rw[hls];simp)]
   rw[c] at h;have g:=(qU k l left (k.kf (k.kf s (b+1)) (b+2))).1;rw[bC] at h;omega
  ·have c:k.cO (left,s) b=(left++[b],s):=by unfold ca.cO;rw[aH hls]
   rw[c] at h⊢;obtain⟨e,f⟩:=Ar k l (left++[b]) s (by rw[aW,List.length_singleton];rw[bC] at h;omega)
   refine⟨by rw[e];simp,fun a ha=>?_⟩
   rcases List.mem_cons.1 ha with d|d
   ·rw[d];exact hls
   ·exact f a d
theorem HS (h:(k.kv s).1=false):(k.kv s).2=s/\∀a∈s.ep,k.ls s (k.ld s (a+1))=true:=by
 unfold ca.kv ca.dx at h⊢;obtain⟨b,c⟩:=Ar k s.ep [] s (by have:=of_decide_eq_false h;simp only [List.length_nil,Nat.zero_add];omega)
 rw[b];exact⟨rfl,c⟩
theorem ux:∀(n:Nat)(t:ch×List bZ)(H:List Int),LI k z t.1 H D->dL k z t.1 H->ei k t.1->k.mu t.1<n->∀b∈(k.cV n t).1.ep,k.ls (k.cV n t).1 (k.ld (k.cV n t).1 (b+1))=true
 |0,t,H,_,_,_,e=>absurd e V
 |n+1,t,H,h,w,i,e=>by
  obtain⟨u,l1,w1,_,_,v⟩:=LI.po (k.O+1) h w;obtain⟨c1,c2,c3⟩:=CI.lb h.mi.ci i (k.O+1)
  obtain⟨j,c,x,l⟩:=CI.kv c1 c2;obtain⟨d,l2,f,_,_⟩:=l1.kv w1;unfold ca.cV;cases hk:(k.kv _).1
  ·obtain⟨g1,g2⟩:=HS hk;obtain⟨A,m,B,C,o⟩:=CI.wa (s:=((k.kv _).2,t.2)) j c;cases hw:(k.wa ((k.kv _).2,t.2)).2
   ·rw[aE Z,uf k _ hw];rw[g1];exact g2
   ·obtain⟨p,q,w3,_,_⟩:=cW.wa ((k.kv _).2,t.2) d l2 f;have g:=o hw;dsimp only at g;exact ux n _ p q w3 m V
  ·rw[aH rfl];have g:=l hk;exact ux n ((k.kv _).2,t.2) d l2 f c (by dsimp only;omega)
structure e7 (k:ca)(s:ch)(q0 q:List bZ):Prop where
 len:q.length=q0.length
 eq:∀n,n<q0.length->(q.getD n (0,0)).1=(q0.getD n (0,0)).1/\k.ml s (q0.getD n (0,0)).2 (q.getD n (0,0)).2
theorem e7.refl (s:ch)(q:List bZ):e7 k s q q:=⟨rfl,fun _ _=>⟨rfl,aJ rfl⟩⟩
theorem e7.iL {q0 q:List bZ}(h:e7 k s q0 q)(p:df k s t):e7 k t q0 q:=⟨h.len,fun n b=>⟨(h.eq n b).1,p.ml (h.eq n b).2⟩⟩
theorem e7.snoc {q0 q:List bZ}(h:e7 k s q0 q){e b:bZ}(d:b.1=e.1)(f:k.ml s e.2 b.2):e7 k s (q0++[e]) (q++[b]):=by
 refine⟨by simp[h.len],fun n g=>?_⟩
 rw[aW,List.length_singleton] at g;by_cases c:n<q0.length
 ·rw[lq _ _ _ _ c,lq _ _ _ _ (by rw[h.len];exact c)];exact h.eq n c
 ·have en:n=q0.length:=V;subst en;rw[m3,<-h.len,m3];exact⟨d,f⟩
theorem e7.kI {q0:List bZ}:∀(l:List Nat)(t:(ch×List bZ)×Bool)(H:List Int),LI k z t.1.1 H D->dL k z t.1.1 H->(∀i∈l,i<t.1.2.length)->e7 k t.1.1 q0 t.1.2->e7 k (l.foldl (dB k.al k.br) t).1.1 q0 (l.foldl (dB k.al k.br) t).1.2
 |[],_,_,_,_,_,e=>e
 |i::l,t,H,h,w,hl,e=>by
  rw[a8];by_cases c:(k.al t.1.1 (t.1.2.getD i (0,0)).2||!k.al t.1.1 (t.1.2.getD i (0,0)).1)=true
  ·have d:dB k.al k.br t i=t:=by unfold dB;rw[aH c]
   rw[d];exact e7.kI l t H h w (fun j f=>hl j (aO _ f)) e
  ·have d:dB k.al k.br t i=(((k.br t.1.1 (t.1.2.getD i (0,0)).2).2,t.1.2.set i ((t.1.2.getD i (0,0)).1,(k.br t.1.1 (t.1.2.getD i (0,0)).2).1)),true):=by unfold dB;rw[aE c]
   obtain⟨g,l1,w1,m,_⟩:=cW.br _ H h w;obtain⟨_,_,_,_,_,m1,_⟩:=h.mi.br _;rw[d];refine e7.kI l _ g l1 w1 (fun j f=>?_) ⟨?_,fun n b=>?_⟩
   ·show j<(t.1.2.set i _).length;rw[aX];exact hl j (aO _ f)
   ·show(t.1.2.set i _).length=_;rw[aX];exact e.len
   ·rw[pC _ _ _ _ _ (hl i Z)];by_cases en:i=n
    ·rw[aH en];subst en;exact⟨(e.eq i b).1,m1 _ (e.eq i b).2⟩
    ·rw[aE en];exact⟨(e.eq n b).1,m.ml (e.eq n b).2⟩
theorem e7.wa {q0:List bZ}{t:ch×List bZ}(h:LI k z t.1 H D)(w:dL k z t.1 H)(e:e7 k t.1 q0 t.2):e7 k (k.wa t).1.1 q0 (k.wa t).1.2:=
 e7.kI _ (t,false) H h w (fun _ hi=>List.mem_range.1 hi) e
theorem e7.cV {q0:List bZ}:∀(n:Nat)(t:ch×List bZ)(H:List Int),LI k z t.1 H D->dL k z t.1 H->e7 k t.1 q0 t.2->e7 k (k.cV n t).1 q0 (k.cV n t).2
 |0,_,_,_,_,e=>e
 |n+1,t,H,h,w,e=>by
  obtain⟨g,l1,w1,i,_⟩:=cW.lb (k.O+1) H h w;obtain⟨c,l2,b,j,_⟩:=cW.kv g l1 w1;have d:=e.iL (i.trans j)
  obtain⟨l,m,w3,_,_⟩:=cW.wa ((k.kv _).2,t.2) c l2 b;have f:=e7.wa (t:=((k.kv _).2,t.2)) l2 b d;unfold ca.cV;split
  ·exact e7.cV n ((k.kv _).2,t.2) c l2 b d
  ·split
   ·exact e7.cV n _ l m w3 f
   ·exact f
structure kO (k:ca)(z:C0)(D:List Int)(q0:List bZ)(t:ch×List bZ):Prop where
 li:∃H,LI k z t.1 H D/\dL k z t.1 H
 cb:ei k t.1
 wq:uq k t.1 t.2
 he:hB k.N t.1.g t.1.nx=false
 ep:∀b∈t.1.ep,k.ls t.1 (k.ld t.1 (b+1))=true
 q:e7 k t.1 q0 t.2
theorem kO.sp {q0:List bZ}{t:ch×List bZ}(h:LI k z t.1 H D)(w:dL k z t.1 H)(b:ei k t.1)(e:e7 k t.1 q0 t.2):kO k z D q0 (k.sp t)/\df k t.1 (k.sp t).1:=by obtain⟨K,m1,c,d,_⟩:=cW.sp t H h w;exact⟨⟨⟨K,m1,c⟩,(pv _ t h.mi.ci b).2,re _ t H h w b V,qV _ t H h w b V,ux _ t H h w b V,e7.cV _ t H h w e⟩,d⟩
theorem kO.ke {q0:List bZ}{t:ch×List bZ}(h:kO k z D q0 t)(x:Int):kO k z D q0 (k.ke t x).2/\df k t.1 (k.ke t x).2.1/\(∀b,k.ml t.1 b x->k.ml (k.ke t x).2.1 b (k.ke t x).1)/\k.cK (k.ke t x).1=false/\k.al (k.ke t x).2.1 x=true:=by
 obtain⟨H,l,w⟩:=h.li;obtain⟨o,l1,w1,e,_⟩:=cW.br x H l w;obtain⟨_,_,_,y1,_,m1,g,_⟩:=l.mi.br x;obtain⟨_,i,j,f⟩:=lX k t.1 x;have m:ei k (k.br t.1 x).2:=⟨by rw[i,f];exact h.cb.wk,by rw[j,f];exact h.cb.ep⟩
 obtain⟨n,d⟩:=kO.sp (t:=((k.br t.1 x).2,t.2)) l1 w1 m (h.q.iL e)
 refine⟨n,e.trans d,fun b hm=>d.ml (m1 b hm),y1,pB d ?_⟩
 unfold ca.al ca.ls;cases c:k.cK x
 ·rfl
 ·simpa using g c
end
end Go.Proofs.YtjpjpjemibgjpaaGreat
