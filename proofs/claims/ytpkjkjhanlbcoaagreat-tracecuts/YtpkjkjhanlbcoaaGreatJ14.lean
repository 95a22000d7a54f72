import Derived.Test.YtpkjkjhanlbcoaaGreatJ13
open Bool renaming false->Nb,true->Nc
open Int renaming add_assoc->zh,add_zero->En,le_refl->tF,toNat->M,toNat->Na
open List renaming append_nil->ji,contains->bR,contains_iff_mem->bP,filter_eq_self->p4,getD->X,getElem?_set_ne->Mh,length->L,mem_append->bE,mem_cons->bT,mem_filter->bM,mem_iff_getElem->bY,mem_map->fo,mem_of_mem_take->kr,mem_singleton->bQ,set->F3
namespace Go.Proofs.YtpkjkjhanlbcoaaGreat
open Go.RowKit W Kp cq
theorem uM {P:Prop}(h:P:=by
 obtain⟨u1,u2,u3,_⟩:=hlen;rw[q1] at u1;rw[q2] at u2;rw[q3] at u3;have u1:L (S.s.s2 a).wk<=0+L (G++H1):=u1;have u2:L (S.s.s2 a).ep<=0+L (G++H1):=u2;have u3:=u3;have o1:=hb.o1;refine⟨?_,?_⟩
 ·rw[u3];show L (S.s.s2 a).wk+M ((a.N:Int)+a.O+13-((a.N:Int)+S.s.g))<=4000;omega
 ·rw[u3];show L (S.s.s2 a).ep+M ((a.N:Int)+a.O+13-((a.N:Int)+S.s.g))<=4000;omega):P:=h
theorem Ap {P:Prop}(h:P:=by
 have q0:(S.k5 a).cY (S.cK a) x=(S.s.j0 a).cY (S.cK a) x:=by unfold cg.cY cg.jt;rw[Aq]
 unfold cg.al;rw[q0];cases hj:(S.s.j0 a).jt x
 ·unfold cg.cY;rw[hj];rfl
 ·have hmem:=oR hj;rw[l3] at hmem;have q:=g.iff _ hmem;unfold cg.cY;by_cases c:(S.cI a).f (cr x)=-1
  ·rw[c,q.2 c]
  ·rw[beq_false_of_ne c,beq_false_of_ne (fun d=>c (q.1 d))]):P:=h
theorem Ar {P:Prop}(h:P:=by
 have:(fun e:cf=>((S.s.j0 a).nw (S.cI a) e.1,(S.s.j0 a).nw (S.cI a) e.2))=id:=by
  funext e
  rw[d1.ky.nw,d1.ky.nw];rfl
 rw[this,List.map_id]):P:=h
structure iA (k k':cg):Prop where
 a:k'.a=k.a
 y:k'.s.y=k.s.y
 g:k'.s.g=k.s.g
 rs:k'.s.rs=k.s.rs
 Y:k'.Y=k.Y
 G:k'.G=k.G
 len:L k'.s.ws=L k.s.ws
theorem iA.refl (k:cg):iA k k:=⟨rfl,rfl,rfl,rfl,rfl,rfl,rfl⟩
theorem iA.trans {k b c:cg}(h:iA k b)(j:iA b c):iA k c:=⟨j.a.trans h.a,j.y.trans h.y,j.g.trans h.g,j.rs.trans h.rs,j.Y.trans h.Y,j.G.trans h.G,j.len.trans h.len⟩
structure kA (k:cg):Prop where
 l:L k.s.ws=k.a.N+k.a.O
 y:k.s.y<=k.a.N
 g:k.s.g<=k.a.O
theorem iA.bd {k c:cg}(h:iA k c)(b:kA k):kA c:=⟨by rw[h.len,h.a];exact b.l,by rw[h.y,h.a];exact b.y,by rw[h.g,h.a];exact b.g⟩
theorem iA.T {k b:cg}(h:iA k b):b.T=k.T:=by unfold cg.T;rw[h.Y,h.G]
section
variable {k:cg}{s:cz}
theorem pX (k:cg)(p x:Int):iA k (k.iN p x):=⟨rfl,rfl,rfl,rfl,rfl,rfl,by
 show L (if _ then _ else _:List Int)=_;split
 ·simp_all
 ·rfl⟩
theorem uN (b:kA k){p:Int}(hp:dw k.a.N k.s.y k.s.g p=Nc)(x q:Int):(k.iN p x).ld q=if q=p then x else k.ld q:=by
 have hb:=jV hp b.y b.g;have e:(k.iN p x).ld q=ld k.a.N k.s.y k.s.g (k.s.ws.set (M p) x) q:=by unfold cg.iN;rw[aJ hp];rfl
 rw[e];unfold cg.ld;by_cases c:q=p
 ·rw[aJ c,c,eA hp,aL,List.getElem?_set_self (by rw[b.l];omega)];rfl
 ·rw[aI c];cases hq:dw k.a.N k.s.y k.s.g q
  ·unfold ld;rw[hq];rfl
  ·have d:=jV hq b.y b.g;rw[eA hq,eA hq,aL,Mh aa,aL]
def cg.iS (k:cg)(s:cz)(a i:Int):Int:=if((pk (k.ld a)=3\/pk (k.ld a)=4)/\k.cY s (k.ld (a+1))=Nc)/\(i=0\/(pk (k.ld a)=4/\i=1)) then 3 else k.ld (a+1+i)
structure lB (k:cg)(a:Int):Prop where
 c:pc (k.ld a)=0
 i:∀i,0<=i->i<=pf (k.ld a)->dw k.a.N k.s.y k.s.g (a+i)=Nc
theorem iA.As {k b:cg}(h:iA k b){a:Int}(e:b.ld a=k.ld a)(w:lB k a):lB b a:=⟨(e▸w.c),fun i d c=>by rw[h.a,h.y,h.g];rw[e] at c;exact w.i i d c⟩
theorem HV (b:kA k){a:Int}(w:lB k a):iA k (k.brk s a)/\(∀q,(q<=a\/a+pf (k.ld a)<q)->(k.brk s a).ld q=k.ld q)/\∀i,0<=i->i<pf (k.ld a)->(k.brk s a).ld (a+1+i)=k.iS s a i:=by
 unfold cg.brk;by_cases c:(pk (k.ld a)=3\/pk (k.ld a)=4)/\k.cY s (k.ld (a+1))=Nc
 ·rw[aJ c];have m:=iR w.c aa;have f:=w.i 1 aa aa;have d:=uN b f 3;by_cases e:pk (k.ld a)=4
  ·rw[aJ e];have g:=uN ((pX k (a+1) 3).bd b) (w.i 2 aa aa) 3;refine⟨(pX k (a+1) 3).trans (pX _ _ _),fun q hq=>?_,fun i j l=>?_⟩
   ·rw[g,aI aa,d,aI aa]
   ·unfold cg.iS;rw[g,d];by_cases z:i=0
    ·simp_all
    ·by_cases o:i=1
     ·rw[aJ aa,aJ ⟨c,aK ⟨e,o⟩⟩]
     ·omega
  ·rw[aI e];refine⟨pX k (a+1) 3,fun q hq=>?_,fun i j l=>?_⟩
   ·rw[d,aI aa]
   ·unfold cg.iS;rw[d];by_cases z:i=0
    ·simp_all
    ·omega
 ·rw[aI c];refine⟨iA.refl k,fun q hq=>rfl,fun i j f=>?_⟩
  unfold cg.iS;rw[aI (fun h=>c h.1)]
theorem Au (b:kA k){a:Int}(w:lB k a):∀n:Nat,(n:Int)<=pf (k.ld a)->iA k (k.h8 s a n)/\(∀q,(q<=a\/a+n<q)->(k.h8 s a n).ld q=k.ld q)/\∀i:Int,0<=i->i<n->(k.h8 s a n).ld (a+1+i)=k.nw s (k.ld (a+1+i))
 |0,_=>⟨iA.refl k,fun _ _=>rfl,fun i d g=>aa⟩
 |n+1,hn=>by
  obtain⟨c,f,j⟩:=Au b w n aa;have hi:dw (k.h8 s a n).a.N (k.h8 s a n).s.y (k.h8 s a n).s.g (a+1+n)=Nc:=by rw[c.a,c.y,c.g,show a+1+(n:Int)=a+(1+n) from by omega];exact w.i _ aa aa
  have e:=uN (c.bd b) hi (k.nw s ((k.h8 s a n).ld (a+1+n)))
  have l:k.h8 s a (n+1)=(k.h8 s a n).iN (a+1+n) (k.nw s ((k.h8 s a n).ld (a+1+n))):=rfl;rw[l];refine⟨c.trans (pX _ _ _),fun q hq=>?_,fun i d g=>?_⟩
  ·rw[e,aI aa];exact f q aa
  ·rw[e];by_cases z:i=n
   ·rw[aJ aa,f _ aa,z]
   ·rw[aI aa];exact j i d aa
theorem HW (b:kA k){a:Int}(w:lB k a):iA k (k.kw s a)/\(∀q,(q<=a\/a+pf (k.ld a)<q)->(k.kw s a).ld q=k.ld q)/\∀i,0<=i->i<pf (k.ld a)->(k.kw s a).ld (a+1+i)=k.nw s (k.iS s a i):=by
 obtain⟨c,d,f⟩:=HV b w;have hp:=dv (k.ld a)
 have ea:=d a (aM (tF _))
 obtain⟨g,j2,cI⟩:=Au (c.bd b) (c.As ea w) (M (pf (k.ld a))) (by rw[ea];omega)
 unfold cg.kw;refine⟨c.trans g,fun q hq=>?_,fun i e j=>?_⟩
 ·rw[j2 q aa];exact d q hq
 ·rw[cI i e aa,f i e j];exact cg.kT s _ c.Y c.G
structure mQ (k0:cg)(s:cz)(D:List Int)(t:cg):Prop where
 st:iA k0 t
 hd:∀c∈k0.T,t.ld c=k0.ld c
 dr:∀c∈D,s.f c≠-1->∀i,0<=i->i<pf (k0.ld c)->t.ld (c+1+i)=k0.nw s (k0.iS s c i)
 td:∀c∈k0.T,c∉D->∀i,0<=i->i<pf (k0.ld c)->t.ld (c+1+i)=k0.ld (c+1+i)
theorem mQ.step {k0:cg}(b:kA k0)(w:∀c∈k0.T,lB k0 c)(ap:∀c∈k0.T,∀d∈k0.T,c<d->c+(1+pf (k0.ld c))<=d){D:List Int}{t:cg}(h:mQ k0 s D t){a:Int}(ha:a∈k0.T)(l:a∉D)(x:∀c∈D,c∈k0.T):mQ k0 s (D++[a]) (fL (fun(_:cg) a=>s.f a) (fun k a=>k.kw s a) t a):=by
 by_cases c:s.f a=-1
 ·have n:fL (fun(_:cg) a=>s.f a) (fun k a=>k.kw s a) t a=t:=by unfold fL;rw[aJ c]
  rw[n];refine⟨h.st,h.hd,fun d hd o=>?_,fun d hd hn=>h.td d hd (fun m=>hn (bu _ m))⟩
  rcases bE.1 hd with hd|hd
  ·exact h.dr d hd o
  ·simp_all
 ·have n:fL (fun(_:cg) a=>s.f a) (fun k a=>k.kw s a) t a=t.kw s a:=by unfold fL;rw[aI c]
  rw[n];have ea:=h.hd a ha;obtain⟨B,u,v⟩:=HW (h.st.bd b) (h.st.As ea (w a ha))
  rw[ea] at u v;have p:∀d∈k0.T,d≠a->∀i,0<=i->i<=pf (k0.ld d)->(t.kw s a).ld (d+i)=t.ld (d+i):=fun d hd j i g f=>u _ (by
   rcases Int.lt_or_gt_of_ne j with q|q
   ·have:=ap d hd a ha q;omega
   ·have:=ap a ha d hd q;omega)
  have F:∀i,0<=i->i<pf (k0.ld a)->t.iS s a i=k0.iS s a i:=fun i g f=>by unfold cg.iS cg.cY cg.jt;rw[ea,h.st.T];have q0:=h.td a ha l 0 aa aa;rw[En] at q0;rw[q0,h.td a ha l i g f]
  refine⟨h.st.trans B,fun d hd=>?_,fun d hd o i g f=>?_,fun d hd hn i g f=>?_⟩
  ·by_cases e:d=a
   ·simp_all
   ·have:=p d hd e 0 aa (dv _).1;rw[En] at this
    rw[this];exact h.hd d hd
  ·rcases bE.1 hd with hd|hd
   ·have j:d≠a:=fun e=>l (e▸hd)
    have:=p d (x d hd) j (1+i) aa aa;rw[<-zh] at this
    rw[this];exact h.dr d hd o i g f
   ·have e:=bQ.1 hd;rw[e] at f⊢;rw[v i g f,F i g f];exact cg.kT s _ h.st.Y h.st.G
  ·have j:d≠a:=fun e=>hn (by rw[e];simp)
   have:=p d hd j (1+i) aa aa;rw[<-zh] at this
   rw[this];exact h.td d hd (fun m=>hn (bu _ m)) i g f
theorem mQ.all {k0:cg}(b:kA k0)(w:∀c∈k0.T,lB k0 c)(ap:∀c∈k0.T,∀f∈k0.T,c<f->c+(1+pf (k0.ld c))<=f):∀(l D:List Int)(t:cg),(D++l).Nodup->(∀c∈D++l,c∈k0.T)->mQ k0 s D t->mQ k0 s (D++l) (t.oO s l)
 |[],D,t,_,_,h=>by rw[ji];exact h
 |a::l,D,t,hn,d,h=>by
  have e:D++a::l=(D++[a])++l:=ac;have g:_:=fun m=>(List.nodup_append.1 hn).2.2 a m a ac rfl;have i:=h.step b w ap (d a ac) g (fun c hc=>d c (bu _ hc))
  rw[e] at hn d⊢;exact mQ.all b w ap l _ _ hn d i
theorem Av (k:cg)(s:cz):∀n,n<=L k.s.rs->(k.gw s n).a=k.a/\(k.gw s n).Y=k.Y/\(k.gw s n).G=k.G/\(k.gw s n).s.y=k.s.y/\(k.gw s n).s.g=k.s.g/\(k.gw s n).s.ws=k.s.ws/\L (k.gw s n).s.rs=L k.s.rs/\∀i,i<L k.s.rs->X (k.gw s n).s.rs i 0=if i<n then k.nw s (X k.s.rs i 0) else X k.s.rs i 0
 |0,_=>⟨rfl,rfl,rfl,rfl,rfl,rfl,rfl,fun i _=>af⟩
 |n+1,hn=>by
  obtain⟨b,c,d,f,g,j,l,m⟩:=Av k s n aa;refine⟨b,c,d,f,g,j,?_,fun i hi=>?_⟩
  ·show L (F3 _ _ _)=_;rw[bh];exact l
  ·show X (F3 _ n _) i 0=_;by_cases e:i=n
   ·simp_all
   ·rw[aL,Mh aa,<-aL,m i hi];by_cases o:i<n
    ·omega
    ·omega
theorem pY (b:kA k)(hr:L k.s.rs=12)(hn:k.T.Nodup)(w:∀c∈k.T,lB k c)(ap:∀c∈k.T,∀n∈k.T,c<n->c+(1+pf (k.ld c))<=n):
 (k.fD s).a=k.a/\(k.fD s).Y=k.Y/\(k.fD s).G=k.G/\(k.fD s).s.y=k.s.y/\(k.fD s).s.g=k.s.g/\kA (k.fD s)/\L (k.fD s).s.rs=12/\(∀i,i<12->X (k.fD s).s.rs i 0=k.nw s (X k.s.rs i 0))/\
 (∀c∈k.T,(k.fD s).ld c=k.ld c)/\∀c∈k.T,s.f c≠-1->∀i,0<=i->i<pf (k.ld c)->(k.fD s).ld (c+1+i)=k.nw s (k.iS s c i):=by
 obtain⟨d,j,l,f,g,o,u,v⟩:=Av k s 12 aa;obtain⟨k0,B⟩:∃k0,k.gw s 12=k0:=⟨_,rfl⟩
 rw[B] at d j l f g o u v;have e:∀x,k0.ld x=k.ld x:=fun x=>by unfold cg.ld;rw[d,f,g,o]
 have m:k0.T=k.T:=by unfold cg.T;rw[j,l]
 have F:kA k0:=⟨by rw[o,d];exact b.l,by rw[f,d];exact b.y,by rw[g,d];exact b.g⟩
 have w0:∀c∈k0.T,lB k0 c:=fun c hc=>by rw[m] at hc;exact⟨by rw[e];exact(w c hc).c,fun i p t=>by rw[e] at t;rw[d,f,g];exact(w c hc).i i p t⟩
 have key:=mQ.all (s:=s) F w0 (fun c hc n hd q=>by simp_all) k0.T [] k0 (by simp_all) (fun c hc=>hc) ⟨iA.refl _,fun _ _=>rfl,(fun c hc=>by cases hc),fun _ _ _ _ _ _=>rfl⟩
 have N:k.fD s=k0.oO s k0.T:=by unfold cg.fD;rw[B,m]
 rw[N];refine⟨key.st.a.trans d,key.st.Y.trans j,key.st.G.trans l,key.st.y.trans f,key.st.g.trans g,key.st.bd F,by rw[key.st.rs,u];exact hr,fun i hi=>by rw[key.st.rs,v i aa,aJ hi],fun c hc=>?_,fun c hc S i p t=>?_⟩
 ·rw[key.hd c (by simp_all),e]
 ·rw[key.dr c ((m▸hc)) S i p (by simp_all)];have W:k0.iS s c i=k.iS s c i:=by unfold cg.iS cg.cY cg.jt;rw[m,e,e,e]
  rw[W];exact cg.kT s _ j l
end
section
variable {k:ck}{z:C0}{s t:ct}{H K D:List Int}
theorem me (k:ck)(s:ct):∀n,(k.cP s n).wk=s.wk/\(k.cP s n).ep=s.ep/\(k.cP s n).nx=s.nx
 |0=>⟨rfl,rfl,rfl⟩
 |n+1=>by obtain⟨b,c,d⟩:=me k s n;obtain⟨_,e,j2,cI⟩:=mP k _ _;exact⟨e.trans b,j2.trans c,cI.trans d⟩
theorem dU.cP (w:dU k z s H)(h:dJ k z s H)(n:Nat)(ht:dJ k z (k.cP s n) K)(p:dd k s (k.cP s n))(b:∃c,K=H++c):dU k z (k.cP s n) K:=
 w.go h ht p b (me k s n).1 (me k s n).2.1
theorem LI.pZ (c:Int)(M:List Int)(hz:el (k.l0 z) ((k.N:Int)+z.g) k.N z.G):∀(l:List Int){s:ct}{H D:List Int},LI k z s H D->dU k z s H->(∀a∈l,a∈z.G\/(k.N:Int)+z.g<=a)->∃i j,LI k z (l.foldl (k.gR ((k.N:Int)+z.g) c M) s) i j/\dU k z (l.foldl (k.gR ((k.N:Int)+z.g) c M) s) i/\dd k s (l.foldl (k.gR ((k.N:Int)+z.g) c M) s)/\(∃g,i=H++g)/\(∀a∈D,a∈j)/\∀a∈l,a∈z.G->(gE k.N c a&&bR M (cN k.N a))=Nc->a∈j
 |[],s,H,D,h,w,_=>⟨H,D,h,w,dd.refl _ _,⟨[],ac⟩,fun _ d=>d,fun a ha=>by cases ha⟩
 |b::l,s,H,D,h,w,hl=>by
  rw[a_];have x:=dv (k.ld s b)
  by_cases f:b∈z.G/\(gE k.N c b&&bR M (cN k.N b))=Nc
  ·have hb:=(hz.mem b f.1).2.1;have m:k.gR ((k.N:Int)+z.g) c M s b=k.lk s b:=by unfold ck.gR;rw[aJ (by rw[(h.mi.hd b b (aM ⟨rfl,f.1⟩))];omega),aJ f.2]
   rw[m];obtain⟨B,m1,q,⟨g,t⟩⟩:=h.lk f.1;obtain⟨n,o,p,kX,j2,⟨v,cI⟩,cK,dN⟩:=LI.pZ c M hz l m1 (w.lk h.mi (bu H f.1) m1.mi q ⟨g,t⟩) (fun a ha=>hl a (aW _ ha))
   refine⟨n,o,p,kX,q.trans j2,⟨g++v,by rw[cI,t,bw]⟩,fun a d=>cK a (aW _ d),fun a ha hg hm=>?_⟩
   rcases bT.1 ha with d|d
   ·exact cK a (by rw[d];simp)
   ·exact dN a d hg hm
  ·have m:k.gR ((k.N:Int)+z.g) c M s b=s:=by
    unfold ck.gR;by_cases u:b∈z.G
    ·split
     ·rw[aI (fun e=>f ⟨u,e⟩)]
     ·rfl
    ·have:=(hl b ac).resolve_left u;rw[aI aa]
   rw[m];obtain⟨n,o,p,kX,j2,cI,cK,dN⟩:=LI.pZ c M hz l h w (fun a ha=>hl a (aW _ ha))
   refine⟨n,o,p,kX,j2,cI,cK,fun a ha hg hm=>?_⟩
   rcases bT.1 ha with d|d
   ·exact absurd ⟨by rw[<-d];exact hg,by rw[<-d];exact hm⟩ f
   ·exact dN a d hg hm
end
def Rest (k:ck)(z:C0)(D:List Int)(H:List Int)(s:ct):Prop:=∃K,LI k z s K D/\dU k z s K/\eB k s/\hB k.N s.g s.nx=Nb/\∃b,K=H++b
section
variable {k:ck}{z:C0}{D H:List Int}
theorem p5:∀(n:Nat)(t:ct×List cf),CI k t.1->eB k t.1->CI k (k.c_ n t).1/\eB k (k.c_ n t).1
 |0,t,h,hb=>⟨h,hb⟩
 |n+1,t,h,hb=>by
  obtain⟨c1,c2,c3⟩:=CI.lb h hb (k.O+1)
  obtain⟨b,c,f,g⟩:=CI.kv c1 c2;obtain⟨d,e,_⟩:=CI.wa (s:=((k.kv _).2,t.2)) b c;unfold ck.c_;split
  ·exact p5 n ((k.kv _).2,t.2) b c
  ·split
   ·exact p5 n _ d e
   ·exact⟨d,e⟩
theorem Rest.sp {t:ct×List cf}{b:List Int}(h:LI k z t.1 b D)(w:dU k z t.1 b)(hb:eB k t.1)(e:∃c,b=H++c):Rest k z D H (k.sp t).1:=by obtain⟨K,m1,d,_,⟨B,f⟩⟩:=da.sp t b h w;obtain⟨A,e⟩:=e;exact⟨K,m1,d,(p5 _ t h.mi.ci hb).2,rK _ t b h w hb aa,⟨A++B,by rw[f,e,bw]⟩⟩
theorem Rest.ke {t:ct×List cf}(h:Rest k z D H t.1)(x:Int):Rest k z D H (k.ke t x).2.1:=by
 obtain⟨K,m1,d,b,_,⟨A,e⟩⟩:=h;obtain⟨j,f,j2,_,⟨B,cK⟩⟩:=da.br x K m1 d;obtain⟨_,g,i,c⟩:=mP k t.1 x;have hb:eB k (k.br t.1 x).2:=⟨by rw[g,c];exact b.wk,by rw[i,c];exact b.ep⟩
 exact Rest.sp f j2 hb ⟨A++B,by rw[cK,e,bw]⟩
theorem Rest.one {t:ct×List cf}(h:Rest k z D H t.1)(e:cf):Rest k z D H (cm (dY ct) (fun s x=>k.al s.1 x) k.ke t e).2.1:=by
 unfold cm;split
 ·exact h.ke e.2
 ·exact h
theorem Rest.part (l:List cf){t:ct×List cf}(h:Rest k z D H t.1):Rest k z D H (pts (cm (dY ct) (fun s x=>k.al s.1 x) k.ke) t l).2.2.1:=by
 have key:∀(l:List cf)(p:List cf×List cf×(ct×List cf)),Rest k z D H p.2.2.1->Rest k z D H (l.foldl (eM (cm (dY ct) (fun s x=>k.al s.1 x) k.ke)) p).2.2.1:=by
  intro l
  induction l with
  |nil=>exact fun p h=>h
  |cons e l c=>
   intro p hp;refine c _ ?_;have b:=hp.one e;unfold eM;split
   ·exact b
   ·exact b
 exact key l ([],[],t) h
theorem Rest.turn:∀(n:Nat){t:ct×List cf}(b:List cf),Rest k z D H t.1->Rest k z D H (eT (cm (dY ct) (fun s x=>k.al s.1 x) k.ke) n t b).1.1
 |0,t,b,h=>h
 |n+1,t,b,h=>by
  unfold eT;split
  ·exact h.part b
  ·exact Rest.turn n _ (h.part b)
theorem Rest.fu {t:ct×List cf}(h:Rest k z D H t.1)(r:List cf):Rest k z D H (k.fu t r).1:=Rest.turn _ _ h
end
section
variable {k:ck}{z:C0}{s:ct}{H D:List Int}
theorem LI.fy (h:LI k z s H D)
 (hz:∀v,(v∈k.T\/v∈z.G)->∀i,0<=i->i<pf (k.l0 z v)->de (k.l0 z (v+1+i))=Nc->cr (k.l0 z (v+1+i))∈k.T\/cr (k.l0 z (v+1+i))∈z.G)
 {b:Int}(hb:b∈z.G++H){i:Int}(f:0<=i)(d:i<pf (k.ld s b))(ha:de (k.ld s (b+1+i))=Nc)(hy:k.cQ (k.ld s (b+1+i))=Nb):cr (k.ld s (b+1+i))∈z.G++H:=by
 obtain⟨a,o⟩:=h.mi.from hb;rw[(h.mi.hd a b o)] at d;have hm:=h.mi.fd a b o i f d;have g:a∈k.T\/a∈z.G:=by
  rcases o with⟨e,c⟩|⟨c,_⟩
  ·simp_all
  ·exact aM c
 rcases hm with e|⟨g1,g2,g3⟩
 ·rw[e] at ha hy⊢;rcases hz a g i f d ha with c|c
  ·unfold ck.cQ at hy;rw[ha] at hy;simp at hy;exact absurd c hy
  ·simp_all
 ·have hT:cr (k.l0 z (a+1+i))∈k.T:=by exact uI
  exact Ac
theorem dJ.p6 (h:dJ k z s H){x:Int}(b:cr x∈z.G++H):k.cQ x=Nb:=by
 unfold ck.cQ;have e:bR k.T (cr x)=Nb:=by
  cases hc:bR k.T (cr x)
  ·rfl
  ·exact absurd (by grind) (h.ci.z8 (h.bd b).1)
 grind
theorem Aw (k:ck):∀(n:Nat)(s:ct),(k.lb n s).rs=s.rs
 |0,s=>rfl
 |n+1,s=>by
  unfold ck.lb;split
  ·exact(Aw k n _).trans (rF k s s.nx).2
  ·rfl
theorem Ax (k:ck):∀(l:List Int)(t:List Int×ct),(l.foldl k.cV t).2.rs=t.2.rs
 |[],t=>rfl
 |a::l,t=>by
  refine(Ax k l _).trans ?_
  grind [ly,ck.cV]
theorem HX (k:ck)(s:ct):(k.kv s).2.rs=s.rs:=Ax k s.ep ([],s)
theorem Ay (k:ck):∀(l:List Nat)(t:(ct×List cf)×Bool),(l.foldl (dI k.al k.br) t).1.1.rs=t.1.1.rs
 |[],t=>rfl
 |a::l,t=>by
  refine(Ay k l _).trans ?_
  grind [mP,dI]
theorem rM (k:ck):∀(n:Nat)(t:ct×List cf),(k.c_ n t).1.rs=t.1.rs
 |0,t=>rfl
 |n+1,t=>by
  have b:(k.kv (k.lb (k.O+1) t.1)).2.rs=t.1.rs:=(HX ..).trans (Aw ..)
  have c:(k.wa ((k.kv (k.lb (k.O+1) t.1)).2,t.2)).1.1.rs=t.1.rs:=(Ay k _ (((k.kv _).2,t.2),Nb)).trans b;unfold ck.c_;split
  ·exact(rM k n _).trans b
  ·split
   ·exact(rM k n _).trans c
   omega
theorem HY (k:ck)(t:ct×List cf)(x:Int):(k.ke t x).2.1.rs=t.1.rs:=(rM ..).trans (mP ..).1
theorem HZ (k:ck)(t:ct×List cf)(e:cf):(cm (dY ct) (fun s x=>k.al s.1 x) k.ke t e).2.1.rs=t.1.rs:=by
 unfold cm;split
 ·exact HY k t e.2
 ·rfl
theorem Az (k:ck)(l:List cf)(t:ct×List cf):(pts (cm (dY ct) (fun s x=>k.al s.1 x) k.ke) t l).2.2.1.rs=t.1.rs:=by
 have key:∀(l:List cf)(p:List cf×List cf×(ct×List cf)),(l.foldl (eM (cm (dY ct) (fun s x=>k.al s.1 x) k.ke)) p).2.2.1.rs=p.2.2.1.rs:=by
  intro l
  induction l with
  |nil=>grind
  |cons e l b=>
   grind [HZ,eM]
 exact key l ([],[],t)
theorem AA (k:ck):∀(n:Nat)(t:ct×List cf)(b:List cf),(eT (cm (dY ct) (fun s x=>k.al s.1 x) k.ke) n t b).1.1.rs=t.1.rs
 |0,t,b=>rfl
 |n+1,t,b=>by
  unfold eT;split
  ·exact Az k b t
  ·exact(AA k n _ _).trans (Az k b t)
theorem H0 (k:ck)(t:ct×List cf)(r:List cf):(k.fu t r).1.rs=t.1.rs:=AA k _ _ _
theorem rN (k:ck)(e c:Int)(M:List Int):∀(l:List Int)(s:ct),L (l.foldl (k.gR e c M) s).wk<=L s.wk+L l/\L (l.foldl (k.gR e c M) s).ep<=L s.ep+L l/\(l.foldl (k.gR e c M) s).nx=s.nx/\(l.foldl (k.gR e c M) s).rs=s.rs
 |[],s=>(by grind)
 |b::l,s=>by
  rw[a_];obtain⟨j,m,d,f⟩:=rN k e c M l _;have key:L (k.gR e c M s b).wk<=L s.wk+1/\L (k.gR e c M s b).ep<=L s.ep+1/\(k.gR e c M s b).nx=s.nx/\(k.gR e c M s b).rs=s.rs:=by
   unfold ck.gR;split
   ·split
    ·obtain⟨w1,n⟩:=An k s b
     grind [rF]
    grind
   grind
  obtain⟨k1,o,g,i⟩:=key;simp;exact⟨aa,aa,d.trans g,f.trans i⟩
end
theorem oW {N O y g:Nat}{ws Y G:List Int}(h:em N y g ws Y G)(hN:N<=256)(hy:y<=N)(hO:O<=1024)(hg:g<=O):nJ N y g ws=Y:=by unfold nJ;rw[(h.lists hN hy hO hg).1];exact p4.2 (fun x b=>bv (by have:=(h.ty.mem x b).2.1;omega))
def eE.z0 (s:eE)(G:List Int):C0:=⟨s.g,s.ws,G⟩
theorem LI.start {a:Wc}{s:eE}{Y G:List Int}(h:em a.N s.y s.g s.ws Y G)(hN:16<=a.N)(hN':a.N<=256)(hO:a.O<=1024)(hy:s.y<=a.N)(hg:s.g<=a.O)(hl:L s.ws=a.N+a.O)(hr:s.y<=a.O-s.g):LI (s.k0 a) (s.z0 G) (s.s0 a) [] []:=by
 have d:(s.k0 a).T=Y:=oW h hN' hy hO hg;refine⟨⟨(by grind [CI.start]),aG _,?_,fun b hb=>(h.io b hb).2,fun _ _ _=>rfl,fun a _ e=>absurd rfl e,fun a _ b _ e=>absurd rfl e,fun b hb=>(by grind),fun b hb=>(by grind),fun a b o=>?_,fun a b o i f g=>?_⟩,aK rfl,fun b hb=>(by grind),fun b hb=>(by grind),fun b hb=>(by grind)⟩
 ·rw[d,ji];exact h
 ·rcases o with⟨e,_⟩|⟨_,e,c⟩
  ·rw[e];rfl
  ·exact absurd e.symm c
 ·rcases o with⟨e,_⟩|⟨_,e,c⟩
  ·rw[e];exact aM rfl
  ·exact absurd e.symm c
theorem dU.start (a:Wc)(s:eE)(G:List Int):dU (s.k0 a) (s.z0 G) (s.s0 a) []:=⟨fun b hb=>(by cases hb),fun b hb=>(by cases hb)⟩
structure p7 (a:Wc)(S:cw)(G K D:List Int):Prop where
 li:LI (S.s.k0 a) (S.s.z0 G) (S.s4 a) K D
 we:dU (S.s.k0 a) (S.s.z0 G) (S.s4 a) K
 he:hB a.N (S.s4 a).g (S.s4 a).nx=Nb
 hz:∀v,(v∈(S.s.k0 a).T\/v∈G)->∀i,0<=i->i<pf ((S.s.k0 a).l0 (S.s.z0 G) v)->de ((S.s.k0 a).l0 (S.s.z0 G) (v+1+i))=Nc->cr ((S.s.k0 a).l0 (S.s.z0 G) (v+1+i))∈(S.s.k0 a).T\/cr ((S.s.k0 a).l0 (S.s.z0 G) (v+1+i))∈G
 hc:∀v∈G,v∉D->∀i,0<=i->i<pf ((S.s.k0 a).l0 (S.s.z0 G) v)->(S.s.k0 a).cQ ((S.s.k0 a).l0 (S.s.z0 G) (v+1+i))=Nb
 rl:L (S.s4 a).rs=12
 AB:∀i,i<12->(S.s.k0 a).cQ (X (S.s4 a).rs i 0)=Nb
 rm:∀i,i<12->(S.s.k0 a).ml (S.s4 a) (X S.s.rs i 0) (X (S.s4 a).rs i 0)
section
variable {a:Wc}{S:cw}{Y G:List Int}
theorem rO (h:eP a S.s Y G)(hb:cO a S.s)(hr:S.s.y<=a.O-S.s.g):∃K D,p7 a S G K D:=by
 have n:(S.s.k0 a).T=Y:=oW h.inv.full hb.n1 hb.y1 hb.o1 hb.g1;have o:=LI.start h.inv.full hb.n0 hb.n1 hb.o1 hb.y1 hb.g1 hb.l1 hr;obtain⟨H1,d,s,⟨aF,u⟩,l1,y1,_,m1⟩:=o.cP 12 (by show 12<=L S.s.rs;rw[hb.r1];exact aG _)
 have p:dM a.N S.s.y (S.s.s1 a).g (S.s.s1 a).ws=G++H1:=(d.mi.full.lists hb.n1 hb.y1 hb.o1 d.mi.ci.hg).2;have F:(S.s.s1 a).nx=((S.s.k0 a).N:Int)+(S.s.z0 G).g:=(me _ _ 12).2.2;have N:el ((S.s.k0 a).l0 (S.s.z0 G)) (((S.s.k0 a).N:Int)+(S.s.z0 G).g) (S.s.k0 a).N (S.s.z0 G).G:=h.inv.full.eH;obtain⟨c,e,g,j,q,⟨aR,aV⟩,_,W⟩:=LI.pZ (dO a.O) S.s.M N (G++H1) d ((dU.start a S.s G).cP o.mi 12 d.mi s ⟨_,u⟩) (fun x ab=>(bE.1 ab).imp id (fun ad=>d.mi.hlo x ad))
 have ag:(G++H1).foldl ((S.s.k0 a).gR (((S.s.k0 a).N:Int)+(S.s.z0 G).g) (dO a.O) S.s.M) ((S.s.k0 a).cP (S.s.s0 a) 12)=S.s.s2 a:=by unfold eE.s2 ck.lm;rw[p,F];rfl
 have hlen:=rN (S.s.k0 a) (((S.s.k0 a).N:Int)+(S.s.z0 G).g) (dO a.O) S.s.M (G++H1) ((S.s.k0 a).cP (S.s.s0 a) 12)
 rw[ag] at g j q hlen;have a0:L (G++H1)<=2000:=(p▸je _ _)
 obtain⟨q1,q2,q3⟩:=me _ _ 12;have cb:eB (S.s.k0 a) (S.s.s2 a):=by exact uM
 have ai:Rest (S.s.k0 a) (S.s.z0 G) e c (S.t3 a).1:=by
  have key:∀s2:ct,LI (S.s.k0 a) (S.s.z0 G) s2 c e->dU (S.s.k0 a) (S.s.z0 G) s2 c->eB (S.s.k0 a) s2->_:=fun s2 l w b=>Rest.sp (t:=(s2,S.q)) l w b ⟨[],(ji _).symm⟩
  exact key _ g j cb
 have al:Rest (S.s.k0 a) (S.s.z0 G) e c (S.s4 a):=by exact ai.fu S.r
 obtain⟨K,am,an,_,he,⟨B,a1⟩⟩:=al;have k:(S.s4 a).rs=(S.s.s1 a).rs:=by unfold cw.s4;rw[H0];unfold cw.t3 ck.sp;rw[rM];exact hlen.2.2.2
 have j6:dd (S.s.k0 a) (S.s.s1 a) (S.s4 a):=by
  have key:∀s2:ct,LI (S.s.k0 a) (S.s.z0 G) s2 c e->dU (S.s.k0 a) (S.s.z0 G) s2 c->dd (S.s.k0 a) s2 ((S.s.k0 a).fu ((S.s.k0 a).sp (s2,S.q)) S.r).1:=fun s2 l w=>by obtain⟨ao,f,ap,ar,_⟩:=da.sp (s2,S.q) c l w;obtain⟨a2,_,_,cI,_⟩:=da.fu _ S.r ao f ap;exact ar.trans cI
  exact q.trans (key _ g j)
 refine⟨K,e,am,an,he,fun v hv i m f ha=>?_,fun v hv aB i m f=>?_,?_,fun i hi=>?_,fun i hi=>?_⟩
 ·rw[n] at hv⊢;exact h.inv.fd v hv i m f ha
 ·cases hc:(S.s.k0 a).cQ _
  ·rfl
  ·exfalso;unfold ck.cQ at hc;rw[bB,n] at hc;exact aB (W v (bu _ hv) hv (h.cd v hv i m f hc.1 (bP.1 hc.2)))
 ·rw[k];exact l1.trans hb.r1
 ·rw[k];exact y1 i hi
 ·rw[k];exact j6.ml (m1 i hi)
theorem p7.root {K D:List Int}(c:p7 a S G K D)(h:eP a S.s Y G)(hb:cO a S.s):∀x∈(S.s4 a).rs,kz (S.s.k0 a) (G++K) x:=fun x j ha=>by
 have k:(S.s.k0 a).T=Y:=oW h.inv.full hb.n1 hb.y1 hb.o1 hb.g1;obtain⟨i,hi,e⟩:=bY.1 j;have b:i<12:=(c.rl▸hi)
 have l:X (S.s4 a).rs i 0=x:=by simp_all
 have hy:=c.AB i b;have hm:=c.rm i b;rw[l] at hy hm;refine⟨hy,?_⟩
 rcases hm with m|⟨g1,g2,g3⟩
 ·have d:X S.s.rs i 0∈S.s.rs:=by
   have hl:i<L S.s.rs:=(hb.r1▸b)
   rw[aL,aN hl];exact a9 hl
  rw[<-m] at d;rcases h.inv.rt x d ha with g|g
  ·unfold ck.cQ at hy;rw[ha,k] at hy;simp at hy;exact absurd g hy
  ·simp_all
 ·have o:cr (X S.s.rs i 0)∈(S.s.k0 a).T:=by exact uI
  have f:=c.li.mi.fh _ o g2;have p:=c.li.mi.jD f;have hN:=hb.n1;have hO:=hb.o1;have hg:=c.li.mi.ci.hg;have q:(S.s.k0 a).N=a.N:=rfl;have s:(S.s.k0 a).O=a.O:=rfl;obtain⟨n,hn⟩:∃n:Nat,(S.s4 a).f (cr (X S.s.rs i 0))=n:=⟨M ((S.s4 a).f (cr (X S.s.rs i 0))),aa⟩
  rw[g3,hn,(nO n aa).2,<-hn];exact bq _ f
theorem p7.done {K D:List Int}(c:p7 a S G K D)(h:eP a S.s Y G)(hb:cO a S.s):iQ a.N 0 (S.s6 a).g (S.s6 a).ws [] (G++K) (S.s6 a).rs:=by
 have ci:=c.li.mi.ci;have u:ia (S.s.k0 a) (G++K) (fun b i=>(i=0/\b∈(S.s4 a).wk)\/((i=0\/i=1)/\b∈(S.s4 a).ep)) (S.s4 a):=by
  refine⟨c.li.mi.full,ci.len,ci.hy,ci.hg,fun b hb i k l=>?_,fun b hb i k l hy ha=>⟨hy,c.li.fy c.hz hb k l ha hy⟩⟩
  cases ha:de _
  ·exact aM (fun e=>by rw[ha] at e;cases e)
  ·rcases c.li.fields c.he c.hz c.hc hb k l ha with s|⟨f,g,F⟩|⟨f,g⟩
   ·exact aM (fun _=>⟨c.li.mi.p6 s,s⟩)
   ·simp_all
   ·have N:=iR (c.li.mi.bd hb).2.2 (aK (aK f))
    exact aK (aK ⟨aa,g⟩)
 obtain⟨m,k5,g5,n,j⟩:=ia.mw hb.n1 hb.o1 _ u (fun x d=>c.we.wk x d) (fun x d v=>bq _ (c.li.mi.fh x d v))
 have m:ia (S.s.k0 a) (G++K) _ (S.s5 a):=m;have j:(S.s5 a).ep=(S.s4 a).ep:=j;have n:(S.s5 a).rs=(S.s4 a).rs:=n;have k5:∀b∈G++K,(S.s.k0 a).ld (S.s5 a) b=(S.s.k0 a).ld (S.s4 a) b:=k5;obtain⟨o,k6,W,q⟩:=ia.be (S.s5 a).ep m (fun x d=>by rw[j] at d;obtain⟨q1,w⟩:=c.we.ep x d;exact⟨q1,(k5 x q1▸w)⟩)
 have q:(S.s6 a).rs=(S.s5 a).rs:=q;have o:=o.imp (fun b i p=>by
  obtain⟨⟨B,ab⟩,t⟩:=p;rw[j] at t;rcases B with⟨f,g⟩|⟨f,g⟩
  ·simp_all
  ·exact t ⟨g,f⟩)
 exact o.done (by rw[q,n];exact c.root h hb)
theorem eP.cut (h:eP a S.s Y G)(hb:cO a S.s):∃b d,eP a (S.cut a).s b d:=by
 unfold cw.cut;cases hf:S.full a
 ·have hr:S.s.y<=a.O-S.s.g:=by exact rj
  obtain⟨K,D,c⟩:=rO h hb hr;rw[aI ac];exact⟨[],G++K,c.done h hb,fun v _ i _ _ _ hy=>by cases hy⟩
 ·exact⟨Y,G,h⟩
end
open W
def jj (b:Int->Int->Prop):List Int->List Int->Prop
 |[],[]=>True
 |x::l,c::d=>b x c/\jj b l d
 |_,_=>False
theorem jj.of {c:Int->Int->Prop}:∀{l b:List Int},L l=L b->(∀i,i<L l->c (X l i 0) (X b i 0))->jj c l b
 |[],[],_,_=>trivial
 |[],d::b,h,_=>by grind
 |x::l,[],h,_=>by grind
 |x::l,d::b,h,hi=>⟨by simpa using hi 0 ac,jj.of (by grind) (fun i e=>by
  have:=hi (i+1) (by grind)
  assumption)⟩
def kB (R:Int->Prop)(f:Int->Int)(x b:Int):Prop:=(dk x=3/\dk b=3/\R (dr x)/\dr b=f (dr x))\/(dk x≠3/\dk b=dk x/\dr b=dr x)
structure oX (R:Int->Prop)(f:Int->Int)(T:List Int)(kd:Int->Int)(sh:Int->List Int)(T':List Int)(kd':Int->Int)(sh':Int->List Int):Prop where
 rP:∀a,R a->a∈T
 rQ:∀a,R a->f a∈T'
 inj:∀a b,R a->R b->f a=f b->a=b
 kd:∀a,R a->kd' (f a)=kd a
 sh:∀a,R a->jj (kB R f) (sh a) (sh' (f a))
structure Bs (R:Int->Prop)(f:Int->Int)(T T':List Int)(s s':cX):Prop where
 ok:fB T s
 ok':fB T' s'
 ms:s'.1=s.1.map f
 nd:s'.2=s.2
 rs:∀a∈s.1,R a
section
variable {R:Int->Prop}{f:Int->Int}{T T':List Int}{kd kd':Int->Int}{sh sh':Int->List Int}
theorem AC (inj:∀a b,R a->R b->f a=f b->a=b){c:Int}(hd:R c):∀l:List Int,(∀a∈l,R a)->(l.map f).idxOf (f c)=l.idxOf c
 |[],_=>rfl
 |x::l,h=>by
  rw[List.map_cons,List.idxOf_cons,List.idxOf_cons,AC inj hd l (by grind)]
  grind
theorem uO (inj:∀a b,R a->R b->f a=f b->a=b){c:Int}(hd:R c){l:List Int}(h:∀a∈l,R a):f c∈l.map f↔c∈l:=by grind
def uP (R:Int->Prop)(f:Int->Int)(T T':List Int)(n n':Nat)(M c:cX->Int->cX):Prop:=
 ∀s b a,Bs R f T T' s b->R a->a∉s.1->L T<=L s.1+n->L T'<=L b.1+n'->Bs R f T T' (M s a) (c b (f a))
theorem H2 (B:oX R f T kd sh T' kd' sh'){n n':Nat}{M e:cX->Int->cX}(hM:uP R f T T' n n' M e){s d:cX}(h:Bs R f T T' s d)(hn:L T<=L s.1+n)(k:L T'<=L d.1+n'){x g:Int}(l:kB R f x g):
 (eL M T s x).1=(eL e T' d g).1/\Bs R f T T' (eL M T s x).2 (eL e T' d g).2:=by
 unfold eL;rcases l with⟨i,j,b,m⟩|⟨i,j,b⟩
 ·rw[aJ i,aJ j,aJ (bP.2 (B.rP _ b)),m,aJ (bP.2 (B.rQ _ b))];have hm:=uO B.inj b h.rs;rw[<-h.ms] at hm;by_cases c:dr x∈s.1
  ·rw[aJ (bP.2 c),aJ (bP.2 (by grind))];refine⟨?_,h⟩
   rw[h.ms,AC B.inj b s.1 h.rs]
  ·rw[aI (by grind),aI (by grind)];refine⟨?_,hM s d (dr x) h b c hn k⟩
   rw[h.ms,aZ]
 grind
theorem uQ (B:oX R f T kd sh T' kd' sh'){n n':Nat}{M c:cX->Int->cX}(g:lO T kd sh n M)(i:lO T' kd' sh' n' c)(hM:uP R f T T' n n' M c):∀(l d:List Int)(r b:List (Int×Int)×cX),jj (kB R f) l d->r.1=b.1->Bs R f T T' r.2 b.2->L T<=L r.2.1+n->L T'<=L b.2.1+n'->
 (l.foldl (fun r x=>(r.1++[(eL M T r.2 x).1],(eL M T r.2 x).2)) r).1=(d.foldl (fun r x=>(r.1++[(eL c T' r.2 x).1],(eL c T' r.2 x).2)) b).1/\Bs R f T T' (l.foldl (fun r x=>(r.1++[(eL M T r.2 x).1],(eL M T r.2 x).2)) r).2 (d.foldl (fun r x=>(r.1++[(eL c T' r.2 x).1],(eL c T' r.2 x).2)) b).2
 |[],[],r,b,_,e,h,_,_=>(by grind)
 |[],j::d,r,b,hw,_,_,_,_=>(by grind [jj])
 |x::l,[],r,b,hw,_,_,_,_=>(by grind [jj])
 |x::l,j::d,r,b,hw,e,h,hn,k=>by obtain⟨w1,m⟩:=hw;obtain⟨p,o⟩:=H2 B hM h hn k w1;have g1:=(po g h.ok hn x).le;have g2:=(po i h.ok' k j).le;rw[a_,a_];exact uQ B g i hM l d _ _ m (by grind) o (by grind) (by grind)
theorem AD (B:oX R f T kd sh T' kd' sh'):∀n n':Nat,uP R f T T' n n' (met T kd sh n) (met T' kd' sh' n')
 |0,_=>fun s b a h ha d hn _=>by have:=h.ok.lt (B.rP a ha) d;omega
 |n+1,0=>fun s b a h ha d _ j=>by
  have:=h.ok'.lt (B.rQ a ha) (fun c=>d ((uO B.inj ha h.rs).1 ((h.ms▸c))))
  omega
 |n+1,n'+1=>fun s b a h ha d hn j=>by
  have k:_:=fun c=>d ((uO B.inj ha h.rs).1 ((h.ms▸c)))
  have l:Bs R f T T' (s.1++[a],s.2++[(kd a,[])]) (b.1++[f a],b.2++[(kd' (f a),[])]):=⟨h.ok.more (B.rP a ha) d _,h.ok'.more (B.rQ a ha) k _,by rw[h.ms];simp,by rw[h.nd,B.kd a ha],fun c hc=>by grind [Bs.rs]⟩
  obtain⟨e,g⟩:=uQ B (ka n) (ka n') (AD B n n') (sh a) _ ([],(s.1++[a],s.2++[(kd a,[])])) ([],(b.1++[f a],b.2++[(kd' (f a),[])])) (B.sh a ha) rfl l (by grind) (by grind)
  refine⟨(ka (n+1) s a h.ok (B.rP a ha) d hn).ok,(ka (n'+1) b (f a) h.ok' (B.rQ a ha) k j).ok,g.ms,?_,g.rs⟩
  have i:=g.nd;show(dG _ T' (b.1++[f a],b.2++[(kd' (f a),[])]) _).2.2.set _ (kd' (f a),(dG _ T' (b.1++[f a],b.2++[(kd' (f a),[])]) _).1)=(dG _ T (s.1++[a],s.2++[(kd a,[])]) (sh a)).2.2.set _ (kd a,(dG _ T (s.1++[a],s.2++[(kd a,[])]) (sh a)).1)
  have e:(dG (met T kd sh n) T (s.1++[a],s.2++[(kd a,[])]) (sh a)).1=(dG (met T' kd' sh' n') T' (b.1++[f a],b.2++[(kd' (f a),[])]) (sh' (f a))).1:=e;have i:(dG (met T' kd' sh' n') T' (b.1++[f a],b.2++[(kd' (f a),[])]) (sh' (f a))).2.2=(dG (met T kd sh n) T (s.1++[a],s.2++[(kd a,[])]) (sh a)).2.2:=i;rw[i,<-e,B.kd a ha,h.ms,aZ]
theorem AE (B:oX R f T kd sh T' kd' sh'){l b:List Int}(hl:jj (kB R f) l b){n n':Nat}(hn:L T<=n)(e:L T'<=n'):(dG (met T kd sh n) T ([],[]) l).1=(dG (met T' kd' sh' n') T' ([],[]) b).1/\(dG (met T' kd' sh' n') T' ([],[]) b).2.2=(dG (met T kd sh n) T ([],[]) l).2.2/\(dG (met T' kd' sh' n') T' ([],[]) b).2.1=(dG (met T kd sh n) T ([],[]) l).2.1.map f:=by obtain⟨d,c⟩:=uQ B (ka n) (ka n') (AD B n n') l b ([],([],[])) ([],([],[])) hl rfl ⟨fB.start T,fB.start T',rfl,rfl,fun a ha=>by grind⟩ aa aa;exact⟨d,c.nd,c.ms⟩
end
theorem H3 {x:Int}(h:dk x=3):de x=Nc:=by
 unfold de;have h0:dc x=0:=by
  unfold dk at h;split at h
  ·assumption
  ·omega
 rw[h,h0];rfl
theorem uR {x:Int}(h:de x=Nc):dk x=3:=by unfold de at h;rw[bB] at h;simpa using h.2
theorem Pos.same {z g:Int->Int}{al i:Int->Bool}{f j:Int->Int}:∀{l:List Int}{n m:Int},(∀a∈l,z a=g a/\al a=i a/\f a=j a)->Pos z al f n l m->Pos g i j n l m
 |[],n,m,_,h=>h
 |a::l,n,m,he,h=>by
  obtain⟨q,k,o⟩:=he a ac;have p:∀{n m:Int},Pos z al f n l m->_:=fun h=>Pos.same (fun b hb=>he b (aW _ hb)) h;refine⟨fun c=>?_,fun c=>?_⟩
  ·obtain⟨d,e⟩:=h.1 (by rw[k];exact c)
   rw[<-o,<-q];exact⟨d,p e⟩
  ·obtain⟨d,e⟩:=h.2 (by rw[k];exact c)
   rw[<-o];exact⟨d,p e⟩
structure mR (a:Wc)(s:eE)(T:List Int)(j:cz)(s':eE):Prop where
 y:s'.y=0
 M:s'.M=[]
 rl:L s'.rs=12
 g:s'.g<=a.O
 l:L s'.ws=a.N+a.O
 pos:Pos (fun c=>pf (ld a.N s.y s.g s.ws c)) (fun c=>!(j.f c==-1)) j.f a.N T (a.N+s'.g)
 rs:∀i,i<12->X s'.rs i 0=(s.j0 a).nw j (X s.rs i 0)
 hd:∀c∈T,j.f c≠-1->ld a.N 0 s'.g s'.ws (j.f c)=ld a.N s.y s.g s.ws c
 fd:∀c∈T,j.f c≠-1->∀i,0<=i->i<pf (ld a.N s.y s.g s.ws c)->ld a.N 0 s'.g s'.ws (j.f c+1+i)=(s.j0 a).nw j ((s.j0 a).iS j c i)
section
variable {a:Wc}{s:eE}{Y G:List Int}
theorem lC (h:em a.N s.y s.g s.ws Y G)(hb:cO a s):(s.j0 a).Y=Y/\(s.j0 a).G=G/\(s.j0 a).T=G++Y:=by
 have c:(s.j0 a).Y=Y:=by show eF _ _=Y;rw[(h.lists hb.n1 hb.y1 hb.o1 hb.g1).1];exact rD (fun x b=>bC (by have:=(h.ty.mem x b).2.1;omega))
 have d:(s.j0 a).G=G:=by show eF _ _=G;rw[(h.lists hb.n1 hb.y1 hb.o1 hb.g1).2];exact rD (fun x b=>bC (by have:=(h.eH.mem x b).2.1;omega))
 exact⟨c,d,by unfold cg.T;rw[c,d]⟩
theorem oY (h:em a.N s.y s.g s.ws Y G)(hb:cO a s):∀c∈(s.j0 a).T,lB (s.j0 a) c:=fun c hc=>by
 obtain⟨l,m,f⟩:=lC h hb;rw[f] at hc;rcases bE.1 hc with d|d
 ·obtain⟨g,j,e⟩:=h.eH.mem c d;exact⟨e,fun i k b=>ih (by show(a.N:Int)<=_;omega) (by have b:i<=pf (ld a.N s.y s.g s.ws c):=b;show c+i<(a.N:Int)+s.g;omega)⟩
 ·obtain⟨g,j,e⟩:=h.ty.mem c d;exact⟨e,fun i k b=>jf aa (by have b:i<=pf (ld a.N s.y s.g s.ws c):=b;show c+i<(s.y:Int);omega)⟩
theorem p8 (h:em a.N s.y s.g s.ws Y G)(hb:cO a s):∀c∈(s.j0 a).T,∀b∈(s.j0 a).T,c<b->c+(1+pf ((s.j0 a).ld c))<=b:=fun c hc b hd q=>by
 obtain⟨g,i,d⟩:=lC h hb;rw[d] at hc hd;show c+(1+pf (ld a.N s.y s.g s.ws c))<=b;have hy:=hb.y1;rcases bE.1 hc with hc|hc<;>rcases bE.1 hd with hd|hd
 ·exact h.eH.apart c hc b hd q
 ·have e:=(h.eH.mem c hc).1;have f:=(h.ty.mem b hd).2.1;have:=dv (ld a.N s.y s.g s.ws b)
  omega
 ·have e:=(h.ty.mem c hc).2.1;have f:=(h.eH.mem b hd).1;omega
 ·exact h.ty.apart c hc b hd q
theorem H4 (h:em a.N s.y s.g s.ws Y G)(hb:cO a s)(cI:cz)(hm:((s.j0 a).pl cI).2<=a.N+a.O):
 mR a s (G++Y) ((s.j0 a).pl cI).1 (((s.j0 a).fD ((s.j0 a).pl cI).1).sl ((s.j0 a).pl cI).1).s/\((((s.j0 a).fD ((s.j0 a).pl cI).1).sl ((s.j0 a).pl cI).1).s.g:Int)=((s.j0 a).pl cI).2-a.N/\
 (∀c∈G++Y,((s.j0 a).pl cI).1.f c=-1↔cI.f c=-1)/\(∃F,i4 ((s.j0 a).fD ((s.j0 a).pl cI).1) ((s.j0 a).pl cI).1 F/\F 0 ((s.j0 a).fD ((s.j0 a).pl cI).1,0)):=by
 obtain⟨ar,aB,S⟩:=lC h hb;have ew:=oY h hb;have aF:=p8 h hb;have ad:=(c9.start (s:=s) hb.n1 hb.o1 hb.y1 hb.g1).nd;have hz:∀c,0<=(fun c=>pf ((s.j0 a).ld c)) c:=fun c=>(dv _).1;obtain⟨k,hk⟩:∃k,s.j0 a=k:=⟨_,rfl⟩
 have W:k.a=a:=by rw[<-hk];rfl
 have n:k.s=s:=by rw[<-hk];rfl
 have ag:∀x,k.ld x=ld a.N s.y s.g s.ws x:=fun x=>by rw[<-hk];rfl
 have b2:kA k:=⟨by rw[n,W];exact hb.l1,by rw[n,W];exact hb.y1,by rw[n,W];exact hb.g1⟩
 obtain⟨o,_,_,_⟩:=pW (s.j0 a) (fun c=>!(cI.f c==-1)) (s.j0 a).T (cI,a.N) ad (fun c _=>rfl)
 have o:Pos (fun c=>pf ((s.j0 a).ld c)) (fun c=>!(cI.f c==-1)) ((s.j0 a).pl cI).1.f a.N (s.j0 a).T ((s.j0 a).pl cI).2:=o;rw[hk] at ar aB S ew aF ad hz o hm⊢;obtain⟨j,aR⟩:∃j,(k.pl cI).1=j:=⟨_,rfl⟩
 obtain⟨m,ai⟩:∃m,(k.pl cI).2=m:=⟨_,rfl⟩
 rw[aR,ai] at o;rw[ai] at hm;rw[aR,ai];have t:∀c∈k.T,(!(cI.f c==-1))=!(j.f c==-1):=fun c hc=>by
  cases q:(!(cI.f c==-1))
  ·rw[o.no c hc q];rfl
  ·have:=(o.bd hz c hc q).1;rw[beq_false_of_ne aa];rfl
 have P:=o.same (fun c hc=>⟨rfl,t c hc,rfl⟩)
 have b3:∀c∈k.T,j.f c=-1↔cI.f c=-1:=fun c hc=>by
  have:=t c hc;constructor
  ·intro q;rw[q] at this
   simpa using this
  ·intro q;rw[q] at this
   simpa using this.symm
 obtain⟨aV,a0,t3,a1,a2,f,a3,a4,ab,ba⟩:=pY (s:=j) b2 ((n▸hb.r1)) ad ew aF;obtain⟨k5,b4⟩:∃k5,k.fD j=k5:=⟨_,rfl⟩
 rw[b4] at aV a0 t3 a1 a2 f a3 a4 ab ba⊢;have bb:∀c∈k.T,pf (k5.ld c)=pf (k.ld c):=fun c hc=>by rw[ab c hc]
 have e:=aV.trans W;have bd:=t3.trans aB;have al:∀c,c∈G\/c∈Y->c∈k.T:=fun c hc=>by simp_all
 rw[S] at P;obtain⟨am,b5,b6⟩:=P.app;have be:Pos (fun c=>pf (k5.ld c)) (fun c=>!(j.f c==-1)) j.f (k5.a.N+(0:Int)) G am:=by rw[e,En];exact b5.same (fun c hc=>⟨(bb c (al c (aM hc))).symm,rfl,rfl⟩)
 have bg:=b6.same (fun c hc=>⟨(bb c (al c (aK hc))).symm,rfl,rfl⟩)
 have bi:∀c,0<=(fun c=>pf (k5.ld c)) c:=fun c=>(dv _).1;have cm:=bg.le bi;have ca:jQ k5 (fun c=>!(j.f c==-1)) j.f am [] G (k5,0):=by
  refine⟨kY.refl _,rfl,tF _,be,⟨a.N,?_,by simp_all,fun _ _ _=>rfl⟩,fun _ _ _=>rfl,fun c hc=>by cases hc⟩
  rw[e,a2,n];exact h.eH.heads (fun x cb=>by simp_all)
 have bl:∀c∈k5.G,(fun c=>!(j.f c==-1)) c=!(j.f c==-1):=fun _ _=>rfl;have g:=jQ.all f.l f.y f.g bl G [] (k5,0) (fun c hc=>(bd▸hc)) ca;have an:=g.pos;have bn:k5.l_ j k5.G=ik (fun _ a=>j.f a) (cg.jC j) (k5,0) G:=by unfold cg.l_;rw[bd]
 obtain⟨u,cc⟩:∃u,ik (fun _ a=>j.f a) (cg.jC j) (k5,0) G=u:=⟨_,rfl⟩
 rw[cc] at g an bn;have u0:=g.u0;rw[e] at an;have cd:=f.g;have bo:=f.y;rw[e] at cd bo;obtain⟨k1,bp⟩:∃k1,k5.sl1 j=k1:=⟨_,rfl⟩
 have p:k1=u.1.ar u.1.s.y (M u.2) u.1.s.ws:=by rw[<-bp];unfold cg.sl1;rw[bn]
 have g1:(k1.s.g:Int)=u.2:=by rw[p];show(M u.2:Int)=_;omega
 have ao:=g.sm.a;have ap:=g.sm.y;have br:∀x:Int,(0<=x/\x<k5.s.y)\/((a.N:Int)<=x/\x<a.N+u.2/\x<a.N+k5.s.g)->k1.ld x=u.1.ld x:=fun x cb=>by
  have v:dw u.1.a.N u.1.s.y u.1.s.g x=Nc:=by rw[ao,ap,g.g,e];exact(oF _ _ _ _).2 aa
  have ce:dw u.1.a.N u.1.s.y (M u.2) x=Nc:=by rw[ao,ap,e];exact(oF _ _ _ _).2 aa
  rw[p];show ld u.1.a.N u.1.s.y (M u.2) u.1.s.ws x=ld u.1.a.N u.1.s.y u.1.s.g u.1.s.ws x;rw[eA v,eA ce]
 obtain⟨b,cf,ch,_⟩:=g.tl;have ci:_=_:=cf;rw[e] at ch ci;have C0:mc k5 (fun c=>!(j.f c==-1)) j.f m G Y k1:=by
  refine⟨⟨(p▸ao),(p▸ap),(p▸g.sm.rs),(p▸g.sm.len)⟩,by rw[e];omega,?_,fun x bs bt=>?_,fun c hc t=>?_⟩
  ·rw[e,g1,an];exact bg
  ·rw[br x (aM ⟨bs,bt⟩)];exact g.cQ x bs bt
  ·obtain⟨r1,bx⟩:=g.rel c hc t;have r3:=(be.bd bi c hc t).1;rw[e] at r1 r3⊢;refine⟨aa,aa,fun i w v=>?_⟩
   rw[br _ (aK ⟨aa,aa,aa⟩)];exact bx i w v
 have l:=mc.all (s:=j) f.l f.y ((e▸hm)) Y G k1 (fun c hc=>by
  have b0:=al c (aK hc)
  obtain⟨q1,cj,q3⟩:=h.ty.mem c hc;rw[ab c b0,ag,a1,n];exact⟨rfl,q1,cj,q3⟩) C0
 obtain⟨d,b1⟩:∃d,k1.pU j Y=d:=⟨_,rfl⟩
 rw[b1] at l;have ck:k5.sl2 j=d:=by unfold cg.sl2;rw[bp,(a0.trans ar)];exact b1
 have e6:(k5.sl j).s=⟨0,d.s.g,d.s.ws,[],d.s.rs⟩:=by unfold cg.sl;rw[ck];rfl
 have cn:(a.N:Int)+d.s.g=m:=by
  have:=l.pos;rw[e] at this
  exact this
 have cl:d.s.y<=a.N:=(l.sm.y▸bo)
 have rel:∀c∈G++Y,j.f c≠-1->(a.N:Int)<=j.f c/\∀i,0<=i->i<=pf (k.ld c)->ld a.N 0 d.s.g d.s.ws (j.f c+i)=k5.ld (c+i):=fun c hc B=>by
  have b0:c∈k.T:=by simp_all
  obtain⟨r1,bx,r3⟩:=l.rel c hc (by simp_all)
  rw[e] at r1;refine⟨r1,fun i w v=>?_⟩
  rw[uL (y:=d.s.y) aa cl,<-r3 i w (by simp_all)];show ld a.N d.s.y d.s.g d.s.ws _=ld d.a.N d.s.y d.s.g d.s.ws _;rw[(l.sm.a.trans e)]
 refine⟨?_,?_,fun c hc=>b3 c (by rw[S];exact hc),⟨_,(jQ.rL (m:=am) f.l f.y f.g ((e▸hb.n1)) ((e▸hb.o1)) bl (by rw[e];omega)),?_⟩⟩
 ·rw[e6];refine⟨rfl,rfl,?_,?_,?_,?_,fun i hi=>?_,fun c hc B=>?_,fun c hc B i w v=>?_⟩
  ·show L d.s.rs=12;rw[l.sm.rs];exact a3
  ·show d.s.g<=a.O;omega
  ·show L d.s.ws=a.N+a.O;rw[l.sm.len,f.l,e]
  ·simp_all
  ·show X d.s.rs i 0=_;rw[l.sm.rs,a4 i hi,n,hk]
  ·have N:=(rel c hc B).2 0 aa (dv _).1;rw[En,En,ab c ((S▸hc)),ag] at N;exact N
  ·have N:=(rel c hc B).2 (1+i) aa (by rw[ag];omega)
   rw[<-zh,<-zh,ba c (by simp_all) B i w (by simp_all),<-hk] at N;exact N
 ·rw[e6];show(d.s.g:Int)=m-a.N;omega
 ·simp_all
end
theorem H5 {N y g:Nat}{ws Y G:List Int}(h:em N y g ws Y G)(hy:y<=N)(Q:List cf){c:Int}(hc:c∈Y\/c∈G)(d:pk (ld N y g ws c)≠5):(∀i:Nat,i<L (ft N y g ws Q c)->X (ft N y g ws Q c) i 0=ld N y g ws (c+1+(i:Int)))/\(∀i:Nat,(i:Int)<pf (ld N y g ws c)->ld N y g ws (c+1+(i:Int))∈ft N y g ws Q c):=by
 have hl:=Ab h hy Q hc d;have key:∀i:Nat,i<L (ft N y g ws Q c)->X (ft N y g ws Q c) i 0=ld N y g ws (c+1+(i:Int)):=fun i hi=>by unfold ft at hi⊢;rw[aI d] at hi⊢;rw[aL,aN hi];simp
 refine⟨key,fun i hi=>?_⟩
 have b:i<L (ft N y g ws Q c):=aa;rw[<-key i b,aL,aN b];exact a9 b
theorem H6 {k:cg}{j:cz}{x:Int}(i:de x=Nc->cr x∈k.T/\j.f (cr x)≠-1)(l:∀c∈k.T,j.f c≠-1->0<=j.f c/\j.f c<1000000):kB (fun c=>c∈k.T/\j.f c≠-1) j.f x (k.nw j x)/\(de (k.nw j x)=Nc->∃c∈k.T,j.f c≠-1/\cr (k.nw j x)=j.f c):=by
 cases ha:de x
 ·have e:k.nw j x=x:=by unfold cg.nw cg.jt;rw[ha];rfl
  rw[e];refine⟨aK ⟨fun g=>?_,rfl,rfl⟩,fun g=>?_⟩
  ·rw[H3 g] at ha;cases ha
  ·simp_all
 ·obtain⟨b,d⟩:=i ha;have e:k.nw j x=ew 3 (j.f (cr x)):=by unfold cg.nw cg.jt;rw[ha,bP.2 b,beq_false_of_ne d];rfl
  obtain⟨m,b1⟩:=l _ b d;obtain⟨n,hn⟩:∃n:Nat,j.f (cr x)=n:=⟨M (j.f (cr x)),aa⟩
  obtain⟨w1,f⟩:=nO n aa;rw[<-hn,<-e] at w1 f;refine⟨aM ⟨uR ha,uR w1,⟨(my x ha▸b),(my x ha▸d)⟩,?_⟩,fun _=>⟨cr x,b,d,f⟩⟩
  rw[<-my x ha,<-my _ w1];exact f
def cz.lf (j:cz)(T:List Int):List Int:=(T.filter (fun c=>!(j.f c==-1))).map j.f
section
variable {a:Wc}{s s':eE}{Y G:List Int}{j:cz}
theorem mR.bd (g:mR a s (G++Y) j s'):∀c∈G++Y,j.f c≠-1->(a.N:Int)<=j.f c/\j.f c+(1+pf (ld a.N s.y s.g s.ws c))<=a.N+s'.g:=fun c hc b=>g.pos.bd (fun c=>(dv _).1) c hc (by simp_all)
theorem uS {T:List Int}{x:Int}:x∈j.lf T↔∃c∈T,j.f c≠-1/\j.f c=x:=by
 unfold cz.lf;rw[fo];constructor
 ·rintro⟨c,b,e⟩
  obtain⟨d,f⟩:=bM.1 b;exact⟨c,d,by simpa using f,e⟩
 ·rintro⟨c,b,e,d⟩
  exact⟨c,bM.2 ⟨b,by simp_all⟩,d⟩
theorem mR.full (g:mR a s (G++Y) j s')(h:em a.N s.y s.g s.ws Y G):em a.N 0 s'.g s'.ws [] (j.lf (G++Y)):=by
 refine⟨rfl,g.pos.uH (fun c=>(dv _).1) (fun c hc d=>?_)⟩
 have e:j.f c≠-1:=by simpa using d
 rw[g.hd c hc e];refine⟨?_,rfl⟩
 rcases bE.1 hc with b|b
 ·exact(h.eH.mem c b).2.2
 ·exact(h.ty.mem c b).2.2
end
theorem AF:de 2=Nb:=ae
section
variable {k:cg}{s:cz}
theorem dh.nw {X:Int->Prop}(h:dh k X s)(x:Int):k.nw s x=x:=by
 unfold cg.nw;split
 ·rename_i c;rw[bB] at c;have b:s.f (cr x)≠-1:=by simpa using c.2
  have ha:de x=Nc:=by have q:=c.1;unfold cg.jt at q;rw[bB] at q;exact q.1
  have h0:dc x=0:=by have q:=ha;unfold de at q;rw[bB] at q;simpa using q.1
  rw[h.self _ (oR c.1) b,my x ha];have q:=(wL x h0).2;rw[uR ha] at q;exact q
 ·rfl
theorem uT {t:cz×List cf}{r:List cf}(h:∀e∈r,k.al t.1 e.2=Nc):k.tS t r=t:=by
 have e:r.filter (fun e=>!k.al t.1 e.2)=[]:=by rw[List.filter_eq_nil_iff];intro e he;rw[h e he];simp
 show fQ (dY cz) (fun s x=>k.al s.1 x) k.cu t r=t;unfold fQ;rw[e];rfl
end
section
variable {a:Wc}{S:cw}{Y G:List Int}
theorem rR (c:c9 (S.s.j0 a) h9):∀e∈S.r3 a,(S.s.j0 a).al (S.cI a) e.2=Nc:=by obtain⟨d,f,_⟩:=oS c;intro e he;obtain⟨b,g,i⟩:=fo.1 he;rw[<-i];show(S.s.j0 a).al (S.cI a) ((S.s.j0 a).nw (S.cI a) b.2)=Nc;rw[(d.ky.nw b.2)];exact z3 f (bM.1 (bM.1 g).1).2
structure AG (a:Wc)(s:eE)(T:List Int)(j:cz):Prop where
 rt:∀i,i<12->de (X s.rs i 0)=Nc->cr (X s.rs i 0)∈T/\j.f (cr (X s.rs i 0))≠-1
 fd:∀c∈T,j.f c≠-1->∀i,0<=i->i<pf (ld a.N s.y s.g s.ws c)->de ((s.j0 a).iS j c i)=Nc->cr ((s.j0 a).iS j c i)∈T/\j.f (cr ((s.j0 a).iS j c i))≠-1
theorem mR.inv {s b:eE}{j:cz}(g:mR a s (G++Y) j b)(h:eP a s Y G)(hb:cO a s)(al:AG a s (G++Y) j):eP a b [] (j.lf (G++Y))/\cO a b:=by
 obtain⟨_,_,f⟩:=lC h.inv.full hb;have hN:=hb.n1;have hO:=hb.o1;have t:=g.g;have n:∀c∈(s.j0 a).T,j.f c≠-1->0<=j.f c/\j.f c<1000000:=fun c hc o=>by
  rw[f] at hc;have:=g.bd c hc o;have:=dv (ld a.N s.y s.g s.ws c)
  omega
 have key:∀x,(de x=Nc->cr x∈G++Y/\j.f (cr x)≠-1)->de ((s.j0 a).nw j x)=Nc->cr ((s.j0 a).nw j x)∈j.lf (G++Y):=fun x k ha=>by obtain⟨_,p⟩:=H6 (fun ha=>(f▸k ha)) n;obtain⟨c,c1,c2,c3⟩:=p ha;rw[f] at c1;exact uS.2 ⟨c,c1,c2,c3.symm⟩
 refine⟨⟨?_,fun v _ i _ _ _ hy=>by cases hy⟩,⟨hb.n0,hb.n1,hb.o1,(g.y▸a5 _),g.g,g.l,g.rl⟩⟩
 rw[g.y];refine⟨(g.full h.inv.full),fun x k ha=>?_,fun v hv i l d ha=>?_⟩
 ·obtain⟨i,hi,e⟩:=bY.1 k;have q:X b.rs i 0=x:=by simp_all
  have m:i<12:=(g.rl▸hi)
  rw[<-q,g.rs i m] at ha⊢;exact aK (key _ (al.rt i m) ha)
 ·obtain⟨c,c1,c2,c3⟩:=uS.1 (hv.resolve_left ac)
  rw[<-c3] at d ha⊢;rw[g.hd c c1 c2] at d;rw[g.fd c c1 c2 i l d] at ha⊢;exact aK (key _ (al.fd c c1 c2 i l d) ha)
structure H7 (a:Wc)(S:cw)(Y G:List Int)(j:cz):Prop where
 gc:mR a S.s (G++Y) j (S.dH a).s
 al:AG a S.s (G++Y) j
 g:((S.dH a).s.g:Int)=S.n4 a
 iff:∀c∈G++Y,j.f c=-1↔(S.cI a).f c=-1
 j:S.cK a=j
theorem mS (h:eP a S.s Y G)(hb:cO a S.s)(s:S.gh a=Nb):(∃F,i4 (S.k5 a) (S.dN a) F/\F 0 (S.k5 a,0))/\H7 a S Y G (S.cK a)/\S.dN a=S.cK a:=by
 have f:=c9.start hb.n1 hb.o1 hb.y1 hb.g1;obtain⟨g,a0,ab⟩:=oS (S:=S) f;obtain⟨l1,l2,j⟩:=lC h.inv.full hb;have hm:((S.s.j0 a).pl (S.cI a)).2<=a.N+a.O:=by
  have:=of_decide_eq_false s;unfold cw.n4 at this
  omega
 obtain⟨g1,g2,g3,g4⟩:=H4 h.inv.full hb (S.cI a) hm;have ad:((S.s.j0 a).pl (S.cI a)).1=S.cK a:=rfl;rw[ad] at g1 g2 g3 g4;have e6:(S.s.j0 a).fD (S.cK a)=S.k5 a:=rfl;rw[e6] at g1 g2 g4;have ag:(S.k5 a).T=(S.s.j0 a).T:=by
  obtain⟨_,t,t3,_⟩:=pY ⟨hb.l1,hb.y1,hb.g1⟩ hb.r1 f.nd (oY h.inv.full hb) (p8 h.inv.full hb)
  rw[e6] at t t3;unfold cg.T;rw[t,t3]
 have u:∀x,(S.s.j0 a).cY (S.cK a) x=(S.s.j0 a).cY (S.cI a) x:=fun x=>by
  cases hj:(S.s.j0 a).jt x
  ·unfold cg.cY;rw[hj];rfl
  ·have v:=oR hj;rw[j] at v;have q:=g3 _ v;unfold cg.cY;by_cases c:(S.cI a).f (cr x)=-1
   ·rw[c,q.2 c]
   ·rw[beq_false_of_ne c,beq_false_of_ne (fun ai=>c (q.1 ai))]
 have w:S.dN a=S.cK a:=by
  have q:(S.k5 a).tS (S.cK a,S.q3 a) (S.r3 a)=(S.cK a,S.q3 a):=uT (fun e he=>by
   have q1:=rR (S:=S) f e he;unfold cg.al at q1⊢;have B:(S.k5 a).cY (S.cK a) e.2=(S.s.j0 a).cY (S.cK a) e.2:=by unfold cg.cY cg.jt;rw[ag]
   rw[B,u];exact q1)
  unfold cw.dN;rw[q]
 have al:(S.k5 a).sl (S.cK a)=S.k6 a:=by unfold cw.k6;rw[w]
 rw[al] at g1 g2;have am:(S.dH a).s=(S.k6 a).s:=by unfold cw.dH;rw[s,aI ac]
 have N:∀x,de x=Nc->cr x∈G++Y->(S.s.j0 a).cY (S.cI a) x=Nb->(S.cK a).f (cr x)≠-1:=fun x ha hm hj=>by
  have an:(S.s.j0 a).jt x=Nc:=by unfold cg.jt;rw[ha,j,bP.2 hm];rfl
  rw[cg.pV an] at hj;exact fun e=>hj ((g3 _ hm).1 e)
 rw[w];refine⟨g4,⟨by simp_all,⟨fun i hi ha=>?_,fun c hc ao i k l ha=>?_⟩,(am▸g2),g3,rfl⟩,rfl⟩
 ·have ap:X S.s.rs i 0∈S.s.rs:=by rw[aL,aN ((hb.r1▸hi))];exact a9 _
  have b:=bE.2 (h.inv.rt _ ap ha).symm;exact⟨b,N _ ha b (ab i hi)⟩
 ·have m:pc (ld a.N S.s.y S.s.g S.s.ws c)=0:=(oY h.inv.full hb c ((j▸hc))).c;have ar:c∈(S.s.j0 a).T:=by simp_all
  have aF:_:=fun e=>ao ((g3 c hc).2 e)
  have hM:nM (S.s.j0 a) (S.cI a) c:=by
   rcases g.ky.cmp c ar aF with q|q|q
   ·rw[g.td] at q;cases q
   ·exact absurd q id
   ·exact q
  have mem:∀i,0<=i->i<pf (ld a.N S.s.y S.s.g S.s.ws c)->de (ld a.N S.s.y S.s.g S.s.ws (c+1+i))=Nc->_:=fun i k l ha=>bE.2 (h.inv.fd c (bE.1 hc).symm i k l ha).symm;unfold cg.iS at ha⊢;rw[u] at ha⊢;by_cases cb:((pk ((S.s.j0 a).ld c)=3\/pk ((S.s.j0 a).ld c)=4)/\(S.s.j0 a).cY (S.cI a) ((S.s.j0 a).ld (c+1))=Nc)/\(i=0\/(pk ((S.s.j0 a).ld c)=4/\i=1))
  ·rw[aJ cb] at ha;exact absurd ha ae
  ·rw[aI cb] at ha⊢;have ha:=ha;have b:=mem i k l ha;refine⟨b,N _ ha b ?_⟩
   by_cases n:pk ((S.s.j0 a).ld c)=1\/pk ((S.s.j0 a).ld c)=2
   ·have q:=hM.p n (M i) (by show(M i:Int)<pf (ld a.N S.s.y S.s.g S.s.ws c);omega)
    rwa [show((M i:Nat):Int)=i from by omega] at q
   ·by_cases p:pk ((S.s.j0 a).ld c)=3
    ·have aR:=iR m (aK (aM p))
     by_cases z:i=0
     ·simp_all
     ·have o:i=1:=aa;rw[o,show c+1+1=c+2 from by omega];exact hM.w p
    ·by_cases d:pk ((S.s.j0 a).ld c)=4
     ·have aR:=iR m (aK (aK d))
      have W:(S.s.j0 a).cY (S.cI a) ((S.s.j0 a).ld (c+1))=Nb:=by
       cases hl:(S.s.j0 a).cY (S.cI a) _
       ·rfl
       ·exact absurd ⟨⟨aK d,hl⟩,aa⟩ cb
      by_cases z:i=0
      ·simp_all
      ·have o:i=1:=aa;rw[o,show c+1+1=c+2 from by omega];rcases hM.e d with q|q
       ·rw[g.ep c q] at W;cases W
       ·exact q
     ·have q1:=z9 m;have B:pf (ld a.N S.s.y S.s.g S.s.ws c)=0:=by
       have q3:pk (ld a.N S.s.y S.s.g S.s.ws c)≠1/\pk (ld a.N S.s.y S.s.g S.s.ws c)≠2/\pk (ld a.N S.s.y S.s.g S.s.ws c)≠3/\pk (ld a.N S.s.y S.s.g S.s.ws c)≠4:=⟨fun e=>n (aM e),fun e=>n (aK e),p,d⟩
       omega
      omega
theorem H8 (a:Wc)(S:cw):L (S.dH a).r+L (S.dH a).q<=L S.r+L S.q:=by
 unfold cw.dH;split
 ·exact aG _
 ·have b:L (S.j2 a).2=L S.q:=pS _ _ _;have c:L (S.r3 a)+L (S.q3 a)<=L S.r+L (S.j2 a).2:=rG (dY cz) (fun s x=>(S.s.j0 a).al s.1 x) _ (fun s x=>(S.s.j0 a).nw s.1 x) (fun s x=>rB _ s x) (S.j2 a) S.r;have d:L ((S.k5 a).tR (S.cK a,S.q3 a) (S.r3 a))+L ((S.k5 a).iP (S.cK a,S.q3 a) (S.r3 a))<=L (S.r3 a)+L (S.q3 a):=rG (dY cz) (fun s x=>(S.k5 a).al s.1 x) _ (fun s x=>(S.k5 a).nw s.1 x) (fun _ _=>rfl) (S.cK a,S.q3 a) (S.r3 a)
  dsimp only;omega
theorem eP.dH (h:eP a S.s Y G)(hb:cO a S.s):(S.gh a=Nb->∃F,i4 (S.k5 a) (S.dN a) F/\F 0 (S.k5 a,0))/\(∃c d,eP a (S.dH a).s c d)/\L (S.dH a).s.M<=L S.s.M:=by
 refine⟨fun b=>(mS h hb b).1,?_⟩
 cases b:S.gh a
 ·obtain⟨_,g,_⟩:=mS h hb b;obtain⟨e,_⟩:=g.gc.inv h hb g.al;exact⟨⟨[],_,e⟩,(g.gc.M▸a5 _)⟩
 ·have f:S.dH a=S:=by unfold cw.dH;rw[aJ b]
  rw[f];exact⟨⟨Y,G,h⟩,aG _⟩
end
structure nV (k:cg)(C:Int->Prop):Prop where
 rt:∀i,i<12->k.jt (X k.s.rs i 0)=Nc->C (cr (X k.s.rs i 0))
 p:∀a∈k.T,C a->pk (k.ld a)=1\/pk (k.ld a)=2->∀i:Nat,(i:Int)<pf (k.ld a)->k.jt (k.ld (a+1+i))=Nc->C (cr (k.ld (a+1+i)))
 w:∀a∈k.T,C a->pk (k.ld a)=3->k.jt (k.ld (a+2))=Nc->C (cr (k.ld (a+2)))
 e:∀a∈k.T,C a->pk (k.ld a)=4->(k.jt (k.ld (a+1))=Nc->C (cr (k.ld (a+1))))->k.jt (k.ld (a+2))=Nc->C (cr (k.ld (a+2)))
def p9 (k:cg)(C:Int->Prop)(q:List cf):Prop:=∀e∈q,(k.jt e.1=Nc->C (cr e.1))->k.jt e.2=Nc->C (cr e.2)
structure dP (k:cg)(C:Int->Prop)(s:cz):Prop where
 snd:∀a∈k.T,s.f a≠-1->C a
 ea:∀a∈s.ep,a∈k.T/\s.f a≠-1/\pk (k.ld a)=4
section
variable {k:cg}{C:Int->Prop}{s:cz}
theorem dP.cY (h:dP k C s){x:Int}(b:k.cY s x=Nb):k.jt x=Nc->C (cr x):=fun ht=>h.snd _ (oR ht) ((cg.pV ht).1 b)
theorem dP.al (h:dP k C s){x:Int}(b:k.al s x=Nc):k.jt x=Nc->C (cr x):=h.cY (by unfold cg.al at b;simpa using b)
theorem dP.ma (h:dP k C s)(x:Int)(i:k.jt x=Nc->C (cr x))(le:dT k s (k.ma s x)):dP k C (k.ma s x):=by
 refine⟨fun b hb d=>?_,fun b hb=>?_⟩
 ·by_cases c:k.cY s x=Nc
  ·have e:(k.ma s x).f b=if b=cr x then cr x else s.f b:=by unfold cg.ma;rw[aJ c];rfl
   rw[e] at d;by_cases f:b=cr x
   ·rw[f];refine i ?_;unfold cg.cY at c;rw[bB] at c;exact c.1
   ·rw[aI f] at d;exact h.snd b hb d
  ·have e:k.ma s x=s:=by unfold cg.ma;rw[aI c]
   rw[e] at d;exact h.snd b hb d
 ·rw[uF] at hb;obtain⟨q1,g,q3⟩:=h.ea b hb;exact⟨q1,(le.f b g▸g),q3⟩
theorem dP.fH {X:Int->Prop}(h:dP k C s)(m:dh k X s)(a:Int):∀n:Nat,(∀i:Nat,i<n->k.jt (k.ld (a+1+i))=Nc->C (cr (k.ld (a+1+i))))->dP k C (k.fH s a n)
 |0,_=>h
 |n+1,b=>by obtain⟨m1,_⟩:=m.fH a n;exact(dP.fH h m a n (fun i hi=>b i aa)).ma _ (b n aa) (m1.ma _).2.1
theorem dP.l1 (h:dP k C s)(m:dh k (fun _=>False) s)(d:nV k C)(hl:0<L s.td):dP k C (k.l1 s):=by
 obtain⟨x,e⟩:∃x,X s.td (L s.td-1) 0=x:=⟨_,rfl⟩
 have hm:x∈s.td:=by rw[<-e,aL,aN aa];exact a9 _
 have c:=m.fA.td x hm;have g:=m.td x hm;have hc:=h.snd x c g;have j:k.l1 s=k.lk {s with td:=s.td.take (L s.td-1)} x:=by unfold cg.l1;rw[e]
 have hs:=m.fA.sum;have n:L (s.td.take (L s.td-1))=L s.td-1:=by simp_all
 have f:dh k (fun b=>b∈s.td) {s with td:=s.td.take (L s.td-1)}:=⟨⟨m.fA.nd,m.fA.ps,fun a ha=>m.fA.td a (kr ha),m.fA.ep,m.fA.tl,by
  show k.lost s+L (s.td.take _)+L s.ep<=_;omega⟩,m.self,fun a ha=>m.td a (kr ha),fun a ha l=>by
  rcases m.cmp a ha l with q|q|q
  ·simp_all
  ·exact absurd q id
  ·exact aK (aK ⟨q.p,q.w,q.e⟩)⟩
 have h0:dP k C {s with td:=s.td.take (L s.td-1)}:=⟨h.snd,h.ea⟩
 rw[j];unfold cg.lk;by_cases c1:pk (k.ld x)=1\/pk (k.ld x)=2
 ·rw[aJ c1];exact h0.fH f x _ (fun i hi=>d.p x c hc c1 i aa)
 ·rw[aI c1];by_cases c3:pk (k.ld x)=3
  ·rw[aJ c3];exact h0.ma _ (d.w x c hc c3) (f.ma _).2.1
  ·rw[aI c3];by_cases c4:pk (k.ld x)=4
   ·rw[aJ c4];refine⟨h.snd,fun b hb=>?_⟩
    rcases bE.1 hb with hb|hb
    ·exact h.ea b hb
    ·simp_all
   ·simp_all
theorem dP.lm (b:nV k C):∀(n:Nat){s:cz},dP k C s->dh k (fun _=>False) s->dP k C (k.lm n s)
 |0,s,h,_=>h
 |n+1,s,h,m=>by
  unfold cg.lm;by_cases c:0<L s.td
  ·rw[aJ c];exact dP.lm b n (h.l1 m b c) (m.l1 c).1
  ·simp_all
theorem dP.i3 (d:nV k C):∀(l:List Int){t:List Int×cz},dP k C t.2->dh k (fun _=>False) t.2->(∀a∈l,a∈k.T/\t.2.f a≠-1/\pk (k.ld a)=4)->dP k C (l.foldl k.cV t).2/\∀a∈(l.foldl k.cV t).1,a∈t.1\/a∈l
 |[],t,h,_,_=>⟨h,fun _ ha=>aM ha⟩
 |a::l,t,h,m,hl=>by
  rw[a_];obtain⟨a1,a2,j⟩:=hl a ac;by_cases c:k.cY t.2 (k.ld (a+1))=Nc
  ·have e:k.cV t a=(t.1++[a],t.2):=by unfold cg.cV;rw[aJ c]
   rw[e];obtain⟨f,g⟩:=dP.i3 d l (t:=(t.1++[a],t.2)) h m (fun b hb=>hl b (aW _ hb))
   refine⟨f,fun b hb=>?_⟩
   rcases g b hb with q|q
   ·rcases bE.1 q with q|q
    ·exact aM q
    ·simp_all
   ·simp_all
  ·have e:k.cV t a=(t.1,k.ma t.2 (k.ld (a+2))):=by unfold cg.cV;rw[aI c]
   rw[e];obtain⟨m1,i,_⟩:=m.ma _;obtain⟨f,g⟩:=dP.i3 d l (t:=(t.1,k.ma t.2 _)) (h.ma _ (d.e a a1 (h.snd a a1 a2) j (h.cY (by simpa using c))) i) m1 (fun b hb=>by
    obtain⟨b1,b2,b3⟩:=hl b (aW _ hb)
    exact⟨b1,(i.f b b2▸b2),b3⟩)
   exact⟨f,fun b hb=>(g b hb).imp id (fun q=>aW _ q)⟩
theorem dP.kv (d:nV k C)(h:dP k C s)(m:dh k (fun _=>False) s):dP k C (k.kv s).2:=by
 obtain⟨e,f⟩:=dP.i3 d s.ep (t:=([],s)) h m h.ea;obtain⟨_,le,_⟩:=dh.i3 s.ep (t:=([],s)) m;refine⟨e.snd,fun b hb=>?_⟩
 have hb:=hb;rcases f b hb with q|q
 ·cases q
 ·obtain⟨q1,c,q3⟩:=h.ea b q;exact⟨q1,by show(s.ep.foldl k.cV ([],s)).2.f b≠-1;rw[le.f b c];exact c,q3⟩
theorem dP.kU (q:List cf)(b:p9 k C q):∀(l:List Nat)(t:(cz×List cf)×Bool),t.1.2=q->(∀i∈l,i<L q)->dP k C t.1.1->dh k (fun _=>False) t.1.1->dP k C (l.foldl (dI k.al k.mp) t).1.1
 |[],t,_,_,h,_=>h
 |i::l,t,e,hl,h,m=>by
  rw[a_];have hi:=hl i ac;by_cases c:(k.al t.1.1 (X t.1.2 i (0,0)).2||!k.al t.1.1 (X t.1.2 i (0,0)).1)=Nc
  ·have d:dI k.al k.mp t i=t:=by unfold dI;rw[aJ c]
   rw[d];exact dP.kU q b l t e (fun j f=>hl j (aW _ f)) h m
  ·have d:dI k.al k.mp t i=((k.ma t.1.1 (X t.1.2 i (0,0)).2,t.1.2),Nc):=by exact zZ
   rw[d];have hm:X t.1.2 i (0,0)∈q:=by simp_all
   have hg:k.al t.1.1 (X t.1.2 i (0,0)).1=Nc:=by simp_all
   obtain⟨m1,g,_⟩:=m.ma _;exact dP.kU q b l _ e (fun j f=>hl j (aW _ f)) (h.ma _ (b _ hm (h.al hg)) g) m1
theorem dP.c_ (b:nV k C):∀(n:Nat)(t:cz×List cf),p9 k C t.2->dP k C t.1->dh k (fun _=>False) t.1->dP k C (k.c_ n t).1
 |0,t,_,h,_=>h
 |n+1,t,c,h,m=>by
  obtain⟨l1,_⟩:=m.e5;have d:=dP.kv b (dP.lm b _ h m) l1;obtain⟨v1,_⟩:=l1.kv;have e:dP k C (k.wa ((k.kv (k.e5 t.1)).2,t.2)).1.1:=dP.kU t.2 c _ (((k.kv _).2,t.2),Nb) rfl (fun i hi=>by simpa using hi) d v1;obtain⟨w1,_,f,_⟩:=dh.wa (t:=((k.kv _).2,t.2)) v1;unfold cg.c_;split
  ·exact dP.c_ b n _ c d v1
  ·split
   ·exact dP.c_ b n _ (by simp_all) e w1
   ·exact e
theorem dP.ke (b:nV k C){t:cz×List cf}(c:p9 k C t.2)(h:dP k C t.1)(m:dh k (fun _=>False) t.1)(x:Int)(d:k.jt x=Nc->C (cr x)):dP k C (k.ke t x).2.1:=by obtain⟨m1,e,_⟩:=m.ma x;exact dP.c_ b _ (k.ma t.1 x,t.2) c (h.ma x d e) m1
end
def lD (k:cg)(l:List cf):Prop:=∀e∈l,k.jt e.1=Nc/\k.jt e.2=Nc
section
variable {a:Wc}{S:cw}{Y G:List Int}
theorem AH (h:eP a S.s Y G)(hb:cO a S.s)(j:S.gh a=Nb):(S.dH a).q=(((S.s.j0 a).fu (S.j2 a) S.r).2.filter (fun e=>(S.s.j0 a).al (S.cI a) e.1)).map (fun e=>((S.s.j0 a).nw (S.cK a) e.1,(S.s.j0 a).nw (S.cK a) e.2)):=by
 have i:=c9.start hb.n1 hb.o1 hb.y1 hb.g1;obtain⟨d1,o,p⟩:=oS (S:=S) i;obtain⟨_,l2,l3⟩:=lC h.inv.full hb;obtain⟨_,g,t⟩:=mS h hb j;obtain⟨_,b,t3,_⟩:=pY (s:=S.cK a) (k:=S.s.j0 a) ⟨hb.l1,hb.y1,hb.g1⟩ hb.r1 i.nd (oY h.inv.full hb) (p8 h.inv.full hb)
 have b:(S.k5 a).Y=(S.s.j0 a).Y:=b;have t3:(S.k5 a).G=(S.s.j0 a).G:=t3;have Aq:(S.k5 a).T=(S.s.j0 a).T:=by unfold cg.T;rw[b,t3]
 have l:∀x,(S.k5 a).al (S.cK a) x=(S.s.j0 a).al (S.cI a) x:=fun x=>by exact Ap
 have q3:S.q3 a=((S.s.j0 a).fu (S.j2 a) S.r).2.filter (fun e=>(S.s.j0 a).al (S.cI a) e.1):=by show((((S.s.j0 a).fu (S.j2 a) S.r).2.filter (fun e=>(S.s.j0 a).al (S.cI a) e.1)).map fun e=>((S.s.j0 a).nw (S.cI a) e.1,(S.s.j0 a).nw (S.cI a) e.2))=_;exact Ar
 have m:(S.k5 a).tS (S.cK a,S.q3 a) (S.r3 a)=(S.cK a,S.q3 a):=uT (fun e he=>by rw[l];exact rR i e he)
 unfold cw.dH;rw[j,aI ac];show e_ (dY cz) (fun s x=>(S.k5 a).al s.1 x) _ (fun s x=>(S.k5 a).nw s.1 x) (S.cK a,S.q3 a) (S.r3 a)=_;unfold e_;have e:fQ (dY cz) (fun s x=>(S.k5 a).al s.1 x) (S.k5 a).cu (S.cK a,S.q3 a) (S.r3 a)=(S.cK a,S.q3 a):=m;rw[e];show((S.q3 a).filter (fun e=>(S.k5 a).al (S.cK a) e.1)).map (fun e=>((S.k5 a).nw (S.cK a) e.1,(S.k5 a).nw (S.cK a) e.2))=_;have n:(S.q3 a).filter (fun e=>(S.k5 a).al (S.cK a) e.1)=S.q3 a:=p4.2 (fun e he=>by simp_all)
 rw[n,q3];refine List.map_congr_left (fun e _=>?_)
 rw[cg.kT _ _ b t3,cg.kT _ _ b t3]
end
theorem H9 {k:cg}{j:cz}{x:Int}(b:k.jt x=Nc)(c:j.f (cr x)≠-1)(hb:0<=j.f (cr x)/\j.f (cr x)<1000000):k.nw j x=ew 3 (j.f (cr x))/\de (k.nw j x)=Nc/\cr (k.nw j x)=j.f (cr x):=by
 have e:k.nw j x=ew 3 (j.f (cr x)):=by unfold cg.nw;rw[b,beq_false_of_ne c];rfl
 obtain⟨n,hn⟩:∃n:Nat,j.f (cr x)=n:=⟨M (j.f (cr x)),aa⟩
 obtain⟨w1,d⟩:=nO n aa;rw[e,hn];exact⟨rfl,w1,d⟩
def j7 (a:Wc)(W:cw):Prop:=∀e,(e∈W.r\/e∈W.q)->tB a.N W.s.y W.s.g W.s.ws e.1=Nc/\tB a.N W.s.y W.s.g W.s.ws e.2=Nc
section
variable {a:Wc}{S:cw}{Y G:List Int}
theorem jE {N O y g:Nat}{ws Y G:List Int}(h:em N y g ws Y G)(hN:N<=256)(hy:y<=N)(hO:O<=1024)(hg:g<=O){x:Int}:tB N y g ws x=Nc↔de x=Nc/\(cr x∈Y\/cr x∈G):=by
 refine⟨z7 h hN hy hO hg,fun⟨b,c⟩=>?_⟩
 obtain⟨d,e⟩:=h.lists hN hy hO hg;unfold tB;rw[b,d,e];rcases c with q|q
 ·simp_all
 ·simp_all
theorem rS (h:eP a S.s Y G)(hb:cO a S.s){x:Int}:(S.s.j0 a).jt x=Nc↔tB a.N S.s.y S.s.g S.s.ws x=Nc:=by
 obtain⟨_,_,d⟩:=lC h.inv.full hb;rw[jE h.inv.full hb.n1 hb.y1 hb.o1 hb.g1];unfold cg.jt;rw[d,bB];constructor
 ·rintro⟨b,c⟩
  exact⟨b,(bE.1 (bP.1 c)).symm⟩
 ·rintro⟨b,c⟩
  exact⟨b,bP.2 (bE.2 c.symm)⟩
theorem j7.ok (h:j7 a S)(hk:eP a S.s Y G)(hb:cO a S.s):lD (S.s.j0 a) S.r/\lD (S.s.j0 a) S.q:=
 ⟨fun e he=>⟨(rS hk hb).2 (h e (aM he)).1,(rS hk hb).2 (h e (aM he)).2⟩,fun e he=>⟨(rS hk hb).2 (h e (aK he)).1,(rS hk hb).2 (h e (aK he)).2⟩⟩
theorem H_ (q:c9 (S.s.j0 a) h9)(hr:lD (S.s.j0 a) S.r)(hq:lD (S.s.j0 a) S.q):∀e∈((S.s.j0 a).fu (S.j2 a) S.r).2,(S.s.j0 a).jt e.1=Nc/\(S.s.j0 a).jt e.2=Nc:=by
 obtain⟨v,_,_⟩:=(dh.start q).cP 12;obtain⟨w,_,g⟩:=dh.sp (t:=((S.s.j0 a).cP h9 12,S.q)) v;have g:(S.j2 a).2=S.q:=g;have key:∀(n:Nat)(t:cz×List cf)(d:List cf),f5 (S.s.j0 a) t.1 t.2->lD (S.s.j0 a) t.2->lD (S.s.j0 a) d->lD (S.s.j0 a) (eT (S.s.j0 a).f6 n t d).1.2:=fun n=>by
  have pl:∀(l:List cf)(u:List cf×List cf×(cz×List cf)),f5 (S.s.j0 a) u.2.2.1 u.2.2.2->lD (S.s.j0 a) u.2.2.2->lD (S.s.j0 a) l->lD (S.s.j0 a) (l.foldl (eM (S.s.j0 a).f6) u).2.2.2:=fun l=>by
   induction l with
   |nil=>intro u _ f _;exact f
   |cons e l i=>
    intro u k f hl;have m:(eM (S.s.j0 a).f6 u e).2.2=((S.s.j0 a).f6 u.2.2 e).2:=by unfold eM;split<;>rfl
    refine i _ ((m▸(k.cm e).1)) ?_ (fun b hb=>hl b (aW _ hb))
    rw[m];cases c:(S.s.j0 a).al u.2.2.1 e.1
    ·have j:(S.s.j0 a).f6 u.2.2 e=(Nb,u.2.2):=nc c;rw[j];exact f
    ·obtain⟨_,_,x,_⟩:=k.ky.ke e.2;have j:(S.s.j0 a).f6 u.2.2 e=(Nc,(((S.s.j0 a).ke u.2.2 e.2).2.1,u.2.2.2++[e])):=by refine(nf (s:=u.2.2) c).trans ?_;show(Nc,(((S.s.j0 a).ke u.2.2 e.2).2.1,((S.s.j0 a).ke u.2.2 e.2).2.2++[(e.1,e.2)]))=_;rw[x]
     rw[j];intro b hb;rcases bE.1 hb with hb|hb
     ·exact f b hb
     ·rw[bQ.1 hb];exact hl e ac
  induction n with
  |zero=>intro t d _ ht _;exact ht
  |succ n i=>
   intro t d o ht hd;have p:=pl d ([],[],t) o ht hd;by_cases c:L (pts (S.s.j0 a).f6 t d).1=0
   ·rw[mz _ _ _ _ c];exact p
   ·rw[mA _ _ _ _ c];exact i _ _ (f5.pl d ([],[],t) o).1 p (fun e he=>hd e (s7 _ t d e (aK he)))
 exact key _ (S.j2 a) _ w ((g▸hq)) (fun e he=>hr e (bM.1 he).1)
theorem j7.dH (h:j7 a S)(hk:eP a S.s Y G)(hb:cO a S.s):j7 a (S.dH a):=by
 cases hf:S.gh a
 ·have m:=c9.start hb.n1 hb.o1 hb.y1 hb.g1;obtain⟨hr,hq⟩:=h.ok hk hb;obtain⟨n,W,_⟩:=oS m;obtain⟨_,_,w⟩:=lC hk.inv.full hb;obtain⟨_,g,o⟩:=mS hk hb hf;obtain⟨ab,B1⟩:=g.gc.inv hk hb g.al;have hN:=hb.n1;have hO:=hb.o1;have am:=g.gc.g;have bnd:∀c∈G++Y,(S.cK a).f c≠-1->0<=(S.cK a).f c/\(S.cK a).f c<1000000:=fun c hc ad=>by
   have q1:=g.gc.bd c hc ad;have b:=dv (ld a.N S.s.y S.s.g S.s.ws c)
   omega
  have ag:∀x,(S.s.j0 a).jt x=Nc->(S.s.j0 a).al (S.cI a) x=Nc->(S.cK a).f (cr x)≠-1:=fun x d ha q=>by
   have hm:=oR d;rw[w] at hm;unfold cg.al at ha;have b:(S.s.j0 a).cY (S.cI a) x=Nb:=by simpa using ha
   exact(cg.pV d).1 b ((g.iff _ hm).1 q)
  have key:∀x,(S.s.j0 a).jt x=Nc->(S.s.j0 a).al (S.cI a) x=Nc->tB a.N (S.dH a).s.y (S.dH a).s.g (S.dH a).s.ws ((S.s.j0 a).nw (S.cK a) x)=Nc:=fun x d ha=>by
   have hm:=oR d;rw[w] at hm;have p:=ag x d ha;obtain⟨_,b,q3⟩:=H9 d p (bnd _ hm p)
   refine(jE ab.inv.full B1.n1 B1.y1 B1.o1 B1.g1).2 ⟨b,aK ?_⟩
   rw[q3];exact uS.2 ⟨_,hm,p,rfl⟩
  obtain⟨_,j,t3,_⟩:=pY ⟨hb.l1,hb.y1,hb.g1⟩ hb.r1 m.nd (oY hk.inv.full hb) (p8 hk.inv.full hb)
  have j:=j;have t3:=t3;intro e he;rcases he with he|he
  ·have s:(S.dH a).r=(S.k5 a).tR (S.cK a,S.q3 a) (S.r3 a):=by unfold cw.dH;rw[hf,aI ac]
   rw[s] at he;have he:e∈(((S.r3 a).filter (fun e=>(S.k5 a).al (S.cK a) e.2)).filter (fun e=>(S.k5 a).al ((S.k5 a).tS (S.cK a,S.q3 a) (S.r3 a)).1 e.1)).map fun e=>((S.k5 a).nw ((S.k5 a).tS (S.cK a,S.q3 a) (S.r3 a)).1 e.1,(S.k5 a).nw ((S.k5 a).tS (S.cK a,S.q3 a) (S.r3 a)).1 e.2):=he;have o:((S.k5 a).tS (S.cK a,S.q3 a) (S.r3 a)).1=S.cK a:=o;rw[o] at he;obtain⟨f,t,u⟩:=fo.1 he;have i:=(bM.1 (bM.1 t).1).1;have i:f∈((S.r.filter (fun e=>(S.s.j0 a).al (S.j2 a).1 e.2)).filter (fun e=>(S.s.j0 a).al (S.cI a) e.1)).map fun e=>((S.s.j0 a).nw (S.cI a) e.1,(S.s.j0 a).nw (S.cI a) e.2):=i;obtain⟨ai,v,l⟩:=fo.1 i;obtain⟨al,B⟩:=bM.1 v;obtain⟨F,N⟩:=bM.1 al;rw[n.ky.nw,n.ky.nw] at l;have l:ai=f:=l;rw[l] at B F N;obtain⟨q1,b⟩:=hr f F;rw[<-u,cg.kT (k:=S.k5 a) _ _ j t3,cg.kT (k:=S.k5 a) _ _ j t3];exact⟨key _ q1 B,key _ b (z3 W N)⟩
  ·rw[AH hk hb hf] at he;obtain⟨f,t,u⟩:=fo.1 he;obtain⟨i,v⟩:=bM.1 t;obtain⟨q1,b⟩:=H_ m hr hq f i;rw[<-u];refine⟨key _ q1 v,key _ b ?_⟩
   rcases n.wq f i with q|q
   ·exact q
   ·simp_all
 ·have s:S.dH a=S:=by unfold cw.dH;rw[aJ hf]
  rw[s];exact h
theorem j7.more {W:cw}{b:eE}{d f:List Int}(h:j7 a W)(hk:eP a W.s Y G)(hb:cO a W.s)(g:em a.N b.y b.g b.ws d f)(hy:b.y<=a.N)(hg:b.g<=a.O)(hs:∀v,(v∈Y\/v∈G)->(v∈d\/v∈f)):j7 a ⟨b,W.r,W.q⟩:=fun e he=>by
 have key:∀x,tB a.N W.s.y W.s.g W.s.ws x=Nc->tB a.N b.y b.g b.ws x=Nc:=fun x i=>by obtain⟨q1,c⟩:=(jE hk.inv.full hb.n1 hb.y1 hb.o1 hb.g1).1 i;exact(jE g hb.n1 hy hb.o1 hg).2 ⟨q1,hs _ c⟩
 obtain⟨q1,c⟩:=h e he;exact⟨key _ q1,key _ c⟩
end
end Go.Proofs.YtpkjkjhanlbcoaaGreat
