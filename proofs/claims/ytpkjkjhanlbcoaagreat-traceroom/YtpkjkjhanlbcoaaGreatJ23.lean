import Derived.Test.YtpkjkjhanlbcoaaGreatJ22
open Bool renaming and_comm->Mc,eq_false_iff->ve,false->MK,false_and->Cs,true->ML
open Int renaming le_refl->sS,natCast_nonneg->ko,toNat->M,toNat_natCast->bH,toNat_of_nonneg->zg
open List renaming filter_eq_self->p3,filter_filter->Cm,findIdx_cons->Mq,getD->X,length->Mx,map_append->jw,map_congr_left->mh,map_map->yw,mem_append->bD,mem_cons->bT,mem_filter->bM,mem_map->b7
open Option renaming some->Z
namespace Go.Proofs.YtpkjkjhanlbcoaaGreat
set_option maxRecDepth 100000
set_option maxHeartbeats 2000000
open Go.RowKit W Kp cq
theorem BK {P:Prop}(h:P:=by
 refine mh (fun e he=>?_)
 obtain⟨z1,z2⟩:=bM.1 he;have h5:=hE e z1;refine vS e h5 z2 ?_;rcases bD.1 z1 with d|d
 ·exact hcl _ h5.g.1 z2 (3,e.2) (aK (aK (aK ⟨h5.k,e,d,by have:=h5.g0;omega,rfl⟩))) rfl
 ·exact(hs.c e d).2):P:=h
theorem BL {P:Prop}(h:P:=by
 obtain⟨q1,q2⟩:=w.ep c hc;have q3:=li.mi.bd q1;have:=iM q3.2.2 (aK (aK q2))
 exact⟨h_ aa aa,h_ aa aa⟩):P:=h
theorem BM {P:Prop}(h:P:=by
 refine mh (fun e he=>?_)
 obtain⟨z1,z2⟩:=bM.1 he;rw[bz] at z2;exact vS e (hR.gv e z1) z2.2 (hup _ z2.1)):P:=h
theorem BN {P:Prop}(h:P:=by
 obtain⟨q1,q2⟩:=w.wk c hc;have q3:=li.mi.bd q1;have:=iM q3.2.2 (aK (aM q2))
 exact h_ aa aa):P:=h
section
variable {k:ck}{z:C0}{s t:ct}{H D:List Int}
def ck.cL (k:ck)(s:ct)(x:Int):Int:=if k.ls s x=ML then 3 else k.nw s x
theorem BO {s t:ct}(b:t.f=s.f)(x:Int):k.ls t x=k.ls s x/\k.nw t x=k.nw s x:=by unfold ck.ls ck.nw;rw[b];exact⟨rfl,rfl⟩
def Fo (k:ck)(s:ct):Prop:=∀a∈k.T,s.f a≠-1->(k.N:Int)<=s.f a/\s.f a<1000000
theorem dI.e8 (h:dI k z s H):Fo k s:=fun a ha b=>by
 have hb:=h.jx (h.fh a ha b)
 have n1:=h.ci.hN';have c:=h.ci.hO;have d:=h.ci.hg;exact⟨hb.1,aa⟩
theorem oZ {x:Int}(h:k.cQ x=MK):k.nw s x=x:=by unfold ck.nw;rw[h];simp
theorem sg {x:Int}(h:k.cQ x=ML)(b:s.f (cr x)≠-1):k.nw s x=ew 3 (s.f (cr x)):=by unfold ck.nw;rw[h,aJ (by simp[b])]
theorem K8 (ci:CI k s)(e8:Fo k s){x:Int}(h:k.ls s x=MK):k.cQ (k.nw s x)=MK:=by
 cases c:k.cQ x
 ·rw[oZ c];exact c
 ·have b:s.f (cr x)≠-1:=fun e=>by unfold ck.ls at h;rw[c,e] at h;simp at h
  rw[sg c b];obtain⟨b1,b2⟩:=e8 _ (nZ c) b;exact nL ci b1 b2
theorem K9:k.cQ 3=MK:=by unfold ck.cQ;rw[show de 3=MK by decide];rfl
theorem BP (ci:CI k s)(e8:Fo k s)(x:Int):k.cQ (k.cL s x)=MK:=by
 unfold ck.cL;cases c:k.ls s x
 ·rw[aI ac];exact K8 ci e8 c
 ·exact K9
theorem K_ {x:Int}(h:k.cQ x=MK):k.cL s x=x:=by unfold ck.cL ck.ls;rw[h,Cs,aI ac];exact oZ h
theorem La (k:ck)(s:ct)(a:Int):k.eU s a=k.st s (a+1) (k.cL s (k.ld s (a+1))):=by unfold ck.eU ck.cL;split<;>rfl
theorem vU (k:ck)(s:ct)(a x:Int):Mx (k.st s a x).ws=Mx s.ws:=by
 unfold ck.st;split
 ·rw[bh]
 ·rfl
theorem vV (hl:Mx s.ws=k.N+k.O)(hy:k.y<=k.N)(hg:s.g<=k.O)(hv:∀x,k.cQ (k.cL s x)=MK):∀(l:List Int)(t:ct),t.f=s.f->t.g=s.g->Mx t.ws=Mx s.ws->(∀c∈l,dv k.N k.y s.g (c+1)=ML)->
 (l.foldl k.eU t).f=s.f/\(l.foldl k.eU t).g=s.g/\Mx (l.foldl k.eU t).ws=Mx s.ws/\(l.foldl k.eU t).ep=t.ep/\(l.foldl k.eU t).rs=t.rs/\∀p,k.ld (l.foldl k.eU t) p=if p-1∈l then k.cL s (k.ld t p) else k.ld t p
 |[],t,b,d,f,_=>⟨b,d,f,rfl,rfl,fun p=>ac⟩
 |c::l,t,b,d,f,hi=>by
  have vt:∀x,k.cL t x=k.cL s x:=fun x=>by unfold ck.cL;rw[(BO b x).1,(BO b x).2]
  rw[a_,La];obtain⟨j,m,n,o,u,v⟩:=vV hl hy hg hv l (k.st t (c+1) (k.cL t (k.ld t (c+1)))) b d ((vU _ _ _ _).trans f) (fun x w=>hi x (aW _ w))
  refine⟨j,m,n,o,u,fun p=>?_⟩
  rw[v p];have hp:=ck.ot (f.trans hl) hy aa (c+1) (k.cL t (k.ld t (c+1))) p;rw[d] at hp;by_cases e:p=c+1
  ·have g:p-1∈c::l:=by rw[e];simp
   rw[aJ ⟨e,(hi c ac)⟩] at hp;rw[hp,aJ g,vt,e];split
   ·exact K_ (hv _)
   ·rfl
  ·have g:(p-1∈c::l)↔p-1∈l:=by rw[bT];exact⟨fun i=>i.resolve_left (fun q=>e aa),aK⟩
   rw[aI (fun q=>e q.1)] at hp;rw[hp];by_cases i:p-1∈l
   ·simp_all
   ·simp_all
theorem vW (hy:k.y<=k.N):∀(l:List Int)(t:ct),Mx t.ws=k.N+k.O->t.g<=k.O->(∀c∈l,dv k.N k.y t.g (c+1)=ML/\dv k.N k.y t.g (c+2)=ML)->
 (l.foldl k.g8 t).rs=t.rs/\(l.foldl k.g8 t).g=t.g/\∀p,k.ld (l.foldl k.g8 t) p=if p-1∈l\/p-2∈l then 3 else k.ld t p
 |[],t,_,_,_=>⟨rfl,rfl,fun p=>ac⟩
 |c::l,t,e,d,hi=>by
  obtain⟨c1,c2⟩:=hi c ac;have l1:Mx (k.st t (c+1) 3).ws=k.N+k.O:=(vU _ _ _ _).trans e;rw[a_];obtain⟨f,g,i⟩:=vW hy l _ ((vU _ _ _ _).trans l1) d (fun x j=>hi x (aW _ j))
  refine⟨f,g,fun p=>?_⟩
  have m:k.g8 t c=k.st (k.st t (c+1) 3) (c+2) 3:=rfl;rw[m,i p,(ck.ot l1 hy d (c+2) 3) p,(ck.ot e hy d (c+1) 3) p];have g1:(k.st t (c+1) 3).g=t.g:=rfl;by_cases b:p-1∈l\/p-2∈l
  ·rw[aJ b,aJ (b.imp (aW _) (aW _))]
  ·rw[aI b];by_cases n:p=c+2
   ·simp_all
   ·rw[aI (fun q=>n q.1)];by_cases o:p=c+1
    ·simp_all
    ·rw[aI (fun q=>o q.1),aI];rintro(q|q)
     ·rcases bT.1 q with q|q
      ·omega
      ·exact b (aM q)
     ·rcases bT.1 q with q|q
      ·omega
      ·exact b (aK q)
theorem BQ (ci:CI k s)(e8:Fo k s){b x:Int}(h:k.ml s b x):k.nw s x=k.nw s b:=by
 rcases h with e|⟨y1,c,d⟩
 ·rw[e]
 ·rw[sg y1 c,d];obtain⟨b1,b2⟩:=e8 _ (nZ y1) c;exact oZ (nL ci b1 b2)
theorem BR {b x:Int}(h:k.ml s b x)(hy:k.cQ x=MK):x=k.nw s b:=by
 rcases h with e|⟨y1,c,d⟩
 ·rw[e] at hy;rw[oZ hy,e]
 ·rw[sg y1 c,d]
theorem Lb (li:LI k z s H D)(w:dS k z s H){a b i:Int}(o:k.or z s a b)(S:0<=i)(v:i<pf (k.l0 z a)):
 k.ld (k.be (k.mw s s.wk) (k.mw s s.wk).ep) (b+1+i)=if b∈s.ep then 3 else if b∈s.wk/\i=0 then k.cL s (k.ld s (b+1+i)) else k.ld s (b+1+i):=by
 have ci:=li.mi.ci;have full:=li.mi.full;have hb:=li.mi.mem o;have W:i<pf (k.ld s b):=((li.mi.hd a b o)▸v)
 have x:∀c∈s.wk,dv k.N k.y s.g (c+1)=ML:=fun c hc=>by exact BN
 have ab:∀c∈s.ep,dv k.N k.y s.g (c+1)=ML/\dv k.N k.y s.g (c+2)=ML:=fun c hc=>by exact BL
 obtain⟨m1,f,g,m,_,n⟩:=vV ci.len ci.hy ci.hg (BP ci li.mi.e8) s.wk s rfl rfl rfl x;have m:(k.mw s s.wk).ep=s.ep:=m;have f:(k.mw s s.wk).g=s.g:=f;have g:Mx (k.mw s s.wk).ws=Mx s.ws:=g;obtain⟨_,_,b3⟩:=vW ci.hy s.ep _ ((g▸ci.len)) ((f▸ci.hg)) (by simp_all)
 have b3:∀p,k.ld (k.be (k.mw s s.wk) s.ep) p=if p-1∈s.ep\/p-2∈s.ep then 3 else k.ld (k.mw s s.wk) p:=b3
 have n:∀p,k.ld (k.mw s s.wk) p=if p-1∈s.wk then k.cL s (k.ld s p) else k.ld s p:=n
 rw[m,b3,n];have q:∀j,0<=j->j<pf (k.ld s b)->_:=fun j j0 B=>full.eC.field hb j0 B;have q1:∀l:List Int,(∀c∈l,c∈z.G++H)->((b+1+i)-1∈l↔(b∈l/\i=0)):=fun l hl=>by
  constructor
  ·intro d;by_cases e:i=0
   ·simp_all
   ·exfalso;have:b+1+i-1=b+1+(i-1):=aa;rw[this] at d;exact q (i-1) aa aa (hl _ d)
  ·simp_all
 have q2:(b+1+i)-2∈s.ep↔(b∈s.ep/\i=1):=by
  constructor
  ·intro d;obtain⟨r1,F⟩:=w.ep _ d;by_cases e:i=1
   ·subst e;have:b+1+1-2=b:=aa;rw[this] at d;exact⟨d,rfl⟩
   ·exfalso;by_cases N:i=0
    ·subst N;have ad:=iM (li.mi.bd r1).2.2 (aK (aK F))
     have t:=full.eC.apart _ r1 b hb aa;have t:b+1+0-2+(1+pf (k.ld s (b+1+0-2)))<=b:=t;omega
    ·have:b+1+i-2=b+1+(i-2):=aa;rw[this] at r1;exact q (i-2) aa aa r1
  ·rintro⟨d,e⟩
   subst e;have:b+1+1-2=b:=aa;rw[this];exact d
 have ag:=q1 s.ep (fun c hc=>(w.ep c hc).1)
 have ai:=q1 s.wk (fun c hc=>(w.wk c hc).1)
 by_cases c:b∈s.ep
 ·have u:=iM (full.eC.mem b hb).2.2 (aK (aK (w.ep b c).2))
  have u:pf (k.ld s b)=2:=u;rw[aJ c,aJ];rcases(show i=0\/i=1 by omega) with e|e
  ·simp_all
  ·simp_all
 ·simp_all
theorem Lc (li:LI k z s H D)(w:dS k z s H){a b:Int}(o:k.or z s a b):k.ld (k.be (k.mw s s.wk) (k.mw s s.wk).ep) b=k.l0 z a/\(k.be (k.mw s s.wk) (k.mw s s.wk).ep).rs=s.rs:=by
 have ci:=li.mi.ci;have n:∀c∈s.wk,dv k.N k.y s.g (c+1)=ML:=fun c hc=>by exact BN
 have u:∀c∈s.ep,dv k.N k.y s.g (c+1)=ML/\dv k.N k.y s.g (c+2)=ML:=fun c hc=>by exact BL
 obtain⟨m1,g,i,j,t,l⟩:=vV ci.len ci.hy ci.hg (BP ci li.mi.e8) s.wk s rfl rfl rfl n;have j:(k.mw s s.wk).ep=s.ep:=j;have g:(k.mw s s.wk).g=s.g:=g;have i:Mx (k.mw s s.wk).ws=Mx s.ws:=i;obtain⟨b1,_,b3⟩:=vW ci.hy s.ep _ ((i▸ci.len)) ((g▸ci.hg)) (by simp_all)
 have b3:∀p,k.ld (k.be (k.mw s s.wk) s.ep) p=if p-1∈s.ep\/p-2∈s.ep then 3 else k.ld (k.mw s s.wk) p:=b3
 have l:∀p,k.ld (k.mw s s.wk) p=if p-1∈s.wk then k.cL s (k.ld s p) else k.ld s p:=l
 have no:∀c,c∈z.G++H->pf (k.ld s c)=2->∀f:Int,(f=1\/f=2)->b-f≠c:=fun c hc v f hd e=>by have m:=li.mi.full.eC.apart c hc b (li.mi.mem o) aa;have m:c+(1+pf (k.ld s c))<=b:=m;omega
 rw[j,b3,l];refine⟨?_,b1.trans t⟩
 rw[aI,aI,(li.mi.hd a b o)]
 ·intro q;obtain⟨r1,d⟩:=w.wk _ q;exact no _ r1 (iM (li.mi.bd r1).2.2 (aK (aM d))) 1 (aM rfl) rfl
 ·rintro(q|q)
  ·obtain⟨r1,d⟩:=w.ep _ q;exact no _ r1 (iM (li.mi.bd r1).2.2 (aK (aK d))) 1 (aM rfl) rfl
  ·obtain⟨r1,d⟩:=w.ep _ q;exact no _ r1 (iM (li.mi.bd r1).2.2 (aK (aK d))) 2 (aK rfl) rfl
end
theorem si {L:List Bool}{i:Nat}{t:cJ}(b:X L i MK=ML)(c:t.1=3\/t.1=4->Mx t.2.1=2):Mx (fC L i t).2.1=Mx t.2.1/\(fC L i t).1=t.1/\(fC L i t).2.2=(ML,t.2.2.2):=by
 unfold fC;rw[aJ b];refine⟨?_,rfl,rfl⟩
 split
 ·simp_all
 ·split
  ·simp_all
  ·rfl
theorem BS {L:List Bool}{i:Nat}{t:cJ}(b:X L i MK=MK):fC L i t=(t.1,[],t.2.2.1,ML):=by unfold fC;rw[b,aI ac]
theorem m0 {L:List Bool}{i:Nat}{t:cJ}(c:X L i MK=ML)(b:t.1=3\/t.1=4->Mx t.2.1=2){k:Nat}(hk:k<Mx t.2.1):
 X (fC L i t).2.1 k (0,0)=if((t.1=3\/t.1=4)/\d9 L (X t.2.1 0 (0,0))=MK)/\(k=0\/(t.1=4/\k=1)) then(2,0) else X t.2.1 k (0,0):=by
 unfold fC;rw[aJ c];by_cases c4:t.1=4/\d9 L (X t.2.1 0 (0,0))=MK
 ·rw[aJ c4,aJ ⟨⟨aK c4.1,c4.2⟩,aa⟩];have:=b (aK c4.1)
  rcases(show k=0\/k=1 by omega) with e|e<;>subst e<;>rfl
 ·rw[aI c4];by_cases c3:t.1=3/\d9 L (X t.2.1 0 (0,0))=MK
  ·rw[aJ c3];have:=b (aM c3.1)
   rcases(show k=0\/k=1 by omega) with e|e
   ·simp_all
   ·simp_all
  ·rw[aI c3,aI (fun q=>q.1.1.elim (fun e=>c3 ⟨e,q.1.2⟩) (fun e=>c4 ⟨e,q.1.2⟩))]
structure sj (a:Wc)(S:cw)(W:cn)(m:Nat->Int)(B L:List Bool)(C:List cf)(S':cw)(m':Nat->Int)(G':List Int):Prop where
 kv:eL a S'.s [] G'
 ok:gP W.T L
 cl:h7 W.T W.wt (cx L)
 up:∀i,cx B i->cx L i
 rr:∀v∈W.rs,v.1=3->cx L (M v.2)
 cc:∀e∈C,e∈W.rg/\cx L (M e.2)
 rs:S'.s.rs=W.rs.map (wv m')
 pl:∀i,cx L i->m' i∈G'
 inj:∀i j,cx L i->cx L j->m' i=m' j->i=j
 gz:∀v∈G',∃i,cx L i/\m' i=v
 hd:∀i,cx L i->ld a.N S'.s.y S'.s.g S'.s.ws (m' i)=ld a.N S.s.y S.s.g S.s.ws (m i)
 fd:∀i,cx L i->∀k:Nat,k<Mx (X W.T i t0).2.1->ld a.N S'.s.y S'.s.g S'.s.ws (m' i+1+k)=wv m' (X (fC L i (X W.T i t0)).2.1 k (0,0))
 rg:S'.r=(W.rg.filter (fun e=>cW B e.2&&cW L e.1)).map (we m')
 wt:S'.q=((W.wt++C).filter (fun e=>cW L e.1)).map (we m')
section
variable {a:Wc}{S S':cw}{W:cn}{m m':Nat->Int}{Y G G':List Int}{B L:List Bool}{C:List cf}
theorem BU {L:List Bool}{v:Int×Int}(b:v.1=3):d9 L v=X L (M v.2) MK:=by unfold d9;rw[b];rfl
theorem Ld {L:List Bool}{v:Int×Int}(b:v.1≠3):d9 L v=ML:=by
 unfold d9;have:(v.1==3)=MK:=by simpa using b
 rw[this];rfl
theorem cE.led (h:cE a S W m Y G)(ok:gP W.T L)(cl:h7 W.T W.wt (cx L)){i:Nat}(hi:cx L i){k:Nat}(hk:k<Mx (X W.T i t0).2.1)(b:(X (fC L i (X W.T i t0)).2.1 k (0,0)).1=3):cx L (M (X (fC L i (X W.T i t0)).2.1 k (0,0)).2):=by
 have al:=ok.al i hi;have f:(X W.T i t0).1=3\/(X W.T i t0).1=4->_=_:=fun c=>h.two al (aK c)
 rw[m0 hi f hk] at b⊢;split at b
 ·omega
 ·rename_i c;rw[aI c];have o:=o8 _ _ (h.hd i al).1;by_cases n:(X W.T i t0).1=1\/(X W.T i t0).1=2
  ·exact cl i al.1 hi _ (aM ⟨n,(getD_in hk)⟩) b
  by_cases g:(X W.T i t0).1=3
  ·have l2:=f (aM g)
   rcases(show k=0\/k=1 by omega) with e|e
   ·subst e;have:d9 L (X (X W.T i t0).2.1 0 (0,0))=ML:=by simp_all
    exact m9 this b
   ·subst e;exact cl i al.1 hi _ (aK (aM ⟨g,rfl⟩)) b
  by_cases j:(X W.T i t0).1=4
  ·have l:d9 L (X (X W.T i t0).2.1 0 (0,0))=ML:=by
    cases d:d9 L _
    ·exact absurd ⟨⟨aK j,d⟩,aa⟩ c
    ·rfl
   rcases(show k=0\/k=1 by omega) with e|e
   ·subst e;exact m9 l b
   ·subst e;exact cl i al.1 hi _ (aK (aK (aM ⟨j,m9 l,rfl⟩))) b
  ·omega
theorem sj.done (h:cE a S W m Y G)(c:sj a S W m B L C S' m' G'):cE a S' ⟨gh L W.T (Mx W.T),W.rs,W.rg.filter (fun e=>cW B e.2&&cW L e.1),(W.wt++C).filter (fun e=>cW L e.1)⟩ m' [] G':=by
 have gt:∀j,j<Mx W.T->X (gh L W.T (Mx W.T)) j t0=fC L j (X W.T j t0):=fun j n=>by rw[qw L W.T (Mx W.T) j b8 n,aJ n]
 have f:∀i,cx L i->((X W.T i t0).1=3\/(X W.T i t0).1=4->_=_):=fun i hi q=>h.two (c.ok.al i hi) (aK q)
 have al:∀j,cA (gh L W.T (Mx W.T)) j↔cx L j:=fun j=>by
  unfold cA;rw[jF];constructor
  ·rintro⟨o,f⟩
   rw[gt j o] at f;unfold cx;cases d:X L j MK
   ·rw[BS d] at f;cases f
   ·rfl
  ·intro b;have ha:=c.ok.al j b;refine⟨ha.1,?_⟩
   rw[gt j ha.1,(si b (f j b)).2.2];exact ha.2
 have p:∀j,cx L j->Mx (X (gh L W.T (Mx W.T)) j t0).2.1=Mx (X W.T j t0).2.1/\(X (gh L W.T (Mx W.T)) j t0).1=(X W.T j t0).1/\(X (gh L W.T (Mx W.T)) j t0).2.2.1=ML:=fun j b=>by
  have ha:=c.ok.al j b;obtain⟨q1,g,q3⟩:=si b (f j b)
  rw[gt j ha.1,q3];exact⟨q1,g,rfl⟩
 have u:∀v,dJ W.T v->(v.1=3->cx L (M v.2))->dJ (gh L W.T (Mx W.T)) v:=fun v hv b=>⟨fun e=>⟨(hv.t e).1,(al _).2 (b e)⟩,hv.o⟩
 have t:∀e,gC W.T e->cx L (M e.1)->cx L (M e.2)->gC (gh L W.T (Mx W.T)) e:=fun e he o f=>⟨he.g0,(al _).2 o,((p _ o).2.1▸he.k),he.h0,(al _).2 f⟩
 exact
 {
  kv:=c.kv,rl:=h.rl,rv:=fun v hv=>u v (h.rv v hv) (c.rr v hv)
  fv:=fun i hi v hv=>by
   have b:=(al i).1 hi;have ha:=c.ok.al i b;have hv:=hv;rw[gt i ha.1] at hv;obtain⟨k,hk,e⟩:=List.mem_iff_getElem.1 hv;have ev:X (fC L i (X W.T i t0)).2.1 k (0,0)=v:=by rw[aL,aN hk,e];rfl
   rw[(si b (f i b)).1] at hk;refine⟨fun l=>?_,fun l=>?_⟩
   ·have hl:=h.led c.ok c.cl b hk (by simp_all)
    rw[ev] at hl;refine⟨?_,(al _).2 hl⟩
    rw[m0 b (f i b) hk] at ev;split at ev
    ·rw[<-ev] at l;exact absurd l ae
    ·rw[<-ev] at l⊢;exact((h.fv i ha _ (getD_in hk)).t l).1
   ·rw[m0 b (f i b) hk] at ev;split at ev
    ·rw[<-ev];decide
    ·rw[<-ev] at l⊢;exact(h.fv i ha _ (getD_in hk)).o l
  rs:=c.rs
  iO:=fun i hi e=>by simp_all
  old:=fun i hi _=>c.pl i ((al i).1 hi)
  inj:=fun i j hi n e=>c.inj i j ((al i).1 hi) ((al j).1 n) e
  gz:=fun v hv=>by
   rcases hv with d|d
   ·cases d
   ·obtain⟨i,hi,e⟩:=c.gz v d;exact⟨i,(al i).2 hi,e⟩
  hd:=fun i hi=>by have b:=(al i).1 hi;show hc _ _=0/\ld a.N S'.s.y S'.s.g S'.s.ws (m' i)=hw _ _;rw[(p i b).1,(p i b).2.1,c.hd i b];exact h.hd i (c.ok.al i b)
  fd:=fun i hi k hk=>by have b:=(al i).1 hi;have hk:=hk;rw[(p i b).1] at hk;show ld a.N S'.s.y S'.s.g S'.s.ws _=wv m' _;rw[gt i (c.ok.al i b).1];exact c.fd i b k hk
  rg:=c.rg
  gv:=fun e he=>by obtain⟨q1,g⟩:=bM.1 he;rw[bz] at g;exact t e (h.gv e q1) g.2 (c.up _ g.1)
  wt:=c.wt
  dE:=fun e he=>by
   obtain⟨q1,g⟩:=bM.1 he;rcases bD.1 q1 with d|d
   ·have s:=h.dE e d;exact t e s g (c.cl _ s.g.1 g (3,e.2) (aK (aK (aK ⟨s.k,e,d,by have:=s.g0;omega,rfl⟩))) rfl)
   ·obtain⟨w,x⟩:=c.cc e d;exact t e (h.gv e w) g x
  tl:=fun i=>by
   show Mx (X (gh L W.T (Mx W.T)) i t0).2.1<=12;by_cases hi:i<Mx W.T
   ·rw[gt i hi];cases d:X L i MK
    ·rw[BS d];simp
    ·rw[(si d (f i d)).1];exact h.tl i
   ·rw[aL,List.getElem?_eq_none (by rw[jF];omega)];simp[t0]}
end
section
variable {a:Wc}{S:cw}{W:cn}{m:Nat->Int}{Y G:List Int}
theorem Le (h:eL a S.s Y G)(hb:cO a S.s)(j:S.f7 a=MK):(S.dG a).r=((S.r.filter (fun e=>(S.s.j0 a).al (S.j2 a).1 e.2)).filter (fun e=>(S.s.j0 a).al (S.cI a) e.1)).map (fun e=>((S.s.j0 a).nw (S.cK a) e.1,(S.s.j0 a).nw (S.cK a) e.2)):=by
 have i:=c9.start hb.n1 hb.o1 hb.y1 hb.g1;obtain⟨d1,p,t⟩:=oL (S:=S) i;obtain⟨_,l2,l3⟩:=lv h.inv.full hb;obtain⟨_,g,u⟩:=mL h hb j;obtain⟨_,b,t3,_⟩:=pQ (s:=S.cK a) (k:=S.s.j0 a) ⟨hb.l1,hb.y1,hb.g1⟩ hb.r1 i.nd (oR h.inv.full hb) (pV h.inv.full hb)
 have b:(S.k5 a).Y=(S.s.j0 a).Y:=b;have t3:(S.k5 a).G=(S.s.j0 a).G:=t3;have z4:(S.k5 a).T=(S.s.j0 a).T:=by unfold cg.T;rw[b,t3]
 have l:∀x,(S.k5 a).al (S.cK a) x=(S.s.j0 a).al (S.cI a) x:=fun x=>by exact z3
 have r3:S.r3 a=(S.r.filter (fun e=>(S.s.j0 a).al (S.j2 a).1 e.2)).filter (fun e=>(S.s.j0 a).al (S.cI a) e.1):=by show(((S.r.filter (fun e=>(S.s.j0 a).al _ e.2)).filter (fun e=>(S.s.j0 a).al (S.cI a) e.1)).map fun e=>((S.s.j0 a).nw (S.cI a) e.1,(S.s.j0 a).nw (S.cI a) e.2))=_;exact z5
 have m:(S.k5 a).tS (S.cK a,S.q3 a) (S.r3 a)=(S.cK a,S.q3 a):=uJ (fun e he=>by rw[l];exact rH i e he)
 unfold cw.dG;rw[j,aI ac];show e3 (dW cz) (fun s x=>(S.k5 a).al s.1 x) _ (fun s x=>(S.k5 a).nw s.1 x) (S.cK a,S.q3 a) (S.r3 a)=_;unfold e3;have e:fJ (dW cz) (fun s x=>(S.k5 a).al s.1 x) (S.k5 a).cu (S.cK a,S.q3 a) (S.r3 a)=(S.cK a,S.q3 a):=m;rw[e];show(((S.r3 a).filter (fun e=>(S.k5 a).al (S.cK a) e.2)).filter (fun e=>(S.k5 a).al (S.cK a) e.1)).map (fun e=>((S.k5 a).nw (S.cK a) e.1,(S.k5 a).nw (S.cK a) e.2))=_;have n:(S.r3 a).filter (fun e=>(S.k5 a).al (S.cK a) e.2)=S.r3 a:=p3.2 (fun e he=>by rw[l];exact rH (S:=S) i e he)
 have o:(S.r3 a).filter (fun e=>(S.k5 a).al (S.cK a) e.1)=S.r3 a:=p3.2 (fun e he=>by simp_all)
 rw[n,o,r3];refine mh (fun e _=>?_)
 rw[cg.kN _ _ b t3,cg.kN _ _ b t3]
theorem cE.n4 (b:cE a S W m Y G)(hb:cO a S.s){g:List Bool->List Bool}(hg:dz W.T W.wt g):S.n4 a=iQ W.T (W.cR g ML).1 (Mx W.T):=by
 have f:=c9.start hb.n1 hb.o1 hb.y1 hb.g1;have hs:=Rg.settled b hb hg;obtain⟨k,_⟩:=pO (S.s.j0 a) (fun c=>!((S.cI a).f c==-1)) _ (S.cI a,(a.N:Int)) f.nd (fun _ _=>rfl)
 have d:=k.sum (fun c=>(du _).1)
 have d:(hX (nM (ld a.N S.s.y S.s.g S.s.ws)) ((S.s.j0 a).T.filter (fun c=>!((S.cI a).f c==-1))):Int)=S.n4 a:=d;rw[vK,<-d,vJ (fun i _ hp=>b.size (hs.ok.al i hp)) (f.nd.filter _) (fun i j _ _ hp hq e=>b.inj i j (hs.ok.al i hp) (hs.ok.al j hq) e) (fun v=>?_)];rw[bM];constructor
 ·rintro⟨l,n⟩
  obtain⟨i,hi,rfl⟩:=b.vN hb l;exact⟨i,hi.1,(hs.gn i hi).1 (by simpa using n),rfl⟩
 ·rintro⟨i,_,hp,rfl⟩
  have hi:=hs.ok.al i hp;exact⟨b.memT hb hi,by simpa using(hs.gn i hi).2 hp⟩
theorem cE.BV (b:cE a S W m Y G)(hb:cO a S.s){g:List Bool->List Bool}(hg:dz W.T W.wt g):S.f7 a=W.cF g a.O ML:=by unfold cw.f7 cn.cF;rw[b.n4 hb hg];simp
theorem cE.i0 (b:cE a S W m Y G)(hb:cO a S.s){g:List Bool->List Bool}(hg:dz W.T W.wt g):S.i0 a=W.gZ g a.O ML:=by unfold cw.i0 cn.gZ;rw[b.BV hb hg]
theorem cE.qf (b:cE a S W m Y G)(hb:cO a S.s){j:cz}{v:Int×Int}(hv:dJ W.T v)(d:v.1=3->j.f (m (M v.2))≠-1):(S.s.j0 a).nw j (wv m v)=wv (fun i=>j.f (m i)) v:=by
 unfold cg.nw;rw[b.jt hb hv];by_cases c:v.1=3
 ·rw[(b.vt hb hv c).2,c,aJ (by simp[d c]),i1 c]
 ·rw[aI (by simp[c]),mW c,mW c]
theorem vX {c:Type}(d:c){l b:List c}(h:Mx l=Mx b)(he:∀i,i<Mx l->X l i d=X b i d):l=b:=by
 refine List.ext_getElem h (fun i e f=>?_)
 have:=he i e;rwa [aL,aN e,aL,aN f] at this
theorem vY {m:Nat->Int}:wv m (2,0)=3:=by rw[mW ae];decide
theorem cE.Lf (hR:cE a S W m Y G)(hb:cO a S.s){g:List Bool->List Bool}(hg:dz W.T W.wt g)(u:S.f7 a=MK):
 sj a S W m (W.c0 g ML) (W.cR g ML).1 (W.cR g ML).2.1 (S.dG a) (fun i=>(S.cK a).f (m i)) ((S.cK a).lf (G++Y)):=by
 have hs:=Rg.settled hR hb hg;have h0:=Rg.start hR hb hg;obtain⟨_,w,_⟩:=mL hR.kv hb u;obtain⟨s1,s2,aR⟩:=oL (S:=S) (c9.start hb.n1 hb.o1 hb.y1 hb.g1)
 have N:=hR.T hb;have o:∀{i:Nat},cA W.T i->m i∈G++Y:=fun hi=>(N▸hR.memT hb hi)
 have B:∀i,cA W.T i->((S.cK a).f (m i)≠-1↔cx (W.cR g ML).1 i):=fun i hi=>by rw[<-hs.gn i hi];exact not_congr (w.iff _ (o hi))
 have l:∀i,cx (W.cR g ML).1 i->_:=fun i b=>(B i (hs.ok.al i b)).2 b;have hcl:h7 W.T W.wt (cx (W.cR g ML).1):=by
  have hc:=hR.marked hb hs.dq (fun x al=>(hs.q▸List.mem_map_of_mem (bm _ al)))
  intro i hi am v hv n;have ab:∀j,cx (W.cR g ML).1 j->_/\_:=fun j p=>⟨hs.ok.al j p,(hs.gn j (hs.ok.al j p)).2 p⟩
  obtain⟨q1,f⟩:=hc i hi (ab i am) v (hv.mono ab) n;exact(hs.gn _ q1).1 f
 have hup:∀i,cx (W.c0 g ML) i->cx (W.cR g ML).1 i:=fun i hi=>by have ha:=h0.ok.al i hi;have ad:=(h0.gn i ha).2 hi;refine(hs.gn i ha).1 ?_;rw[s2.f _ ad];exact ad
 have s:∀i,cx (W.cR g ML).1 i->((X W.T i t0).1=3\/(X W.T i t0).1=4->_=_):=fun i hi q=>hR.two (hs.ok.al i hi) (aK q)
 have vS:∀e,gC W.T e->cx (W.cR g ML).1 (M e.1)->cx (W.cR g ML).1 (M e.2)->((S.s.j0 a).nw (S.cK a) (we m e).1,(S.s.j0 a).nw (S.cK a) (we m e).2)=we (fun i=>(S.cK a).f (m i)) e:=fun e he an s=>by
  have q1:=hR.qf hb (j:=S.cK a) (v:=(3,e.1)) ⟨fun _=>⟨he.g0,he.g⟩,fun c=>absurd rfl c⟩ (fun _=>l _ an)
  have f:=hR.qf hb (j:=S.cK a) (v:=(3,e.2)) ⟨fun _=>⟨he.h0,he.h⟩,fun c=>absurd rfl c⟩ (fun _=>l _ s)
  exact Prod.ext q1 f
 have gc:=w.gc;have ag:(S.dG a).s.y=0:=gc.y;refine
 {
  kv:=(gc.inv hR.kv hb w.al).1,ok:=hs.ok,cl:=hcl,up:=hup,rr:=hs.r,cc:=hs.c
  rs:=?_,pl:=fun i b=>?_,inj:=fun i j hi p e=>?_,gz:=fun v hv=>?_,hd:=fun i b=>?_,fd:=fun i b k hk=>?_,rg:=?_,wt:=?_}
 ·refine vX 0 (by rw[aZ,hR.rl];exact gc.rl) (fun i hi=>?_)
  have hi:i<12:=by rw[gc.rl] at hi;exact hi
  obtain⟨er,hv⟩:=hR.root hi;rw[gc.rs i hi,er,lB (wv (fun i=>(S.cK a).f (m i))) W.rs i (0,0) 0 ((hR.rl▸hi))];exact hR.qf hb hv (fun n=>l _ (hs.r _ (getD_in ((hR.rl▸hi))) n))
 ·exact b7.2 ⟨m i,bM.2 ⟨o (hs.ok.al i b),by simp_all⟩,rfl⟩
 ·have:=gc.pos.inj (fun c=>(du _).1) (m i) (o (hs.ok.al i hi)) (m j) (o (hs.ok.al j p)) (by simp_all) (by simp_all) e;exact hR.inj i j (hs.ok.al i hi) (hs.ok.al j p) this
 ·obtain⟨c,hc,rfl⟩:=b7.1 hv;obtain⟨q1,f⟩:=bM.1 hc;rw[<-N] at q1;obtain⟨i,hi,rfl⟩:=hR.vN hb q1;exact⟨i,(B i hi).1 (by simpa using f),rfl⟩
 ·rw[ag];exact gc.hd _ (o (hs.ok.al i b)) (l i b)
 ·have ha:=hs.ok.al i b;obtain⟨ao,ap,_⟩:=hR.parts ha;rw[ag,gc.fd _ (o ha) (l i b) k (ko k) (by rw[ap];omega),m0 b (s i b) hk];unfold cg.iN;have ar:pk ((S.s.j0 a).ld (m i))=(X W.T i t0).1:=ao;rw[ar];have ai:(S.s.j0 a).ld (m i+1+k)=wv m (X (X W.T i t0).2.1 k (0,0)):=hR.fd i ha k hk;have key:(X W.T i t0).1=3\/(X W.T i t0).1=4->((S.s.j0 a).cY (S.cK a) ((S.s.j0 a).ld (m i+1))=ML↔d9 (W.cR g ML).1 (X (X W.T i t0).2.1 0 (0,0))=MK):=fun q=>by
   have aF:(S.s.j0 a).ld (m i+1)=wv m (X (X W.T i t0).2.1 0 (0,0)):=by
    have:=hR.fd i ha 0 aa;show ld a.N S.s.y S.s.g S.s.ws (m i+1)=_;rw[<-this]
    congr 1
    omega
   have F:=hR.fv i ha _ (getD_in (x:=((0,0):Int×Int)) (show 0<Mx (X W.T i t0).2.1 by omega))
   rw[aF];by_cases c3:(X (X W.T i t0).2.1 0 (0,0)).1=3
   ·have q1:=hR.oX hb (S.cK a) F c3;have f:=B _ (F.t c3).2;rw[BU c3];constructor
    ·intro d;cases e:X (W.cR g ML).1 _ MK
     ·rfl
     ·rw[q1.2 (f.2 e)] at d;cases d
    ·intro d;cases e:(S.s.j0 a).cY (S.cK a) _
     ·have:=f.1 (q1.1 e)
      unfold cx at this
      rw[d] at this
      cases this
     ·rfl
   ·rw[Ld c3];have:(S.s.j0 a).cY (S.cK a) (wv m (X (X W.T i t0).2.1 0 (0,0)))=MK:=by
     unfold cg.cY;rw[hR.jt hb F];have:((X (X W.T i t0).2.1 0 (0,0)).1==3)=MK:=by simpa using c3
     rw[this];rfl
    rw[this];simp
  by_cases cb:((X W.T i t0).1=3\/(X W.T i t0).1=4)/\d9 (W.cR g ML).1 (X (X W.T i t0).2.1 0 (0,0))=MK
  ·by_cases t:k=0\/((X W.T i t0).1=4/\k=1)
   ·rw[aJ ⟨⟨cb.1,(key cb.1).2 cb.2⟩,t.imp (fun e=>by omega) (fun e=>⟨e.1,aa⟩)⟩,aJ ⟨cb,t⟩,vY];unfold cg.nw cg.jt;rw[show de 3=MK by decide,Cs,Cs,aI ac]
   ·rw[aI (fun q=>t (q.2.imp (fun e=>by omega) (fun e=>⟨e.1,aa⟩))),aI (fun q=>t q.2),ai];refine hR.qf hb (hR.fv i ha _ (getD_in hk)) (fun n=>l _ ?_)
    have hl:=hR.led hs.ok hcl b hk;rw[m0 b (s i b) hk,aI (fun q=>t q.2)] at hl;exact hl n
  ·rw[aI (fun q=>cb ⟨q.1.1,(key q.1.1).1 q.1.2⟩),aI (fun q=>cb q.1),ai];refine hR.qf hb (hR.fv i ha _ (getD_in hk)) (fun n=>l _ ?_)
   have hl:=hR.led hs.ok hcl b hk;rw[m0 b (s i b) hk,aI (fun q=>cb q.1)] at hl;exact hl n
 ·rw[Le hR.kv hb u,hR.rg,Cm];rw[lL (we m) _ (fun e=>cW (W.c0 g ML) e.2&&cW (W.cR g ML).1 e.1) W.rg (fun e he=>by have q1:=Rg.is hR hb h0 (hR.gv e he).h;have f:=Rg.is hR hb hs (hR.gv e he).g;have q1:(S.s.j0 a).al (S.j2 a).1 (we m e).2=cW (W.c0 g ML) e.2:=q1;have f:(S.s.j0 a).al (S.cI a) (we m e).1=cW (W.cR g ML).1 e.1:=f;rw[q1,f,Mc]),yw];exact BM
 ·rw[Aj hR.kv hb u];have hE:∀e∈W.wt++(W.cR g ML).2.1,gC W.T e:=fun e he=>by
   rcases bD.1 he with d|d
   ·exact hR.dE e d
   ·exact hR.gv e (hs.c e d).1
  rw[hs.q,lL (we m) _ (fun e=>cW (W.cR g ML).1 e.1) _ (fun e he=>Rg.is hR hb hs (hE e he).g),yw];exact BK
theorem cE.dG (b:cE a S W m Y G)(hb:cO a S.s){g:List Bool->List Bool}(hg:dz W.T W.wt g):∃c d e,cE a (S.dG a) (W.cut g a.O ML) c d e:=by
 unfold cn.cut;rw[<-b.BV hb hg];cases hf:S.f7 a
 ·rw[aI ac];exact⟨_,_,_,(b.Lf hb hg hf).done b⟩
 ·refine⟨m,Y,G,?_⟩
  unfold cw.dG;rw[hf,aJ rfl];exact b
end
theorem BW (k:ck):∀(l:List Int)(s:ct),(l.foldl k.eU s).rs=s.rs
 |[],_=>rfl
 |x::l,s=>by rw[a_,BW k l];unfold ck.eU;split<;>rfl
theorem BX (k:ck):∀(l:List Int)(s:ct),(l.foldl k.g8 s).rs=s.rs
 |[],_=>rfl
 |x::l,s=>by rw[a_,BX k l];rfl
theorem fI.told {k:ck}{s:ct}(ci:CI k s)(e8:Fo k s){q0 q:List cf}(h:fI k s q0 q)(p:Int->Bool):(q.filter (fun e=>p e.1)).map (fun e=>(k.nw s e.1,k.nw s e.2))=(q0.filter (fun e=>p e.1)).map (fun e=>(k.nw s e.1,k.nw s e.2)):=by
 have c:q.map (fun e=>(e.1,k.nw s e.2))=q0.map (fun e=>(e.1,k.nw s e.2)):=by
  refine vX (0,0) (by rw[aZ,aZ,h.len]) (fun n hn=>?_)
  rw[aZ] at hn;have b:n<Mx q0:=(h.len▸hn)
  obtain⟨d,f⟩:=h.eq n b;rw[lB (fun e:cf=>(e.1,k.nw s e.2)) q n (0,0) (0,0) hn,lB (fun e:cf=>(e.1,k.nw s e.2)) q0 n (0,0) (0,0) b,d,BQ ci e8 f]
 have key:∀l:List cf,(l.filter (fun e=>p e.1)).map (fun e=>(k.nw s e.1,k.nw s e.2))=((l.map (fun e=>(e.1,k.nw s e.2))).filter (fun e=>p e.1)).map (fun e=>(k.nw s e.1,e.2)):=fun l=>by rw[lL (fun e:cf=>(e.1,k.nw s e.2)) (fun e=>p e.1) (fun e=>p e.1) l (fun _ _=>rfl),yw];rfl
 rw[key q,key q0,c]
section
variable {a:Wc}{S:cw}{W:cn}{m:Nat->Int}{Y G:List Int}
def gD (a:Wc)(S:cw)(m:Nat->Int)(G:List Int)(i:Nat):Int:=if m i∈G then m i else(S.s4 a).f (m i)
theorem cE.Lg (hR:cE a S W m Y G)(hb:cO a S.s)(hr:S.s.y<=a.O-S.s.g){g:List Bool->List Bool}(hg:dz W.T W.wt g):
 ∃K,sj a S W m (W.c0 g MK) (W.cR g MK).1 (W.cR g MK).2.1 ⟨⟨0,(S.s6 a).g,(S.s6 a).ws,[],(S.s6 a).rs⟩,(S.s.k0 a).sR (S.t3 a) S.r,(S.s.k0 a).jH (S.t3 a) S.r⟩ (gD a S m G) (G++K):=by
 obtain⟨D,hc,h0⟩:=jO.start hR hb hr hg;have hs:=jO.settled hR hb hc hg h0;obtain⟨K,li,N⟩:=hs.dq.li;have li:=li;have N:=N;obtain⟨bb,ch,c⟩:=rE hR.kv hb hr;have bo:bb=K:=by have l2:=(c.li.mi.full.lists (O:=a.O) hb.n1 hb.y1 hb.o1 c.li.mi.ci.hg).2;have aF:=((li.mi.full.lists (O:=a.O) hb.n1 hb.y1 hb.o1 li.mi.ci.hg).2).symm.trans l2;exact(List.append_cancel_left aF).symm
 subst bo;refine⟨bb,?_⟩
 have ci:=li.mi.ci;have e8:=li.mi.e8;have ao:=hR.gj hb;have hz:∀v,(v∈(S.s.k0 a).T\/v∈(S.s.z0 G).G)->∀i,0<=i->i<pf ((S.s.k0 a).l0 (S.s.z0 G) v)->de ((S.s.k0 a).l0 (S.s.z0 G) (v+1+i))=ML->cr ((S.s.k0 a).l0 (S.s.z0 G) (v+1+i))∈(S.s.k0 a).T\/cr ((S.s.k0 a).l0 (S.s.z0 G) (v+1+i))∈(S.s.z0 G).G:=fun v hv i bp ai ha=>by rw[ao] at hv⊢;exact hR.kv.inv.fd v hv i bp ai ha
 have gn:=hs.gn;have ok:=hs.ok;have al:∀i,cx (W.cR g MK).1 i->(S.s.k0 a).or (S.s.z0 G) (S.s4 a) (m i) (gD a S m G i):=fun i b=>by
  have ha:=ok.al i b;unfold gD;by_cases d:m i∈G
  ·rw[aJ d];exact aM ⟨rfl,d⟩
  ·rw[aI d];have hy:=(hR.mem ha).resolve_right d;exact aK ⟨by rw[ao];exact hy,rfl,((hR.ky hb _ ha).1 ((gn i ha).2 b)).resolve_left d⟩
 have hcl:h7 W.T W.wt (cx (W.cR g MK).1):=by
  intro i hi br v hv l;have bd:∀j,cx (W.cR g MK).1 j->_/\_:=fun j ab=>⟨ok.al j ab,(gn j (ok.al j ab)).2 ab⟩
  obtain⟨q1,s⟩:=hR.vP hb hc hs.dq vR i hi (bd i br) v (hv.mono bd) l;exact(gn _ q1).1 s
 have bs:dd (S.s.k0 a) (S.t3 a).1 (S.s4 a):=by obtain⟨bt,aF,bx⟩:=h0.dq.li;obtain⟨_,_,_,cI,_⟩:=da.fi (k:=S.s.k0 a) (z:=S.s.z0 G) (D:=D) (S.t3 a) S.r bt aF bx;exact cI
 have hup:∀i,cx (W.c0 g MK) i->cx (W.cR g MK).1 i:=fun i hi=>by have ha:=h0.ok.al i hi;exact(gn i ha).1 (pX bs ((h0.gn i ha).2 hi))
 have F:∀i,cx (W.cR g MK).1 i->((X W.T i t0).1=3\/(X W.T i t0).1=4->_=_):=fun i hi q=>hR.two (ok.al i hi) (aK q)
 have am:∀v,dJ W.T v->(v.1=3->cx (W.cR g MK).1 (M v.2))->(S.s.k0 a).nw (S.s4 a) (wv m v)=wv (gD a S m G) v:=fun v hv b=>by
  by_cases l:v.1=3
  ·have ha:=(hv.t l).2;rw[i1 l,i1 l];unfold gD;by_cases d:m (M v.2)∈G
   ·rw[aJ d];refine oZ ?_;rw[ve];intro hy;exact hR.kX hb ((hR.oY hb ha).1 hy) d
   ·rw[aI d];have hy:=(hR.mem ha).resolve_right d;have e:=(hR.word hb ha).2.2;rw[sg ((hR.oY hb ha).2 hy) (by rw[e];exact((hR.ky hb _ ha).1 ((gn _ ha).2 (b l))).resolve_left d),e]
  ·rw[mW l,mW l];refine oZ ?_;unfold ck.cQ;rw[(n5 _ _ (hv.o l)).1];have:(v.1==3)=MK:=by simpa using l
   rw[this];rfl
 have vS:∀e,gC W.T e->cx (W.cR g MK).1 (M e.1)->cx (W.cR g MK).1 (M e.2)->((S.s.k0 a).nw (S.s4 a) (we m e).1,(S.s.k0 a).nw (S.s4 a) (we m e).2)=we (gD a S m G) e:=fun e he b0 F=>by
  have q1:=am (3,e.1) ⟨fun _=>⟨he.g0,he.g⟩,fun c=>absurd rfl c⟩ (fun _=>b0)
  have s:=am (3,e.2) ⟨fun _=>⟨he.h0,he.h⟩,fun c=>absurd rfl c⟩ (fun _=>F)
  rw[i1 rfl,i1 rfl] at q1 s;unfold we;exact Prod.ext q1 s
 have lo:∀{p:Int},(a.N:Int)<=p->ld a.N 0 (S.s6 a).g (S.s6 a).ws p=(S.s.k0 a).ld ((S.s.k0 a).be ((S.s.k0 a).mw (S.s4 a) (S.s4 a).wk) ((S.s.k0 a).mw (S.s4 a) (S.s4 a).wk).ep) p:=fun hp=>uB hp hb.y1;refine
 {
  kv:=⟨c.done hR.kv hb,fun v _ i _ _ _ hy=>(by cases hy)⟩,ok:=ok,cl:=hcl,up:=hup,rr:=hs.r,cc:=hs.c
  rs:=?_,pl:=fun i b=>li.mi.mem (al i b),inj:=fun i j hi ab e=>?_,gz:=fun v hv=>?_,hd:=fun i b=>?_,fd:=fun i b k hk=>?_,rg:=?_,wt:=?_}
 ·have b4:(S.s6 a).rs=(S.s4 a).rs:=(BX _ _ _).trans (BW _ _ _)
  show(S.s6 a).rs=_;rw[b4];refine vX 0 (by rw[aZ,hR.rl];exact c.rl) (fun i hi=>?_)
  have hi:i<12:=by rw[c.rl] at hi;exact hi
  obtain⟨er,hv⟩:=hR.root hi;have hm:=c.rm i hi;rw[er] at hm;rw[BR hm (c.Ad i hi),lB (wv (gD a S m G)) W.rs i (0,0) 0 (by rw[hR.rl];exact hi)];exact am _ hv (hs.r _ (getD_in (by rw[hR.rl];exact hi)))
 ·have o1:=al i hi;have be:=al j ab;rw[<-e] at be;refine hR.inj i j (ok.al i hi) (ok.al j ab) ?_;rcases o1 with⟨a1,a2⟩|⟨a1,a2,ap⟩<;>rcases be with⟨b1,b2⟩|⟨b1,b2,b3⟩
  ·exact a1.trans b1.symm
  ·have q1:=li.mi.lj _ a2;have s:=li.mi.hlo _ (li.mi.fh _ b1 (by rw[b2];exact b3))
   rw[b2] at s;omega
  ·have q1:=li.mi.lj _ b2;have s:=li.mi.hlo _ (li.mi.fh _ a1 (by rw[a2];exact ap))
   rw[a2] at s;omega
  ·exact li.mi.inj _ a1 _ b1 (by rw[a2];exact ap) (a2.trans b2.symm)
 ·obtain⟨x,o⟩:=li.mi.from hv;have hm:x∈Y\/x∈G:=by
   have:=vL o;rw[ao] at this
   exact this
  obtain⟨i,hi,rfl⟩:=hR.gz x hm;have b:cx (W.cR g MK).1 i:=(gn i hi).1 ((hR.ky hb _ hi).2 (by
   rcases o with⟨a1,a2⟩|⟨a1,a2,ap⟩
   ·exact aM (by rw[a1];exact a2)
   ·omega))
  refine⟨i,b,?_⟩
  unfold gD;rcases o with⟨a1,a2⟩|⟨a1,a2,ap⟩
  ·rw[aJ (by rw[a1];exact a2)];exact a1
  ·rw[ao] at a1;rw[aI (hR.kX hb a1)];exact a2
 ·have o:=al i b;have b5:=li.mi.bd (li.mi.mem o)
  show ld a.N 0 (S.s6 a).g (S.s6 a).ws (gD a S m G i)=_;rw[lo b5.1];exact(Lc li N o).1
 ·have o:=al i b;have ha:=ok.al i b;obtain⟨aR,a0,_⟩:=hR.parts ha;have an:(S.s.k0 a).ld (S.s4 a) (gD a S m G i)=ld a.N S.s.y S.s.g S.s.ws (m i):=li.mi.hd _ _ o;have ai:(k:Int)<pf ((S.s.k0 a).l0 (S.s.z0 G) (m i)):=by
   show(k:Int)<pf (ld a.N S.s.y S.s.g S.s.ws (m i))
   rw[a0];omega
  have b6:(k:Int)<pf ((S.s.k0 a).ld (S.s4 a) (gD a S m G i)):=by rw[an,a0];omega
  have ar:∀n,n<Mx (X W.T i t0).2.1->(S.s.k0 a).l0 (S.s.z0 G) (m i+1+n)=wv m (X (X W.T i t0).2.1 n (0,0)):=fun n hn=>hR.fd i ha n hn;have a3:=li.mi.fd (m i) _ o k (ko k) ai;rw[ar k hk] at a3;have bg:=hR.fv i ha _ (getD_in (x:=((0,0):Int×Int)) hk)
  show ld a.N 0 (S.s6 a).g (S.s6 a).ws (gD a S m G i+1+k)=_;have hN:(a.N:Int)<=gD a S m G i:=(li.mi.bd (li.mi.mem o)).1;rw[lo aa,Lb li N o (ko k) ai,m0 b (F i b) hk];have lost:(X W.T i t0).1=3\/(X W.T i t0).1=4->(d9 (W.cR g MK).1 (X (X W.T i t0).2.1 0 (0,0))=MK↔(S.s.k0 a).ls (S.s4 a) (wv m (X (X W.T i t0).2.1 0 (0,0)))=ML):=fun q=>by
   have l2:=F i b q;have a4:=hR.fv i ha _ (getD_in (x:=((0,0):Int×Int)) (show 0<Mx (X W.T i t0).2.1 by omega))
   constructor
   ·intro d;obtain⟨bi,ca⟩:=m8 d;have cb:=(a4.t bi).2;have:¬(S.s.k0 a).al (S.s4 a) (ew 3 (m (M (X (X W.T i t0).2.1 0 (0,0)).2)))=ML:=fun w=>by
     have:=(gn _ cb).1 w;unfold cx at this
     rw[ca] at this
     cases this
    rw[i1 bi];unfold ck.al at this
    simpa using this
   ·intro d;obtain⟨u,_⟩:=hR.sf hb a4 (mY d)
    rw[i1 u] at d;rw[BU u];cases w:X (W.cR g MK).1 (M (X (X W.T i t0).2.1 0 (0,0)).2) MK
    ·rfl
    ·have:=(gn _ (a4.t u).2).2 w;unfold ck.al at this
     rw[d] at this
     cases this
  have met:(X W.T i t0).1=3\/(X W.T i t0).1=4->(S.s.k0 a).ls (S.s4 a) (wv m (X (X W.T i t0).2.1 0 (0,0)))=ML->(S.s.k0 a).ld (S.s4 a) (gD a S m G i+1+0)=wv m (X (X W.T i t0).2.1 0 (0,0))/\((X W.T i t0).1=3->gD a S m G i∈(S.s4 a).wk)/\((X W.T i t0).1=4->gD a S m G i∈(S.s4 a).ep):=fun q d=>by
   have l2:=F i b q;have ba:(0:Int)<pf ((S.s.k0 a).l0 (S.s.z0 G) (m i)):=aa;have j2:(0:Int)<pf ((S.s.k0 a).ld (S.s4 a) (gD a S m G i)):=by rw[an,a0];omega
   have bl:=li.mi.fd (m i) _ o 0 (sS 0) ba;have ex:(S.s.k0 a).l0 (S.s.z0 G) (m i+1+0)=wv m (X (X W.T i t0).2.1 0 (0,0)):=ar 0 aa;rw[ex] at bl;have B:(S.s.k0 a).ld (S.s4 a) (gD a S m G i+1+0)=wv m (X (X W.T i t0).2.1 0 (0,0)):=by
    rcases bl with w|⟨_,w,_⟩
    ·exact w
    ·exact absurd (ck.nt d).2.2 w
   have f:=li.fields hs.dq.he hz hc (li.mi.mem o) (sS 0) j2 ((B▸(ck.nt d).1))
   rw[an,aR] at f;refine⟨B,fun u=>?_,fun ad=>?_⟩
   ·rcases f with w|⟨_,_,w⟩|⟨w,_⟩
    ·have:=li.mi.pT w;rw[B,mY d] at this
     cases this
    ·exact w
    ·omega
   ·rcases f with w|⟨w,_,_⟩|⟨_,w⟩
    ·have:=li.mi.pT w;rw[B,mY d] at this
     cases this
    ·omega
    ·exact w
  by_cases ag:gD a S m G i∈(S.s4 a).ep
  ·have ad:(X W.T i t0).1=4:=by
    have:=(N.ep _ ag).2;rw[an,aR] at this
    exact this
   have l2:=F i b (aK ad)
   have t:=hs.dq.ep _ ag;have t:=t;have ba:(0:Int)<pf ((S.s.k0 a).l0 (S.s.z0 G) (m i)):=aa;have cd:gD a S m G i+1+0=gD a S m G i+1:=aa;rw[<-cd] at t;have ea:=li.mi.se o (sS 0) ba (mY t)
   have ex:(S.s.k0 a).l0 (S.s.z0 G) (m i+1+0)=wv m (X (X W.T i t0).2.1 0 (0,0)):=ar 0 aa;rw[ea,ex] at t;rw[aJ ag,aJ ⟨⟨aK ad,(lost (aK ad)).2 t⟩,aa⟩,vY]
  ·rw[aI ag];by_cases bn:gD a S m G i∈(S.s4 a).wk/\(k:Int)=0
   ·obtain⟨hw,cj⟩:=bn;have u:(X W.T i t0).1=3:=by
     have:=(N.wk _ hw).2;rw[an,aR] at this
     exact this
    have gO:k=0:=aa;subst gO;rw[aJ ⟨hw,rfl⟩];cases t:d9 (W.cR g MK).1 (X (X W.T i t0).2.1 0 (0,0))
    ·have q:=(lost (aM u)).1 t;have B:=(met (aM u) q).1;have B:(S.s.k0 a).ld (S.s4 a) (gD a S m G i+1+((0:Nat):Int))=wv m (X (X W.T i t0).2.1 0 (0,0)):=B;rw[aJ ⟨⟨aM u,rfl⟩,aM rfl⟩,vY,B];unfold ck.cL;rw[aJ q]
    ·rw[aI (fun q=>by simp_all)];have ce:(S.s.k0 a).ls (S.s4 a) ((S.s.k0 a).ld (S.s4 a) (gD a S m G i+1+((0:Nat):Int)))=MK:=by rw[ve];intro w;rw[(li.mi.se o (ko 0) ai (mY w)),ar 0 hk] at w;rw[(lost (aM u)).2 w] at t;cases t
     unfold ck.cL;rw[ce,aI ac,BQ ci e8 a3];refine am _ bg (fun l=>?_)
     exact m9 t l
   ·rw[aI bn];have cf:(S.s.k0 a).cQ ((S.s.k0 a).ld (S.s4 a) (gD a S m G i+1+k))=MK:=by
     cases hab:de ((S.s.k0 a).ld (S.s4 a) (gD a S m G i+1+k))
     ·unfold ck.cQ;rw[hab];rfl
     ·rcases li.fields hs.dq.he hz hc (li.mi.mem o) (ko k) b6 hab with w|⟨_,w1,cm⟩|⟨_,w⟩
      ·exact li.mi.pT w
      ·simp_all
      ·exact absurd w ag
    have nb:¬((((X W.T i t0).1=3\/(X W.T i t0).1=4)/\d9 (W.cR g MK).1 (X (X W.T i t0).2.1 0 (0,0))=MK)/\(k=0\/((X W.T i t0).1=4/\k=1))):=by
     rintro⟨⟨q1,s⟩,q3⟩
     obtain⟨_,cn,cg⟩:=met q1 ((lost q1).1 s)
     rcases q1 with u|ad
     ·simp_all
     ·exact ag (cg ad)
    rw[aI nb,BR a3 cf];refine am _ bg (fun l=>?_)
    have hl:=hR.led ok hcl b hk;rw[m0 b (F i b) hk,aI nb] at hl;exact hl l
 ·show(((S.r.filter (fun e=>(S.s.k0 a).al (S.t3 a).1 e.2)).filter (fun e=>(S.s.k0 a).al (S.s4 a) e.1)).map (fun e=>((S.s.k0 a).nw (S.s4 a) e.1,(S.s.k0 a).nw (S.s4 a) e.2)))=_;rw[hR.rg,Cm];rw[lL (we m) _ (fun e=>cW (W.c0 g MK) e.2&&cW (W.cR g MK).1 e.1) W.rg (fun e he=>by have q1:(S.s.k0 a).al (S.t3 a).1 (we m e).2=cW (W.c0 g MK) e.2:=h0.is (hR.gv e he).h;have s:(S.s.k0 a).al (S.s4 a) (we m e).1=cW (W.cR g MK).1 e.1:=hs.is (hR.gv e he).g;rw[q1,s,Mc]),yw];exact BM
 ·show((((S.s.k0 a).fi (S.t3 a) S.r).2.filter (fun e=>(S.s.k0 a).al (S.s4 a) e.1)).map (fun e=>((S.s.k0 a).nw (S.s4 a) e.1,(S.s.k0 a).nw (S.s4 a) e.2)))=_;rw[hs.dq.q.told ci e8 ((S.s.k0 a).al (S.s4 a))];have hE:∀e∈W.wt++(W.cR g MK).2.1,gC W.T e:=fun e he=>by
   rcases bD.1 he with d|d
   ·exact hR.dE e d
   ·exact hR.gv e (hs.c e d).1
  rw[lL (we m) _ (fun e=>cW (W.cR g MK).1 e.1) _ (fun e he=>hs.is (hE e he).g),yw];exact BK
theorem cE.BY (d:cE a S W m Y G)(hb:cO a S.s){g:List Bool->List Bool}(hg:dz W.T W.wt g):S.full a=W.cF g a.O MK:=by
 have b:=d.us hb;have e:=hb.g1;unfold cw.full cn.cF;rw[b];by_cases c:a.O-S.s.g<S.s.y
 ·rw[bq c,bq (show(a.O:Int)-(S.s.g:Int)<(S.s.y:Int) by omega)];rfl
 ·rw[bB c,bB (show¬(a.O:Int)-(S.s.g:Int)<(S.s.y:Int) by omega)];obtain⟨D,hc,h0⟩:=jO.start d hb aa hg;have f:gM (fun i=>X (W.cR g MK).1 i MK) (i2 W.T) (Mx W.T)<=gM (fun i=>jN W.T i||oB W.T i) (i2 W.T) (Mx W.T):=BD _ (fun i hi hp=>by unfold jN oB;rw[((jO.settled d hb hc hg h0).ok.al i hp).2];cases (X W.T i t0).2.2.1<;>rfl)
  have j:=BE (R:=fun i=>jN W.T i||oB W.T i) (z:=i2 W.T) (Mx W.T) (fun i _=>⟨rfl,by unfold jN oB;cases (X W.T i t0).2.2.2<;>cases (X W.T i t0).2.2.1<;>rfl⟩)
  rw[BG] at b;have k:=congrArg Prod.fst b;have l:=congrArg Prod.snd b;rw[bB (by rw[(vK W.T (W.cR g MK).1 (Mx W.T))];omega)];rfl
theorem cE.BZ (b:cE a S W m Y G)(hb:cO a S.s){g:List Bool->List Bool}(hg:dz W.T W.wt g):S.code a=W.gZ g a.O MK:=by unfold cw.code cn.gZ;rw[b.BY hb hg]
theorem cE.cut (b:cE a S W m Y G)(hb:cO a S.s){g:List Bool->List Bool}(hg:dz W.T W.wt g):∃d e f,cE a (S.cut a) (W.cut g a.O MK) d e f:=by
 unfold cn.cut;rw[<-b.BY hb hg];cases hf:S.full a
 ·rw[aI ac];have hr:S.s.y<=a.O-S.s.g:=by exact q6
  obtain⟨K,c⟩:=b.Lg hb hr hg;unfold cw.cut;rw[hf,aI ac];exact⟨_,_,_,c.done b⟩
 ·refine⟨m,Y,G,?_⟩
  unfold cw.cut;rw[hf,aJ rfl];exact b
end
theorem B0 (rs:List Int)(y:Nat)(ws:List Int)(rl:List Nat):∀k,Mx (jj rs y ws rl k)=Mx ws
 |0=>rfl
 |k+1=>by show Mx ((jj rs y ws rl k).set _ _)=_;rw[bh];exact B0 rs y ws rl k
theorem sk (rs:List Int)(y:Nat)(ws:List Int)(rl:List Nat):∀k,y+k<Mx ws->∀q,X (jj rs y ws rl k) q 0=if y+1<=q/\q<y+1+k then X rs (X rl (q-y-1) 0) 0 else X ws q 0
 |0,_,q=>by rw[aI aa];rfl
 |k+1,h,q=>by
  show X ((jj rs y ws rl k).set _ _) q 0=_;rw[vD _ _ _ _ _ (by rw[B0];omega),sk rs y ws rl k aa q];by_cases c:y+1+k=q
  ·rw[aJ c,aJ aa,show q-y-1=k by omega]
  ·omega
theorem Lh (W:cn)(g:eg)(cj b_ m:Int):(W.room g cj b_ m).2.rs=W.rs:=by
 unfold cn.room;split
 ·rfl
 ·unfold cn.cut;split<;>rfl
section
variable {a:Wc}{S:cw}{W:cn}{m:Nat->Int}{Y G:List Int}{j:Nat}{g:eg}
theorem cE.made (h:cE a S W m Y G)(hb:cO a S.s){kd:Int}{rl:List Nat}(hk:hc kd (Mx rl)=0)(hr:S.s.y+1+Mx rl<=a.N)(f:∀q∈rl,q<12):
 cE a (S.put a kd rl) {W with T:=W.T++[(kd,rl.map (fun q=>X W.rs q (0,0)),MK,MK)]} (nY m (Mx W.T) S.s.y) (Y++[(S.s.y:Int)]) G:=by
 have p:=uM h.kv hb hk hr (Mx rl) b8
 have b:Mx (rl.map (fun q=>X W.rs q (0,0)))=Mx rl:=aZ ..;have hl:=hb.l1;have g:i7 a.N S.s.y kd (Mx rl)=ML:=by unfold i7;simp;omega
 have c:f4 a.N S.s.y kd (Mx rl) S.s.ws=fR S.s.ws S.s.y (hw kd (Mx rl)) (Mx rl):=by unfold f4;rw[aJ g];rfl
 have i:Mx (f4 a.N S.s.y kd (Mx rl) S.s.ws)=Mx S.s.ws:=by rw[c,uL]
 have d:S.s.y+Mx rl<Mx S.s.ws:=aa;have keep:∀q:Int,((0<=q/\q<S.s.y)\/((a.N:Int)<=q/\q<a.N+S.s.g))->ld a.N (S.s.y+1+Mx rl) S.s.g (jj S.s.rs S.s.y (f4 a.N S.s.y kd (Mx rl) S.s.ws) rl (Mx rl)) q=ld a.N S.s.y S.s.g S.s.ws q:=fun q hq=>by
  rcases hq with⟨q0,q1⟩|⟨q0,q1⟩
  ·rw[et (i9 q0 aa),et (i9 q0 q1),sk _ _ _ _ _ aa,aI aa,c,ka _ _ _ _ _ d,aI aa,aI aa]
  ·rw[et (h_ q0 q1),et (h_ q0 q1),sk _ _ _ _ _ ((i▸d)),aI aa,c,ka _ _ _ _ _ d,aI aa,aI aa]
 refine h.new ((b▸hk)) (fun v hv=>?_) rfl hr p.k ((b▸p.p)) (fun k hk=>?_) p.h (fun v hv k hk=>?_)
 ·obtain⟨q,hq,rfl⟩:=b7.1 hv;exact(h.root (f q hq)).2
 ·rw[b] at hk;show ld a.N (S.s.y+1+Mx rl) S.s.g (jj S.s.rs S.s.y (f4 a.N S.s.y kd (Mx rl) S.s.ws) rl (Mx rl)) _=_;rw[et (i9 aa aa),sk _ _ _ _ _ aa,aJ aa,lB (fun q=>X W.rs q (0,0)) rl k 0 (0,0) hk,<-(h.root (f _ (getD_in hk))).1,show M ((S.s.y:Int)+1+k)-S.s.y-1=k by omega]
 ·exact keep _ (hv.imp (fun e=>nI h.kv.inv.full e (ko k) hk) (fun e=>nJ h.kv.inv.full e (ko k) hk))
theorem cE.Lj (h:cE a S W m Y G)(hb:cO a S.s)(hg:∀T wt,em T wt->dz T wt (g T wt))(mm:Int):(S.room a mm).1=(W.room g a.N a.O mm).1/\∃e f i,cE a (S.room a mm).2 (W.room g a.N a.O mm).2 e f i:=by
 have b:=hg _ _ h.iv;unfold cw.room cn.room;rw[h.us hb];by_cases c:mm<=(a.N:Int)-S.s.y
 ·rw[aJ c,aJ c];exact⟨rfl,m,Y,G,h⟩
 ·rw[aI c,aI c];by_cases d:(S.s.y:Int)<=(a.O:Int)-S.s.g
  ·rw[aJ d,bB aa];exact⟨h.BZ hb b,h.cut hb b⟩
  ·rw[aI d,bq aa];exact⟨h.i0 hb b,h.dG hb b⟩
def m2 (a:Wc)(t:Int×Int×cw)(u:(Int×Int)×Int×cn):Prop:=t.2.1=u.2.1/\∃b c d,cE a t.2.2 u.2.2 b c d/\(t.2.1=0->t.1=wv b u.1/\dJ u.2.2.T u.1)
theorem cE.grown (h:cE a S W m Y G)(ok:dY a S j)(hb:cO a S.s)(hg:∀T wt,em T wt->dz T wt (g T wt)){kd:Int}{rl:List Nat}(hk:hc kd (Mx rl)=0)(i:∀q∈rl,q<12):m2 a (S.b_ a kd rl) (W.b_ g a.N a.O kd (rl.map (fun q=>X W.rs q (0,0)))):=by
 obtain⟨b,k,l,n,f⟩:=h.Lj hb hg _;obtain⟨ok',o,hr,_⟩:=ok.room hb _;have hl:=jf kd (Mx rl) hk;unfold m2 cw.b_ cn.b_;rw[aZ];by_cases c:(S.room a (1+Mx rl)).1=0
 ·rw[aJ c,aJ (b.symm.trans c)];rw[<-(Lh W g a.N a.O (1+Mx rl))];refine⟨rfl,_,_,_,(f.made o hk aa i),fun _=>⟨?_,⟨fun _=>⟨ac,?_⟩,fun e=>absurd rfl e⟩⟩⟩
  ·rw[i1 rfl];unfold nY;simp
  ·have:=(BB (t:=(kd,rl.map (fun q=>X (W.room g a.N a.O (1+Mx rl)).2.rs q (0,0)),MK,MK)) rfl (Mx (W.room g a.N a.O (1+Mx rl)).2.T)).2 (aK rfl)
   simpa[cn.put] using this
 ·rw[aI c,aI (fun d=>c (b.trans d))];exact⟨b,k,l,n,f,fun d=>absurd d c⟩
theorem cE.kx (h:cE a S W m Y G)(hb:cO a S.s){v:Int×Int}(hv:dJ W.T v):(S.kx a (wv m v)=5↔h8 W.T v=ML)/\((S.ex a (wv m v)=0/\S.kx a (wv m v)≠5)↔jq W.T v=ML)/\(S.ex a (wv m v)=0↔v.1=3)/\(v.1≠3->S.ex a (wv m v)=2)/\(v.1=3->S.fx a (wv m v)=(Mx (X W.T (M v.2) t0).2.1:Int)):=by
 rw[pn,jh];unfold cw.kx cw.ex cw.fx;rw[h.tB hb hv];by_cases c:v.1=3
 ·have d:(v.1==3)=ML:=by simpa using c
  obtain⟨e,f,g⟩:=h.parts (hv.t c).2;rw[d,aJ rfl,aJ rfl,aJ rfl,(h.vt hb hv c).2,e,f,g];exact⟨⟨fun b=>⟨c,b⟩,fun b=>b.2⟩,⟨fun b=>⟨c,b.2⟩,fun b=>⟨rfl,b.2⟩⟩,⟨fun _=>c,fun _=>rfl⟩,fun b=>absurd c b,fun _=>rfl⟩
 ·simp_all
theorem cE.B3 (h:cE a S W m Y G){A:Nat}(d:A<12)(I:Int):W.fc (X W.rs A (0,0)) I=W.gc A I:=by
 obtain⟨_,hv⟩:=h.root d;unfold cn.fc cn.gc cn.th;by_cases c:(X W.rs A (0,0)).1=3
 ·rw[aJ c];by_cases c5:(X W.T (M (X W.rs A (0,0)).2) t0).1=5
  ·rw[aI (fun b=>(jh.1 b).2 c5),aJ (aK (show(X W.T (M (X W.rs A (0,0)).2) (0,[],MK,MK)).1=5 from c5))]
  ·have e:¬((X W.rs A (0,0)).2<0\/(X W.T (M (X W.rs A (0,0)).2) (0,[],MK,MK)).1=5):=fun b=>b.elim (fun b=>absurd (hv.t c).1 aa) c5;rw[aJ (jh.2 ⟨c,c5⟩),aI e];rfl
 ·rw[aI c,aI (fun b=>c (jh.1 b).1),aJ (aM ae)]
theorem cE.cU (h:cE a S W m Y G)(hb:cO a S.s){v:Int×Int}(hv:dJ W.T v)(g:v.1=3):dU (wv m v) S.q=dU v.2 W.wt:=by
 unfold dU;rw[h.wt,List.findIdx_map];have b:∀e∈W.wt,((we m e).1==wv m v)=(e.1==v.2):=fun e he=>by
  have ho:=h.dE e he;have i:dJ W.T (3,e.1):=⟨fun _=>⟨ho.g0,ho.g⟩,fun d=>absurd rfl d⟩
  have f:(we m e).1=wv m (3,e.1):=af;rw[f];by_cases c:e.1=v.2
  ·have:((3,e.1):Int×Int)=v:=by rw[<-g,c]
   rw[this,c];simp
  ·have n1:_:=fun d=>c (by have:=h.BA hb i hv d;rw[<-this])
   rw[beq_eq_false_iff_ne.2 n1,beq_eq_false_iff_ne.2 c]
 generalize W.wt=l at b
 induction l with
 |nil=>rfl
 |cons e l j=>
  rw[Mq,Mq];have f:((fun e=>e.1==wv m v)∘we m) e=(e.1==v.2):=b e List.mem_cons_self;rw[f,j (fun x k=>b x (aW _ k))]
theorem cE.popped (h:cE a S W m Y G)(hb:cO a S.s){v:Int×Int}(hv:dJ W.T v):m2 a (S.pop a (wv m v)) (W.pop v):=by
 obtain⟨k1,_⟩:=h.kx hb hv;unfold m2 cw.pop cn.pop;by_cases c:h8 W.T v=ML
 ·rw[aJ (k1.2 c),aJ c,h.cU hb hv (pn.1 c).1];have f:Mx S.q=Mx W.wt:=by rw[h.wt,aZ]
  rw[f];generalize dU v.2 W.wt=i;by_cases b:i<Mx W.wt
  ·rw[aJ b,aJ b];have ho:=h.dE _ (getD_in (x:=(0,0)) b)
   refine⟨rfl,m,Y,G,?_,fun _=>⟨?_,⟨fun _=>⟨ho.h0,ho.h⟩,fun e=>absurd rfl e⟩⟩⟩
   ·have d:=h.beside (q:=W.wt.take i++W.wt.drop (i+1)) h.gv (fun e he=>h.dE e ((bD.1 he).elim (fun b=>List.mem_of_mem_take b) (fun b=>List.mem_of_mem_drop b)))
    rw[jw,List.map_take,List.map_drop,<-h.rg,<-h.wt] at d;exact d
   ·show(X S.q i (0,0)).2=wv m (3,(X W.wt i (0,0)).2)
    rw[h.wt,lB (we m) W.wt i (0,0) (0,0) b,i1 rfl];rfl
  ·rw[aI b,aI b];exact⟨rfl,m,Y,G,h,fun e=>absurd (show(4:Int)=0 from e) ae⟩
 ·rw[aI (fun b=>c (k1.1 b)),aI c];exact⟨rfl,m,Y,G,h,fun e=>absurd (show(2:Int)=0 from e) ae⟩
theorem cE.Lk (h:cE a S W m Y G)(hb:cO a S.s){v:Int×Int}(hv:dJ W.T v):m2 a (S.len a (wv m v)) (if jq W.T v=ML then((1,(Mx (X W.T (M v.2) t0).2.1:Int)),0,W) else((0,0),2,W)):=by
 obtain⟨_,b,_,_,k5⟩:=h.kx hb hv;unfold m2 cw.len;by_cases c:jq W.T v=ML
 ·have hl:=h.tl (M v.2);have ev:vc 1 (Mx (X W.T (M v.2) t0).2.1:Int)=0:=by generalize Mx (X W.T (M v.2) t0).2.1=n at hl;have:∀n:Fin 13,vc 1 ((n.val:Nat):Int)=0:=ae;exact this ⟨n,aa⟩
  rw[aJ (b.2 c),aJ c,k5 (jh.1 c).1];exact⟨ev,m,Y,G,h,fun _=>⟨af,dJ.of ae ev⟩⟩
 ·rw[aI (fun d=>c (b.1 d)),aI c];exact⟨rfl,m,Y,G,h,fun e=>absurd (show(2:Int)=0 from e) ae⟩
theorem cE.got (h:cE a S W m Y G)(hb:cO a S.s){A:Nat}(b:A<12)(I:Int):m2 a ((if eK a.N S.s.y S.s.g S.s.ws (X S.s.rs A 0) I=0 then ld a.N S.s.y S.s.g S.s.ws (cr (X S.s.rs A 0)+1+I) else 0),eK a.N S.s.y S.s.g S.s.ws (X S.s.rs A 0) I,S)
 ((if W.fc (X W.rs A (0,0)) I=0 then X (X W.T (M (X W.rs A (0,0)).2) t0).2.1 (M I) (0,0) else(0,0)),W.fc (X W.rs A (0,0)) I,W):=by
 have code:=h.code hb b I;rw[h.B3 b];refine⟨code,m,Y,G,h,fun e=>?_⟩
 have c:=e;obtain⟨er,hv⟩:=h.root b;obtain⟨d,i,t3,g⟩:=nG c;rw[er,h.tB hb hv] at d;have c3:(X W.rs A (0,0)).1=3:=by simpa using d
 obtain⟨z,al⟩:=hv.t c3;rw[er,(h.vt hb hv c3).2,h.kv.inv.full.stands hb.y1 (h.mem al),(h.parts al).2.1] at g;have hB:M I<Mx (X W.T (M (X W.rs A (0,0)).2) t0).2.1:=aa;have f:=h.fd _ al (M I) hB;rw[zg t3] at f;rw[aJ c,aJ (code.symm.trans c),er,(h.vt hb hv c3).2];exact⟨f,h.fv _ al _ (getD_in hB)⟩
def lH (a:Wc)(t:Int×cw)(u:Int×cn):Prop:=t.1=u.1/\∃b c d,cE a t.2 u.2 b c d
theorem cE.Ll (h:cE a S W m Y G)(hb:cO a S.s){v u:Int×Int}(hv:dJ W.T v)(d:dJ W.T u):lH a (S.reg a (wv m v) (wv m u)) (W.reg v u):=by
 obtain⟨_,_,i,k,_⟩:=h.kx hb hv;obtain⟨k1,_⟩:=h.kx hb d;have l:Mx S.r+Mx S.q=Mx W.rg+Mx W.wt:=by rw[h.rg,h.wt,aZ,aZ]
 unfold lH cw.reg cn.reg;rw[l];by_cases c:v.1=3
 ·rw[aJ (i.2 c)];by_cases b:h8 W.T u=ML
  ·rw[aJ (k1.2 b),aJ (show v.1=3/\h8 W.T u=ML from⟨c,b⟩)];by_cases f:24<=Mx W.rg+Mx W.wt
   ·rw[aJ f,aJ f];exact⟨rfl,m,Y,G,h⟩
   ·rw[aI f,aI f];obtain⟨g,n⟩:=pn.1 b;have o:gC W.T (u.2,v.2):=⟨(d.t g).1,(d.t g).2,n,(hv.t c).1,(hv.t c).2⟩
    have j:=h.beside (fun e he=>by
     rcases bD.1 he with q|q
     ·exact h.gv e q
     ·rw[List.mem_singleton.1 q];exact o) h.dE
    have p:(W.rg++[(u.2,v.2)]).map (we m)=S.r++[(wv m u,wv m v)]:=by rw[jw,<-h.rg,i1 c,i1 g];rfl
    rw[p,<-h.wt] at j;exact⟨rfl,m,Y,G,j⟩
  ·rw[aI (fun q=>b (k1.1 q)),aI (fun q=>b q.2)];exact⟨rfl,m,Y,G,h⟩
 ·rw[aI (fun q=>c (i.1 q)),aI (fun q=>c q.1),k c];exact⟨rfl,m,Y,G,h⟩
theorem cE.Lm (h:cE a S W m Y G)(hb:cO a S.s){A B:Nat}(b:A<12)(hB:B<12)(I:Int):lH a (eK a.N S.s.y S.s.g S.s.ws (X S.s.rs A 0) I,S.set a (X S.s.rs A 0) I (X S.s.rs B 0)) (W.set (X W.rs A (0,0)) I (X W.rs B (0,0))):=by
 have code:=h.code hb b I;unfold lH cn.set cw.set;rw[h.B3 b];refine⟨code,m,Y,G,?_⟩
 by_cases c0:W.gc A I=0
 ·rw[aJ c0];have c:=code.trans c0;obtain⟨er,hv⟩:=h.root b;obtain⟨g,i⟩:=h.root hB;obtain⟨d,l,t3,f⟩:=nG c;rw[er,h.tB hb hv] at d;have c3:(X W.rs A (0,0)).1=3:=by simpa using d
  obtain⟨z,al⟩:=hv.t c3;rw[er,(h.vt hb hv c3).2,h.kv.inv.full.stands hb.y1 (h.mem al),(h.parts al).2.1] at f;have hw:gI a.N S.s.y S.s.g S.s.ws (X S.s.rs A 0) I (X S.s.rs B 0)=S.s.ws.set (M (m (M (X W.rs A (0,0)).2)+1+(M I:Nat))) (wv m (X W.rs B (0,0))):=by unfold gI;rw[aJ c,er,(h.vt hb hv c3).2,g];rw[aJ (kQ h.kv.inv.full (h.mem al) t3 (((h.parts al).2.1▸f))),zg t3]
  exact h.store hb al aa i hw (h.kv.set hb A B b I hB)
 ·rw[aI c0];have c:_:=fun e=>c0 (code.symm.trans e)
  obtain⟨j,k⟩:=oN c;rw[j,k];exact h
theorem Lr (n:Nat)(h:n<=12):hc 2 (n:Int)=0:=by have:∀n:Fin 13,hc 2 ((n.val:Nat):Int)=0:=ae;exact this ⟨n,aa⟩
theorem cE.rt (h:cE a S W m Y G)(ok:dY a S j)(hb:cO a S.s)(hg:∀T wt,em T wt->dz T wt (g T wt)){k R A B n:Int}(I:Int)(p:d5 k R A B n=0):m2 a (S.rt a k (M A) (M B) I n) (W.rt g a.N a.O k (M A) (M B) I n):=by
 have b:dj k=3\/dj k=6\/dj k=7->M A<12:=fun s=>by have:=lO p s;omega
 have hB:dj k=6\/dj k=7->M B<12:=fun s=>by have:=mv p s;omega
 have two:∀q∈[M A,M B],dj k=7->q<12:=fun q hq s=>by simp at hq;omega
 unfold cw.rt cn.rt;by_cases d:k=1
 ·rw[aJ d,aJ d];subst d;have ev:=xg p;exact⟨ev,m,Y,G,h,fun _=>⟨af,dJ.of ae ev⟩⟩
 rw[aI d,aI d];by_cases e:k=3
 ·rw[aJ e,aJ e];subst e;obtain⟨er,hv⟩:=h.root (b ae)
  exact⟨rfl,m,Y,G,h,fun _=>⟨er,hv⟩⟩
 rw[aI e,aI e];by_cases u:k=4
 ·subst u;exact h.grown ok hb hg (show hc 1 2=0 by decide) (fun q hq=>two q hq ae)
 rw[aI u,aI u];by_cases v:k=5
 ·subst v;have hn:=xf p;have:=h.grown ok hb hg (kd:=2) (rl:=List.replicate (M n) (M A)) ((List.length_replicate▸Lr _ aa)) (fun q hq=>(List.eq_of_mem_replicate hq▸b ae))
  rw[List.map_replicate] at this
  exact this
 rw[aI v,aI v];by_cases e6:k=6
 ·subst e6;exact h.grown ok hb hg (show hc 3 2=0 by decide) (fun q hq=>two q hq ae)
 rw[aI e6,aI e6];by_cases w:k=7
 ·subst w;exact h.grown ok hb hg (show hc 4 2=0 by decide) (fun q hq=>two q hq ae)
 rw[aI w,aI w];by_cases t:k=8
 ·rw[aJ t,aJ t];exact h.grown ok hb hg ae (fun q hq=>by cases hq)
 rw[aI t,aI t];by_cases f:k=10
 ·rw[aJ f,aJ f];subst f;obtain⟨er,hv⟩:=h.root (b ae)
  rw[er];exact h.popped hb hv
 rw[aI f,aI f];by_cases i:k=11
 ·rw[aJ i,aJ i];subst i;exact h.got hb (b ae) I
 rw[aI i,aI i];by_cases l:k=13
 ·rw[aJ l,aJ l];subst l;obtain⟨er,hv⟩:=h.root (b ae)
  rw[er];exact h.Lk hb hv
 rw[aI l,aI l];by_cases o:k=14
 ·rw[aJ o,aJ o];subst o;obtain⟨er,hv⟩:=h.root (b ae)
  obtain⟨x,F⟩:=h.root (hB ae)
  rw[er,x];by_cases c:X W.rs (M A) (0,0)=X W.rs (M B) (0,0)
  ·rw[aJ (by rw[c]),aJ c];exact⟨rfl,m,Y,G,h,fun _=>⟨af,dJ.of ae ae⟩⟩
  ·rw[aI (fun N=>c (h.BA hb hv F N)),aI c];exact⟨rfl,m,Y,G,h,fun _=>⟨by assumption,dJ.of ae ae⟩⟩
 rw[aI o,aI o];exact⟨rfl,m,Y,G,h,fun _=>⟨af,dJ.nil _⟩⟩
theorem cE.hds (h:cE a S W m Y G)(ok:dY a S j)(hb:cO a S.s)(hg:∀T wt,em T wt->dz T wt (g T wt))(k R A B I n:Int):lH a (S.hd a k R A B I n) (W.fQ g a.N a.O k R A B I n):=by
 have f:=hg _ _ h.iv;unfold cw.hd cn.fQ;by_cases b:d5 k R A B n=0
 ·rw[aJ b,aJ b];have p:dj k=3\/dj k=6\/dj k=7->M A<12:=fun l=>by have:=lO b l;omega
  have hB:dj k=6\/dj k=7->M B<12:=fun l=>by have:=mv b l;omega
  by_cases d:k=9
  ·rw[aJ d,aJ d];subst d;obtain⟨er,hv⟩:=h.root (p ae)
   obtain⟨ad,ag⟩:=h.root (hB ae)
   rw[er,ad];exact h.Ll hb hv ag
  rw[aI d,aI d];by_cases e:k=12
  ·rw[aJ e,aJ e];subst e;exact h.Lm hb (p ae) (hB ae) I
  rw[aI e,aI e];by_cases i:k=15
  ·rw[aJ i,aJ i];exact⟨h.BZ hb f,h.cut hb f⟩
  rw[aI i,aI i];by_cases e16:k=16
  ·rw[aJ e16,aJ e16];exact⟨h.i0 hb f,h.dG hb f⟩
  rw[aI e16,aI e16];have ht:=h.rt ok hb hg I b;obtain⟨o1,q,_⟩:=ok.rt hb (M A) (M B) I (tf b)
  generalize S.rt a k (M A) (M B) I n=t at*;generalize W.rt g a.N a.O k (M A) (M B) I n=u at*;obtain⟨x,cd,ai⟩:=t;obtain⟨v,al,am⟩:=u;obtain⟨s,w,F,N,o,ab⟩:=ht;dsimp only at s o ab q⊢;subst s;by_cases c:cd=0
  ·rw[aJ c,aJ c];obtain⟨ex,hv⟩:=ab c;subst ex;exact⟨rfl,w,F,N,o.put q (M R) hv⟩
  ·rw[aI c,aI c];exact⟨rfl,w,F,N,o⟩
 ·rw[aI b,aI b];exact⟨rfl,m,Y,G,h⟩
end
namespace qg
def begins (n:Nat):Code->Bool
 |.region m _ _=>m==n
 |.seq a _=>begins n a
 |_=>MK
def find (n:Nat):Code->Option Code
 |.seq a b=>match begins n a with
  |true=>Z (.seq a b)
  |false=>match find n a with
   |some c=>Z c
   |none=>find n b
 |.cond _ a b=>match find n a with
  |some c=>Z c
  |none=>find n b
 |.block _ c=>find n c
 |.loop c=>find n c
 |.scope c=>find n c
 |_=>none
theorem g6 {c:Type}(l:List c)(i:Nat)(a b:c):(l.set i a).set i b=l.set i b:=ac
end qg
namespace dK
def begins:=qg.begins
abbrev find:=qg.find
end dK
namespace qg
end qg
namespace dK
end dK
namespace dK
end dK
namespace dK
end dK
section
variable {a:Wc}{S:cw}{W:cn}{m:Nat->Int}{Y G:List Int}
theorem dJ.vq {T:List cJ}{v:Int×Int}(hv:dJ T v)(d:Mx T<=10000):fp T v:=by
 refine⟨?_,hv.t⟩
 by_cases b:v.1=3
 ·obtain⟨h0,c⟩:=hv.t b;have:=c.1;rw[b];exact n6 _ h0 aa
 ·exact hv.o b
abbrev sq (W:cn)(x:Int):Prop:=0<=x/\cA W.T (M x)
abbrev sr (m:Nat->Int)(x:Int):Int:=m (M x)
theorem cE.vZ (h:cE a S W m Y G)(hb:cO a S.s)(c:Mx W.T<=10000){v:Int×Int}(hv:dJ W.T v):kt (sq W) (sr m) (fZ v) (wv m v):=by
 obtain⟨d,e⟩:=lN (hv.vq c)
 obtain⟨_,f,g⟩:=h.dec hb hv;unfold kt;rw[d,e,f,g];by_cases b:v.1=3
 ·rw[aJ b];exact aM ⟨b,b,hv.t b,rfl⟩
 ·rw[aI b];exact aK ⟨b,rfl,rfl⟩
theorem cE.bi (h:cE a S W m Y G)(hb:cO a S.s)(g:Mx W.T<=10000):oQ (sq W) (sr m) (tI (Mx W.T)) (gQ W.T) (f3 W.T W.wt) (Y++G) (fun v=>pk (ld a.N S.s.y S.s.g S.s.ws v)) (fg a.N S.s.y S.s.g S.s.ws S.q):=by
 refine⟨fun x b=>ng.2 ⟨b.1,by have:=b.2.1;have:=b.1;omega⟩,fun x b=>bD.2 (h.mem b.2),fun x y b hy e=>?_,fun x b=>?_,fun x b=>?_⟩
 ·have:=h.inj _ _ b.2 hy.2 e;have:=b.1;have:=hy.1;omega
 ·exact(h.parts b.2).1
 ·obtain⟨p,hi⟩:=b;obtain⟨i,rfl⟩:=Int.eq_ofNat_of_zero_le p;rw[bH] at hi;obtain⟨j,q,_⟩:=h.parts hi;have hv:=h.mem hi;show jb _ _ (fg a.N S.s.y S.s.g S.s.ws S.q (m (M ((i:Int)))))
  unfold f3;rw[bH];by_cases d:(X W.T i t0).1=5
  ·have hl:(X W.T i t0).2.1=[]:=by have f:=(h.hd i hi).1;rw[d] at f;simp[hc] at f;exact f
   rw[aJ d,hl,List.map_nil,List.nil_append];unfold fg;rw[aJ (by rw[j];exact d)];unfold eF;rw[h.wt,lL (we m) (fun e=>e.1==ew 3 (m i)) (fun e=>e.1==(i:Int)) W.wt (fun e he=>?_),yw]
   ·have key:∀l:List cf,(∀e∈l,gC W.T e)->jb (kt (sq W) (sr m)) (l.map (fun e=>ew 3 e.2)) (l.map ((·.2)∘we m)):=by
     intro l
     induction l with
     |nil=>intro _;trivial
     |cons e l s=>
      intro hl;have he:=hl e ac;refine⟨?_,s (fun x b=>hl x (aW _ b))⟩
      have:=h.vZ hb g (v:=(3,e.2)) ⟨fun _=>⟨he.h0,he.h⟩,fun c=>absurd rfl c⟩
      exact this
    exact key _ (fun e he=>h.dE e (bM.1 he).1)
   ·have he:=h.dE e he;show(ew 3 _==ew 3 (m i))=(e.1==(i:Int))
    by_cases n:e.1=(i:Int)
    ·rw[n,bH];simp
    ·have n1:ew 3 (m (M e.1))≠ew 3 (m i):=fun c=>by have c1:=(h.word hb he.g).2.2;rw[c,(h.word hb hi).2.2] at c1;have:=h.inj _ _ hi he.g c1;have:=he.g0;omega
     rw[beq_false_of_ne n1,beq_false_of_ne n]
  ·rw[aI d,List.append_nil];have o:pk (ld a.N S.s.y S.s.g S.s.ws (m i))≠5:=by rw[j];exact d
   have l1:=zM h.kv.inv.full hb.y1 S.q hv o;rw[q] at l1;have l1:Mx (fg a.N S.s.y S.s.g S.s.ws S.q (m i))=Mx (X W.T i t0).2.1:=aa;refine jb.of (by rw[aZ];exact l1.symm) (fun k hk=>?_)
   rw[aZ] at hk;rw[(Hy h.kv.inv.full hb.y1 S.q hv o).1 k aa,lB fZ _ k (0,0) 0 hk,h.fd i hi k hk];exact h.vZ hb g (h.fv i hi _ (getD_in hk))
theorem cE.view (h:cE a S W m Y G)(hb:cO a S.s)(b:Mx W.T<=10000):(iX a.N S.s.y S.s.g S.s.ws S.q S.s.rs).1=(dK.ee W.T W.wt W.rs).1/\(iX a.N S.s.y S.s.g S.s.ws S.q S.s.rs).2.2=(dK.ee W.T W.wt W.rs).2.2:=by
 obtain⟨c,d⟩:=h.kv.inv.full.lists hb.n1 hb.y1 hb.o1 hb.g1;have hl:jb (kt (sq W) (sr m)) (W.rs.map fZ) S.s.rs:=by
  rw[h.rs];refine jb.of ac (fun i hi=>?_)
  rw[aZ] at hi;rw[lB fZ _ i (0,0) 0 hi,lB (wv m) _ i (0,0) 0 hi];exact h.vZ hb b (h.rv _ (getD_in hi))
 unfold iX dK.ee;rw[c,d];obtain⟨b1,b2,_⟩:=Ag (h.bi hb b) hl (by rw[lM];exact aG _) b8
 exact⟨b1.symm,b2⟩
end
end Go.Proofs.YtpkjkjhanlbcoaaGreat
