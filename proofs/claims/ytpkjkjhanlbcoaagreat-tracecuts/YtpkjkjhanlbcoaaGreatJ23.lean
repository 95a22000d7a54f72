import Derived.Test.YtpkjkjhanlbcoaaGreatJ22
open Bool renaming and_comm->Mv,eq_false_iff->vT,false->Nb,false_and->Cs,true->Nc
open Int renaming le_refl->tF,natCast_nonneg->la,toNat->M,toNat_natCast->bI,toNat_of_nonneg->zg
open List renaming filter_eq_self->p4,filter_filter->Cm,findIdx_cons->MS,getD->X,length->MZ,map_append->iB,map_congr_left->mo,map_map->yB,mem_append->bE,mem_cons->bT,mem_filter->bM,mem_map->fo
open Option renaming some->Z
namespace Go.Proofs.YtpkjkjhanlbcoaaGreat
set_option maxRecDepth 100000
set_option maxHeartbeats 2000000
open Go.RowKit W Kp cq
theorem B_ {P:Prop}(h:P:=by
 refine mo (fun e he=>?_)
 obtain⟨z1,z2⟩:=bM.1 he;have h5:=hE e z1;refine v8 e h5 z2 ?_;rcases bE.1 z1 with d|d
 ·exact hcl _ h5.g.1 z2 (3,e.2) (aK (aK (aK ⟨h5.k,e,d,by have:=h5.g0;omega,rfl⟩))) rfl
 ·exact(hs.c e d).2):P:=h
theorem Ca {P:Prop}(h:P:=by
 obtain⟨q1,q2⟩:=w.ep c hc;have q3:=li.mi.bd q1;have:=iR q3.2.2 (aK (aK q2))
 exact⟨ih aa aa,ih aa aa⟩):P:=h
theorem Cb {P:Prop}(h:P:=by
 refine mo (fun e he=>?_)
 obtain⟨z1,z2⟩:=bM.1 he;rw[bB] at z2;exact v8 e (hR.gv e z1) z2.2 (hup _ z2.1)):P:=h
theorem Ce {P:Prop}(h:P:=by
 obtain⟨q1,q2⟩:=w.wk c hc;have q3:=li.mi.bd q1;have:=iR q3.2.2 (aK (aM q2))
 exact ih aa aa):P:=h
section
variable {k:ck}{z:C0}{s t:ct}{H D:List Int}
def ck.cL (k:ck)(s:ct)(x:Int):Int:=if k.ls s x=Nc then 3 else k.nw s x
theorem Cf {s t:ct}(b:t.f=s.f)(x:Int):k.ls t x=k.ls s x/\k.nw t x=k.nw s x:=by unfold ck.ls ck.nw;rw[b];exact⟨rfl,rfl⟩
def Fo (k:ck)(s:ct):Prop:=∀a∈k.T,s.f a≠-1->(k.N:Int)<=s.f a/\s.f a<1000000
theorem dJ.fg (h:dJ k z s H):Fo k s:=fun a ha b=>by
 have hb:=h.jD (h.fh a ha b)
 have n1:=h.ci.hN';have c:=h.ci.hO;have d:=h.ci.hg;exact⟨hb.1,aa⟩
theorem o_ {x:Int}(h:k.cQ x=Nb):k.nw s x=x:=by unfold ck.nw;rw[h];simp
theorem sy {x:Int}(h:k.cQ x=Nc)(b:s.f (cr x)≠-1):k.nw s x=ew 3 (s.f (cr x)):=by unfold ck.nw;rw[h,aJ (by simp[b])]
theorem LB (ci:CI k s)(fg:Fo k s){x:Int}(h:k.ls s x=Nb):k.cQ (k.nw s x)=Nb:=by
 cases c:k.cQ x
 ·rw[o_ c];exact c
 ·have b:s.f (cr x)≠-1:=fun e=>by unfold ck.ls at h;rw[c,e] at h;simp at h
  rw[sy c b];obtain⟨b1,b2⟩:=fg _ (n_ c) b;exact nT ci b1 b2
theorem LC:k.cQ 3=Nb:=by unfold ck.cQ;rw[show de 3=Nb by decide];rfl
theorem Ch (ci:CI k s)(fg:Fo k s)(x:Int):k.cQ (k.cL s x)=Nb:=by
 unfold ck.cL;cases c:k.ls s x
 ·rw[aI ac];exact LB ci fg c
 ·exact LC
theorem LD {x:Int}(h:k.cQ x=Nb):k.cL s x=x:=by unfold ck.cL ck.ls;rw[h,Cs,aI ac];exact o_ h
theorem LF (k:ck)(s:ct)(a:Int):k.e3 s a=k.st s (a+1) (k.cL s (k.ld s (a+1))):=by unfold ck.e3 ck.cL;split<;>rfl
theorem v9 (k:ck)(s:ct)(a x:Int):MZ (k.st s a x).ws=MZ s.ws:=by
 unfold ck.st;split
 ·rw[bh]
 ·rfl
theorem v_ (hl:MZ s.ws=k.N+k.O)(hy:k.y<=k.N)(hg:s.g<=k.O)(hv:∀x,k.cQ (k.cL s x)=Nb):∀(l:List Int)(t:ct),t.f=s.f->t.g=s.g->MZ t.ws=MZ s.ws->(∀c∈l,dw k.N k.y s.g (c+1)=Nc)->
 (l.foldl k.e3 t).f=s.f/\(l.foldl k.e3 t).g=s.g/\MZ (l.foldl k.e3 t).ws=MZ s.ws/\(l.foldl k.e3 t).ep=t.ep/\(l.foldl k.e3 t).rs=t.rs/\∀p,k.ld (l.foldl k.e3 t) p=if p-1∈l then k.cL s (k.ld t p) else k.ld t p
 |[],t,b,d,f,_=>⟨b,d,f,rfl,rfl,fun p=>ac⟩
 |c::l,t,b,d,f,hi=>by
  have vt:∀x,k.cL t x=k.cL s x:=fun x=>by unfold ck.cL;rw[(Cf b x).1,(Cf b x).2]
  rw[a_,LF];obtain⟨j,m,n,o,u,v⟩:=v_ hl hy hg hv l (k.st t (c+1) (k.cL t (k.ld t (c+1)))) b d ((v9 _ _ _ _).trans f) (fun x w=>hi x (aW _ w))
  refine⟨j,m,n,o,u,fun p=>?_⟩
  rw[v p];have hp:=ck.oD (f.trans hl) hy aa (c+1) (k.cL t (k.ld t (c+1))) p;rw[d] at hp;by_cases e:p=c+1
  ·have g:p-1∈c::l:=by rw[e];simp
   rw[aJ ⟨e,(hi c ac)⟩] at hp;rw[hp,aJ g,vt,e];split
   ·exact LD (hv _)
   ·rfl
  ·have g:(p-1∈c::l)↔p-1∈l:=by rw[bT];exact⟨fun i=>i.resolve_left (fun q=>e aa),aK⟩
   rw[aI (fun q=>e q.1)] at hp;rw[hp];by_cases i:p-1∈l
   ·simp_all
   ·simp_all
theorem wc (hy:k.y<=k.N):∀(l:List Int)(t:ct),MZ t.ws=k.N+k.O->t.g<=k.O->(∀c∈l,dw k.N k.y t.g (c+1)=Nc/\dw k.N k.y t.g (c+2)=Nc)->
 (l.foldl k.hI t).rs=t.rs/\(l.foldl k.hI t).g=t.g/\∀p,k.ld (l.foldl k.hI t) p=if p-1∈l\/p-2∈l then 3 else k.ld t p
 |[],t,_,_,_=>⟨rfl,rfl,fun p=>ac⟩
 |c::l,t,e,d,hi=>by
  obtain⟨c1,c2⟩:=hi c ac;have l1:MZ (k.st t (c+1) 3).ws=k.N+k.O:=(v9 _ _ _ _).trans e;rw[a_];obtain⟨f,g,i⟩:=wc hy l _ ((v9 _ _ _ _).trans l1) d (fun x j=>hi x (aW _ j))
  refine⟨f,g,fun p=>?_⟩
  have m:k.hI t c=k.st (k.st t (c+1) 3) (c+2) 3:=rfl;rw[m,i p,(ck.oD l1 hy d (c+2) 3) p,(ck.oD e hy d (c+1) 3) p];have g1:(k.st t (c+1) 3).g=t.g:=rfl;by_cases b:p-1∈l\/p-2∈l
  ·rw[aJ b,aJ (b.imp (aW _) (aW _))]
  ·rw[aI b];by_cases n:p=c+2
   ·simp_all
   ·rw[aI (fun q=>n q.1)];by_cases o:p=c+1
    ·simp_all
    ·rw[aI (fun q=>o q.1),aI];rintro(q|q)
     ·rcases bT.1 q with q|q
      ·omega
      ·exact b (aM q)
     ·rcases bT.1 q with q|q
      ·omega
      ·exact b (aK q)
theorem Cj (ci:CI k s)(fg:Fo k s){b x:Int}(h:k.ml s b x):k.nw s x=k.nw s b:=by
 rcases h with e|⟨y1,c,d⟩
 ·rw[e]
 ·rw[sy y1 c,d];obtain⟨b1,b2⟩:=fg _ (n_ y1) c;exact o_ (nT ci b1 b2)
theorem Cn {b x:Int}(h:k.ml s b x)(hy:k.cQ x=Nb):x=k.nw s b:=by
 rcases h with e|⟨y1,c,d⟩
 ·rw[e] at hy;rw[o_ hy,e]
 ·rw[sy y1 c,d]
theorem LG (li:LI k z s H D)(w:dU k z s H){a b i:Int}(o:k.or z s a b)(S:0<=i)(v:i<pf (k.l0 z a)):
 k.ld (k.be (k.mw s s.wk) (k.mw s s.wk).ep) (b+1+i)=if b∈s.ep then 3 else if b∈s.wk/\i=0 then k.cL s (k.ld s (b+1+i)) else k.ld s (b+1+i):=by
 have ci:=li.mi.ci;have full:=li.mi.full;have hb:=li.mi.mem o;have W:i<pf (k.ld s b):=((li.mi.hd a b o)▸v)
 have x:∀c∈s.wk,dw k.N k.y s.g (c+1)=Nc:=fun c hc=>by exact Ce
 have ab:∀c∈s.ep,dw k.N k.y s.g (c+1)=Nc/\dw k.N k.y s.g (c+2)=Nc:=fun c hc=>by exact Ca
 obtain⟨m1,f,g,m,_,n⟩:=v_ ci.len ci.hy ci.hg (Ch ci li.mi.fg) s.wk s rfl rfl rfl x;have m:(k.mw s s.wk).ep=s.ep:=m;have f:(k.mw s s.wk).g=s.g:=f;have g:MZ (k.mw s s.wk).ws=MZ s.ws:=g;obtain⟨_,_,b3⟩:=wc ci.hy s.ep _ ((g▸ci.len)) ((f▸ci.hg)) (by simp_all)
 have b3:∀p,k.ld (k.be (k.mw s s.wk) s.ep) p=if p-1∈s.ep\/p-2∈s.ep then 3 else k.ld (k.mw s s.wk) p:=b3
 have n:∀p,k.ld (k.mw s s.wk) p=if p-1∈s.wk then k.cL s (k.ld s p) else k.ld s p:=n
 rw[m,b3,n];have q:∀j,0<=j->j<pf (k.ld s b)->_:=fun j j0 B=>full.eH.field hb j0 B;have q1:∀l:List Int,(∀c∈l,c∈z.G++H)->((b+1+i)-1∈l↔(b∈l/\i=0)):=fun l hl=>by
  constructor
  ·intro d;by_cases e:i=0
   ·simp_all
   ·exfalso;have:b+1+i-1=b+1+(i-1):=aa;rw[this] at d;exact q (i-1) aa aa (hl _ d)
  ·simp_all
 have q2:(b+1+i)-2∈s.ep↔(b∈s.ep/\i=1):=by
  constructor
  ·intro d;obtain⟨r1,F⟩:=w.ep _ d;by_cases e:i=1
   ·subst e;have:b+1+1-2=b:=aa;rw[this] at d;exact⟨d,rfl⟩
   ·exfalso;by_cases N:i=0
    ·subst N;have ad:=iR (li.mi.bd r1).2.2 (aK (aK F))
     have t:=full.eH.apart _ r1 b hb aa;have t:b+1+0-2+(1+pf (k.ld s (b+1+0-2)))<=b:=t;omega
    ·have:b+1+i-2=b+1+(i-2):=aa;rw[this] at r1;exact q (i-2) aa aa r1
  ·rintro⟨d,e⟩
   subst e;have:b+1+1-2=b:=aa;rw[this];exact d
 have ag:=q1 s.ep (fun c hc=>(w.ep c hc).1)
 have ai:=q1 s.wk (fun c hc=>(w.wk c hc).1)
 by_cases c:b∈s.ep
 ·have u:=iR (full.eH.mem b hb).2.2 (aK (aK (w.ep b c).2))
  have u:pf (k.ld s b)=2:=u;rw[aJ c,aJ];rcases(show i=0\/i=1 by omega) with e|e
  ·simp_all
  ·simp_all
 ·simp_all
theorem LH (li:LI k z s H D)(w:dU k z s H){a b:Int}(o:k.or z s a b):k.ld (k.be (k.mw s s.wk) (k.mw s s.wk).ep) b=k.l0 z a/\(k.be (k.mw s s.wk) (k.mw s s.wk).ep).rs=s.rs:=by
 have ci:=li.mi.ci;have n:∀c∈s.wk,dw k.N k.y s.g (c+1)=Nc:=fun c hc=>by exact Ce
 have u:∀c∈s.ep,dw k.N k.y s.g (c+1)=Nc/\dw k.N k.y s.g (c+2)=Nc:=fun c hc=>by exact Ca
 obtain⟨m1,g,i,j,t,l⟩:=v_ ci.len ci.hy ci.hg (Ch ci li.mi.fg) s.wk s rfl rfl rfl n;have j:(k.mw s s.wk).ep=s.ep:=j;have g:(k.mw s s.wk).g=s.g:=g;have i:MZ (k.mw s s.wk).ws=MZ s.ws:=i;obtain⟨b1,_,b3⟩:=wc ci.hy s.ep _ ((i▸ci.len)) ((g▸ci.hg)) (by simp_all)
 have b3:∀p,k.ld (k.be (k.mw s s.wk) s.ep) p=if p-1∈s.ep\/p-2∈s.ep then 3 else k.ld (k.mw s s.wk) p:=b3
 have l:∀p,k.ld (k.mw s s.wk) p=if p-1∈s.wk then k.cL s (k.ld s p) else k.ld s p:=l
 have no:∀c,c∈z.G++H->pf (k.ld s c)=2->∀f:Int,(f=1\/f=2)->b-f≠c:=fun c hc v f hd e=>by have m:=li.mi.full.eH.apart c hc b (li.mi.mem o) aa;have m:c+(1+pf (k.ld s c))<=b:=m;omega
 rw[j,b3,l];refine⟨?_,b1.trans t⟩
 rw[aI,aI,(li.mi.hd a b o)]
 ·intro q;obtain⟨r1,d⟩:=w.wk _ q;exact no _ r1 (iR (li.mi.bd r1).2.2 (aK (aM d))) 1 (aM rfl) rfl
 ·rintro(q|q)
  ·obtain⟨r1,d⟩:=w.ep _ q;exact no _ r1 (iR (li.mi.bd r1).2.2 (aK (aK d))) 1 (aM rfl) rfl
  ·obtain⟨r1,d⟩:=w.ep _ q;exact no _ r1 (iR (li.mi.bd r1).2.2 (aK (aK d))) 2 (aK rfl) rfl
end
theorem sA {L:List Bool}{i:Nat}{t:cJ}(b:X L i Nb=Nc)(c:t.1=3\/t.1=4->MZ t.2.1=2):MZ (fJ L i t).2.1=MZ t.2.1/\(fJ L i t).1=t.1/\(fJ L i t).2.2=(Nc,t.2.2.2):=by
 unfold fJ;rw[aJ b];refine⟨?_,rfl,rfl⟩
 split
 ·simp_all
 ·split
  ·simp_all
  ·rfl
theorem Co {L:List Bool}{i:Nat}{t:cJ}(b:X L i Nb=Nb):fJ L i t=(t.1,[],t.2.2.1,Nc):=by unfold fJ;rw[b,aI ac]
theorem m8 {L:List Bool}{i:Nat}{t:cJ}(c:X L i Nb=Nc)(b:t.1=3\/t.1=4->MZ t.2.1=2){k:Nat}(hk:k<MZ t.2.1):
 X (fJ L i t).2.1 k (0,0)=if((t.1=3\/t.1=4)/\d_ L (X t.2.1 0 (0,0))=Nb)/\(k=0\/(t.1=4/\k=1)) then(2,0) else X t.2.1 k (0,0):=by
 unfold fJ;rw[aJ c];by_cases c4:t.1=4/\d_ L (X t.2.1 0 (0,0))=Nb
 ·rw[aJ c4,aJ ⟨⟨aK c4.1,c4.2⟩,aa⟩];have:=b (aK c4.1)
  rcases(show k=0\/k=1 by omega) with e|e<;>subst e<;>rfl
 ·rw[aI c4];by_cases c3:t.1=3/\d_ L (X t.2.1 0 (0,0))=Nb
  ·rw[aJ c3];have:=b (aM c3.1)
   rcases(show k=0\/k=1 by omega) with e|e
   ·simp_all
   ·simp_all
  ·rw[aI c3,aI (fun q=>q.1.1.elim (fun e=>c3 ⟨e,q.1.2⟩) (fun e=>c4 ⟨e,q.1.2⟩))]
structure sB (a:Wc)(S:cw)(W:cn)(m:Nat->Int)(B L:List Bool)(C:List cf)(S':cw)(m':Nat->Int)(G':List Int):Prop where
 kv:eP a S'.s [] G'
 ok:gW W.T L
 cl:ic W.T W.wt (cx L)
 up:∀i,cx B i->cx L i
 rr:∀v∈W.rs,v.1=3->cx L (M v.2)
 cc:∀e∈C,e∈W.rg/\cx L (M e.2)
 rs:S'.s.rs=W.rs.map (wv m')
 pl:∀i,cx L i->m' i∈G'
 inj:∀i j,cx L i->cx L j->m' i=m' j->i=j
 gG:∀v∈G',∃i,cx L i/\m' i=v
 hd:∀i,cx L i->ld a.N S'.s.y S'.s.g S'.s.ws (m' i)=ld a.N S.s.y S.s.g S.s.ws (m i)
 fd:∀i,cx L i->∀k:Nat,k<MZ (X W.T i t0).2.1->ld a.N S'.s.y S'.s.g S'.s.ws (m' i+1+k)=wv m' (X (fJ L i (X W.T i t0)).2.1 k (0,0))
 rg:S'.r=(W.rg.filter (fun e=>cW B e.2&&cW L e.1)).map (we m')
 wt:S'.q=((W.wt++C).filter (fun e=>cW L e.1)).map (we m')
section
variable {a:Wc}{S S':cw}{W:cn}{m m':Nat->Int}{Y G G':List Int}{B L:List Bool}{C:List cf}
theorem Cr {L:List Bool}{v:Int×Int}(b:v.1=3):d_ L v=X L (M v.2) Nb:=by unfold d_;rw[b];rfl
theorem LJ {L:List Bool}{v:Int×Int}(b:v.1≠3):d_ L v=Nc:=by
 unfold d_;have:(v.1==3)=Nb:=by simpa using b
 rw[this];rfl
theorem cE.led (h:cE a S W m Y G)(ok:gW W.T L)(cl:ic W.T W.wt (cx L)){i:Nat}(hi:cx L i){k:Nat}(hk:k<MZ (X W.T i t0).2.1)(b:(X (fJ L i (X W.T i t0)).2.1 k (0,0)).1=3):cx L (M (X (fJ L i (X W.T i t0)).2.1 k (0,0)).2):=by
 have al:=ok.al i hi;have f:(X W.T i t0).1=3\/(X W.T i t0).1=4->_=_:=fun c=>h.two al (aK c)
 rw[m8 hi f hk] at b⊢;split at b
 ·omega
 ·rename_i c;rw[aI c];have o:=pn _ _ (h.hd i al).1;by_cases n:(X W.T i t0).1=1\/(X W.T i t0).1=2
  ·exact cl i al.1 hi _ (aM ⟨n,(getD_in hk)⟩) b
  by_cases g:(X W.T i t0).1=3
  ·have l2:=f (aM g)
   rcases(show k=0\/k=1 by omega) with e|e
   ·subst e;have:d_ L (X (X W.T i t0).2.1 0 (0,0))=Nc:=by simp_all
    exact ni this b
   ·subst e;exact cl i al.1 hi _ (aK (aM ⟨g,rfl⟩)) b
  by_cases j:(X W.T i t0).1=4
  ·have l:d_ L (X (X W.T i t0).2.1 0 (0,0))=Nc:=by
    cases d:d_ L _
    ·exact absurd ⟨⟨aK j,d⟩,aa⟩ c
    ·rfl
   rcases(show k=0\/k=1 by omega) with e|e
   ·subst e;exact ni l b
   ·subst e;exact cl i al.1 hi _ (aK (aK (aM ⟨j,ni l,rfl⟩))) b
  ·omega
theorem sB.done (h:cE a S W m Y G)(c:sB a S W m B L C S' m' G'):cE a S' ⟨gy L W.T (MZ W.T),W.rs,W.rg.filter (fun e=>cW B e.2&&cW L e.1),(W.wt++C).filter (fun e=>cW L e.1)⟩ m' [] G':=by
 have gt:∀j,j<MZ W.T->X (gy L W.T (MZ W.T)) j t0=fJ L j (X W.T j t0):=fun j n=>by rw[qE L W.T (MZ W.T) j b8 n,aJ n]
 have f:∀i,cx L i->((X W.T i t0).1=3\/(X W.T i t0).1=4->_=_):=fun i hi q=>h.two (c.ok.al i hi) (aK q)
 have al:∀j,cA (gy L W.T (MZ W.T)) j↔cx L j:=fun j=>by
  unfold cA;rw[jK];constructor
  ·rintro⟨o,f⟩
   rw[gt j o] at f;unfold cx;cases d:X L j Nb
   ·rw[Co d] at f;cases f
   ·rfl
  ·intro b;have ha:=c.ok.al j b;refine⟨ha.1,?_⟩
   rw[gt j ha.1,(sA b (f j b)).2.2];exact ha.2
 have p:∀j,cx L j->MZ (X (gy L W.T (MZ W.T)) j t0).2.1=MZ (X W.T j t0).2.1/\(X (gy L W.T (MZ W.T)) j t0).1=(X W.T j t0).1/\(X (gy L W.T (MZ W.T)) j t0).2.2.1=Nc:=fun j b=>by
  have ha:=c.ok.al j b;obtain⟨q1,g,q3⟩:=sA b (f j b)
  rw[gt j ha.1,q3];exact⟨q1,g,rfl⟩
 have u:∀v,dK W.T v->(v.1=3->cx L (M v.2))->dK (gy L W.T (MZ W.T)) v:=fun v hv b=>⟨fun e=>⟨(hv.t e).1,(al _).2 (b e)⟩,hv.o⟩
 have t:∀e,gJ W.T e->cx L (M e.1)->cx L (M e.2)->gJ (gy L W.T (MZ W.T)) e:=fun e he o f=>⟨he.g0,(al _).2 o,((p _ o).2.1▸he.k),he.h0,(al _).2 f⟩
 exact
 {
  kv:=c.kv,rl:=h.rl,rv:=fun v hv=>u v (h.rv v hv) (c.rr v hv)
  fv:=fun i hi v hv=>by
   have b:=(al i).1 hi;have ha:=c.ok.al i b;have hv:=hv;rw[gt i ha.1] at hv;obtain⟨k,hk,e⟩:=List.mem_iff_getElem.1 hv;have ev:X (fJ L i (X W.T i t0)).2.1 k (0,0)=v:=by rw[aL,aN hk,e];rfl
   rw[(sA b (f i b)).1] at hk;refine⟨fun l=>?_,fun l=>?_⟩
   ·have hl:=h.led c.ok c.cl b hk (by simp_all)
    rw[ev] at hl;refine⟨?_,(al _).2 hl⟩
    rw[m8 b (f i b) hk] at ev;split at ev
    ·rw[<-ev] at l;exact absurd l ae
    ·rw[<-ev] at l⊢;exact((h.fv i ha _ (getD_in hk)).t l).1
   ·rw[m8 b (f i b) hk] at ev;split at ev
    ·rw[<-ev];decide
    ·rw[<-ev] at l⊢;exact(h.fv i ha _ (getD_in hk)).o l
  rs:=c.rs
  iT:=fun i hi e=>by simp_all
  old:=fun i hi _=>c.pl i ((al i).1 hi)
  inj:=fun i j hi n e=>c.inj i j ((al i).1 hi) ((al j).1 n) e
  gG:=fun v hv=>by
   rcases hv with d|d
   ·cases d
   ·obtain⟨i,hi,e⟩:=c.gG v d;exact⟨i,(al i).2 hi,e⟩
  hd:=fun i hi=>by have b:=(al i).1 hi;show hc _ _=0/\ld a.N S'.s.y S'.s.g S'.s.ws (m' i)=hw _ _;rw[(p i b).1,(p i b).2.1,c.hd i b];exact h.hd i (c.ok.al i b)
  fd:=fun i hi k hk=>by have b:=(al i).1 hi;have hk:=hk;rw[(p i b).1] at hk;show ld a.N S'.s.y S'.s.g S'.s.ws _=wv m' _;rw[gt i (c.ok.al i b).1];exact c.fd i b k hk
  rg:=c.rg
  gv:=fun e he=>by obtain⟨q1,g⟩:=bM.1 he;rw[bB] at g;exact t e (h.gv e q1) g.2 (c.up _ g.1)
  wt:=c.wt
  dF:=fun e he=>by
   obtain⟨q1,g⟩:=bM.1 he;rcases bE.1 q1 with d|d
   ·have s:=h.dF e d;exact t e s g (c.cl _ s.g.1 g (3,e.2) (aK (aK (aK ⟨s.k,e,d,by have:=s.g0;omega,rfl⟩))) rfl)
   ·obtain⟨w,x⟩:=c.cc e d;exact t e (h.gv e w) g x
  tl:=fun i=>by
   show MZ (X (gy L W.T (MZ W.T)) i t0).2.1<=12;by_cases hi:i<MZ W.T
   ·rw[gt i hi];cases d:X L i Nb
    ·rw[Co d];simp
    ·rw[(sA d (f i d)).1];exact h.tl i
   ·rw[aL,List.getElem?_eq_none (by rw[jK];omega)];simp[t0]}
end
section
variable {a:Wc}{S:cw}{W:cn}{m:Nat->Int}{Y G:List Int}
theorem LK (h:eP a S.s Y G)(hb:cO a S.s)(j:S.gh a=Nb):(S.dH a).r=((S.r.filter (fun e=>(S.s.j0 a).al (S.j2 a).1 e.2)).filter (fun e=>(S.s.j0 a).al (S.cI a) e.1)).map (fun e=>((S.s.j0 a).nw (S.cK a) e.1,(S.s.j0 a).nw (S.cK a) e.2)):=by
 have i:=c9.start hb.n1 hb.o1 hb.y1 hb.g1;obtain⟨d1,p,t⟩:=oS (S:=S) i;obtain⟨_,l2,l3⟩:=lC h.inv.full hb;obtain⟨_,g,u⟩:=mS h hb j;obtain⟨_,b,t3,_⟩:=pY (s:=S.cK a) (k:=S.s.j0 a) ⟨hb.l1,hb.y1,hb.g1⟩ hb.r1 i.nd (oY h.inv.full hb) (p8 h.inv.full hb)
 have b:(S.k5 a).Y=(S.s.j0 a).Y:=b;have t3:(S.k5 a).G=(S.s.j0 a).G:=t3;have Aq:(S.k5 a).T=(S.s.j0 a).T:=by unfold cg.T;rw[b,t3]
 have l:∀x,(S.k5 a).al (S.cK a) x=(S.s.j0 a).al (S.cI a) x:=fun x=>by exact Ap
 have r3:S.r3 a=(S.r.filter (fun e=>(S.s.j0 a).al (S.j2 a).1 e.2)).filter (fun e=>(S.s.j0 a).al (S.cI a) e.1):=by show(((S.r.filter (fun e=>(S.s.j0 a).al _ e.2)).filter (fun e=>(S.s.j0 a).al (S.cI a) e.1)).map fun e=>((S.s.j0 a).nw (S.cI a) e.1,(S.s.j0 a).nw (S.cI a) e.2))=_;exact Ar
 have m:(S.k5 a).tS (S.cK a,S.q3 a) (S.r3 a)=(S.cK a,S.q3 a):=uT (fun e he=>by rw[l];exact rR i e he)
 unfold cw.dH;rw[j,aI ac];show e9 (dY cz) (fun s x=>(S.k5 a).al s.1 x) _ (fun s x=>(S.k5 a).nw s.1 x) (S.cK a,S.q3 a) (S.r3 a)=_;unfold e9;have e:fQ (dY cz) (fun s x=>(S.k5 a).al s.1 x) (S.k5 a).cu (S.cK a,S.q3 a) (S.r3 a)=(S.cK a,S.q3 a):=m;rw[e];show(((S.r3 a).filter (fun e=>(S.k5 a).al (S.cK a) e.2)).filter (fun e=>(S.k5 a).al (S.cK a) e.1)).map (fun e=>((S.k5 a).nw (S.cK a) e.1,(S.k5 a).nw (S.cK a) e.2))=_;have n:(S.r3 a).filter (fun e=>(S.k5 a).al (S.cK a) e.2)=S.r3 a:=p4.2 (fun e he=>by rw[l];exact rR (S:=S) i e he)
 have o:(S.r3 a).filter (fun e=>(S.k5 a).al (S.cK a) e.1)=S.r3 a:=p4.2 (fun e he=>by simp_all)
 rw[n,o,r3];refine mo (fun e _=>?_)
 rw[cg.kT _ _ b t3,cg.kT _ _ b t3]
theorem cE.n4 (b:cE a S W m Y G)(hb:cO a S.s){g:List Bool->List Bool}(hg:dB W.T W.wt g):S.n4 a=iV W.T (W.cR g Nc).1 (MZ W.T):=by
 have f:=c9.start hb.n1 hb.o1 hb.y1 hb.g1;have hs:=Rg.settled b hb hg;obtain⟨k,_⟩:=pW (S.s.j0 a) (fun c=>!((S.cI a).f c==-1)) _ (S.cI a,(a.N:Int)) f.nd (fun _ _=>rfl)
 have d:=k.sum (fun c=>(dv _).1)
 have d:(h_ (nU (ld a.N S.s.y S.s.g S.s.ws)) ((S.s.j0 a).T.filter (fun c=>!((S.cI a).f c==-1))):Int)=S.n4 a:=d;rw[vV,<-d,vU (fun i _ hp=>b.size (hs.ok.al i hp)) (f.nd.filter _) (fun i j _ _ hp hq e=>b.inj i j (hs.ok.al i hp) (hs.ok.al j hq) e) (fun v=>?_)];rw[bM];constructor
 ·rintro⟨l,n⟩
  obtain⟨i,hi,rfl⟩:=b.vY hb l;exact⟨i,hi.1,(hs.gB i hi).1 (by simpa using n),rfl⟩
 ·rintro⟨i,_,hp,rfl⟩
  have hi:=hs.ok.al i hp;exact⟨b.memT hb hi,by simpa using(hs.gB i hi).2 hp⟩
theorem cE.Ct (b:cE a S W m Y G)(hb:cO a S.s){g:List Bool->List Bool}(hg:dB W.T W.wt g):S.gh a=W.cF g a.O Nc:=by unfold cw.gh cn.cF;rw[b.n4 hb hg];simp
theorem cE.i5 (b:cE a S W m Y G)(hb:cO a S.s){g:List Bool->List Bool}(hg:dB W.T W.wt g):S.i5 a=W.hC g a.O Nc:=by unfold cw.i5 cn.hC;rw[b.Ct hb hg]
theorem cE.qn (b:cE a S W m Y G)(hb:cO a S.s){j:cz}{v:Int×Int}(hv:dK W.T v)(d:v.1=3->j.f (m (M v.2))≠-1):(S.s.j0 a).nw j (wv m v)=wv (fun i=>j.f (m i)) v:=by
 unfold cg.nw;rw[b.jt hb hv];by_cases c:v.1=3
 ·rw[(b.vt hb hv c).2,c,aJ (by simp[d c]),i6 c]
 ·rw[aI (by simp[c]),m4 c,m4 c]
theorem wh {c:Type}(d:c){l b:List c}(h:MZ l=MZ b)(he:∀i,i<MZ l->X l i d=X b i d):l=b:=by
 refine List.ext_getElem h (fun i e f=>?_)
 have:=he i e;rwa [aL,aN e,aL,aN f] at this
theorem wi {m:Nat->Int}:wv m (2,0)=3:=by rw[m4 ae];decide
theorem cE.LL (hR:cE a S W m Y G)(hb:cO a S.s){g:List Bool->List Bool}(hg:dB W.T W.wt g)(u:S.gh a=Nb):
 sB a S W m (W.c0 g Nc) (W.cR g Nc).1 (W.cR g Nc).2.1 (S.dH a) (fun i=>(S.cK a).f (m i)) ((S.cK a).lf (G++Y)):=by
 have hs:=Rg.settled hR hb hg;have h0:=Rg.start hR hb hg;obtain⟨_,w,_⟩:=mS hR.kv hb u;obtain⟨s1,s2,aR⟩:=oS (S:=S) (c9.start hb.n1 hb.o1 hb.y1 hb.g1)
 have N:=hR.T hb;have o:∀{i:Nat},cA W.T i->m i∈G++Y:=fun hi=>(N▸hR.memT hb hi)
 have B:∀i,cA W.T i->((S.cK a).f (m i)≠-1↔cx (W.cR g Nc).1 i):=fun i hi=>by rw[<-hs.gB i hi];exact not_congr (w.iff _ (o hi))
 have l:∀i,cx (W.cR g Nc).1 i->_:=fun i b=>(B i (hs.ok.al i b)).2 b;have hcl:ic W.T W.wt (cx (W.cR g Nc).1):=by
  have hc:=hR.marked hb hs.dr (fun x al=>(hs.q▸List.mem_map_of_mem (bu _ al)))
  intro i hi am v hv n;have ab:∀j,cx (W.cR g Nc).1 j->_/\_:=fun j p=>⟨hs.ok.al j p,(hs.gB j (hs.ok.al j p)).2 p⟩
  obtain⟨q1,f⟩:=hc i hi (ab i am) v (hv.mono ab) n;exact(hs.gB _ q1).1 f
 have hup:∀i,cx (W.c0 g Nc) i->cx (W.cR g Nc).1 i:=fun i hi=>by have ha:=h0.ok.al i hi;have ad:=(h0.gB i ha).2 hi;refine(hs.gB i ha).1 ?_;rw[s2.f _ ad];exact ad
 have s:∀i,cx (W.cR g Nc).1 i->((X W.T i t0).1=3\/(X W.T i t0).1=4->_=_):=fun i hi q=>hR.two (hs.ok.al i hi) (aK q)
 have v8:∀e,gJ W.T e->cx (W.cR g Nc).1 (M e.1)->cx (W.cR g Nc).1 (M e.2)->((S.s.j0 a).nw (S.cK a) (we m e).1,(S.s.j0 a).nw (S.cK a) (we m e).2)=we (fun i=>(S.cK a).f (m i)) e:=fun e he an s=>by
  have q1:=hR.qn hb (j:=S.cK a) (v:=(3,e.1)) ⟨fun _=>⟨he.g0,he.g⟩,fun c=>absurd rfl c⟩ (fun _=>l _ an)
  have f:=hR.qn hb (j:=S.cK a) (v:=(3,e.2)) ⟨fun _=>⟨he.h0,he.h⟩,fun c=>absurd rfl c⟩ (fun _=>l _ s)
  exact Prod.ext q1 f
 have gc:=w.gc;have ag:(S.dH a).s.y=0:=gc.y;refine
 {
  kv:=(gc.inv hR.kv hb w.al).1,ok:=hs.ok,cl:=hcl,up:=hup,rr:=hs.r,cc:=hs.c
  rs:=?_,pl:=fun i b=>?_,inj:=fun i j hi p e=>?_,gG:=fun v hv=>?_,hd:=fun i b=>?_,fd:=fun i b k hk=>?_,rg:=?_,wt:=?_}
 ·refine wh 0 (by rw[aZ,hR.rl];exact gc.rl) (fun i hi=>?_)
  have hi:i<12:=by rw[gc.rl] at hi;exact hi
  obtain⟨er,hv⟩:=hR.root hi;rw[gc.rs i hi,er,lJ (wv (fun i=>(S.cK a).f (m i))) W.rs i (0,0) 0 ((hR.rl▸hi))];exact hR.qn hb hv (fun n=>l _ (hs.r _ (getD_in ((hR.rl▸hi))) n))
 ·exact fo.2 ⟨m i,bM.2 ⟨o (hs.ok.al i b),by simp_all⟩,rfl⟩
 ·have:=gc.pos.inj (fun c=>(dv _).1) (m i) (o (hs.ok.al i hi)) (m j) (o (hs.ok.al j p)) (by simp_all) (by simp_all) e;exact hR.inj i j (hs.ok.al i hi) (hs.ok.al j p) this
 ·obtain⟨c,hc,rfl⟩:=fo.1 hv;obtain⟨q1,f⟩:=bM.1 hc;rw[<-N] at q1;obtain⟨i,hi,rfl⟩:=hR.vY hb q1;exact⟨i,(B i hi).1 (by simpa using f),rfl⟩
 ·rw[ag];exact gc.hd _ (o (hs.ok.al i b)) (l i b)
 ·have ha:=hs.ok.al i b;obtain⟨ao,ap,_⟩:=hR.parts ha;rw[ag,gc.fd _ (o ha) (l i b) k (la k) (by rw[ap];omega),m8 b (s i b) hk];unfold cg.iS;have ar:pk ((S.s.j0 a).ld (m i))=(X W.T i t0).1:=ao;rw[ar];have ai:(S.s.j0 a).ld (m i+1+k)=wv m (X (X W.T i t0).2.1 k (0,0)):=hR.fd i ha k hk;have key:(X W.T i t0).1=3\/(X W.T i t0).1=4->((S.s.j0 a).cY (S.cK a) ((S.s.j0 a).ld (m i+1))=Nc↔d_ (W.cR g Nc).1 (X (X W.T i t0).2.1 0 (0,0))=Nb):=fun q=>by
   have aF:(S.s.j0 a).ld (m i+1)=wv m (X (X W.T i t0).2.1 0 (0,0)):=by
    have:=hR.fd i ha 0 aa;show ld a.N S.s.y S.s.g S.s.ws (m i+1)=_;rw[<-this]
    congr 1
    omega
   have F:=hR.fv i ha _ (getD_in (x:=((0,0):Int×Int)) (show 0<MZ (X W.T i t0).2.1 by omega))
   rw[aF];by_cases c3:(X (X W.T i t0).2.1 0 (0,0)).1=3
   ·have q1:=hR.o8 hb (S.cK a) F c3;have f:=B _ (F.t c3).2;rw[Cr c3];constructor
    ·intro d;cases e:X (W.cR g Nc).1 _ Nb
     ·rfl
     ·rw[q1.2 (f.2 e)] at d;cases d
    ·intro d;cases e:(S.s.j0 a).cY (S.cK a) _
     ·have:=f.1 (q1.1 e)
      unfold cx at this
      rw[d] at this
      cases this
     ·rfl
   ·rw[LJ c3];have:(S.s.j0 a).cY (S.cK a) (wv m (X (X W.T i t0).2.1 0 (0,0)))=Nb:=by
     unfold cg.cY;rw[hR.jt hb F];have:((X (X W.T i t0).2.1 0 (0,0)).1==3)=Nb:=by simpa using c3
     rw[this];rfl
    rw[this];simp
  by_cases cb:((X W.T i t0).1=3\/(X W.T i t0).1=4)/\d_ (W.cR g Nc).1 (X (X W.T i t0).2.1 0 (0,0))=Nb
  ·by_cases t:k=0\/((X W.T i t0).1=4/\k=1)
   ·rw[aJ ⟨⟨cb.1,(key cb.1).2 cb.2⟩,t.imp (fun e=>by omega) (fun e=>⟨e.1,aa⟩)⟩,aJ ⟨cb,t⟩,wi];unfold cg.nw cg.jt;rw[show de 3=Nb by decide,Cs,Cs,aI ac]
   ·rw[aI (fun q=>t (q.2.imp (fun e=>by omega) (fun e=>⟨e.1,aa⟩))),aI (fun q=>t q.2),ai];refine hR.qn hb (hR.fv i ha _ (getD_in hk)) (fun n=>l _ ?_)
    have hl:=hR.led hs.ok hcl b hk;rw[m8 b (s i b) hk,aI (fun q=>t q.2)] at hl;exact hl n
  ·rw[aI (fun q=>cb ⟨q.1.1,(key q.1.1).1 q.1.2⟩),aI (fun q=>cb q.1),ai];refine hR.qn hb (hR.fv i ha _ (getD_in hk)) (fun n=>l _ ?_)
   have hl:=hR.led hs.ok hcl b hk;rw[m8 b (s i b) hk,aI (fun q=>cb q.1)] at hl;exact hl n
 ·rw[LK hR.kv hb u,hR.rg,Cm];rw[lR (we m) _ (fun e=>cW (W.c0 g Nc) e.2&&cW (W.cR g Nc).1 e.1) W.rg (fun e he=>by have q1:=Rg.is hR hb h0 (hR.gv e he).h;have f:=Rg.is hR hb hs (hR.gv e he).g;have q1:(S.s.j0 a).al (S.j2 a).1 (we m e).2=cW (W.c0 g Nc) e.2:=q1;have f:(S.s.j0 a).al (S.cI a) (we m e).1=cW (W.cR g Nc).1 e.1:=f;rw[q1,f,Mv]),yB];exact Cb
 ·rw[AH hR.kv hb u];have hE:∀e∈W.wt++(W.cR g Nc).2.1,gJ W.T e:=fun e he=>by
   rcases bE.1 he with d|d
   ·exact hR.dF e d
   ·exact hR.gv e (hs.c e d).1
  rw[hs.q,lR (we m) _ (fun e=>cW (W.cR g Nc).1 e.1) _ (fun e he=>Rg.is hR hb hs (hE e he).g),yB];exact B_
theorem cE.dH (b:cE a S W m Y G)(hb:cO a S.s){g:List Bool->List Bool}(hg:dB W.T W.wt g):∃c d e,cE a (S.dH a) (W.cut g a.O Nc) c d e:=by
 unfold cn.cut;rw[<-b.Ct hb hg];cases hf:S.gh a
 ·rw[aI ac];exact⟨_,_,_,(b.LL hb hg hf).done b⟩
 ·refine⟨m,Y,G,?_⟩
  unfold cw.dH;rw[hf,aJ rfl];exact b
end
theorem Cu (k:ck):∀(l:List Int)(s:ct),(l.foldl k.e3 s).rs=s.rs
 |[],_=>rfl
 |x::l,s=>by rw[a_,Cu k l];unfold ck.e3;split<;>rfl
theorem Cv (k:ck):∀(l:List Int)(s:ct),(l.foldl k.hI s).rs=s.rs
 |[],_=>rfl
 |x::l,s=>by rw[a_,Cv k l];rfl
theorem fP.told {k:ck}{s:ct}(ci:CI k s)(fg:Fo k s){q0 q:List cf}(h:fP k s q0 q)(p:Int->Bool):(q.filter (fun e=>p e.1)).map (fun e=>(k.nw s e.1,k.nw s e.2))=(q0.filter (fun e=>p e.1)).map (fun e=>(k.nw s e.1,k.nw s e.2)):=by
 have c:q.map (fun e=>(e.1,k.nw s e.2))=q0.map (fun e=>(e.1,k.nw s e.2)):=by
  refine wh (0,0) (by rw[aZ,aZ,h.len]) (fun n hn=>?_)
  rw[aZ] at hn;have b:n<MZ q0:=(h.len▸hn)
  obtain⟨d,f⟩:=h.eq n b;rw[lJ (fun e:cf=>(e.1,k.nw s e.2)) q n (0,0) (0,0) hn,lJ (fun e:cf=>(e.1,k.nw s e.2)) q0 n (0,0) (0,0) b,d,Cj ci fg f]
 have key:∀l:List cf,(l.filter (fun e=>p e.1)).map (fun e=>(k.nw s e.1,k.nw s e.2))=((l.map (fun e=>(e.1,k.nw s e.2))).filter (fun e=>p e.1)).map (fun e=>(k.nw s e.1,e.2)):=fun l=>by rw[lR (fun e:cf=>(e.1,k.nw s e.2)) (fun e=>p e.1) (fun e=>p e.1) l (fun _ _=>rfl),yB];rfl
 rw[key q,key q0,c]
section
variable {a:Wc}{S:cw}{W:cn}{m:Nat->Int}{Y G:List Int}
def gK (a:Wc)(S:cw)(m:Nat->Int)(G:List Int)(i:Nat):Int:=if m i∈G then m i else(S.s4 a).f (m i)
theorem cE.LN (hR:cE a S W m Y G)(hb:cO a S.s)(hr:S.s.y<=a.O-S.s.g){g:List Bool->List Bool}(hg:dB W.T W.wt g):
 ∃K,sB a S W m (W.c0 g Nb) (W.cR g Nb).1 (W.cR g Nb).2.1 ⟨⟨0,(S.s6 a).g,(S.s6 a).ws,[],(S.s6 a).rs⟩,(S.s.k0 a).sR (S.t3 a) S.r,(S.s.k0 a).jM (S.t3 a) S.r⟩ (gK a S m G) (G++K):=by
 obtain⟨D,hc,h0⟩:=jT.start hR hb hr hg;have hs:=jT.settled hR hb hc hg h0;obtain⟨K,li,N⟩:=hs.dr.li;have li:=li;have N:=N;obtain⟨bb,ch,c⟩:=rO hR.kv hb hr;have bo:bb=K:=by have l2:=(c.li.mi.full.lists (O:=a.O) hb.n1 hb.y1 hb.o1 c.li.mi.ci.hg).2;have aF:=((li.mi.full.lists (O:=a.O) hb.n1 hb.y1 hb.o1 li.mi.ci.hg).2).symm.trans l2;exact(List.append_cancel_left aF).symm
 subst bo;refine⟨bb,?_⟩
 have ci:=li.mi.ci;have fg:=li.mi.fg;have ao:=hR.gz hb;have hz:∀v,(v∈(S.s.k0 a).T\/v∈(S.s.z0 G).G)->∀i,0<=i->i<pf ((S.s.k0 a).l0 (S.s.z0 G) v)->de ((S.s.k0 a).l0 (S.s.z0 G) (v+1+i))=Nc->cr ((S.s.k0 a).l0 (S.s.z0 G) (v+1+i))∈(S.s.k0 a).T\/cr ((S.s.k0 a).l0 (S.s.z0 G) (v+1+i))∈(S.s.z0 G).G:=fun v hv i bp ai ha=>by rw[ao] at hv⊢;exact hR.kv.inv.fd v hv i bp ai ha
 have gB:=hs.gB;have ok:=hs.ok;have al:∀i,cx (W.cR g Nb).1 i->(S.s.k0 a).or (S.s.z0 G) (S.s4 a) (m i) (gK a S m G i):=fun i b=>by
  have ha:=ok.al i b;unfold gK;by_cases d:m i∈G
  ·rw[aJ d];exact aM ⟨rfl,d⟩
  ·rw[aI d];have hy:=(hR.mem ha).resolve_right d;exact aK ⟨by rw[ao];exact hy,rfl,((hR.kE hb _ ha).1 ((gB i ha).2 b)).resolve_left d⟩
 have hcl:ic W.T W.wt (cx (W.cR g Nb).1):=by
  intro i hi br v hv l;have bd:∀j,cx (W.cR g Nb).1 j->_/\_:=fun j ab=>⟨ok.al j ab,(gB j (ok.al j ab)).2 ab⟩
  obtain⟨q1,s⟩:=hR.v5 hb hc hs.dr v7 i hi (bd i br) v (hv.mono bd) l;exact(gB _ q1).1 s
 have bs:dd (S.s.k0 a) (S.t3 a).1 (S.s4 a):=by obtain⟨bt,aF,bx⟩:=h0.dr.li;obtain⟨_,_,_,cI,_⟩:=da.fu (k:=S.s.k0 a) (z:=S.s.z0 G) (D:=D) (S.t3 a) S.r bt aF bx;exact cI
 have hup:∀i,cx (W.c0 g Nb) i->cx (W.cR g Nb).1 i:=fun i hi=>by have ha:=h0.ok.al i hi;exact(gB i ha).1 (p_ bs ((h0.gB i ha).2 hi))
 have F:∀i,cx (W.cR g Nb).1 i->((X W.T i t0).1=3\/(X W.T i t0).1=4->_=_):=fun i hi q=>hR.two (ok.al i hi) (aK q)
 have am:∀v,dK W.T v->(v.1=3->cx (W.cR g Nb).1 (M v.2))->(S.s.k0 a).nw (S.s4 a) (wv m v)=wv (gK a S m G) v:=fun v hv b=>by
  by_cases l:v.1=3
  ·have ha:=(hv.t l).2;rw[i6 l,i6 l];unfold gK;by_cases d:m (M v.2)∈G
   ·rw[aJ d];refine o_ ?_;rw[vT];intro hy;exact hR.k_ hb ((hR.o9 hb ha).1 hy) d
   ·rw[aI d];have hy:=(hR.mem ha).resolve_right d;have e:=(hR.word hb ha).2.2;rw[sy ((hR.o9 hb ha).2 hy) (by rw[e];exact((hR.kE hb _ ha).1 ((gB _ ha).2 (b l))).resolve_left d),e]
  ·rw[m4 l,m4 l];refine o_ ?_;unfold ck.cQ;rw[(oc _ _ (hv.o l)).1];have:(v.1==3)=Nb:=by simpa using l
   rw[this];rfl
 have v8:∀e,gJ W.T e->cx (W.cR g Nb).1 (M e.1)->cx (W.cR g Nb).1 (M e.2)->((S.s.k0 a).nw (S.s4 a) (we m e).1,(S.s.k0 a).nw (S.s4 a) (we m e).2)=we (gK a S m G) e:=fun e he b0 F=>by
  have q1:=am (3,e.1) ⟨fun _=>⟨he.g0,he.g⟩,fun c=>absurd rfl c⟩ (fun _=>b0)
  have s:=am (3,e.2) ⟨fun _=>⟨he.h0,he.h⟩,fun c=>absurd rfl c⟩ (fun _=>F)
  rw[i6 rfl,i6 rfl] at q1 s;unfold we;exact Prod.ext q1 s
 have lo:∀{p:Int},(a.N:Int)<=p->ld a.N 0 (S.s6 a).g (S.s6 a).ws p=(S.s.k0 a).ld ((S.s.k0 a).be ((S.s.k0 a).mw (S.s4 a) (S.s4 a).wk) ((S.s.k0 a).mw (S.s4 a) (S.s4 a).wk).ep) p:=fun hp=>uL hp hb.y1;refine
 {
  kv:=⟨c.done hR.kv hb,fun v _ i _ _ _ hy=>(by cases hy)⟩,ok:=ok,cl:=hcl,up:=hup,rr:=hs.r,cc:=hs.c
  rs:=?_,pl:=fun i b=>li.mi.mem (al i b),inj:=fun i j hi ab e=>?_,gG:=fun v hv=>?_,hd:=fun i b=>?_,fd:=fun i b k hk=>?_,rg:=?_,wt:=?_}
 ·have b4:(S.s6 a).rs=(S.s4 a).rs:=(Cv _ _ _).trans (Cu _ _ _)
  show(S.s6 a).rs=_;rw[b4];refine wh 0 (by rw[aZ,hR.rl];exact c.rl) (fun i hi=>?_)
  have hi:i<12:=by rw[c.rl] at hi;exact hi
  obtain⟨er,hv⟩:=hR.root hi;have hm:=c.rm i hi;rw[er] at hm;rw[Cn hm (c.AB i hi),lJ (wv (gK a S m G)) W.rs i (0,0) 0 (by rw[hR.rl];exact hi)];exact am _ hv (hs.r _ (getD_in (by rw[hR.rl];exact hi)))
 ·have o1:=al i hi;have be:=al j ab;rw[<-e] at be;refine hR.inj i j (ok.al i hi) (ok.al j ab) ?_;rcases o1 with⟨a1,a2⟩|⟨a1,a2,ap⟩<;>rcases be with⟨b1,b2⟩|⟨b1,b2,b3⟩
  ·exact a1.trans b1.symm
  ·have q1:=li.mi.lx _ a2;have s:=li.mi.hlo _ (li.mi.fh _ b1 (by rw[b2];exact b3))
   rw[b2] at s;omega
  ·have q1:=li.mi.lx _ b2;have s:=li.mi.hlo _ (li.mi.fh _ a1 (by rw[a2];exact ap))
   rw[a2] at s;omega
  ·exact li.mi.inj _ a1 _ b1 (by rw[a2];exact ap) (a2.trans b2.symm)
 ·obtain⟨x,o⟩:=li.mi.from hv;have hm:x∈Y\/x∈G:=by
   have:=vW o;rw[ao] at this
   exact this
  obtain⟨i,hi,rfl⟩:=hR.gG x hm;have b:cx (W.cR g Nb).1 i:=(gB i hi).1 ((hR.kE hb _ hi).2 (by
   rcases o with⟨a1,a2⟩|⟨a1,a2,ap⟩
   ·exact aM (by rw[a1];exact a2)
   ·omega))
  refine⟨i,b,?_⟩
  unfold gK;rcases o with⟨a1,a2⟩|⟨a1,a2,ap⟩
  ·rw[aJ (by rw[a1];exact a2)];exact a1
  ·rw[ao] at a1;rw[aI (hR.k_ hb a1)];exact a2
 ·have o:=al i b;have b5:=li.mi.bd (li.mi.mem o)
  show ld a.N 0 (S.s6 a).g (S.s6 a).ws (gK a S m G i)=_;rw[lo b5.1];exact(LH li N o).1
 ·have o:=al i b;have ha:=ok.al i b;obtain⟨aR,a0,_⟩:=hR.parts ha;have an:(S.s.k0 a).ld (S.s4 a) (gK a S m G i)=ld a.N S.s.y S.s.g S.s.ws (m i):=li.mi.hd _ _ o;have ai:(k:Int)<pf ((S.s.k0 a).l0 (S.s.z0 G) (m i)):=by
   show(k:Int)<pf (ld a.N S.s.y S.s.g S.s.ws (m i))
   rw[a0];omega
  have b6:(k:Int)<pf ((S.s.k0 a).ld (S.s4 a) (gK a S m G i)):=by rw[an,a0];omega
  have ar:∀n,n<MZ (X W.T i t0).2.1->(S.s.k0 a).l0 (S.s.z0 G) (m i+1+n)=wv m (X (X W.T i t0).2.1 n (0,0)):=fun n hn=>hR.fd i ha n hn;have a3:=li.mi.fd (m i) _ o k (la k) ai;rw[ar k hk] at a3;have bg:=hR.fv i ha _ (getD_in (x:=((0,0):Int×Int)) hk)
  show ld a.N 0 (S.s6 a).g (S.s6 a).ws (gK a S m G i+1+k)=_;have hN:(a.N:Int)<=gK a S m G i:=(li.mi.bd (li.mi.mem o)).1;rw[lo aa,LG li N o (la k) ai,m8 b (F i b) hk];have lost:(X W.T i t0).1=3\/(X W.T i t0).1=4->(d_ (W.cR g Nb).1 (X (X W.T i t0).2.1 0 (0,0))=Nb↔(S.s.k0 a).ls (S.s4 a) (wv m (X (X W.T i t0).2.1 0 (0,0)))=Nc):=fun q=>by
   have l2:=F i b q;have a4:=hR.fv i ha _ (getD_in (x:=((0,0):Int×Int)) (show 0<MZ (X W.T i t0).2.1 by omega))
   constructor
   ·intro d;obtain⟨bi,ca⟩:=nh d;have cb:=(a4.t bi).2;have:¬(S.s.k0 a).al (S.s4 a) (ew 3 (m (M (X (X W.T i t0).2.1 0 (0,0)).2)))=Nc:=fun w=>by
     have:=(gB _ cb).1 w;unfold cx at this
     rw[ca] at this
     cases this
    rw[i6 bi];unfold ck.al at this
    simpa using this
   ·intro d;obtain⟨u,_⟩:=hR.sw hb a4 (m6 d)
    rw[i6 u] at d;rw[Cr u];cases w:X (W.cR g Nb).1 (M (X (X W.T i t0).2.1 0 (0,0)).2) Nb
    ·rfl
    ·have:=(gB _ (a4.t u).2).2 w;unfold ck.al at this
     rw[d] at this
     cases this
  have met:(X W.T i t0).1=3\/(X W.T i t0).1=4->(S.s.k0 a).ls (S.s4 a) (wv m (X (X W.T i t0).2.1 0 (0,0)))=Nc->(S.s.k0 a).ld (S.s4 a) (gK a S m G i+1+0)=wv m (X (X W.T i t0).2.1 0 (0,0))/\((X W.T i t0).1=3->gK a S m G i∈(S.s4 a).wk)/\((X W.T i t0).1=4->gK a S m G i∈(S.s4 a).ep):=fun q d=>by
   have l2:=F i b q;have ba:(0:Int)<pf ((S.s.k0 a).l0 (S.s.z0 G) (m i)):=aa;have j2:(0:Int)<pf ((S.s.k0 a).ld (S.s4 a) (gK a S m G i)):=by rw[an,a0];omega
   have bl:=li.mi.fd (m i) _ o 0 (tF 0) ba;have ex:(S.s.k0 a).l0 (S.s.z0 G) (m i+1+0)=wv m (X (X W.T i t0).2.1 0 (0,0)):=ar 0 aa;rw[ex] at bl;have B:(S.s.k0 a).ld (S.s4 a) (gK a S m G i+1+0)=wv m (X (X W.T i t0).2.1 0 (0,0)):=by
    rcases bl with w|⟨_,w,_⟩
    ·exact w
    ·exact absurd (ck.nE d).2.2 w
   have f:=li.fields hs.dr.he hz hc (li.mi.mem o) (tF 0) j2 ((B▸(ck.nE d).1))
   rw[an,aR] at f;refine⟨B,fun u=>?_,fun ad=>?_⟩
   ·rcases f with w|⟨_,_,w⟩|⟨w,_⟩
    ·have:=li.mi.p6 w;rw[B,m6 d] at this
     cases this
    ·exact w
    ·omega
   ·rcases f with w|⟨w,_,_⟩|⟨_,w⟩
    ·have:=li.mi.p6 w;rw[B,m6 d] at this
     cases this
    ·omega
    ·exact w
  by_cases ag:gK a S m G i∈(S.s4 a).ep
  ·have ad:(X W.T i t0).1=4:=by
    have:=(N.ep _ ag).2;rw[an,aR] at this
    exact this
   have l2:=F i b (aK ad)
   have t:=hs.dr.ep _ ag;have t:=t;have ba:(0:Int)<pf ((S.s.k0 a).l0 (S.s.z0 G) (m i)):=aa;have cd:gK a S m G i+1+0=gK a S m G i+1:=aa;rw[<-cd] at t;have ea:=li.mi.sv o (tF 0) ba (m6 t)
   have ex:(S.s.k0 a).l0 (S.s.z0 G) (m i+1+0)=wv m (X (X W.T i t0).2.1 0 (0,0)):=ar 0 aa;rw[ea,ex] at t;rw[aJ ag,aJ ⟨⟨aK ad,(lost (aK ad)).2 t⟩,aa⟩,wi]
  ·rw[aI ag];by_cases bn:gK a S m G i∈(S.s4 a).wk/\(k:Int)=0
   ·obtain⟨hw,cj⟩:=bn;have u:(X W.T i t0).1=3:=by
     have:=(N.wk _ hw).2;rw[an,aR] at this
     exact this
    have gV:k=0:=aa;subst gV;rw[aJ ⟨hw,rfl⟩];cases t:d_ (W.cR g Nb).1 (X (X W.T i t0).2.1 0 (0,0))
    ·have q:=(lost (aM u)).1 t;have B:=(met (aM u) q).1;have B:(S.s.k0 a).ld (S.s4 a) (gK a S m G i+1+((0:Nat):Int))=wv m (X (X W.T i t0).2.1 0 (0,0)):=B;rw[aJ ⟨⟨aM u,rfl⟩,aM rfl⟩,wi,B];unfold ck.cL;rw[aJ q]
    ·rw[aI (fun q=>by simp_all)];have ce:(S.s.k0 a).ls (S.s4 a) ((S.s.k0 a).ld (S.s4 a) (gK a S m G i+1+((0:Nat):Int)))=Nb:=by rw[vT];intro w;rw[(li.mi.sv o (la 0) ai (m6 w)),ar 0 hk] at w;rw[(lost (aM u)).2 w] at t;cases t
     unfold ck.cL;rw[ce,aI ac,Cj ci fg a3];refine am _ bg (fun l=>?_)
     exact ni t l
   ·rw[aI bn];have cf:(S.s.k0 a).cQ ((S.s.k0 a).ld (S.s4 a) (gK a S m G i+1+k))=Nb:=by
     cases hab:de ((S.s.k0 a).ld (S.s4 a) (gK a S m G i+1+k))
     ·unfold ck.cQ;rw[hab];rfl
     ·rcases li.fields hs.dr.he hz hc (li.mi.mem o) (la k) b6 hab with w|⟨_,w1,cm⟩|⟨_,w⟩
      ·exact li.mi.p6 w
      ·simp_all
      ·exact absurd w ag
    have nb:¬((((X W.T i t0).1=3\/(X W.T i t0).1=4)/\d_ (W.cR g Nb).1 (X (X W.T i t0).2.1 0 (0,0))=Nb)/\(k=0\/((X W.T i t0).1=4/\k=1))):=by
     rintro⟨⟨q1,s⟩,q3⟩
     obtain⟨_,cn,cg⟩:=met q1 ((lost q1).1 s)
     rcases q1 with u|ad
     ·simp_all
     ·exact ag (cg ad)
    rw[aI nb,Cn a3 cf];refine am _ bg (fun l=>?_)
    have hl:=hR.led ok hcl b hk;rw[m8 b (F i b) hk,aI nb] at hl;exact hl l
 ·show(((S.r.filter (fun e=>(S.s.k0 a).al (S.t3 a).1 e.2)).filter (fun e=>(S.s.k0 a).al (S.s4 a) e.1)).map (fun e=>((S.s.k0 a).nw (S.s4 a) e.1,(S.s.k0 a).nw (S.s4 a) e.2)))=_;rw[hR.rg,Cm];rw[lR (we m) _ (fun e=>cW (W.c0 g Nb) e.2&&cW (W.cR g Nb).1 e.1) W.rg (fun e he=>by have q1:(S.s.k0 a).al (S.t3 a).1 (we m e).2=cW (W.c0 g Nb) e.2:=h0.is (hR.gv e he).h;have s:(S.s.k0 a).al (S.s4 a) (we m e).1=cW (W.cR g Nb).1 e.1:=hs.is (hR.gv e he).g;rw[q1,s,Mv]),yB];exact Cb
 ·show((((S.s.k0 a).fu (S.t3 a) S.r).2.filter (fun e=>(S.s.k0 a).al (S.s4 a) e.1)).map (fun e=>((S.s.k0 a).nw (S.s4 a) e.1,(S.s.k0 a).nw (S.s4 a) e.2)))=_;rw[hs.dr.q.told ci fg ((S.s.k0 a).al (S.s4 a))];have hE:∀e∈W.wt++(W.cR g Nb).2.1,gJ W.T e:=fun e he=>by
   rcases bE.1 he with d|d
   ·exact hR.dF e d
   ·exact hR.gv e (hs.c e d).1
  rw[lR (we m) _ (fun e=>cW (W.cR g Nb).1 e.1) _ (fun e he=>hs.is (hE e he).g),yB];exact B_
theorem cE.Cw (d:cE a S W m Y G)(hb:cO a S.s){g:List Bool->List Bool}(hg:dB W.T W.wt g):S.full a=W.cF g a.O Nb:=by
 have b:=d.us hb;have e:=hb.g1;unfold cw.full cn.cF;rw[b];by_cases c:a.O-S.s.g<S.s.y
 ·rw[bv c,bv (show(a.O:Int)-(S.s.g:Int)<(S.s.y:Int) by omega)];rfl
 ·rw[bC c,bC (show¬(a.O:Int)-(S.s.g:Int)<(S.s.y:Int) by omega)];obtain⟨D,hc,h0⟩:=jT.start d hb aa hg;have f:gU (fun i=>X (W.cR g Nb).1 i Nb) (i7 W.T) (MZ W.T)<=gU (fun i=>jS W.T i||oB W.T i) (i7 W.T) (MZ W.T):=B3 _ (fun i hi hp=>by unfold jS oB;rw[((jT.settled d hb hc hg h0).ok.al i hp).2];cases (X W.T i t0).2.2.1<;>rfl)
  have j:=B4 (R:=fun i=>jS W.T i||oB W.T i) (z:=i7 W.T) (MZ W.T) (fun i _=>⟨rfl,by unfold jS oB;cases (X W.T i t0).2.2.2<;>cases (X W.T i t0).2.2.1<;>rfl⟩)
  rw[B6] at b;have k:=congrArg Prod.fst b;have l:=congrArg Prod.snd b;rw[bC (by rw[(vV W.T (W.cR g Nb).1 (MZ W.T))];omega)];rfl
theorem cE.Cx (b:cE a S W m Y G)(hb:cO a S.s){g:List Bool->List Bool}(hg:dB W.T W.wt g):S.code a=W.hC g a.O Nb:=by unfold cw.code cn.hC;rw[b.Cw hb hg]
theorem cE.cut (b:cE a S W m Y G)(hb:cO a S.s){g:List Bool->List Bool}(hg:dB W.T W.wt g):∃d e f,cE a (S.cut a) (W.cut g a.O Nb) d e f:=by
 unfold cn.cut;rw[<-b.Cw hb hg];cases hf:S.full a
 ·rw[aI ac];have hr:S.s.y<=a.O-S.s.g:=by exact rj
  obtain⟨K,c⟩:=b.LN hb hr hg;unfold cw.cut;rw[hf,aI ac];exact⟨_,_,_,c.done b⟩
 ·refine⟨m,Y,G,?_⟩
  unfold cw.cut;rw[hf,aJ rfl];exact b
end
theorem Cy (rs:List Int)(y:Nat)(ws:List Int)(rl:List Nat):∀k,MZ (jr rs y ws rl k)=MZ ws
 |0=>rfl
 |k+1=>by show MZ ((jr rs y ws rl k).set _ _)=_;rw[bh];exact Cy rs y ws rl k
theorem sC (rs:List Int)(y:Nat)(ws:List Int)(rl:List Nat):∀k,y+k<MZ ws->∀q,X (jr rs y ws rl k) q 0=if y+1<=q/\q<y+1+k then X rs (X rl (q-y-1) 0) 0 else X ws q 0
 |0,_,q=>by rw[aI aa];rfl
 |k+1,h,q=>by
  show X ((jr rs y ws rl k).set _ _) q 0=_;rw[vP _ _ _ _ _ (by rw[Cy];omega),sC rs y ws rl k aa q];by_cases c:y+1+k=q
  ·rw[aJ c,aJ aa,show q-y-1=k by omega]
  ·omega
theorem LO (W:cn)(g:eg)(cj b_ m:Int):(W.room g cj b_ m).2.rs=W.rs:=by
 unfold cn.room;split
 ·rfl
 ·unfold cn.cut;split<;>rfl
section
variable {a:Wc}{S:cw}{W:cn}{m:Nat->Int}{Y G:List Int}{j:Nat}{g:eg}
theorem cE.made (h:cE a S W m Y G)(hb:cO a S.s){kd:Int}{rl:List Nat}(hk:hc kd (MZ rl)=0)(hr:S.s.y+1+MZ rl<=a.N)(f:∀q∈rl,q<12):
 cE a (S.put a kd rl) {W with T:=W.T++[(kd,rl.map (fun q=>X W.rs q (0,0)),Nb,Nb)]} (n9 m (MZ W.T) S.s.y) (Y++[(S.s.y:Int)]) G:=by
 have p:=uW h.kv hb hk hr (MZ rl) b8
 have b:MZ (rl.map (fun q=>X W.rs q (0,0)))=MZ rl:=aZ ..;have hl:=hb.l1;have g:jd a.N S.s.y kd (MZ rl)=Nc:=by unfold jd;simp;omega
 have c:ge a.N S.s.y kd (MZ rl) S.s.ws=fZ S.s.ws S.s.y (hw kd (MZ rl)) (MZ rl):=by unfold ge;rw[aJ g];rfl
 have i:MZ (ge a.N S.s.y kd (MZ rl) S.s.ws)=MZ S.s.ws:=by rw[c,uV]
 have d:S.s.y+MZ rl<MZ S.s.ws:=aa;have keep:∀q:Int,((0<=q/\q<S.s.y)\/((a.N:Int)<=q/\q<a.N+S.s.g))->ld a.N (S.s.y+1+MZ rl) S.s.g (jr S.s.rs S.s.y (ge a.N S.s.y kd (MZ rl) S.s.ws) rl (MZ rl)) q=ld a.N S.s.y S.s.g S.s.ws q:=fun q hq=>by
  rcases hq with⟨q0,q1⟩|⟨q0,q1⟩
  ·rw[eA (jf q0 aa),eA (jf q0 q1),sC _ _ _ _ _ aa,aI aa,c,kl _ _ _ _ _ d,aI aa,aI aa]
  ·rw[eA (ih q0 q1),eA (ih q0 q1),sC _ _ _ _ _ ((i▸d)),aI aa,c,kl _ _ _ _ _ d,aI aa,aI aa]
 refine h.new ((b▸hk)) (fun v hv=>?_) rfl hr p.k ((b▸p.p)) (fun k hk=>?_) p.h (fun v hv k hk=>?_)
 ·obtain⟨q,hq,rfl⟩:=fo.1 hv;exact(h.root (f q hq)).2
 ·rw[b] at hk;show ld a.N (S.s.y+1+MZ rl) S.s.g (jr S.s.rs S.s.y (ge a.N S.s.y kd (MZ rl) S.s.ws) rl (MZ rl)) _=_;rw[eA (jf aa aa),sC _ _ _ _ _ aa,aJ aa,lJ (fun q=>X W.rs q (0,0)) rl k 0 (0,0) hk,<-(h.root (f _ (getD_in hk))).1,show M ((S.s.y:Int)+1+k)-S.s.y-1=k by omega]
 ·exact keep _ (hv.imp (fun e=>nP h.kv.inv.full e (la k) hk) (fun e=>nQ h.kv.inv.full e (la k) hk))
theorem cE.LP (h:cE a S W m Y G)(hb:cO a S.s)(hg:∀T wt,ey T wt->dB T wt (g T wt))(mm:Int):(S.room a mm).1=(W.room g a.N a.O mm).1/\∃e f i,cE a (S.room a mm).2 (W.room g a.N a.O mm).2 e f i:=by
 have b:=hg _ _ h.iv;unfold cw.room cn.room;rw[h.us hb];by_cases c:mm<=(a.N:Int)-S.s.y
 ·rw[aJ c,aJ c];exact⟨rfl,m,Y,G,h⟩
 ·rw[aI c,aI c];by_cases d:(S.s.y:Int)<=(a.O:Int)-S.s.g
  ·rw[aJ d,bC aa];exact⟨h.Cx hb b,h.cut hb b⟩
  ·rw[aI d,bv aa];exact⟨h.i5 hb b,h.dH hb b⟩
def m9 (a:Wc)(t:Int×Int×cw)(u:(Int×Int)×Int×cn):Prop:=t.2.1=u.2.1/\∃b c d,cE a t.2.2 u.2.2 b c d/\(t.2.1=0->t.1=wv b u.1/\dK u.2.2.T u.1)
theorem cE.grown (h:cE a S W m Y G)(ok:d5 a S j)(hb:cO a S.s)(hg:∀T wt,ey T wt->dB T wt (g T wt)){kd:Int}{rl:List Nat}(hk:hc kd (MZ rl)=0)(i:∀q∈rl,q<12):m9 a (S.b_ a kd rl) (W.b_ g a.N a.O kd (rl.map (fun q=>X W.rs q (0,0)))):=by
 obtain⟨b,k,l,n,f⟩:=h.LP hb hg _;obtain⟨ok',o,hr,_⟩:=ok.room hb _;have hl:=jo kd (MZ rl) hk;unfold m9 cw.b_ cn.b_;rw[aZ];by_cases c:(S.room a (1+MZ rl)).1=0
 ·rw[aJ c,aJ (b.symm.trans c)];rw[<-(LO W g a.N a.O (1+MZ rl))];refine⟨rfl,_,_,_,(f.made o hk aa i),fun _=>⟨?_,⟨fun _=>⟨ac,?_⟩,fun e=>absurd rfl e⟩⟩⟩
  ·rw[i6 rfl];unfold n9;simp
  ·have:=(BZ (t:=(kd,rl.map (fun q=>X (W.room g a.N a.O (1+MZ rl)).2.rs q (0,0)),Nb,Nb)) rfl (MZ (W.room g a.N a.O (1+MZ rl)).2.T)).2 (aK rfl)
   simpa[cn.put] using this
 ·rw[aI c,aI (fun d=>c (b.trans d))];exact⟨b,k,l,n,f,fun d=>absurd d c⟩
theorem cE.kx (h:cE a S W m Y G)(hb:cO a S.s){v:Int×Int}(hv:dK W.T v):(S.kx a (wv m v)=5↔ie W.T v=Nc)/\((S.ex a (wv m v)=0/\S.kx a (wv m v)≠5)↔jy W.T v=Nc)/\(S.ex a (wv m v)=0↔v.1=3)/\(v.1≠3->S.ex a (wv m v)=2)/\(v.1=3->S.fx a (wv m v)=(MZ (X W.T (M v.2) t0).2.1:Int)):=by
 rw[pz,jq];unfold cw.kx cw.ex cw.fx;rw[h.tB hb hv];by_cases c:v.1=3
 ·have d:(v.1==3)=Nc:=by simpa using c
  obtain⟨e,f,g⟩:=h.parts (hv.t c).2;rw[d,aJ rfl,aJ rfl,aJ rfl,(h.vt hb hv c).2,e,f,g];exact⟨⟨fun b=>⟨c,b⟩,fun b=>b.2⟩,⟨fun b=>⟨c,b.2⟩,fun b=>⟨rfl,b.2⟩⟩,⟨fun _=>c,fun _=>rfl⟩,fun b=>absurd c b,fun _=>rfl⟩
 ·simp_all
theorem cE.Cz (h:cE a S W m Y G){A:Nat}(d:A<12)(I:Int):W.fc (X W.rs A (0,0)) I=W.gc A I:=by
 obtain⟨_,hv⟩:=h.root d;unfold cn.fc cn.gc cn.th;by_cases c:(X W.rs A (0,0)).1=3
 ·rw[aJ c];by_cases c5:(X W.T (M (X W.rs A (0,0)).2) t0).1=5
  ·rw[aI (fun b=>(jq.1 b).2 c5),aJ (aK (show(X W.T (M (X W.rs A (0,0)).2) (0,[],Nb,Nb)).1=5 from c5))]
  ·have e:¬((X W.rs A (0,0)).2<0\/(X W.T (M (X W.rs A (0,0)).2) (0,[],Nb,Nb)).1=5):=fun b=>b.elim (fun b=>absurd (hv.t c).1 aa) c5;rw[aJ (jq.2 ⟨c,c5⟩),aI e];rfl
 ·rw[aI c,aI (fun b=>c (jq.1 b).1),aJ (aM ae)]
theorem cE.cU (h:cE a S W m Y G)(hb:cO a S.s){v:Int×Int}(hv:dK W.T v)(g:v.1=3):dW (wv m v) S.q=dW v.2 W.wt:=by
 unfold dW;rw[h.wt,List.findIdx_map];have b:∀e∈W.wt,((we m e).1==wv m v)=(e.1==v.2):=fun e he=>by
  have ho:=h.dF e he;have i:dK W.T (3,e.1):=⟨fun _=>⟨ho.g0,ho.g⟩,fun d=>absurd rfl d⟩
  have f:(we m e).1=wv m (3,e.1):=af;rw[f];by_cases c:e.1=v.2
  ·have:((3,e.1):Int×Int)=v:=by rw[<-g,c]
   rw[this,c];simp
  ·have n1:_:=fun d=>c (by have:=h.BY hb i hv d;rw[<-this])
   rw[beq_eq_false_iff_ne.2 n1,beq_eq_false_iff_ne.2 c]
 generalize W.wt=l at b
 induction l with
 |nil=>rfl
 |cons e l j=>
  rw[MS,MS];have f:((fun e=>e.1==wv m v)∘we m) e=(e.1==v.2):=b e List.mem_cons_self;rw[f,j (fun x k=>b x (aW _ k))]
theorem cE.popped (h:cE a S W m Y G)(hb:cO a S.s){v:Int×Int}(hv:dK W.T v):m9 a (S.pop a (wv m v)) (W.pop v):=by
 obtain⟨k1,_⟩:=h.kx hb hv;unfold m9 cw.pop cn.pop;by_cases c:ie W.T v=Nc
 ·rw[aJ (k1.2 c),aJ c,h.cU hb hv (pz.1 c).1];have f:MZ S.q=MZ W.wt:=by rw[h.wt,aZ]
  rw[f];generalize dW v.2 W.wt=i;by_cases b:i<MZ W.wt
  ·rw[aJ b,aJ b];have ho:=h.dF _ (getD_in (x:=(0,0)) b)
   refine⟨rfl,m,Y,G,?_,fun _=>⟨?_,⟨fun _=>⟨ho.h0,ho.h⟩,fun e=>absurd rfl e⟩⟩⟩
   ·have d:=h.beside (q:=W.wt.take i++W.wt.drop (i+1)) h.gv (fun e he=>h.dF e ((bE.1 he).elim (fun b=>List.mem_of_mem_take b) (fun b=>List.mem_of_mem_drop b)))
    rw[iB,List.map_take,List.map_drop,<-h.rg,<-h.wt] at d;exact d
   ·show(X S.q i (0,0)).2=wv m (3,(X W.wt i (0,0)).2)
    rw[h.wt,lJ (we m) W.wt i (0,0) (0,0) b,i6 rfl];rfl
  ·rw[aI b,aI b];exact⟨rfl,m,Y,G,h,fun e=>absurd (show(4:Int)=0 from e) ae⟩
 ·rw[aI (fun b=>c (k1.1 b)),aI c];exact⟨rfl,m,Y,G,h,fun e=>absurd (show(2:Int)=0 from e) ae⟩
theorem cE.LQ (h:cE a S W m Y G)(hb:cO a S.s){v:Int×Int}(hv:dK W.T v):m9 a (S.len a (wv m v)) (if jy W.T v=Nc then((1,(MZ (X W.T (M v.2) t0).2.1:Int)),0,W) else((0,0),2,W)):=by
 obtain⟨_,b,_,_,k5⟩:=h.kx hb hv;unfold m9 cw.len;by_cases c:jy W.T v=Nc
 ·have hl:=h.tl (M v.2);have ev:vc 1 (MZ (X W.T (M v.2) t0).2.1:Int)=0:=by generalize MZ (X W.T (M v.2) t0).2.1=n at hl;have:∀n:Fin 13,vc 1 ((n.val:Nat):Int)=0:=ae;exact this ⟨n,aa⟩
  rw[aJ (b.2 c),aJ c,k5 (jq.1 c).1];exact⟨ev,m,Y,G,h,fun _=>⟨af,dK.of ae ev⟩⟩
 ·rw[aI (fun d=>c (b.1 d)),aI c];exact⟨rfl,m,Y,G,h,fun e=>absurd (show(2:Int)=0 from e) ae⟩
theorem cE.got (h:cE a S W m Y G)(hb:cO a S.s){A:Nat}(b:A<12)(I:Int):m9 a ((if eO a.N S.s.y S.s.g S.s.ws (X S.s.rs A 0) I=0 then ld a.N S.s.y S.s.g S.s.ws (cr (X S.s.rs A 0)+1+I) else 0),eO a.N S.s.y S.s.g S.s.ws (X S.s.rs A 0) I,S)
 ((if W.fc (X W.rs A (0,0)) I=0 then X (X W.T (M (X W.rs A (0,0)).2) t0).2.1 (M I) (0,0) else(0,0)),W.fc (X W.rs A (0,0)) I,W):=by
 have code:=h.code hb b I;rw[h.Cz b];refine⟨code,m,Y,G,h,fun e=>?_⟩
 have c:=e;obtain⟨er,hv⟩:=h.root b;obtain⟨d,i,t3,g⟩:=nN c;rw[er,h.tB hb hv] at d;have c3:(X W.rs A (0,0)).1=3:=by simpa using d
 obtain⟨z,al⟩:=hv.t c3;rw[er,(h.vt hb hv c3).2,h.kv.inv.full.stands hb.y1 (h.mem al),(h.parts al).2.1] at g;have hB:M I<MZ (X W.T (M (X W.rs A (0,0)).2) t0).2.1:=aa;have f:=h.fd _ al (M I) hB;rw[zg t3] at f;rw[aJ c,aJ (code.symm.trans c),er,(h.vt hb hv c3).2];exact⟨f,h.fv _ al _ (getD_in hB)⟩
def lN (a:Wc)(t:Int×cw)(u:Int×cn):Prop:=t.1=u.1/\∃b c d,cE a t.2 u.2 b c d
theorem cE.LR (h:cE a S W m Y G)(hb:cO a S.s){v u:Int×Int}(hv:dK W.T v)(d:dK W.T u):lN a (S.reg a (wv m v) (wv m u)) (W.reg v u):=by
 obtain⟨_,_,i,k,_⟩:=h.kx hb hv;obtain⟨k1,_⟩:=h.kx hb d;have l:MZ S.r+MZ S.q=MZ W.rg+MZ W.wt:=by rw[h.rg,h.wt,aZ,aZ]
 unfold lN cw.reg cn.reg;rw[l];by_cases c:v.1=3
 ·rw[aJ (i.2 c)];by_cases b:ie W.T u=Nc
  ·rw[aJ (k1.2 b),aJ (show v.1=3/\ie W.T u=Nc from⟨c,b⟩)];by_cases f:24<=MZ W.rg+MZ W.wt
   ·rw[aJ f,aJ f];exact⟨rfl,m,Y,G,h⟩
   ·rw[aI f,aI f];obtain⟨g,n⟩:=pz.1 b;have o:gJ W.T (u.2,v.2):=⟨(d.t g).1,(d.t g).2,n,(hv.t c).1,(hv.t c).2⟩
    have j:=h.beside (fun e he=>by
     rcases bE.1 he with q|q
     ·exact h.gv e q
     ·rw[List.mem_singleton.1 q];exact o) h.dF
    have p:(W.rg++[(u.2,v.2)]).map (we m)=S.r++[(wv m u,wv m v)]:=by rw[iB,<-h.rg,i6 c,i6 g];rfl
    rw[p,<-h.wt] at j;exact⟨rfl,m,Y,G,j⟩
  ·rw[aI (fun q=>b (k1.1 q)),aI (fun q=>b q.2)];exact⟨rfl,m,Y,G,h⟩
 ·rw[aI (fun q=>c (i.1 q)),aI (fun q=>c q.1),k c];exact⟨rfl,m,Y,G,h⟩
theorem cE.LS (h:cE a S W m Y G)(hb:cO a S.s){A B:Nat}(b:A<12)(hB:B<12)(I:Int):lN a (eO a.N S.s.y S.s.g S.s.ws (X S.s.rs A 0) I,S.set a (X S.s.rs A 0) I (X S.s.rs B 0)) (W.set (X W.rs A (0,0)) I (X W.rs B (0,0))):=by
 have code:=h.code hb b I;unfold lN cn.set cw.set;rw[h.Cz b];refine⟨code,m,Y,G,?_⟩
 by_cases c0:W.gc A I=0
 ·rw[aJ c0];have c:=code.trans c0;obtain⟨er,hv⟩:=h.root b;obtain⟨g,i⟩:=h.root hB;obtain⟨d,l,t3,f⟩:=nN c;rw[er,h.tB hb hv] at d;have c3:(X W.rs A (0,0)).1=3:=by simpa using d
  obtain⟨z,al⟩:=hv.t c3;rw[er,(h.vt hb hv c3).2,h.kv.inv.full.stands hb.y1 (h.mem al),(h.parts al).2.1] at f;have hw:gP a.N S.s.y S.s.g S.s.ws (X S.s.rs A 0) I (X S.s.rs B 0)=S.s.ws.set (M (m (M (X W.rs A (0,0)).2)+1+(M I:Nat))) (wv m (X W.rs B (0,0))):=by unfold gP;rw[aJ c,er,(h.vt hb hv c3).2,g];rw[aJ (kW h.kv.inv.full (h.mem al) t3 (((h.parts al).2.1▸f))),zg t3]
  exact h.store hb al aa i hw (h.kv.set hb A B b I hB)
 ·rw[aI c0];have c:_:=fun e=>c0 (code.symm.trans e)
  obtain⟨j,k⟩:=oU c;rw[j,k];exact h
theorem LU (n:Nat)(h:n<=12):hc 2 (n:Int)=0:=by have:∀n:Fin 13,hc 2 ((n.val:Nat):Int)=0:=ae;exact this ⟨n,aa⟩
theorem cE.rt (h:cE a S W m Y G)(ok:d5 a S j)(hb:cO a S.s)(hg:∀T wt,ey T wt->dB T wt (g T wt)){k R A B n:Int}(I:Int)(p:d7 k R A B n=0):m9 a (S.rt a k (M A) (M B) I n) (W.rt g a.N a.O k (M A) (M B) I n):=by
 have b:dl k=3\/dl k=6\/dl k=7->M A<12:=fun s=>by have:=lV p s;omega
 have hB:dl k=6\/dl k=7->M B<12:=fun s=>by have:=mD p s;omega
 have two:∀q∈[M A,M B],dl k=7->q<12:=fun q hq s=>by simp at hq;omega
 unfold cw.rt cn.rt;by_cases d:k=1
 ·rw[aJ d,aJ d];subst d;have ev:=xC p;exact⟨ev,m,Y,G,h,fun _=>⟨af,dK.of ae ev⟩⟩
 rw[aI d,aI d];by_cases e:k=3
 ·rw[aJ e,aJ e];subst e;obtain⟨er,hv⟩:=h.root (b ae)
  exact⟨rfl,m,Y,G,h,fun _=>⟨er,hv⟩⟩
 rw[aI e,aI e];by_cases u:k=4
 ·subst u;exact h.grown ok hb hg (show hc 1 2=0 by decide) (fun q hq=>two q hq ae)
 rw[aI u,aI u];by_cases v:k=5
 ·subst v;have hn:=xB p;have:=h.grown ok hb hg (kd:=2) (rl:=List.replicate (M n) (M A)) ((List.length_replicate▸LU _ aa)) (fun q hq=>(List.eq_of_mem_replicate hq▸b ae))
  rw[List.map_replicate] at this
  exact this
 rw[aI v,aI v];by_cases e6:k=6
 ·subst e6;exact h.grown ok hb hg (show hc 3 2=0 by decide) (fun q hq=>two q hq ae)
 rw[aI e6,aI e6];by_cases w:k=7
 ·subst w;exact h.grown ok hb hg (show hc 4 2=0 by decide) (fun q hq=>two q hq ae)
 rw[aI w,aI w];by_cases t:k=8
 ·rw[aJ t,aJ t];exact h.grown ok hb hg ae (fun q hq=>by cases hq)
 rw[aI t,aI t];by_cases f:k=10
 ·rw[aJ f,aJ f];subst f;obtain⟨er,hv⟩:=h.root (b ae)
  rw[er];exact h.popped hb hv
 rw[aI f,aI f];by_cases i:k=11
 ·rw[aJ i,aJ i];subst i;exact h.got hb (b ae) I
 rw[aI i,aI i];by_cases l:k=13
 ·rw[aJ l,aJ l];subst l;obtain⟨er,hv⟩:=h.root (b ae)
  rw[er];exact h.LQ hb hv
 rw[aI l,aI l];by_cases o:k=14
 ·rw[aJ o,aJ o];subst o;obtain⟨er,hv⟩:=h.root (b ae)
  obtain⟨x,F⟩:=h.root (hB ae)
  rw[er,x];by_cases c:X W.rs (M A) (0,0)=X W.rs (M B) (0,0)
  ·rw[aJ (by rw[c]),aJ c];exact⟨rfl,m,Y,G,h,fun _=>⟨af,dK.of ae ae⟩⟩
  ·rw[aI (fun N=>c (h.BY hb hv F N)),aI c];exact⟨rfl,m,Y,G,h,fun _=>⟨by assumption,dK.of ae ae⟩⟩
 rw[aI o,aI o];exact⟨rfl,m,Y,G,h,fun _=>⟨af,dK.nil _⟩⟩
theorem cE.hds (h:cE a S W m Y G)(ok:d5 a S j)(hb:cO a S.s)(hg:∀T wt,ey T wt->dB T wt (g T wt))(k R A B I n:Int):lN a (S.hd a k R A B I n) (W.fY g a.N a.O k R A B I n):=by
 have f:=hg _ _ h.iv;unfold cw.hd cn.fY;by_cases b:d7 k R A B n=0
 ·rw[aJ b,aJ b];have p:dl k=3\/dl k=6\/dl k=7->M A<12:=fun l=>by have:=lV b l;omega
  have hB:dl k=6\/dl k=7->M B<12:=fun l=>by have:=mD b l;omega
  by_cases d:k=9
  ·rw[aJ d,aJ d];subst d;obtain⟨er,hv⟩:=h.root (p ae)
   obtain⟨ad,ag⟩:=h.root (hB ae)
   rw[er,ad];exact h.LR hb hv ag
  rw[aI d,aI d];by_cases e:k=12
  ·rw[aJ e,aJ e];subst e;exact h.LS hb (p ae) (hB ae) I
  rw[aI e,aI e];by_cases i:k=15
  ·rw[aJ i,aJ i];exact⟨h.Cx hb f,h.cut hb f⟩
  rw[aI i,aI i];by_cases e16:k=16
  ·rw[aJ e16,aJ e16];exact⟨h.i5 hb f,h.dH hb f⟩
  rw[aI e16,aI e16];have ht:=h.rt ok hb hg I b;obtain⟨o1,q,_⟩:=ok.rt hb (M A) (M B) I (tD b)
  generalize S.rt a k (M A) (M B) I n=t at*;generalize W.rt g a.N a.O k (M A) (M B) I n=u at*;obtain⟨x,cd,ai⟩:=t;obtain⟨v,al,am⟩:=u;obtain⟨s,w,F,N,o,ab⟩:=ht;dsimp only at s o ab q⊢;subst s;by_cases c:cd=0
  ·rw[aJ c,aJ c];obtain⟨ex,hv⟩:=ab c;subst ex;exact⟨rfl,w,F,N,o.put q (M R) hv⟩
  ·rw[aI c,aI c];exact⟨rfl,w,F,N,o⟩
 ·rw[aI b,aI b];exact⟨rfl,m,Y,G,h⟩
end
namespace qp
def begins (n:Nat):Code->Bool
 |.region m _ _=>m==n
 |.seq a _=>begins n a
 |_=>Nb
def find (n:Nat):Code->Option Code
 |.seq a b=>match begins n a with
  |true=>Z (.seq a b)
  |false=>match find n a with
   |some c=>Z c
   |none=>find n b
 |.cond _ a b=>match find n a with
  |some c=>Z c
  |none=>find n b
 |.block _ c=>find n c
 |.loop c=>find n c
 |.scope c=>find n c
 |_=>none
theorem hD {c:Type}(l:List c)(i:Nat)(a b:c):(l.set i a).set i b=l.set i b:=ac
end qp
namespace dL
def begins:=qp.begins
abbrev find:=qp.find
end dL
namespace qp
end qp
namespace dL
end dL
namespace dL
end dL
namespace dL
end dL
section
variable {a:Wc}{S:cw}{W:cn}{m:Nat->Int}{Y G:List Int}
theorem dK.vq {T:List cJ}{v:Int×Int}(hv:dK T v)(d:MZ T<=10000):fz T v:=by
 refine⟨?_,hv.t⟩
 by_cases b:v.1=3
 ·obtain⟨h0,c⟩:=hv.t b;have:=c.1;rw[b];exact oe _ h0 aa
 ·exact hv.o b
abbrev sD (W:cn)(x:Int):Prop:=0<=x/\cA W.T (M x)
abbrev sE (m:Nat->Int)(x:Int):Int:=m (M x)
theorem cE.wj (h:cE a S W m Y G)(hb:cO a S.s)(c:MZ W.T<=10000){v:Int×Int}(hv:dK W.T v):kB (sD W) (sE m) (ga v) (wv m v):=by
 obtain⟨d,e⟩:=lU (hv.vq c)
 obtain⟨_,f,g⟩:=h.dec hb hv;unfold kB;rw[d,e,f,g];by_cases b:v.1=3
 ·rw[aJ b];exact aM ⟨b,b,hv.t b,rfl⟩
 ·rw[aI b];exact aK ⟨b,rfl,rfl⟩
theorem cE.bi (h:cE a S W m Y G)(hb:cO a S.s)(g:MZ W.T<=10000):oX (sD W) (sE m) (tI (MZ W.T)) (gX W.T) (gb W.T W.wt) (Y++G) (fun v=>pk (ld a.N S.s.y S.s.g S.s.ws v)) (ft a.N S.s.y S.s.g S.s.ws S.q):=by
 refine⟨fun x b=>nr.2 ⟨b.1,by have:=b.2.1;have:=b.1;omega⟩,fun x b=>bE.2 (h.mem b.2),fun x y b hy e=>?_,fun x b=>?_,fun x b=>?_⟩
 ·have:=h.inj _ _ b.2 hy.2 e;have:=b.1;have:=hy.1;omega
 ·exact(h.parts b.2).1
 ·obtain⟨p,hi⟩:=b;obtain⟨i,rfl⟩:=Int.eq_ofNat_of_zero_le p;rw[bI] at hi;obtain⟨j,q,_⟩:=h.parts hi;have hv:=h.mem hi;show jj _ _ (ft a.N S.s.y S.s.g S.s.ws S.q (m (M ((i:Int)))))
  unfold gb;rw[bI];by_cases d:(X W.T i t0).1=5
  ·have hl:(X W.T i t0).2.1=[]:=by have f:=(h.hd i hi).1;rw[d] at f;simp[hc] at f;exact f
   rw[aJ d,hl,List.map_nil,List.nil_append];unfold ft;rw[aJ (by rw[j];exact d)];unfold eK;rw[h.wt,lR (we m) (fun e=>e.1==ew 3 (m i)) (fun e=>e.1==(i:Int)) W.wt (fun e he=>?_),yB]
   ·have key:∀l:List cf,(∀e∈l,gJ W.T e)->jj (kB (sD W) (sE m)) (l.map (fun e=>ew 3 e.2)) (l.map ((·.2)∘we m)):=by
     intro l
     induction l with
     |nil=>intro _;trivial
     |cons e l s=>
      intro hl;have he:=hl e ac;refine⟨?_,s (fun x b=>hl x (aW _ b))⟩
      have:=h.wj hb g (v:=(3,e.2)) ⟨fun _=>⟨he.h0,he.h⟩,fun c=>absurd rfl c⟩
      exact this
    exact key _ (fun e he=>h.dF e (bM.1 he).1)
   ·have he:=h.dF e he;show(ew 3 _==ew 3 (m i))=(e.1==(i:Int))
    by_cases n:e.1=(i:Int)
    ·rw[n,bI];simp
    ·have n1:ew 3 (m (M e.1))≠ew 3 (m i):=fun c=>by have c1:=(h.word hb he.g).2.2;rw[c,(h.word hb hi).2.2] at c1;have:=h.inj _ _ hi he.g c1;have:=he.g0;omega
     rw[beq_false_of_ne n1,beq_false_of_ne n]
  ·rw[aI d,List.append_nil];have o:pk (ld a.N S.s.y S.s.g S.s.ws (m i))≠5:=by rw[j];exact d
   have l1:=Ab h.kv.inv.full hb.y1 S.q hv o;rw[q] at l1;have l1:MZ (ft a.N S.s.y S.s.g S.s.ws S.q (m i))=MZ (X W.T i t0).2.1:=aa;refine jj.of (by rw[aZ];exact l1.symm) (fun k hk=>?_)
   rw[aZ] at hk;rw[(H5 h.kv.inv.full hb.y1 S.q hv o).1 k aa,lJ ga _ k (0,0) 0 hk,h.fd i hi k hk];exact h.wj hb g (h.fv i hi _ (getD_in hk))
theorem cE.view (h:cE a S W m Y G)(hb:cO a S.s)(b:MZ W.T<=10000):(i2 a.N S.s.y S.s.g S.s.ws S.q S.s.rs).1=(dL.eh W.T W.wt W.rs).1/\(i2 a.N S.s.y S.s.g S.s.ws S.q S.s.rs).2.2=(dL.eh W.T W.wt W.rs).2.2:=by
 obtain⟨c,d⟩:=h.kv.inv.full.lists hb.n1 hb.y1 hb.o1 hb.g1;have hl:jj (kB (sD W) (sE m)) (W.rs.map ga) S.s.rs:=by
  rw[h.rs];refine jj.of ac (fun i hi=>?_)
  rw[aZ] at hi;rw[lJ ga _ i (0,0) 0 hi,lJ (wv m) _ i (0,0) 0 hi];exact h.wj hb b (h.rv _ (getD_in hi))
 unfold i2 dL.eh;rw[c,d];obtain⟨b1,b2,_⟩:=AE (h.bi hb b) hl (by rw[lS];exact aG _) b8
 exact⟨b1.symm,b2⟩
end
end Go.Proofs.YtpkjkjhanlbcoaaGreat
