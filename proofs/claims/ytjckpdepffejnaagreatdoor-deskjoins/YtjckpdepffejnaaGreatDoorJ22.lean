import Derived.Test.YtjckpdepffejnaaGreatDoorJ21
open Bool renaming and_eq_true->nS,false->O4,true->O5
open Int renaming natCast_nonneg->nC,toNat->K
open List renaming contains_iff_mem->bT,getD->X,length->OQ,map_append->bV,mem_append->bw,mem_filter->bK,mem_iff_getElem->bP,mem_map->bS,mem_singleton->bN,range->lg
namespace Go.Proofs.YtjckpdepffejnaaGreatDoor
open Go.RowKit W Kp ch
def gF (P:Nat->Bool)(z:Nat->Nat):Nat->Nat
 |0=>0
 |n+1=>gF P z n+if P n=O5 then z n else 0
theorem CS {P:Nat->Bool}{z:Nat->Nat}{m:Nat->Int}{f:Int->Nat}:∀n,(∀i,i<n->P i=O5->f (m i)=z i)->gF P z n=iI f (((lg n).filter P).map m)
 |0,_=>by rfl
 |n+1,h=>by
  rw[gF,CS n (λi hi hp=>h i aa hp),List.range_succ,List.filter_append,bV,It]
  grind [iI]
theorem xn {P:Nat->Bool}{z:Nat->Nat}{m:Nat->Int}{f:Int->Nat}{n:Nat}{l:List Int}(b:∀i,i<n->P i=O5->f (m i)=z i)(hn:l.Nodup)(inj:∀i j,i<n->j<n->P i=O5->P j=O5->m i=m j->i=j)(hl:∀v,v∈l↔∃i,i<n/\P i=O5/\m i=v):gF P z n=iI f l:=by
 rw[CS n b];have c:∀v,v∈((lg n).filter P).map m↔v∈l:=λv=>by grind
 have nd:(((lg n).filter P).map m).Nodup:=by grind [List.Pairwise.imp_of_mem,List.nodup_range]
 exact Nat.le_antisymm (by simp_all [AJ]) (by simp_all [AJ])
theorem MP {P Q:Nat->Bool}{z b:Nat->Nat}:∀n,(∀i,i<n->P i=Q i/\(P i=O5->z i=b i))->gF P z n=gF Q b n
 |0,_=>rfl
 |n+1,h=>by
  obtain⟨c,d⟩:=h n aa;rw[gF,gF,MP n (λi hi=>h i aa),<-c]
  grind
theorem CT {P Q:Nat->Bool}{z:Nat->Nat}:∀n,(∀i,i<n->P i=O5->Q i=O5)->gF P z n<=gF Q z n
 |0,_=>aG _
 |n+1,h=>by
  have b:=CT (z:=z) n (λi hi=>h i aa)
  grind [gF]
theorem CU {P Q R:Nat->Bool}{z:Nat->Nat}:∀n,(∀i,i<n->R i=(P i||Q i)/\(P i&&Q i)=O4)->gF R z n=gF P z n+gF Q z n
 |0,_=>rfl
 |n+1,h=>by
  obtain⟨b,c⟩:=h n aa;rw[gF,gF,gF,(CU n (λi hi=>h i aa)),b]
  grind
def jh (T:List cH)(i:Nat):Nat:=1+OQ (X T i t0).2.1
def kj (T:List cH)(i:Nat):Bool:=!(X T i t0).2.2.2&&!(X T i t0).2.2.1
def oB (T:List cH)(i:Nat):Bool:=!(X T i t0).2.2.2&&(X T i t0).2.2.1
theorem CV (T:List cH):∀n,n<=OQ T->ei (T.take n)=((gF (kj T) (jh T) n:Int),(gF (oB T) (jh T) n:Int))
 |0,_=>by rfl
 |n+1,h=>by
  rw[h_ T n aa t0,zS,CV T n aa];show mc _ _=(((gF (kj T) (jh T) n+if kj T n=O5 then jh T n else 0:Nat):Int),((gF (oB T) (jh T) n+if oB T n=O5 then jh T n else 0:Nat):Int))
  grind [mc,kj,oB,jh]
theorem CW (T:List cH):ei T=((gF (kj T) (jh T) (OQ T):Int),(gF (oB T) (jh T) (OQ T):Int)):=by
 have:=CV T (OQ T) aa
 grind
theorem xo (T:List cH)(L:List Bool):∀n,jg T L n=(gF (λi=>X L i O4) (jh T) n:Int)
 |0=>rfl
 |n+1=>by
  rw[jg,xo T L n,gF]
  grind [jh]
section
variable {a:Wc}{S:cv}{W:ck}{m:Nat->Int}{Y G:List Int}
theorem cE.size (h:cE a S W m Y G){i:Nat}(hi:cz W.T i):oE (ld a.N S.s.y S.s.g S.s.ws) (m i)=jh W.T i:=by grind [parts,oE,jh]
theorem nQ {T:List cH}{i:Nat}(b:i<OQ T)(c:(X T i t0).2.2.2=O4):cz T i:=⟨b,c⟩
theorem cE.us (h:cE a S W m Y G)(hb:cL a S.s):ei W.T=((S.s.y:Int),(S.s.g:Int)):=by
 have g:=hb.y1;have k:gF (kj W.T) (jh W.T) (OQ W.T)=iI (oE (ld a.N S.s.y S.s.g S.s.ws)) Y:=by
  refine xn (m:=m) (λi hi hp=>?_) h.kv.inv.full.ty.nodup (λi j hi b hp hq e=>?_) (λv=>⟨λhv=>?_,?_⟩)
  ·grind [size,nQ,kj]
  ·unfold kj at hp hq;simp at hp hq;exact h.inj i j (nQ hi hp.1) (nQ b hq.1) e
  ·obtain⟨i,hi,e⟩:=h.gV v (by grind)
   refine⟨i,hi.1,?_,e⟩
   unfold kj;rw[hi.2];cases c:(X W.T i t0).2.2.1
   ·rfl
   ·have d:=h.kv.inv.full.io _ (h.old i hi c)
    have f:=h.kv.inv.full.jr v hv;omega
  ·rintro⟨i,hi,hp,e⟩
   unfold kj at hp;simp at hp;rw[<-e];exact h.i9 i (nQ hi hp.1) hp.2
 have l:gF (oB W.T) (jh W.T) (OQ W.T)=iI (oE (ld a.N S.s.y S.s.g S.s.ws)) G:=by
  refine xn (m:=m) (λi hi hp=>?_) h.kv.inv.full.eC.nodup (λi j hi b hp hq e=>?_) (λv=>⟨λhv=>?_,?_⟩)
  ·grind [size,nQ,oB]
  ·unfold oB at hp hq;simp at hp hq;exact h.inj i j (nQ hi hp.1) (nQ b hq.1) e
  ·obtain⟨i,hi,e⟩:=h.gV v (by grind)
   refine⟨i,hi.1,?_,e⟩
   unfold oB;rw[hi.2];cases c:(X W.T i t0).2.2.1
   ·have d:=h.kv.inv.full.jr _ (h.i9 i hi c)
    have f:=h.kv.inv.full.io v hv;omega
   ·rfl
  ·rintro⟨i,hi,hp,e⟩
   unfold oB at hp;simp at hp;rw[<-e];exact h.old i (nQ hi hp.1) hp.2
 have n:=h.kv.inv.full.ty.sum;have o:=h.kv.inv.full.eC.sum
 grind [CW]
end
theorem cE.start (a:Wc)(n o:Nat):cE a (jv n o).1 (jv n o).2 (λ_=>0) [] []:=by
 have no:∀i,¬cz (jv n o).2.T i:=λi hi=>absurd hi.1 (Nat.not_lt_zero i)
 have c:∀x∈(jv n o).1.s.rs,di x=O5->cq x∈([]:List Int)\/cq x∈([]:List Int):=λx b ha=>by
  have b:x∈tw 2 12:=b
  simp_all [A_,tw]
 exact
 {
  kv:=⟨⟨ey.start,c,λv hv=>(by simp_all)⟩,λv hv=>(by grind)⟩
  rl:=af,rv:=λv hv=>(List.eq_of_mem_replicate hv▸dL.nil _)
  fv:=λi hi=>(by grind),rs:=af
  i9:=λi hi=>(by grind),old:=λi hi=>(by grind),inj:=λi _ hi=>(by grind)
  gV:=λv hv=>by simp_all
  hd:=λi hi=>(by grind),fd:=λi hi=>(by grind),rg:=rfl,gv:=λe he=>(by cases he),wt:=rfl,dH:=λe he=>(by cases he)
  tl:=λi=>by simp[jv,t0]}
section
variable {a:Wc}{S:cv}{W:ck}{m:Nat->Int}{Y G:List Int}
theorem cE.xh (h:cE a S W m Y G)(c:OQ W.T<=10000)(d:OQ W.rg<=1000)(b:OQ W.wt<=1000):fX W:=
 {
  iv:=⟨λi hi hk=>by have:=qf _ _ (h.hd i hi).1;omega,λi hi v hv b=>(h.fv i hi v hv).t b,λe he=>⟨(h.dH e he).h0,(h.dH e he).h⟩,h.tl⟩
  rv:=λv hv b=>(h.rv v hv).t b
  gv:=λe he=>⟨⟨(h.gv e he).g0,(h.gv e he).g⟩,(h.gv e he).h0,(h.gv e he).h⟩
  wg:=λe he=>⟨(h.dH e he).g0,(h.dH e he).g⟩
  tl:=c,gl:=d,wl:=b}
theorem cE.iv (h:cE a S W m Y G):e6 W.T W.wt:=
 ⟨λi hi hk=>by have:=qf _ _ (h.hd i hi).1;omega,λi hi v hv b=>(h.fv i hi v hv).t b,λe he=>⟨(h.dH e he).h0,(h.dH e he).h⟩,h.tl⟩
theorem cE.first (h:cE a S W m Y G)(mj:Bool):hQ W.T (k9 W.T W.rs mj):=
 ⟨BE _ _ _,λk hk=>by
  obtain⟨c,b⟩:=(lM _ _ _ _).1 hk;rcases b with⟨_,b,_⟩|⟨v,hv,d,e⟩
  ·exact⟨c,b⟩
  ·rw[<-e];exact((h.rv v hv).t d).2⟩
theorem cE.field (h:cE a S W m Y G){i:Nat}(hi:cz W.T i){v:Int×Int}(hv:v∈(X W.T i t0).2.1):∃k:Nat,k<OQ (X W.T i t0).2.1/\X (X W.T i t0).2.1 k (0,0)=v/\ld a.N S.s.y S.s.g S.s.ws (m i+1+k)=wv m v:=by grind [fd,bP]
theorem cE.two (h:cE a S W m Y G){i:Nat}(hi:cz W.T i)(hk:(X W.T i t0).1=1\/(X W.T i t0).1=3\/(X W.T i t0).1=4):OQ (X W.T i t0).2.1=2:=by have:=qf _ _ (h.hd i hi).1;omega
end
structure lR (k:cf)(z:C0)(C:Int->Prop):Prop where
 old:∀b∈z.G,C b
 p:∀c,(c∈k.T\/c∈z.G)->C c->pk (k.l0 z c)=1\/pk (k.l0 z c)=2->∀i:Nat,(i:Int)<pf (k.l0 z c)->k.cP (k.l0 z (c+1+i))=O5->C (cq (k.l0 z (c+1+i)))
 w:∀c,(c∈k.T\/c∈z.G)->C c->pk (k.l0 z c)=3->k.cP (k.l0 z (c+1+1))=O5->C (cq (k.l0 z (c+1+1)))
 e:∀c,(c∈k.T\/c∈z.G)->C c->pk (k.l0 z c)=4->(k.cP (k.l0 z (c+1+0))=O5->C (cq (k.l0 z (c+1+0))))->k.cP (k.l0 z (c+1+1))=O5->C (cq (k.l0 z (c+1+1)))
def mF (k:cf)(C:Int->Prop)(q:List b8):Prop:=∀e∈q,(k.cP e.1=O5->C (cq e.1))->k.cP e.2=O5->C (cq e.2)
def dm (k:cf)(C:Int->Prop)(s:cn):Prop:=∀a∈k.T,s.f a≠-1->C a
section
variable {k:cf}{z:C0}{s t:cn}{H D:List Int}{C:Int->Prop}
theorem oS {x:Int}(h:k.cP x=O5):cq x∈k.T:=by grind [cf.cP]
theorem nR {x:Int}(h:k.ls s x=O5):k.cP x=O5:=by grind [cf.ls]
theorem dm.br (h:dm k C s)(x:Int)(d:k.cP x=O5->C (cq x)):dm k C (k.br s x).2:=by
 unfold cf.br;split
 ·rename_i c;intro b hb f;by_cases e:b=cq x
  ·grind [nR]
  ·refine h b hb ?_
   simp_all [cf.cp,ic]
 omega
theorem dK.tM (h:dK k z s H){a b i:Int}(ho:k.or z s a b)(c:0<=i)(d:i<pf (k.l0 z a))(hl:k.cP (k.ld s (b+1+i))=O5):k.ld s (b+1+i)=k.l0 z (a+1+i):=by
 rcases h.fd a b ho i c d with e|⟨y1,f,g⟩
 ·omega
 ·have hb:=h.jR (h.fh _ (oS y1) f)
  have n1:=h.ci.hN';have j:=h.ci.hO;have l:=h.ci.hg;rw[g,oD h.ci hb.1 aa] at hl
  grind
theorem dm.kf (h:dm k C s)(mi:dK k z s H){a b i:Int}(ho:k.or z s a b)(c:0<=i)(d:i<pf (k.l0 z a))(e:k.cP (k.l0 z (a+1+i))=O5->C (cq (k.l0 z (a+1+i)))):dm k C (k.kf s (b+1+i)):=
 h.br _ (by grind [dK.tM])
theorem dm.hJ (h:dm k C s)(mi:dK k z s H){a b:Int}(ho:k.or z s a b)(c:∀i:Nat,(i:Int)<pf (k.l0 z a)->k.cP (k.l0 z (a+1+i))=O5->C (cq (k.l0 z (a+1+i)))):∀n:Nat,(n:Int)<=pf (k.l0 z a)->dm k C (k.hJ s b n)
 |0,_=>h
 |n+1,hn=>by obtain⟨e,m1,d,_⟩:=mi.hJ ho n aa;exact(dm.hJ h mi ho c n aa).kf m1 (d.or ho) aa aa (by grind)
theorem xp {a b:Int}(ho:k.or z s a b):a∈k.T\/a∈z.G:=by
 rcases ho with⟨e,h⟩|⟨h,_⟩
 all_goals grind
theorem dm.or (h:dm k C s)(d:lR k z C){a b:Int}(ho:k.or z s a b):C a:=by
 rcases ho with⟨e,c⟩|⟨c,f,g⟩
 ·grind [lR.old]
 ·exact h a c aa
theorem dm.lk (h:dm k C s)(mi:dK k z s H)(c:lR k z C){a b:Int}(ho:k.or z s a b):dm k C (k.lk s b):=by
 have ha:=h.or c ho;have hm:=xp ho;have e:=mi.hd a b ho;have hb:=mi.bd (mi.mem ho)
 have j:=du (k.ld s b)
 unfold cf.lk;by_cases c1:pk (k.ld s b)=1\/pk (k.ld s b)=2
 ·rw[aN c1];exact h.hJ mi ho (c.p a hm ha (by simp_all)) _ (by rw[<-e];omega)
 ·rw[aJ c1];by_cases c3:pk (k.ld s b)=3
  ·rw[aN c3];have l:=iJ hb.2.2 (aI (aK c3))
   have hN:=mi.ci.hN';have hO:=mi.ci.hO;have hg:=mi.ci.hg;have f:=mi.turn (s.wk++[b]) s.ep s.rs s.nx (λx g=>by
    rcases bw.1 g with d|d
    ·exact mi.ci.jc x d
    ·rw[bN] at d;omega) mi.ci.i1 mi.ci.i0 mi.ci.kw
   have i:dm k C {s with wk:=s.wk++[b],ep:=s.ep,rs:=s.rs,nx:=s.nx}:=h;have m:=i.kf f ho aa (by simp_all) (c.w a hm ha ((e▸c3)))
   grind
  ·rw[aJ c3];split
   ·exact h
   ·exact h
theorem dm.lb (b:lR k z C):∀(n:Nat){s:cn}{H:List Int},LI k z s H D->dm k C s->dm k C (k.lb n s)
 |0,_,_,_,h=>h
 |n+1,s,H,l,h=>by
  unfold cf.lb;cases hn:hB k.N s.g s.nx
  ·simp_all
  ·have hb:=kM hn;obtain⟨a,ho⟩:=l.mi.from (List.mem_append_right z.G (l.bo.resolve_right aa))
   obtain⟨c,m1,_,_⟩:=l.l9 hn;exact dm.lb b n m1 (h.lk l.mi b ho)
theorem dm.key (h:dm k C s)(mi:dK k z s H){a b:Int}(ho:k.or z s a b)(c:0<pf (k.l0 z a))(hl:k.ls s (k.ld s (b+1))=O4)(hy:k.cP (k.l0 z (a+1+0))=O5):C (cq (k.l0 z (a+1+0))):=by
 refine h _ (oS hy) ?_;have f:b+1+0=b+1:=aa;rcases mi.fd a b ho 0 aa c with e|⟨y1,g,_⟩
 ·rw[f] at e;intro d;unfold cf.ls at hl;rw[e,hy,d] at hl;simp at hl
 ·exact g
theorem dm.sF (h:dm k C s)(l:LI k z s H D)(c:lR k z C){b:Int}(hb:b∈z.G++H)(f:pk (k.ld s b)=4)(d:k.ls s (k.ld s (b+1))=O4):dm k C (k.kf (k.kf s (b+1)) (b+2)):=by
 obtain⟨a,o⟩:=l.mi.from hb;have n:=iJ (l.mi.bd hb).2.2 (aI (aI f))
 have p:=l.mi.hd a b o;have g:b+1+0=b+1:=aa;have j:b+1+1=b+2:=aa;obtain⟨q,m1,m,_,_⟩:=l.mi.kf (i:=0) o aa (by simp_all)
 have e:=(h.kf l.mi o aa (by simp_all) (h.key l.mi o (by simp_all) d)).kf m1 (m.or o) aa (by simp_all) (c.e a (xp o) (h.or c o) (by simp_all) (h.key l.mi o (by simp_all) d))
 rw[g,j] at e;exact e
theorem dm.jd (c:lR k z C):∀(l left:List Int){s:cn}{H:List Int},LI k z s H D->(∀a∈l,a∈z.G++H/\pk (k.ld s a)=4)->dm k C s->dm k C (l.foldl k.cX (left,s)).2
 |[],_,_,_,_,_,h=>h
 |b::l,left,s,H,li,hl,h=>by
  rw[a8];cases hls:k.ls s _
  ·have d:k.cX (left,s) b=(left,k.kf (k.kf s (b+1)) (b+2)):=by unfold cf.cX;rw[aJ (by rw[hls];simp)]
   rw[d];obtain⟨e,f⟩:=hl b ac;obtain⟨m,m1,g,i,n,o⟩:=li.sF e f;exact dm.jd c l left m1 (λa ha=>by
    obtain⟨n1,j⟩:=hl a (bj _ ha)
    exact⟨AU i n1,(g.hd li.mi m1.mi n1▸j)⟩) (h.sF li c e f hls)
  ·have d:k.cX (left,s) b=(left++[b],s):=by unfold cf.cX;rw[aN hls]
   rw[d];exact dm.jd c l _ li (λa ha=>hl a (bj _ ha)) h
theorem dm.kv (b:lR k z C)(l:LI k z s H D)(w:dU k z s H)(h:dm k C s):dm k C (k.kv s).2:=dm.jd b s.ep [] l w.ep h
theorem dm.lI:∀(l:List Nat)(t:(cn×List b8)×Bool)(H:List Int),LI k z t.1.1 H D->dU k z t.1.1 H->(∀i∈l,i<OQ t.1.2)->mF k C t.1.2->dm k C t.1.1->dm k C (l.foldl (dN k.al k.br) t).1.1/\mF k C (l.foldl (dN k.al k.br) t).1.2
 |[],_,_,_,_,_,q,h=>⟨h,q⟩
 |i::l,t,H,li,w,hl,q,h=>by
  rw[a8];by_cases c:(k.al t.1.1 (X t.1.2 i (0,0)).2||!k.al t.1.1 (X t.1.2 i (0,0)).1)=O5
  ·have b:dN k.al k.br t i=t:=by unfold dN;rw[aN c]
   rw[b];exact dm.lI l t H li w (λj e=>hl j (bj _ e)) q h
  ·have b:dN k.al k.br t i=(((k.br t.1.1 (X t.1.2 i (0,0)).2).2,t.1.2.set i ((X t.1.2 i (0,0)).1,(k.br t.1.1 (X t.1.2 i (0,0)).2).1)),O5):=by unfold dN;rw[aJ c]
   obtain⟨f,l1,w1,g,_⟩:=df.br _ H li w;obtain⟨_,_,_,y1,_,_,_⟩:=li.mi.br _;have c2:k.al t.1.1 (X t.1.2 i (0,0)).1=O5:=by simp_all
   have hg:k.cP (X t.1.2 i (0,0)).1=O5->_:=λhy=>h _ (oS hy) (λd=>by unfold cf.al cf.ls at c2;rw[hy,d] at c2;simp at c2)
   rw[b];refine dm.lI l _ f l1 w1 (λj e=>?_) ?_ (h.br _ (q _ (fL (hl i ac)) hg))
   ·simp_all
   ·intro d hd;have hd:=hd;rcases List.mem_or_eq_of_mem_set hd with hd|rfl
    ·exact q d hd
    ·intro _ hy;rw[y1] at hy;cases hy
theorem dm.wa {t:cn×List b8}(l:LI k z t.1 H D)(w:dU k z t.1 H)(q:mF k C t.2)(h:dm k C t.1):dm k C (k.wa t).1.1/\mF k C (k.wa t).1.2:=
 dm.lI _ (t,O4) H l w (λ_ hi=>List.mem_range.1 hi) q h
theorem dm.de (b:lR k z C):∀(n:Nat)(t:cn×List b8)(H:List Int),LI k z t.1 H D->dU k z t.1 H->mF k C t.2->dm k C t.1->dm k C (k.de n t).1/\mF k C (k.de n t).2
 |0,_,_,_,_,q,h=>⟨h,q⟩
 |n+1,t,H,l,w,q,h=>by
  obtain⟨g,l1,w1,o,_⟩:=df.lb (k.O+1) H l w;obtain⟨d,l2,c,p,_⟩:=df.kv g l1 w1;have e:=dm.kv b l1 w1 (dm.lb b (k.O+1) l h)
  obtain⟨i,j,m,_,_⟩:=df.wa ((k.kv _).2,t.2) d l2 c;obtain⟨f,q3⟩:=dm.wa (t:=((k.kv _).2,t.2)) l2 c q e;unfold cf.de;split
  ·exact dm.de b n ((k.kv _).2,t.2) d l2 c q e
  ·split
   ·exact dm.de b n _ i j m q3 f
   ·exact⟨f,q3⟩
theorem dm.ke (b:lR k z C){t:cn×List b8}(l:LI k z t.1 H D)(w:dU k z t.1 H)(q:mF k C t.2)(h:dm k C t.1)(x:Int)(c:k.cP x=O5->C (cq x)):dm k C (k.ke t x).2.1/\mF k C (k.ke t x).2.2:=by obtain⟨d,l1,w1,_,_⟩:=df.br x H l w;exact dm.de b _ ((k.br t.1 x).2,t.2) d l1 w1 q (h.br x c)
theorem dm.cO (l:LI k z s H D)(h:dm k C s)(hr:∀i,i<OQ s.rs->k.cP (X s.rs i 0)=O5->C (cq (X s.rs i 0))):∀n,n<=OQ s.rs->dm k C (k.cO s n)
 |0,_=>h
 |n+1,hn=>by
  obtain⟨_,_,_,_,_,_,b,_⟩:=LI.cO l n aa;have:=(dm.cO l h hr n aa).br (X (k.cO s n).rs n 0) (((b n bY)▸hr n aa))
  exact this
theorem dm.lm (e:lR k z C)(c:Int)(M:List Int)(hz:eR (k.l0 z) ((k.N:Int)+z.g) k.N z.G):∀(l:List Int){s:cn}{H D:List Int},LI k z s H D->(∀a∈l,a∈z.G\/(k.N:Int)+z.g<=a)->dm k C s->dm k C (l.foldl (k.hK ((k.N:Int)+z.g) c M) s)
 |[],_,_,_,_,_,h=>h
 |b::l,s,H,D,li,hl,h=>by
  rw[a8];have i:=du (k.ld s b)
  by_cases d:b∈z.G/\(gR k.N c b&&M.contains (cN k.N b))=O5
  ·have hb:=(hz.mem b d.1).2.1;have f:k.hK ((k.N:Int)+z.g) c M s b=k.lk s b:=by unfold cf.hK;rw[aN (by rw[(li.mi.hd b b (aK ⟨rfl,d.1⟩))];omega),aN d.2]
   rw[f];obtain⟨j,m1,m,⟨n,o⟩⟩:=li.lk d.1;exact dm.lm e c M hz l m1 (λa ha=>hl a (bj _ ha)) (h.lk li.mi e (aK ⟨rfl,d.1⟩))
  ·have f:k.hK ((k.N:Int)+z.g) c M s b=s:=by
    unfold cf.hK;by_cases g:b∈z.G
    ·simp_all
    ·have:=(hl b ac).resolve_left g;rw[aJ aa]
   rw[f];exact dm.lm e c M hz l li (λa ha=>hl a (bj _ ha)) h
end
section
variable {k:cf}{z:C0}{s t:cn}{H D:List Int}
theorem CX (k:cf):∀(l left:List Int)(s:cn),OQ left+OQ l<=OQ (l.foldl k.cX (left,s)).1->l.foldl k.cX (left,s)=(left++l,s)/\∀a∈l,k.ls s (k.ld s (a+1))=O5
 |[],left,s,_=>(by grind)
 |b::l,left,s,h=>by
  rw[a8] at h⊢;cases hls:k.ls s _
  ·have c:k.cX (left,s) b=(left,k.kf (k.kf s (b+1)) (b+2)):=by unfold cf.cX;rw[aJ (by rw[hls];simp)]
   grind [sG]
  ·have c:k.cX (left,s) b=(left++[b],s):=by grind [cf.cX]
   rw[c] at h⊢;obtain⟨d,e⟩:=CX k l (left++[b]) s (by grind)
   grind
theorem MQ (h:(k.kv s).1=O4):(k.kv s).2=s/\∀a∈s.ep,k.ls s (k.ld s (a+1))=O5:=by
 unfold cf.kv cf.em at h⊢;obtain⟨b,c⟩:=CX k s.ep [] s (by simp_all)
 rw[b];exact⟨rfl,c⟩
theorem xq:∀(n:Nat)(t:cn×List b8)(H:List Int),LI k z t.1 H D->dU k z t.1 H->eD k t.1->k.mu t.1<n->∀b∈(k.de n t).1.ep,k.ls (k.de n t).1 (k.ld (k.de n t).1 (b+1))=O5
 |0,t,H,_,_,_,e=>aa
 |n+1,t,H,h,w,hb,e=>by
  obtain⟨u,l1,w1,_,_,v⟩:=LI.pH (k.O+1) h w;obtain⟨c1,c2,c3⟩:=CI.lb h.mi.ci hb (k.O+1)
  obtain⟨i,c,x,j⟩:=CI.kv c1 c2;obtain⟨d,l2,f,_,_⟩:=l1.kv w1;unfold cf.de;cases hk:(k.kv _).1
  ·obtain⟨g1,g2⟩:=MQ hk;obtain⟨B,l,F,N,m⟩:=CI.wa (s:=((k.kv _).2,t.2)) i c;cases hw:(k.wa ((k.kv _).2,t.2)).2
   ·grind [v7]
   ·obtain⟨o,p,q,_,_⟩:=df.wa ((k.kv _).2,t.2) d l2 f;have g:=m hw;dsimp only at g;exact xq n _ o p q l aa
  ·rw[aN rfl];have g:=j hk;exact xq n ((k.kv _).2,t.2) d l2 f c (by grind)
structure ga (k:cf)(s:cn)(q0 q:List b8):Prop where
 len:OQ q=OQ q0
 eq:∀n,n<OQ q0->(X q n (0,0)).1=(X q0 n (0,0)).1/\k.ml s (X q0 n (0,0)).2 (X q n (0,0)).2
theorem ga.refl (s:cn)(q:List b8):ga k s q q:=⟨rfl,λ_ _=>⟨rfl,aK rfl⟩⟩
theorem ga.kB {q0 q:List b8}(h:ga k s q0 q)(p:c_ k s t):ga k t q0 q:=⟨h.len,λn hn=>(by grind [eq,c_.ml])⟩
theorem ga.snoc {q0 q:List b8}(h:ga k s q0 q){e b:b8}(d:b.1=e.1)(f:k.ml s e.2 b.2):ga k s (q0++[e]) (q++[b]):=by
 refine⟨by simp[h.len],λn hn=>?_⟩
 rw[aX,List.length_singleton] at hn;by_cases c:n<OQ q0
 ·grind [pV,len,eq]
 ·have en:n=OQ q0:=aa;subst en
  grind [len]
theorem ga.mv {q0:List b8}:∀(l:List Nat)(t:(cn×List b8)×Bool)(H:List Int),LI k z t.1.1 H D->dU k z t.1.1 H->(∀i∈l,i<OQ t.1.2)->ga k t.1.1 q0 t.1.2->ga k (l.foldl (dN k.al k.br) t).1.1 q0 (l.foldl (dN k.al k.br) t).1.2
 |[],_,_,_,_,_,e=>e
 |i::l,t,H,h,w,hl,e=>by
  rw[a8];by_cases c:(k.al t.1.1 (X t.1.2 i (0,0)).2||!k.al t.1.1 (X t.1.2 i (0,0)).1)=O5
  ·have b:dN k.al k.br t i=t:=by grind [dN]
   rw[b];exact ga.mv l t H h w (by grind) e
  ·have b:dN k.al k.br t i=(((k.br t.1.1 (X t.1.2 i (0,0)).2).2,t.1.2.set i ((X t.1.2 i (0,0)).1,(k.br t.1.1 (X t.1.2 i (0,0)).2).1)),O5):=by grind [dN]
   obtain⟨d,l1,w1,f,_⟩:=df.br _ H h w;obtain⟨_,_,_,_,_,m1,_⟩:=h.mi.br _;rw[b];refine ga.mv l _ d l1 w1 (λj g=>?_) ⟨?_,λn hn=>?_⟩
   ·grind
   ·grind [len]
   ·rw[xk _ _ _ _ _ (by grind)];by_cases en:i=n
    ·rw[aN en];subst en;exact⟨(e.eq i hn).1,m1 _ (e.eq i hn).2⟩
    ·rw[aJ en]
     grind [eq,c_.ml]
theorem ga.wa {q0:List b8}{t:cn×List b8}(h:LI k z t.1 H D)(w:dU k z t.1 H)(e:ga k t.1 q0 t.2):ga k (k.wa t).1.1 q0 (k.wa t).1.2:=
 ga.mv _ (t,O4) H h w (by grind) e
theorem ga.de {q0:List b8}:∀(n:Nat)(t:cn×List b8)(H:List Int),LI k z t.1 H D->dU k z t.1 H->ga k t.1 q0 t.2->ga k (k.de n t).1 q0 (k.de n t).2
 |0,_,_,_,_,e=>e
 |n+1,t,H,h,w,e=>by
  obtain⟨f,l1,w1,g,_⟩:=df.lb (k.O+1) H h w;obtain⟨c,l2,b,i,_⟩:=df.kv f l1 w1;have d:=e.kB (g.trans i)
  obtain⟨j,l,m,_,_⟩:=df.wa ((k.kv _).2,t.2) c l2 b;have o:=ga.wa (t:=((k.kv _).2,t.2)) l2 b d;unfold cf.de;split
  ·exact ga.de n ((k.kv _).2,t.2) c l2 b d
  ·split
   ·exact ga.de n _ j l m o
   omega
structure mG (k:cf)(z:C0)(D:List Int)(q0:List b8)(t:cn×List b8):Prop where
 li:∃H,LI k z t.1 H D/\dU k z t.1 H
 cb:eD k t.1
 wq:wu k t.1 t.2
 he:hB k.N t.1.g t.1.nx=O4
 ep:∀b∈t.1.ep,k.ls t.1 (k.ld t.1 (b+1))=O5
 q:ga k t.1 q0 t.2
theorem mG.sp {q0:List b8}{t:cn×List b8}(h:LI k z t.1 H D)(w:dU k z t.1 H)(hb:eD k t.1)(e:ga k t.1 q0 t.2):mG k z D q0 (k.sp t)/\c_ k t.1 (k.sp t).1:=by obtain⟨K,m1,c,b,_⟩:=df.sp t H h w;exact⟨⟨(by grind),(qT _ t h.mi.ci hb).2,sV _ t H h w hb aa,sH _ t H h w hb aa,xq _ t H h w hb aa,ga.de _ t H h w e⟩,b⟩
theorem mG.ke {q0:List b8}{t:cn×List b8}(h:mG k z D q0 t)(x:Int):mG k z D q0 (k.ke t x).2/\c_ k t.1 (k.ke t x).2.1/\(∀b,k.ml t.1 b x->k.ml (k.ke t x).2.1 b (k.ke t x).1)/\k.cP (k.ke t x).1=O4/\k.al (k.ke t x).2.1 x=O5:=by
 obtain⟨H,l,w⟩:=h.li;obtain⟨j,l1,w1,d,_⟩:=df.br x H l w;obtain⟨_,_,_,y1,_,m1,m,_⟩:=l.mi.br x;obtain⟨_,f,g,e⟩:=nA k t.1 x;have hb:eD k (k.br t.1 x).2:=⟨by rw[f,e];exact h.cb.wk,by rw[g,e];exact h.cb.ep⟩
 obtain⟨i,c⟩:=mG.sp (t:=((k.br t.1 x).2,t.2)) l1 w1 hb (h.q.kB d)
 refine⟨i,d.trans c,λb hm=>c.ml (m1 b hm),y1,qZ c ?_⟩
 grind [cf.al,cf.ls]
end
section
variable {a:Wc}{S:cv}{W:ck}{m:Nat->Int}{Y G:List Int}
theorem cE.T (h:cE a S W m Y G)(hb:cL a S.s):(S.s.j0 a).T=G++Y:=(my h.kv.inv.full hb).2.2
theorem cE.memT (h:cE a S W m Y G)(hb:cL a S.s){i:Nat}(hi:cz W.T i):m i∈(S.s.j0 a).T:=(h.T hb▸(by grind [mem]))
theorem cE.xr (h:cE a S W m Y G)(hb:cL a S.s){c:Int}(hc:c∈(S.s.j0 a).T):∃i,cz W.T i/\m i=c:=by
 rw[h.T hb] at hc
 grind [gV]
theorem cE.jt (h:cE a S W m Y G)(hb:cL a S.s){v:Int×Int}(hv:dL W.T v):(S.s.j0 a).jt (wv m v)=(v.1==3):=by
 unfold b_.jt;rw[h.xm hb hv];by_cases c:v.1=3
 ·rw[(h.vt hb hv c).2,c,bT.2 (h.memT hb (hv.t c).2)];rfl
 grind
theorem cE.mY (h:cE a S W m Y G)(hb:cL a S.s){i:Nat}(hi:cz W.T i):(S.s.j0 a).jt (ew 3 (m i))=O5/\cq (ew 3 (m i))=m i:=by grind [word,memT,b_.jt]
theorem cE.al (h:cE a S W m Y G)(hb:cL a S.s)(s:cy){i:Nat}(hi:cz W.T i):(S.s.j0 a).al s (ew 3 (m i))=O5↔s.f (m i)≠-1:=by grind [mY,b_.al,b_.dd]
theorem cE.pW (h:cE a S W m Y G)(hb:cL a S.s)(s:cy){v:Int×Int}(hv:dL W.T v)(b:v.1=3):(S.s.j0 a).dd s (wv m v)=O4↔s.f (m (K v.2))≠-1:=by rw[jJ b,<-h.al hb s (hv.t b).2];unfold b_.al;simp
theorem cE.marked (h:cE a S W m Y G)(hb:cL a S.s){s:cy}{q:List b8}(d:fS (S.s.j0 a) s q)(hq:∀e∈W.wt,we m e∈q):iM W.T W.wt (λi=>cz W.T i/\s.f (m i)≠-1):=by
 intro i _ hX v hv f;obtain⟨hi,j⟩:=hX;have hk:lH (S.s.j0 a) s (m i):=by
  rcases d.kY.cmp _ (h.memT hb hi) j with c|c|c
  all_goals grind [fS.td]
 obtain⟨l,w,_⟩:=h.parts hi;have l:pk ((S.s.j0 a).ld (m i))=(X W.T i t0).1:=l;rcases hv with⟨c,hm⟩|⟨c,e⟩|⟨c,x,e⟩|⟨c,g,he,B,F⟩
 ·obtain⟨k,N,_,p⟩:=h.field hi hm;have b:=h.fv i hi v hm;refine⟨(b.t f).2,(h.pW hb s b f).1 ?_⟩
  have:=hk.p aa k (by show(k:Int)<pf (ld a.N S.s.y S.s.g S.s.ws (m i));omega)
  have e:(S.s.j0 a).ld (m i+1+k)=wv m v:=p
  grind
 ·have hl:=h.two hi aa;have hm:v∈(X W.T i t0).2.1:=(by grind)
  have b:=h.fv i hi v hm;refine⟨(b.t f).2,(h.pW hb s b f).1 ?_⟩
  have:=hk.w aa;have t:(S.s.j0 a).ld (m i+2)=wv m v:=by
   have:=h.fd i hi 1 aa;rw[<-e] at this
   show ld a.N S.s.y S.s.g S.s.ws (m i+2)=_
   grind
  grind
 ·have hl:=h.two hi aa;have hm:v∈(X W.T i t0).2.1:=by simp_all
  have b:=h.fv i hi v hm;refine⟨(b.t f).2,(h.pW hb s b f).1 ?_⟩
  have t:(S.s.j0 a).ld (m i+2)=wv m v:=by
   have:=h.fd i hi 1 aa;rw[<-e] at this
   show ld a.N S.s.y S.s.g S.s.ws (m i+2)=_
   grind
  have gS:(S.s.j0 a).ld (m i+1)=wv m (X (X W.T i t0).2.1 0 (0,0)):=by
   have:=h.fd i hi 0 aa;show ld a.N S.s.y S.s.g S.s.ws (m i+1)=_
   grind
  rcases hk.e aa with n|n
  ·have ab:=d.ep _ n
   grind [fv,jt,pW,b_.dd]
  grind
 ·have o:=h.dH g he;have ad:K g.1=i:=aa;have u:K v.2=K g.2:=by grind
  rw[u];refine⟨o.h,(h.al hb s o.h).1 ?_⟩
  rcases d.wq _ (hq g he) with c|c
  ·exact c
  ·exfalso;have:=(h.al hb s hi).2 j;have c:(S.s.j0 a).al s (ew 3 (m (K g.1)))=O4:=c
   grind
def iW (W:ck)(m:Nat->Int)(X:Nat->Prop)(c:Int):Prop:=∃i,cz W.T i/\m i=c/\X i
theorem cE.nT (h:cE a S W m Y G){X:Nat->Prop}{i:Nat}(hi:cz W.T i):iW W m X (m i)↔X i:=
 ⟨fun⟨j,c,e,b⟩=>(h.inj j i c hi e▸b),λb=>⟨i,hi,rfl,b⟩⟩
theorem cE.closed (h:cE a S W m Y G)(hb:cL a S.s){X:Nat->Prop}(hX:iM W.T W.wt X)(hr:∀v∈W.rs,v.1=3->X (K v.2)):m3 (S.s.j0 a) (iW W m X)/\qY (S.s.j0 a) (iW W m X) (W.wt.map (we m)):=by
 have key:∀{i:Nat}{v:Int×Int},cz W.T i->X i->dL W.T v->jH W.T W.wt X i v->(S.s.j0 a).jt (wv m v)=O5->iW W m X (cq (wv m v)):=λ{i v} hi f hv hk d=>by
  rw[h.jt hb hv] at d;have g:v.1=3:=by simpa using d
  rw[(h.vt hb hv g).2];exact⟨_,(hv.t g).2,rfl,hX i hi.1 f v hk g⟩
 have fl:∀{i:Nat},cz W.T i->∀k:Nat,(k:Int)<pf ((S.s.j0 a).ld (m i))->k<OQ (W.T.getD i t0).2.1:=λ{i} hi k hk=>by have hk:(k:Int)<pf (ld a.N S.s.y S.s.g S.s.ws (m i)):=hk;rw[(h.parts hi).2.1] at hk;omega
 have kd:∀{i:Nat},cz W.T i->pk ((S.s.j0 a).ld (m i))=(W.T.getD i t0).1:=λ{i} hi=>(h.parts hi).1;have p:∀{i:Nat},cz W.T i->OQ (W.T.getD i t0).2.1=2->(S.s.j0 a).ld (m i+2)=wv m ((W.T.getD i t0).2.1.getD 1 (0,0))/\(S.s.j0 a).ld (m i+1)=wv m ((W.T.getD i t0).2.1.getD 0 (0,0)):=λ{i} hi hl=>by
  constructor
  ·show ld a.N S.s.y S.s.g S.s.ws (m i+2)=_;rw[<-(h.fd i hi 1 aa)]
   congr 1
   omega
  ·show ld a.N S.s.y S.s.g S.s.ws (m i+1)=_;rw[<-(h.fd i hi 0 aa)]
   congr 1
   omega
 refine⟨⟨λi hi d=>?_,λc hc n hk i hi d=>?_,λc hc n hk d=>?_,λc hc n hk t d=>?_⟩,λe he hg d=>?_⟩
 ·obtain⟨er,hv⟩:=h.root hi;have er:(S.s.j0 a).s.rs.getD i 0=wv m (W.rs.getD i (0,0)):=er;rw[er] at d⊢;rw[h.jt hb hv] at d;have g:(W.rs.getD i (0,0)).1=3:=by simpa using d
  rw[(h.vt hb hv g).2];exact⟨_,(hv.t g).2,rfl,hr _ (fL ((h.rl▸hi))) g⟩
 ·obtain⟨j,b,rfl,f⟩:=n;have hl:=fl b i hi;have w:(S.s.j0 a).ld (m j+1+i)=wv m ((W.T.getD j t0).2.1.getD i (0,0)):=h.fd j b i hl;rw[w] at d⊢;rw[kd b] at hk;exact key b f (h.fv j b _ (fL hl)) (aK ⟨hk,fL hl⟩) d
 ·obtain⟨j,b,rfl,f⟩:=n;rw[kd b] at hk;have hl:=h.two b (aI (aK hk))
  rw[(p b hl).1] at d⊢;exact key b f (h.fv j b _ (fL aa)) (aI (aK ⟨hk,rfl⟩)) d
 ·obtain⟨j,b,rfl,f⟩:=n;rw[kd b] at hk;have hl:=h.two b (aI (aI hk))
  rw[(p b hl).1] at d⊢;rw[(p b hl).2] at t;have s:=h.fv j b _ (fL (x:=((0,0):Int×Int)) (show 0<OQ (W.T.getD j t0).2.1 by omega))
  refine key b f (h.fv j b _ (fL aa)) (aI (aI (aK ⟨hk,λk3=>?_,rfl⟩))) d;have q:=t (by rw[h.jt hb s];simpa using k3)
  rw[(h.vt hb s k3).2] at q;exact(h.nT (s.t k3).2).1 q
 ·obtain⟨o,u,rfl⟩:=bS.1 he;have l:=h.dH o u;obtain⟨g1,g2⟩:=h.mY hb l.g;obtain⟨F,B⟩:=h.mY hb l.h;have q:=hg g1;have q:iW W m X (cq (ew 3 (m (K o.1)))):=q;rw[g2] at q;show iW W m X (cq (ew 3 (m (K o.2))))
  rw[B];exact⟨_,l.h,rfl,hX _ l.g.1 ((h.nT l.g).1 q) (3,o.2) (aI (aI (aI ⟨l.k,o,u,by have:=l.g0;omega,rfl⟩))) rfl⟩
structure Rg (a:Wc)(S:cv)(W:ck)(m:Nat->Int)(t:cy×List b8)(L:List Bool)(C:List b8):Prop where
 dp:fS (S.s.j0 a) t.1 t.2
 sn:dW (S.s.j0 a) (λ_=>True) t.1
 ok:hQ W.T L
 gO:∀i,cz W.T i->(t.1.f (m i)≠-1↔cx L i)
 q:t.2=(W.wt++C).map (we m)
 c:∀e∈C,e∈W.rg/\cx L (K e.2)
 r:∀v∈W.rs,v.1=3->cx L (K v.2)
theorem Rg.is (c:cE a S W m Y G)(hb:cL a S.s){t:cy×List b8}{L:List Bool}{C:List b8}(h:Rg a S W m t L C){x:Int}(b:cz W.T (K x)):(S.s.j0 a).al t.1 (ew 3 (m (K x)))=cZ L x:=by
 unfold cZ;have d:=c.al hb t.1 b;have e:=h.gO _ b
 grind [cx]
theorem Rg.xs (b:cE a S W m Y G)(hb:cL a S.s){g:List Bool->List Bool}(hg:dS W.T W.wt g):oN (S.s.j0 a).gx g (we m) W.rg (Rg a S W m):=by
 refine⟨λt L C e h he hn=>?_,λt L C e h he hy=>?_⟩
 ·have f:=b.gv e he;rw[<-Rg.is b hb h f.g] at hn;exact oc (o:=et cy) (is:=λs x=>(S.s.j0 a).al s.1 x) (kp:=(S.s.j0 a).ke) (s:=t) (e:=we m e) hn
 ·have f:=b.gv e he;rw[<-Rg.is b hb h f.g] at hy;obtain⟨k1,k2,k3,k4⟩:=h.dp.kY.ke (t:=t) (ew 3 (m (K e.2)))
  have p:(S.s.j0 a).gx t (we m e)=(O5,(((S.s.j0 a).ke t (ew 3 (m (K e.2)))).2.1,t.2++[we m e])):=by refine(oe (o:=et cy) (is:=λs x=>(S.s.j0 a).al s.1 x) (kp:=(S.s.j0 a).ke) (s:=t) (e:=we m e) hy).trans ?_;show(O5,(((S.s.j0 a).ke t (ew 3 (m (K e.2)))).2.1,((S.s.j0 a).ke t (ew 3 (m (K e.2)))).2.2++[we m e]))=_;rw[k3]
  have u:=(h.dp.cm (we m e)).1;rw[p] at u;rw[p];obtain⟨o1,ao,ap⟩:=h.ok.put f.h;have w:=hg _ o1.len o1.al;obtain⟨n1,ab,ad⟩:=h.ok.gz hg b.iv f.h;have k:=ad;obtain⟨c1,c2⟩:=b.closed hb w.cl (λv hv B=>k _ (h.r v hv B))
  have c3:qY (S.s.j0 a) (iW W m (cx (gz g L e.2))) t.2:=by
   rw[h.q,bV];intro x l;rcases bw.1 l with d|d
   ·exact c2 x d
   ·obtain⟨n,ag,rfl⟩:=bS.1 d;obtain⟨ai,al⟩:=h.c n ag;have F:=b.gv n ai;intro _ _;show iW W m _ (cq (ew 3 (m (K n.2))))
    rw[(b.mY hb F.h).2];exact⟨_,F.h,rfl,k _ al⟩
  have s0:dW (S.s.j0 a) (iW W m (cx (gz g L e.2))) t.1:=⟨λc hc N=>by obtain⟨i,hi,rfl⟩:=b.xr hb hc;exact⟨i,hi,rfl,k i (by grind [gO])⟩,h.sn.ea⟩
  have s1:=dW.ke c1 c3 s0 h.dp.kY (ew 3 (m (K e.2))) (λ_=>by rw[(b.mY hb f.h).2];exact⟨_,f.h,rfl,ab⟩)
  refine⟨rfl,u,⟨λ_ _ _=>trivial,s1.ea⟩,n1,λi hi=>⟨λN=>?_,λam=>?_⟩,?_,λx l=>?_,λv hv B=>(by grind [r])⟩
  ·exact(b.nT hi).1 (s1.snd _ (b.memT hb hi) N)
  ·have an:=b.marked hb k1 (λx l=>by
    rw[k3,h.q]
    grind)
   refine(w.lt _ an (λj ar=>?_) i am).2
   grind [hQ.al,gO,dx.f,cE.al,cx]
  ·grind [q]
  grind [c]
theorem Rg.start (b:cE a S W m Y G)(hb:cL a S.s){g:List Bool->List Bool}(hg:dS W.T W.wt g):Rg a S W m (S.j2 a) (W.c0 g O5) []:=by
 have o:=c8.start hb.n1 hb.o1 hb.y1 hb.g1;obtain⟨m1,_,F⟩:=(dh.start o).cO 12;obtain⟨c,N,l⟩:=dh.sp (t:=((S.s.j0 a).cO iw 12,S.q)) m1;have l:(S.j2 a).2=S.q:=l;have d:=b.first O5;have p:=hg _ d.len d.al;obtain⟨n1,ab⟩:=hg.ok b.iv d;have hr:_:=λv hv f=>ab _ ((lM _ _ _ _).2 ⟨((b.rv v hv).t f).2.1,aI ⟨v,hv,f,rfl⟩⟩)
 obtain⟨c1,c2⟩:=b.closed hb p.cl hr;rw[<-b.wt] at c2;have cO:∀n,n<=12->dW (S.s.j0 a) (iW W m (cx (W.c0 g O5))) ((S.s.j0 a).cO iw n):=λn=>by
  induction n with
  |zero=>
   intro _;show dW _ _ iw;exact⟨λ_ _ q=>absurd rfl q,λ_ ha=>by simp[iw] at ha⟩
  |succ n ad=>
   intro hn;obtain⟨m1,_⟩:=(dh.start (X:=λ_=>False) o).cO n;exact(ad aa).ma _ (c1.rt n aa) (m1.ma _).2.1
 have s1:dW (S.s.j0 a) (iW W m (cx (W.c0 g O5))) (S.j2 a).1:=dW.de c1 _ ((S.s.j0 a).cO iw 12,S.q) c2 (cO 12 aa) m1;have c:fS (S.s.j0 a) (S.j2 a).1 (S.j2 a).2:=c;refine⟨c,⟨λ_ _ _=>trivial,s1.ea⟩,n1,λi hi=>⟨λq=>(b.nT hi).1 (by grind [dW.snd,cE.memT]),λag=>?_⟩,?_,λe he=>(by grind),hr⟩
 ·refine(p.lt _ (b.marked hb c (λx al=>by rw[l,b.wt];grind)) (λj s=>?_) i ag).2;refine⟨d.al j s,?_⟩
  obtain⟨_,u⟩:=(lM _ _ _ _).1 s;rcases u with⟨_,_,u⟩|⟨v,hv,f,e⟩
  ·grind
  ·obtain⟨k,hk,gS⟩:=bP.1 hv;have w:k<12:=(b.rl▸hk)
   obtain⟨er,B⟩:=b.root w;have ai:W.rs.getD k (0,0)=v:=by simp_all
   rw[ai] at er B;have j0:=F k w;have er:(S.s.j0 a).s.rs.getD k 0=wv m v:=er;rw[er] at j0;rw[<-e];exact(b.pW hb _ B f).1 (N.dd j0)
 grind [cE.wt]
theorem Rg.settled (b:cE a S W m Y G)(hb:cL a S.s){g:List Bool->List Bool}(hg:dS W.T W.wt g):Rg a S W m (S.cI a,((S.s.j0 a).fB (S.j2 a) S.r).2) (W.cR g O5).1 (W.cR g O5).2.1:=by
 have h0:=Rg.start b hb hg;have j:S.r.filter (λe=>!(S.s.j0 a).al (S.j2 a).1 e.2)=(W.rg.filter (λe=>!cZ (W.c0 g O5) e.2)).map (we m):=by
  rw[b.rg];exact m5 _ _ _ W.rg (λe he=>by
   show(!(S.s.j0 a).al _ (ew 3 (m (K e.2))))=_
   grind [is,gP.h,cE.gv])
 obtain⟨c,_⟩:=(Rg.xs b hb hg).turns _ (W.rg.filter (λe=>!cZ _ e.2)) (S.j2 a) _ [] (λe he=>(by grind)) h0;have d:e5 (S.s.j0 a).gx (OQ (S.r.filter (λe=>!(S.s.j0 a).al (S.j2 a).1 e.2))+1) (S.j2 a) (S.r.filter (λe=>!(S.s.j0 a).al (S.j2 a).1 e.2))=e5 (S.s.j0 a).gx (OQ W.rg+1) (S.j2 a) ((W.rg.filter (λe=>!cZ (W.c0 g O5) e.2)).map (we m)):=by grind [tx]
 have f:(S.s.j0 a).fB (S.j2 a) S.r=(e5 (S.s.j0 a).gx (OQ W.rg+1) (S.j2 a) ((W.rg.filter (λe=>!cZ (W.c0 g O5) e.2)).map (we m))).1:=by rw[<-d];rfl
 have i:(S.cI a,((S.s.j0 a).fB (S.j2 a) S.r).2)=(S.s.j0 a).fB (S.j2 a) S.r:=rfl;rw[i,f];exact c
end
section
variable {a:Wc}{S:cv}{W:ck}{m:Nat->Int}{Y G D:List Int}
theorem cE.gM (h:cE a S W m Y G)(hb:cL a S.s):(S.s.k0 a).T=Y:=pI h.kv.inv.full hb.n1 hb.y1 hb.o1 hb.g1
theorem cE.lS (h:cE a S W m Y G)(hb:cL a S.s){v:Int}(b:v∈Y):v∉G:=λc=>by have q1:=h.kv.inv.full.jr v b;have d:=h.kv.inv.full.io v c;have:=hb.y1;omega
theorem cE.pX (h:cE a S W m Y G)(hb:cL a S.s){i:Nat}(hi:cz W.T i):(S.s.k0 a).cP (ew 3 (m i))=O5↔m i∈Y:=by grind [word,gM,cf.cP]
theorem cE.tN (h:cE a S W m Y G)(hb:cL a S.s){v:Int×Int}(hv:dL W.T v)(hy:(S.s.k0 a).cP (wv m v)=O5):v.1=3/\cq (wv m v)=m (K v.2):=by grind [xm,vt,cf.cP]
theorem cE.lj (h:cE a S W m Y G)(hb:cL a S.s)(s:cn){i:Nat}(hi:cz W.T i):(S.s.k0 a).al s (ew 3 (m i))=O5↔(m i∈G\/s.f (m i)≠-1):=by grind [pX,word,mem,lS,cf.al,cf.ls]
theorem cE.MR (h:cE a S W m Y G)(hb:cL a S.s){s:cn}{i:Nat}(hi:cz W.T i)(hs:(S.s.k0 a).al s (ew 3 (m i))=O5):∃b,(S.s.k0 a).or (S.s.z0 G) s (m i) b:=by
 rcases(h.lj hb s hi).1 hs with d|d
 ·exact⟨m i,aK ⟨rfl,d⟩⟩
 ·rcases h.mem hi with e|e
  ·exact⟨s.f (m i),aI ⟨(h.gM hb▸e),rfl,d⟩⟩
  ·exact⟨m i,aK ⟨rfl,e⟩⟩
def rn (a:Wc)(S:cv)(G D:List Int):Prop:=∀v∈G,v∉D->∀i,0<=i->i<pf ((S.s.k0 a).l0 (S.s.z0 G) v)->(S.s.k0 a).cP ((S.s.k0 a).l0 (S.s.z0 G) (v+1+i))=O4
theorem cE.xt (h:cE a S W m Y G)(hb:cL a S.s)(hc:rn a S G D){q0:List b8}{t:cn×List b8}(d:mG (S.s.k0 a) (S.s.z0 G) D q0 t)(hq:∀e∈W.wt,∃n,n<OQ q0/\X q0 n (0,0)=we m e):
 iM W.T W.wt (λi=>cz W.T i/\(S.s.k0 a).al t.1 (ew 3 (m i))=O5):=by
 obtain⟨H,li,bb⟩:=d.li;have hz:∀v,(v∈(S.s.k0 a).T\/v∈(S.s.z0 G).G)->∀i,0<=i->i<pf ((S.s.k0 a).l0 (S.s.z0 G) v)->di ((S.s.k0 a).l0 (S.s.z0 G) (v+1+i))=O5->cq ((S.s.k0 a).l0 (S.s.z0 G) (v+1+i))∈(S.s.k0 a).T\/cq ((S.s.k0 a).l0 (S.s.z0 G) (v+1+i))∈(S.s.z0 G).G:=λv hv i ai g ha=>by rw[h.gM hb] at hv⊢;exact h.kv.inv.fd v hv i ai g ha
 have told:∀{q x:Int}{j:Nat},cz W.T j->q=ew 3 (m j)->(S.s.k0 a).ml t.1 q x->(S.s.k0 a).al t.1 x=O5->(S.s.k0 a).al t.1 (ew 3 (m j))=O5:=λ{q x j} w B hm bd=>by
  rcases hm with e|⟨_,p,_⟩
  ·simp_all
  ·rw[B,(h.word hb w).2.2] at p;exact(h.lj hb t.1 w).2 (aI p)
 intro i _ hX v hv s;obtain⟨hi,hs⟩:=hX;obtain⟨b,o⟩:=h.MR hb hi hs;have B:(S.s.k0 a).ld t.1 b=ld a.N S.s.y S.s.g S.s.ws (m i):=li.mi.hd _ _ o;obtain⟨be,bg,_⟩:=h.parts hi;have bi:∀{n:Nat},n<OQ (X W.T i t0).2.1->(X (X W.T i t0).2.1 n (0,0)).1=3->¬((X W.T i t0).1=3/\n=0)->¬((X W.T i t0).1=4/\b∈t.1.ep)->(S.s.k0 a).al t.1 (ew 3 (m (K (X (X W.T i t0).2.1 n (0,0)).2)))=O5:=λ{n} hn F n1 bl=>by
  have u:=h.fv i hi _ (fL (x:=((0,0):Int×Int)) hn)
  have al:=(u.t F).2;have N:(S.s.k0 a).l0 (S.s.z0 G) (m i+1+n)=ew 3 (m (K (X (X W.T i t0).2.1 n (0,0)).2)):=(h.fd i hi n hn).trans (jJ F)
  have g:(n:Int)<pf ((S.s.k0 a).l0 (S.s.z0 G) (m i)):=by
   show(n:Int)<pf (ld a.N S.s.y S.s.g S.s.ws (m i))
   omega
  have ab:=li.mi.fd (m i) b o n (nC n) g;refine told al N ab ?_;rcases ab with e|⟨y1,p,am⟩
  ·rw[N] at e;have ha:di ((S.s.k0 a).ld t.1 (b+1+n))=O5:=(by grind [word])
   have an:(n:Int)<pf ((S.s.k0 a).ld t.1 b):=by simp_all
   rcases li.fields d.he hz hc (li.mi.mem o) (nC n) an ha with c|⟨c1,c2,_⟩|⟨c1,c2⟩
   ·exact sU (li.mi.qU c)
   all_goals grind
  ·have ao:=li.mi.jR (li.mi.fh _ (oS y1) p)
   have bn:=li.mi.ci.hN';have bo:=li.mi.ci.hO;have bp:=li.mi.ci.hg;rw[am];exact sU (oD li.mi.ci ao.1 aa)
 rcases hv with⟨c,hm⟩|⟨c,e⟩|⟨c,ap,e⟩|⟨c,k,he,br,ar⟩
 ·obtain⟨n,hn,en,_⟩:=h.field hi hm;have u:=h.fv i hi v hm;refine⟨(u.t s).2,?_⟩
  grind
 ·have hl:=h.two hi (aI (aK c))
  have hm:v∈(X W.T i t0).2.1:=by simp_all
  refine⟨((h.fv i hi v hm).t s).2,?_⟩
  grind
 ·have hl:=h.two hi (aI (aI c))
  have hm:v∈(X W.T i t0).2.1:=by simp_all
  refine⟨((h.fv i hi v hm).t s).2,?_⟩
  have ad:=h.fv i hi _ (fL (x:=((0,0):Int×Int)) (show 0<OQ (X W.T i t0).2.1 by omega))
  have bs:b∉t.1.ep:=λaF=>by
   have aR:b+1+0=b+1:=aa;have g:(0:Int)<pf ((S.s.k0 a).l0 (S.s.z0 G) (m i)):=by
    show(0:Int)<pf (ld a.N S.s.y S.s.g S.s.ws (m i))
    omega
   have f:=d.ep b aF;rw[<-aR] at f;have gS:(S.s.k0 a).l0 (S.s.z0 G) (m i+1+0)=wv m (X (X W.T i t0).2.1 0 (0,0)):=h.fd i hi 0 aa;rw[(li.mi.tM o (Int.le_refl 0) g (nR f)),gS] at f;obtain⟨k3,a0⟩:=h.tN hb ad (nR f)
   have q1:=(cf.oi f).2.2;have l:=(cf.oi f).2.1;rw[a0] at q1 l;rw[h.gM hb] at l;rcases(h.lj hb t.1 (ad.t k3).2).1 (ap k3).2 with w1|w1
   all_goals grind [lS]
  grind
 ·have ag:=h.dH k he;have bt:K k.1=i:=aa;have a1:K v.2=K k.2:=by rw[ar]
  rw[a1];refine⟨ag.h,?_⟩
  obtain⟨n,hn,en⟩:=hq k he;obtain⟨q1,l⟩:=d.q.eq n hn;rw[en] at q1 l;have a2:X t.2 n (0,0)∈t.2:=fL ((d.q.len▸hn))
  refine told ag.h rfl l ?_;rcases d.wq _ a2 with w1|w1
  ·exact w1
  ·exfalso;have q1:(X t.2 n (0,0)).1=ew 3 (m (K k.1)):=q1
   grind
theorem cE.CY (h:cE a S W m Y G)(hb:cL a S.s){X:Nat->Prop}(hX:iM W.T W.wt X)(ho:∀i,cz W.T i->(W.T.getD i t0).2.2.1=O5->X i):lR (S.s.k0 a) (S.s.z0 G) (iW W m X):=by
 have key:∀{i:Nat}{v:Int×Int},cz W.T i->X i->dL W.T v->jH W.T W.wt X i v->(S.s.k0 a).cP (wv m v)=O5->iW W m X (cq (wv m v)):=λ{i v} hi g hv hk f=>by obtain⟨o,e⟩:=h.tN hb hv f;rw[e];exact⟨_,(hv.t o).2,rfl,hX i hi.1 g v hk o⟩
 have kd:∀{i:Nat},cz W.T i->pk ((S.s.k0 a).l0 (S.s.z0 G) (m i))=(W.T.getD i t0).1/\pf ((S.s.k0 a).l0 (S.s.z0 G) (m i))=OQ (W.T.getD i t0).2.1:=λ{i} hi=>⟨(h.parts hi).1,(h.parts hi).2.1⟩
 have q:∀{i:Nat},cz W.T i->∀{n:Nat},n<OQ (W.T.getD i t0).2.1->(S.s.k0 a).l0 (S.s.z0 G) (m i+1+n)=wv m ((W.T.getD i t0).2.1.getD n (0,0)):=λ{i} hi {n} hn=>h.fd i hi n hn;refine⟨λb p=>?_,λc _ k hk i hi f=>?_,λc _ k hk f=>?_,λc _ k hk s f=>?_⟩
 ·obtain⟨i,hi,e⟩:=h.gV b (aI p)
  refine⟨i,hi,e,ho i hi ?_⟩
  cases c:(W.T.getD i t0).2.2.1
  ·exact absurd (e▸p) (h.lS hb (h.i9 i hi c))
  ·rfl
 ·obtain⟨j,d,rfl,g⟩:=k;rw[(kd d).2] at hi;have hl:i<OQ (W.T.getD j t0).2.1:=aa;rw[q d hl] at f⊢;rw[(kd d).1] at hk;exact key d g (by grind [fv]) (aK ⟨hk,fL hl⟩) f
 ·obtain⟨j,d,rfl,g⟩:=k;rw[(kd d).1] at hk;have hl:=h.two d aa;have l:(S.s.k0 a).l0 (S.s.z0 G) (m j+1+1)=wv m ((W.T.getD j t0).2.1.getD 1 (0,0)):=(by grind)
  rw[l] at f⊢;exact key d g (by grind [fv]) (aI (aK ⟨hk,rfl⟩)) f
 ·obtain⟨j,d,rfl,g⟩:=k;rw[(kd d).1] at hk;have hl:=h.two d aa;have l:(S.s.k0 a).l0 (S.s.z0 G) (m j+1+1)=wv m ((W.T.getD j t0).2.1.getD 1 (0,0)):=(by grind)
  have t:(S.s.k0 a).l0 (S.s.z0 G) (m j+1+0)=wv m ((W.T.getD j t0).2.1.getD 0 (0,0)):=(by grind)
  rw[l] at f⊢;rw[t] at s;have u:=h.fv j d _ (fL (x:=((0,0):Int×Int)) (show 0<OQ (W.T.getD j t0).2.1 by omega))
  refine key d g (by grind [fv]) (aI (aI (aK ⟨hk,λk3=>?_,rfl⟩))) f;have w:=(u.t k3).2;rcases h.mem w with w1|w1
  ·grind [pX,jJ,nT,vt]
  grind [lS,i9]
theorem cE.CZ (h:cE a S W m Y G)(hb:cL a S.s){X:Nat->Prop}(hX:iM W.T W.wt X)(ho:∀i,cz W.T i->(W.T.getD i t0).2.2.1=O5->X i){C:List b8}(w:∀e∈C,e∈W.rg/\X (K e.2)){s:cn}{H:List Int}(mi:dK (S.s.k0 a) (S.s.z0 G) s H){q:List b8}(hq:ga (S.s.k0 a) s ((W.wt++C).map (we m)) q):mF (S.s.k0 a) (iW W m X) q:=by
 intro e he hg hy;obtain⟨n,hn,en⟩:=bP.1 he;have g:q.getD n (0,0)=e:=by simp_all
 have j:n<OQ ((W.wt++C).map (we m)):=(hq.len▸hn)
 obtain⟨q1,f⟩:=hq.eq n j;have k:n<OQ (W.wt++C):=by simp_all
 rw[g,oP (we m) (W.wt++C) n (0,0) (0,0) k] at q1 f;have l:(W.wt++C).getD n (0,0)∈W.wt++C:=(by grind)
 generalize (W.wt++C).getD n (0,0)=b at*;have c:gP W.T b:=by grind [dH,gv]
 have o:e.2=ew 3 (m (K b.2)):=by
  rcases f with d|⟨y1,p,t⟩
  ·exact d
  ·have u:=mi.jR (mi.fh _ (oS y1) p)
   have x:=mi.ci.hN';have B:=mi.ci.hO;have F:=mi.ci.hg;rw[t,oD mi.ci u.1 aa] at hy
   grind
 have N:e.1=ew 3 (m (K b.1)):=q1;rw[o,(h.word hb c.h).2.2];refine⟨_,c.h,rfl,?_⟩
 rcases bw.1 l with d|d
 ·have v:X (K b.1):=by
   rcases h.mem c.g with w1|w1
   ·grind [pX,gP.g,nT,word]
   grind [gP.g,lS,i9]
  exact hX _ c.g.1 v (3,b.2) (aI (aI (aI ⟨c.k,b,d,by have:=c.g0;omega,rfl⟩))) rfl
 grind
structure kk (a:Wc)(S:cv)(W:ck)(m:Nat->Int)(G D:List Int)(t:cn×List b8)(L:List Bool)(C:List b8):Prop where
 dp:mG (S.s.k0 a) (S.s.z0 G) D ((W.wt++C).map (we m)) t
 ok:hQ W.T L
 gO:∀i,cz W.T i->((S.s.k0 a).al t.1 (ew 3 (m i))=O5↔cx L i)
 c:∀e∈C,e∈W.rg/\cx L (K e.2)
 r:∀v∈W.rs,v.1=3->cx L (K v.2)
 o:∀i,cz W.T i->(X W.T i t0).2.2.1=O5->cx L i
theorem kk.is {t:cn×List b8}{L:List Bool}{C:List b8}(h:kk a S W m G D t L C){x:Int}(e:cz W.T (K x)):(S.s.k0 a).al t.1 (ew 3 (m (K x)))=cZ L x:=by
 unfold cZ;have b:=h.gO _ e;cases c:X L (K x) O4
 ·rw[Bool.eq_false_iff];intro d;rw[b.1 d] at c
  grind
 ·exact b.2 c
theorem xu {C:List b8}:∀e∈W.wt,∃n,n<OQ ((W.wt++C).map (we m))/\X ((W.wt++C).map (we m)) n (0,0)=we m e:=λe he=>by
 obtain⟨n,hn,en⟩:=bP.1 he;refine⟨n,by grind,?_⟩
 grind
theorem kk.xs (b:cE a S W m Y G)(hb:cL a S.s)(hc:rn a S G D){g:List Bool->List Bool}(hg:dS W.T W.wt g):oN (cm (et cn) (λs x=>(S.s.k0 a).al s.1 x) (S.s.k0 a).ke) g (we m) W.rg (kk a S W m G D):=by
 refine⟨λt L C e h he hn=>?_,λt L C e h he hy=>?_⟩
 ·have f:=b.gv e he;rw[<-h.is f.g] at hn;exact oc hn
 ·have f:=b.gv e he;rw[<-h.is f.g] at hy;obtain⟨k1,k2,k3,k4,k5⟩:=h.dp.ke _;rw[(oe (s:=t) hy)];obtain⟨o1,al,am⟩:=h.ok.put f.h;have p:=hg _ o1.len o1.al;obtain⟨n1,u,F⟩:=h.ok.gz hg b.iv f.h;have hX:=p.cl;have l:=F;have ho:∀i,cz W.T i->(X W.T i t0).2.2.1=O5->_:=λi hi q=>l i (h.o i hi q)
  obtain⟨H,li,N⟩:=h.dp.li;have s0:dm (S.s.k0 a) (iW W m (cx (gz g L e.2))) t.1:=λc w o=>by
   rw[b.gM hb] at w;obtain⟨i,hi,rfl⟩:=b.gV c (aK w)
   exact⟨i,hi,rfl,l i ((h.gO i hi).1 ((b.lj hb t.1 hi).2 (aI o)))⟩
  obtain⟨s1,_⟩:=dm.ke (b.CY hb hX ho) li N (b.CZ hb hX ho (λx k=>⟨(h.c x k).1,l _ (h.c x k).2⟩) li.mi h.dp.q) s0 _ (λ_=>by rw[(b.word hb f.h).2.2];exact⟨_,f.h,rfl,u⟩)
  have ab:(W.wt++(C++[e])).map (we m)=(W.wt++C).map (we m)++[we m e]:=by rw[<-bf,bV];rfl
  refine⟨rfl,⟨k1.li,k1.cb,λx k=>?_,k1.he,k1.ep,?_⟩,n1,λi hi=>⟨λo=>?_,λad=>?_⟩,λx k=>?_,λv hv ag=>l _ (h.r v hv ag),ho⟩
  ·rcases bw.1 k with d|d
   ·exact k1.wq x d
   ·rw[bN.1 d];exact aK (sU k4)
  ·rw[ab];exact k1.q.snoc rfl (k3 _ (aK rfl))
  ·rcases(b.lj hb _ hi).1 o with d|d
   ·refine ho i hi ?_;cases c:(X W.T i t0).2.2.1
    ·exact absurd d (b.lS hb (b.i9 _ hi c))
    ·rfl
   ·rcases b.mem hi with w1|w1
    ·exact(b.nT hi).1 (s1 _ (by rw[b.gM hb];exact w1) d)
    ·refine ho i hi ?_;cases c:(X W.T i t0).2.2.1
     ·exact absurd w1 (b.lS hb (b.i9 _ hi c))
     ·rfl
  ·refine(p.lt _ (b.xt hb hc k1 xu) (λj n=>?_) i ad).2;have B:=o1.al j n;refine⟨B,?_⟩
   unfold cx at n;rw[wD _ _ _ (by rw[h.ok.len];exact f.h.1)] at n;split at n
   ·rename_i ai;rw[<-ai];exact k5
   ·exact qZ k2 ((h.gO j B).2 n)
  ·rcases bw.1 k with d|d
   ·exact⟨(h.c x d).1,l _ (h.c x d).2⟩
   ·rw[bN.1 d];exact⟨he,u⟩
theorem cE.MS (h:cE a S W m Y G)(hb:cL a S.s){i:Nat}(hi:cz W.T i)(d:m i∈G):(X W.T i t0).2.2.1=O5:=by grind [lS,i9]
theorem kk.start (b:cE a S W m Y G)(hb:cL a S.s)(hr:S.s.y<=a.O-S.s.g){g:List Bool->List Bool}(hg:dS W.T W.wt g):∃D,rn a S G D/\kk a S W m G D (S.t3 a) (W.c0 g O4) []:=by
 have h:=b.kv;have bi:=b.gM hb;have B:=LI.start h.inv.full hb.n0 hb.n1 hb.o1 hb.y1 hb.g1 hb.l1 hr;have ao:12<=OQ (S.s.s0 a).rs:=by show 12<=OQ S.s.rs;rw[hb.r1];exact aG _
 obtain⟨H1,n,bl,⟨b5,bn⟩,l1,y1,_,m1⟩:=B.cO 12 ao;have ap:dM a.N S.s.y (S.s.s1 a).g (S.s.s1 a).ws=G++H1:=(n.mi.full.lists hb.n1 hb.y1 hb.o1 n.mi.ci.hg).2;have bo:(S.s.s1 a).nx=((S.s.k0 a).N:Int)+(S.s.z0 G).g:=(nB (S.s.k0 a) (S.s.s0 a) 12).2.2;have ar:eR ((S.s.k0 a).l0 (S.s.z0 G)) (((S.s.k0 a).N:Int)+(S.s.z0 G).g) (S.s.k0 a).N (S.s.z0 G).G:=h.inv.full.eC;have hlo:∀x∈G++H1,x∈(S.s.z0 G).G\/((S.s.k0 a).N:Int)+(S.s.z0 G).g<=x:=λx bp=>(bw.1 bp).imp id (λd=>n.mi.hlo x d)
 obtain⟨F,s,N,aB,aF,⟨b6,b7⟩,_,hD⟩:=LI.qS (dT a.O) S.s.M ar (G++H1) n ((dU.start a S.s G).cO B.mi 12 n.mi bl ⟨_,bn⟩) hlo;have br:(G++H1).foldl ((S.s.k0 a).hK (((S.s.k0 a).N:Int)+(S.s.z0 G).g) (dT a.O) S.s.M) ((S.s.k0 a).cO (S.s.s0 a) 12)=S.s.s2 a:=by unfold eL.s2 cf.lm;rw[ap,bo];rfl
 have hlen:=sK (S.s.k0 a) (((S.s.k0 a).N:Int)+(S.s.z0 G).g) (dT a.O) S.s.M (G++H1) ((S.s.k0 a).cO (S.s.s0 a) 12)
 have u:=b.first O4;have aR:=hg _ u.len u.al;obtain⟨n1,aV⟩:=hg.ok b.iv u;have hX:=aR.cl;have ho:∀i,cz W.T i->(X W.T i t0).2.2.1=O5->_:=λi hi q=>aV i ((lM _ _ _ _).2 ⟨hi.1,aK ⟨q,hi.2,rfl⟩⟩)
 have a0:_:=λv hv f=>aV _ ((lM _ _ _ _).2 ⟨((b.rv v hv).t f).2.1,aI ⟨v,hv,f,rfl⟩⟩)
 have a1:=b.CY hb hX ho;have bs:dm (S.s.k0 a) (iW W m (cx (W.c0 g O4))) (S.s.s0 a):=λ_ _ ab=>absurd rfl ab;have bt:=dm.cO B bs (λi hi hy=>by
  have hi:i<12:=(hb.r1▸hi)
  obtain⟨er,hv⟩:=b.root hi;have er:X (S.s.s0 a).rs i 0=wv m (X W.rs i (0,0)):=er;rw[er] at hy⊢;obtain⟨f,ev⟩:=b.tN hb hv hy;rw[ev];exact⟨_,(hv.t f).2,rfl,a0 _ (fL ((b.rl▸hi))) f⟩) 12 ao
 have a2:=dm.lm a1 (dT a.O) S.s.M ar (G++H1) n hlo bt;rw[br] at N aB aF hlen a2;have b8:OQ (G++H1)<=2000:=(ap▸jp _ _)
 obtain⟨q1,q2,q3⟩:=nB _ _ 12;have cb:eD (S.s.k0 a) (S.s.s2 a):=by exact v_
 have bb:rn a S G s:=λv hv bx i b0 b1=>by
  cases hc:(S.s.k0 a).cP _
  ·rfl
  ·exfalso;unfold cf.cP at hc;rw[nS,bi] at hc;have hm:=h.cd v hv i b0 b1 hc.1 (bT.1 hc.2)
   exact bx (hD v (List.mem_append_left _ hv) hv hm)
 have b2:S.q=(W.wt++[]).map (we m):=by rw[List.append_nil];exact b.wt
 have bd:ga (S.s.k0 a) (S.s.s2 a) ((W.wt++[]).map (we m)) S.q:=(b2▸ga.refl _ _)
 have ad:=b.CZ hb hX ho (λe he=>(by cases he)) N.mi bd;have key:∀s2:cn,LI (S.s.k0 a) (S.s.z0 G) s2 F s->dU (S.s.k0 a) (S.s.z0 G) s2 F->eD (S.s.k0 a) s2->ga (S.s.k0 a) s2 ((W.wt++[]).map (we m)) S.q->dm (S.s.k0 a) (iW W m (cx (W.c0 g O4))) s2->mF (S.s.k0 a) (iW W m (cx (W.c0 g O4))) S.q->
  mG (S.s.k0 a) (S.s.z0 G) s ((W.wt++[]).map (we m)) ((S.s.k0 a).sp (s2,S.q))/\c_ (S.s.k0 a) s2 ((S.s.k0 a).sp (s2,S.q)).1/\dm (S.s.k0 a) (iW W m (cx (W.c0 g O4))) ((S.s.k0 a).sp (s2,S.q)).1:=λs2 l w c e sn ad=>by
  obtain⟨o,ag⟩:=mG.sp (t:=(s2,S.q)) l w c e;exact⟨o,ag,(dm.de a1 _ (s2,S.q) F l w ad sn).1⟩
 obtain⟨o,ag,ai⟩:=key _ N aB cb bd a2 ad;have o:=o;have ai:dm (S.s.k0 a) (iW W m (cx (W.c0 g O4))) (S.t3 a).1:=ai;refine⟨s,bb,o,n1,λi hi=>⟨λab=>?_,λb3=>?_⟩,λe he=>(by cases he),a0,ho⟩
 ·rcases b.mem hi with w1|w1
  ·rcases(b.lj hb _ hi).1 ab with d|d
   ·exact absurd d (b.lS hb w1)
   ·exact(b.nT hi).1 (ai _ (by simp_all) d)
  ·exact ho i hi (b.MS hb hi w1)
 ·refine(aR.lt _ (b.xt hb bb o xu) (λj be=>?_) i b3).2;have al:=u.al j be;refine⟨al,?_⟩
  obtain⟨_,am⟩:=(lM _ _ _ _).1 be;rcases am with⟨am,_,_⟩|⟨v,hv,f,e⟩
  ·exact(b.lj hb _ al).2 (aK (b.old j al am))
  ·obtain⟨k,hk,gS⟩:=bP.1 hv;have an:k<12:=(b.rl▸hk)
   obtain⟨er,b4⟩:=b.root an;have ev:X W.rs k (0,0)=v:=by simp_all
   rw[ev] at er b4;have p:cz W.T (K v.2):=by simp_all
   refine qZ (aF.trans ag) ?_;rw[<-e];rcases b.mem p with w1|w1
   ·have hm:=m1 k an;have er:X (S.s.s0 a).rs k 0=wv m v:=er;rw[er,jJ f] at hm;rcases hm with d|⟨_,bg,_⟩
    ·have:=y1 k an;rw[d,((b.pX hb p).2 w1)] at this
     cases this
    ·rw[(b.word hb p).2.2] at bg;exact(b.lj hb _ p).2 (aI bg)
   ·exact(b.lj hb _ p).2 (aK w1)
theorem kk.settled (b:cE a S W m Y G)(hb:cL a S.s)(hc:rn a S G D){g:List Bool->List Bool}(hg:dS W.T W.wt g)(h0:kk a S W m G D (S.t3 a) (W.c0 g O4) []):kk a S W m G D (S.s4 a,((S.s.k0 a).fB (S.t3 a) S.r).2) (W.cR g O4).1 (W.cR g O4).2.1:=by
 have j:S.r.filter (λe=>!(S.s.k0 a).al (S.t3 a).1 e.2)=(W.rg.filter (λe=>!cZ (W.c0 g O4) e.2)).map (we m):=by
  rw[b.rg];exact m5 _ _ _ W.rg (λe he=>by
   show(!(S.s.k0 a).al _ (ew 3 (m (K e.2))))=_
   grind [is,gP.h,cE.gv])
 obtain⟨c,_⟩:=(kk.xs b hb hc hg).turns _ (W.rg.filter (λe=>!cZ _ e.2)) (S.t3 a) _ [] (λe he=>(by grind)) h0;have d:e5 (cm (et cn) (λs x=>(S.s.k0 a).al s.1 x) (S.s.k0 a).ke) (OQ (S.r.filter (λe=>!(S.s.k0 a).al (S.t3 a).1 e.2))+1) (S.t3 a) (S.r.filter (λe=>!(S.s.k0 a).al (S.t3 a).1 e.2))=e5 (cm (et cn) (λs x=>(S.s.k0 a).al s.1 x) (S.s.k0 a).ke) (OQ W.rg+1) (S.t3 a) ((W.rg.filter (λe=>!cZ (W.c0 g O4) e.2)).map (we m)):=by grind [tx]
 have f:(S.s.k0 a).fB (S.t3 a) S.r=(e5 (cm (et cn) (λs x=>(S.s.k0 a).al s.1 x) (S.s.k0 a).ke) (OQ W.rg+1) (S.t3 a) ((W.rg.filter (λe=>!cZ (W.c0 g O4) e.2)).map (we m))).1:=by rw[<-d];rfl
 have i:(S.s4 a,((S.s.k0 a).fB (S.t3 a) S.r).2)=(S.s.k0 a).fB (S.t3 a) S.r:=rfl;rw[i,f];exact c
end
section
variable {k:cf}{z:C0}{s t:cn}{H D:List Int}
def cf.cJ (k:cf)(s:cn)(x:Int):Int:=if k.ls s x=O5 then 3 else k.nw s x
theorem MT {s t:cn}(b:t.f=s.f)(x:Int):k.ls t x=k.ls s x/\k.nw t x=k.nw s x:=by grind [cf.ls,cf.nw]
def Fo (k:cf)(s:cn):Prop:=∀a∈k.T,s.f a≠-1->(k.N:Int)<=s.f a/\s.f a<1000000
theorem dK.fC (h:dK k z s H):Fo k s:=λa ha b=>by
 have hb:=h.jR (h.fh a ha b)
 have n1:=h.ci.hN';have c:=h.ci.hO;have d:=h.ci.hg;omega
theorem pY {x:Int}(h:k.cP x=O4):k.nw s x=x:=by unfold cf.nw;rw[h];simp
theorem tO {x:Int}(h:k.cP x=O5)(b:s.f (cq x)≠-1):k.nw s x=ew 3 (s.f (cq x)):=by grind [cf.nw]
theorem MU (ci:CI k s)(fC:Fo k s){x:Int}(h:k.ls s x=O4):k.cP (k.nw s x)=O4:=by
 cases c:k.cP x
 ·grind [pY]
 ·have b:s.f (cq x)≠-1:=λe=>by grind [cf.ls]
  rw[tO c b];obtain⟨b1,b2⟩:=fC _ (oS c) b
  grind [oD]
theorem MV:k.cP 3=O4:=by unfold cf.cP;rw[show di 3=O4 by decide];rfl
theorem C1 (ci:CI k s)(fC:Fo k s)(x:Int):k.cP (k.cJ s x)=O4:=by grind [MU,MV,cf.cJ]
theorem MW {x:Int}(h:k.cP x=O4):k.cJ s x=x:=by grind [pY,cf.cJ,cf.ls]
theorem MX (k:cf)(s:cn)(a:Int):k.e8 s a=k.st s (a+1) (k.cJ s (k.ld s (a+1))):=by grind [cf.e8,cf.cJ]
theorem xv (k:cf)(s:cn)(a x:Int):OQ (k.st s a x).ws=OQ s.ws:=by grind [cf.st]
theorem xw (hl:OQ s.ws=k.N+k.O)(hy:k.y<=k.N)(hg:s.g<=k.O)(hv:∀x,k.cP (k.cJ s x)=O4):∀(l:List Int)(t:cn),t.f=s.f->t.g=s.g->OQ t.ws=OQ s.ws->(∀c∈l,dB k.N k.y s.g (c+1)=O5)->
 (l.foldl k.e8 t).f=s.f/\(l.foldl k.e8 t).g=s.g/\OQ (l.foldl k.e8 t).ws=OQ s.ws/\(l.foldl k.e8 t).ep=t.ep/\(l.foldl k.e8 t).rs=t.rs/\∀p,k.ld (l.foldl k.e8 t) p=if p-1∈l then k.cJ s (k.ld t p) else k.ld t p
 |[],t,d,b,f,_=>(by grind)
 |c::l,t,d,b,f,hi=>by
  have vt:∀x,k.cJ t x=k.cJ s x:=λx=>by grind [MT,cf.cJ]
  rw[a8,MX];obtain⟨g,i,j,m,n,o⟩:=xw hl hy hg hv l (k.st t (c+1) (k.cJ t (k.ld t (c+1)))) d b (by grind [xv]) (by grind)
  refine⟨g,i,j,m,n,λp=>?_⟩
  rw[o p];have hp:=cf.pm (f.trans hl) hy aa (c+1) (k.cJ t (k.ld t (c+1))) p;rw[b] at hp;by_cases e:p=c+1
  ·simp_all [MW]
  grind
theorem xx (hy:k.y<=k.N):∀(l:List Int)(t:cn),OQ t.ws=k.N+k.O->t.g<=k.O->(∀c∈l,dB k.N k.y t.g (c+1)=O5/\dB k.N k.y t.g (c+2)=O5)->
 (l.foldl k.ie t).rs=t.rs/\(l.foldl k.ie t).g=t.g/\∀p,k.ld (l.foldl k.ie t) p=if p-1∈l\/p-2∈l then 3 else k.ld t p
 |[],t,_,_,_=>(by grind)
 |c::l,t,d,b,hi=>by
  obtain⟨c1,c2⟩:=hi c ac;have l1:OQ (k.st t (c+1) 3).ws=k.N+k.O:=(by grind [xv])
  rw[a8];obtain⟨e,f,g⟩:=xx hy l _ ((xv _ _ _ _).trans l1) b (λx i=>hi x (bj _ i))
  refine⟨e,f,λp=>?_⟩
  have j:k.ie t c=k.st (k.st t (c+1) 3) (c+2) 3:=rfl;rw[j,g p,(cf.pm l1 hy b (c+2) 3) p,(cf.pm d hy b (c+1) 3) p];have g1:(k.st t (c+1) 3).g=t.g:=rfl
  grind
theorem C2 (ci:CI k s)(fC:Fo k s){b x:Int}(h:k.ml s b x):k.nw s x=k.nw s b:=by
 rcases h with e|⟨y1,c,d⟩
 ·rw[e]
 ·rw[tO y1 c,d];obtain⟨b1,b2⟩:=fC _ (oS y1) c
  grind [pY,oD]
theorem C3 {b x:Int}(h:k.ml s b x)(hy:k.cP x=O4):x=k.nw s b:=by
 rcases h with e|⟨y1,c,d⟩
 ·grind [pY]
 grind [tO]
theorem MY (li:LI k z s H D)(w:dU k z s H){a b i:Int}(o:k.or z s a b)(W:0<=i)(x:i<pf (k.l0 z a)):
 k.ld (k.be (k.mw s s.wk) (k.mw s s.wk).ep) (b+1+i)=if b∈s.ep then 3 else if b∈s.wk/\i=0 then k.cJ s (k.ld s (b+1+i)) else k.ld s (b+1+i):=by
 have ci:=li.mi.ci;have full:=li.mi.full;have hb:=li.mi.mem o;have ab:i<pf (k.ld s b):=((li.mi.hd a b o)▸x)
 have B:∀c∈s.wk,dB k.N k.y s.g (c+1)=O5:=λc hc=>by
  obtain⟨q1,f⟩:=w.wk c hc;have q3:=li.mi.bd q1;have:=iJ q3.2.2 (aI (aK f))
  exact iZ aa aa
 have ad:∀c∈s.ep,dB k.N k.y s.g (c+1)=O5/\dB k.N k.y s.g (c+2)=O5:=λc hc=>by
  obtain⟨q1,f⟩:=w.ep c hc;have q3:=li.mi.bd q1;have:=iJ q3.2.2 (aI (aI f))
  exact⟨iZ aa aa,iZ aa aa⟩
 obtain⟨m1,g,m,n,_,q⟩:=xw ci.len ci.hy ci.hg (C1 ci li.mi.fC) s.wk s rfl rfl rfl B;have n:(k.mw s s.wk).ep=s.ep:=n;have g:(k.mw s s.wk).g=s.g:=g;have m:OQ (k.mw s s.wk).ws=OQ s.ws:=m;obtain⟨_,_,b3⟩:=xx ci.hy s.ep _ ((m▸ci.len)) ((g▸ci.hg)) (by simp_all)
 have b3:∀p,k.ld (k.be (k.mw s s.wk) s.ep) p=if p-1∈s.ep\/p-2∈s.ep then 3 else k.ld (k.mw s s.wk) p:=b3
 have q:∀p,k.ld (k.mw s s.wk) p=if p-1∈s.wk then k.cJ s (k.ld s p) else k.ld s p:=q
 rw[n,b3,q];have t:∀j,0<=j->j<pf (k.ld s b)->_:=λj j0 F=>full.eC.field hb j0 F;have q1:∀l:List Int,(∀c∈l,c∈z.G++H)->((b+1+i)-1∈l↔(b∈l/\i=0)):=λl hl=>by
  constructor
  ·intro d;by_cases e:i=0
   ·simp_all
   ·exfalso;have:b+1+i-1=b+1+(i-1):=aa;rw[this] at d;exact t (i-1) aa aa (hl _ d)
  ·simp_all
 have f:(b+1+i)-2∈s.ep↔(b∈s.ep/\i=1):=by
  constructor
  ·intro d;obtain⟨r1,N⟩:=w.ep _ d;by_cases e:i=1
   ·subst e;have:b+1+1-2=b:=aa;rw[this] at d;exact⟨d,rfl⟩
   ·exfalso;by_cases S:i=0
    ·subst S;have ag:=iJ (li.mi.bd r1).2.2 (aI (aI N))
     have u:=full.eC.apart _ r1 b hb aa;have u:b+1+0-2+(1+pf (k.ld s (b+1+0-2)))<=b:=u;omega
    ·have:b+1+i-2=b+1+(i-2):=aa;rw[this] at r1;exact t (i-2) aa aa r1
  ·rintro⟨d,e⟩
   subst e;have:b+1+1-2=b:=aa;rw[this];exact d
 have ai:=q1 s.ep (λc hc=>(w.ep c hc).1)
 have al:=q1 s.wk (λc hc=>(w.wk c hc).1)
 by_cases c:b∈s.ep
 ·have v:=iJ (full.eC.mem b hb).2.2 (aI (aI (w.ep b c).2))
  have v:pf (k.ld s b)=2:=v;rw[aN c,aN];rcases(show i=0\/i=1 by omega) with e|e
  ·simp_all
  ·simp_all
 ·simp_all
theorem MZ (li:LI k z s H D)(w:dU k z s H){a b:Int}(o:k.or z s a b):k.ld (k.be (k.mw s s.wk) (k.mw s s.wk).ep) b=k.l0 z a/\(k.be (k.mw s s.wk) (k.mw s s.wk).ep).rs=s.rs:=by
 have ci:=li.mi.ci;have n:∀c∈s.wk,dB k.N k.y s.g (c+1)=O5:=λc hc=>by
  obtain⟨q1,t⟩:=w.wk c hc;have q3:=li.mi.bd q1
  grind [iJ,iZ]
 have v:∀c∈s.ep,dB k.N k.y s.g (c+1)=O5/\dB k.N k.y s.g (c+2)=O5:=λc hc=>by
  obtain⟨q1,t⟩:=w.ep c hc;have q3:=li.mi.bd q1
  grind [iJ,iZ]
 obtain⟨m1,f,g,i,u,j⟩:=xw ci.len ci.hy ci.hg (C1 ci li.mi.fC) s.wk s rfl rfl rfl n;have i:(k.mw s s.wk).ep=s.ep:=i;have f:(k.mw s s.wk).g=s.g:=f;have g:OQ (k.mw s s.wk).ws=OQ s.ws:=g;obtain⟨b1,_,b3⟩:=xx ci.hy s.ep _ ((g▸ci.len)) ((f▸ci.hg)) (by simp_all)
 have b3:∀p,k.ld (k.be (k.mw s s.wk) s.ep) p=if p-1∈s.ep\/p-2∈s.ep then 3 else k.ld (k.mw s s.wk) p:=b3
 have j:∀p,k.ld (k.mw s s.wk) p=if p-1∈s.wk then k.cJ s (k.ld s p) else k.ld s p:=j
 have no:∀c,c∈z.G++H->pf (k.ld s c)=2->∀d:Int,(d=1\/d=2)->b-d≠c:=λc hc x d hd e=>by have l:=li.mi.full.eC.apart c hc b (li.mi.mem o) aa;have l:c+(1+pf (k.ld s c))<=b:=l;omega
 rw[i,b3,j];refine⟨?_,b1.trans u⟩
 rw[aJ,aJ,(li.mi.hd a b o)]
 ·intro q;obtain⟨r1,m⟩:=w.wk _ q;exact no _ r1 (iJ (li.mi.bd r1).2.2 aa) 1 aa rfl
 ·rintro(q|q)
  ·obtain⟨r1,m⟩:=w.ep _ q;exact no _ r1 (iJ (li.mi.bd r1).2.2 aa) 1 aa rfl
  ·obtain⟨r1,m⟩:=w.ep _ q;exact no _ r1 (iJ (li.mi.bd r1).2.2 aa) 2 aa rfl
end
theorem tP {L:List Bool}{i:Nat}{t:cH}(b:X L i O4=O5)(c:t.1=3\/t.1=4->OQ t.2.1=2):OQ (gj L i t).2.1=OQ t.2.1/\(gj L i t).1=t.1/\(gj L i t).2.2=(O5,t.2.2.2):=by
 unfold gj
 grind
theorem C4 {L:List Bool}{i:Nat}{t:cH}(b:X L i O4=O4):gj L i t=(t.1,[],t.2.2.1,O5):=by grind [gj]
theorem nU {L:List Bool}{i:Nat}{t:cH}(b:X L i O4=O5)(c:t.1=3\/t.1=4->OQ t.2.1=2){k:Nat}(hk:k<OQ t.2.1):
 X (gj L i t).2.1 k (0,0)=if((t.1=3\/t.1=4)/\eN L (X t.2.1 0 (0,0))=O4)/\(k=0\/(t.1=4/\k=1)) then(2,0) else X t.2.1 k (0,0):=by
 unfold gj
 grind
structure tT (a:Wc)(S:cv)(W:ck)(m:Nat->Int)(B L:List Bool)(C:List b8)(S':cv)(m':Nat->Int)(G':List Int):Prop where
 kv:eA a S'.s [] G'
 ok:hQ W.T L
 cl:iM W.T W.wt (cx L)
 up:∀i,cx B i->cx L i
 rr:∀v∈W.rs,v.1=3->cx L (K v.2)
 cc:∀e∈C,e∈W.rg/\cx L (K e.2)
 rs:S'.s.rs=W.rs.map (wv m')
 pl:∀i,cx L i->m' i∈G'
 inj:∀i j,cx L i->cx L j->m' i=m' j->i=j
 gV:∀v∈G',∃i,cx L i/\m' i=v
 hd:∀i,cx L i->ld a.N S'.s.y S'.s.g S'.s.ws (m' i)=ld a.N S.s.y S.s.g S.s.ws (m i)
 fd:∀i,cx L i->∀k:Nat,k<OQ (X W.T i t0).2.1->ld a.N S'.s.y S'.s.g S'.s.ws (m' i+1+k)=wv m' (X (gj L i (X W.T i t0)).2.1 k (0,0))
 rg:S'.r=(W.rg.filter (λe=>cZ B e.2&&cZ L e.1)).map (we m')
 wt:S'.q=((W.wt++C).filter (λe=>cZ L e.1)).map (we m')
section
variable {a:Wc}{S S':cv}{W:ck}{m m':Nat->Int}{Y G G':List Int}{B L:List Bool}{C:List b8}
theorem C5 {L:List Bool}{v:Int×Int}(b:v.1=3):eN L v=X L (K v.2) O4:=by grind [eN]
theorem M0 {L:List Bool}{v:Int×Int}(b:v.1≠3):eN L v=O5:=by grind [eN]
theorem cE.led (h:cE a S W m Y G)(ok:hQ W.T L)(cl:iM W.T W.wt (cx L)){i:Nat}(hi:cx L i){k:Nat}(hk:k<OQ (X W.T i t0).2.1)(b:(X (gj L i (X W.T i t0)).2.1 k (0,0)).1=3):cx L (K (X (gj L i (X W.T i t0)).2.1 k (0,0)).2):=by
 have al:=ok.al i hi;have d:(X W.T i t0).1=3\/(X W.T i t0).1=4->_=_:=λc=>h.two al aa;rw[nU hi d hk] at b⊢;split at b
 ·omega
 ·rename_i c;rw[aJ c];have j:=qf _ _ (h.hd i al).1;by_cases f:(X W.T i t0).1=1\/(X W.T i t0).1=2
  ·exact cl i al.1 hi _ (aK ⟨f,(fL hk)⟩) b
  by_cases k3:(X W.T i t0).1=3
  ·have l2:=d aa;rcases(show k=0\/k=1 by omega) with e|e
   ·grind [oH]
   ·subst e;exact cl i al.1 hi _ (aI (aK ⟨k3,rfl⟩)) b
  by_cases k4:(X W.T i t0).1=4
  ·have g:eN L (X (X W.T i t0).2.1 0 (0,0))=O5:=by grind
   rcases(show k=0\/k=1 by omega) with e|e
   ·grind [oH]
   ·subst e;exact cl i al.1 hi _ (aI (aI (aK ⟨k4,oH g,rfl⟩))) b
  omega
theorem tT.done (h:cE a S W m Y G)(c:tT a S W m B L C S' m' G'):cE a S' ⟨gW L W.T (OQ W.T),W.rs,W.rg.filter (λe=>cZ B e.2&&cZ L e.1),(W.wt++C).filter (λe=>cZ L e.1)⟩ m' [] G':=by
 have gt:∀j,j<OQ W.T->X (gW L W.T (OQ W.T)) j t0=gj L j (X W.T j t0):=λj n=>by rw[sZ L W.T (OQ W.T) j bY n,aN n]
 have g:∀i,cx L i->((X W.T i t0).1=3\/(X W.T i t0).1=4->_=_):=λi hi q=>h.two (c.ok.al i hi) (aI q)
 have al:∀j,cz (gW L W.T (OQ W.T)) j↔cx L j:=λj=>by
  unfold cz;rw[kE];constructor
  ·grind [C4,cx]
  ·intro b;have ha:=c.ok.al j b;refine⟨ha.1,?_⟩
   rw[gt j ha.1,(tP b (g j b)).2.2];exact ha.2
 have o:∀j,cx L j->OQ (X (gW L W.T (OQ W.T)) j t0).2.1=OQ (X W.T j t0).2.1/\(X (gW L W.T (OQ W.T)) j t0).1=(X W.T j t0).1/\(X (gW L W.T (OQ W.T)) j t0).2.2.1=O5:=λj b=>by
  have ha:=c.ok.al j b;obtain⟨q1,f,q3⟩:=tP b (g j b)
  rw[gt j ha.1,q3];exact⟨q1,f,rfl⟩
 have u:∀v,dL W.T v->(v.1=3->cx L (K v.2))->dL (gW L W.T (OQ W.T)) v:=λv hv b=>⟨λe=>⟨(hv.t e).1,(al _).2 (b e)⟩,hv.o⟩
 have s:∀e,gP W.T e->cx L (K e.1)->cx L (K e.2)->gP (gW L W.T (OQ W.T)) e:=λe he t g=>⟨he.g0,(al _).2 t,((o _ t).2.1▸he.k),he.h0,(al _).2 g⟩
 exact
 {
  kv:=c.kv,rl:=h.rl,rv:=λv hv=>u v (h.rv v hv) (c.rr v hv)
  fv:=λi hi v hv=>by
   have b:=(al i).1 hi;have ha:=c.ok.al i b;have hv:=hv;rw[gt i ha.1] at hv;obtain⟨k,hk,e⟩:=bP.1 hv;have ev:X (gj L i (X W.T i t0)).2.1 k (0,0)=v:=by rw[aM,aP hk,e];rfl
   rw[(tP b (g i b)).1] at hk;refine⟨λl=>?_,λl=>?_⟩
   ·have hl:=h.led c.ok c.cl b hk (by simp_all)
    rw[ev] at hl;refine⟨?_,(al _).2 hl⟩
    rw[nU b (g i b) hk] at ev;split at ev
    ·rw[<-ev] at l;exact absurd l ae
    ·rw[<-ev] at l⊢;exact((h.fv i ha _ (fL hk)).t l).1
   ·rw[nU b (g i b) hk] at ev;split at ev
    ·rw[<-ev];decide
    ·rw[<-ev] at l⊢;exact(h.fv i ha _ (fL hk)).o l
  rs:=c.rs
  i9:=λi hi e=>by simp_all
  old:=λi hi _=>c.pl i ((al i).1 hi)
  inj:=λi j hi n e=>c.inj i j ((al i).1 hi) ((al j).1 n) e
  gV:=λv hv=>by grind [gV]
  hd:=λi hi=>by have b:=(al i).1 hi;show hc _ _=0/\ld a.N S'.s.y S'.s.g S'.s.ws (m' i)=hw _ _;rw[(o i b).1,(o i b).2.1,c.hd i b];exact h.hd i (c.ok.al i b)
  fd:=λi hi k hk=>by have b:=(al i).1 hi;have hk:=hk;rw[(o i b).1] at hk;show ld a.N S'.s.y S'.s.g S'.s.ws _=wv m' _;rw[gt i (c.ok.al i b).1];exact c.fd i b k hk
  rg:=c.rg
  gv:=λe he=>by obtain⟨q1,f⟩:=bK.1 he;rw[nS] at f;exact s e (h.gv e q1) f.2 (c.up _ f.1)
  wt:=c.wt
  dH:=λe he=>by
   obtain⟨q1,f⟩:=bK.1 he;rcases bw.1 q1 with d|d
   ·have p:=h.dH e d;exact s e p f (c.cl _ p.g.1 f (3,e.2) (aI (aI (aI ⟨p.k,e,d,by have:=p.g0;omega,rfl⟩))) rfl)
   ·obtain⟨w,x⟩:=c.cc e d;exact s e (h.gv e w) f x
  tl:=λi=>by
   show OQ (X (gW L W.T (OQ W.T)) i t0).2.1<=12;by_cases hi:i<OQ W.T
   ·rw[gt i hi];cases d:X L i O4
    ·rw[C4 d];simp
    ·rw[(tP d (g i d)).1];exact h.tl i
   ·rw[aM,List.getElem?_eq_none (by rw[kE];omega)];simp[t0]}
end
end Go.Proofs.YtjckpdepffejnaaGreatDoor
