import Derived.Test.YtjckpdepffejnaaGreatDoorJ21
open Bool renaming and_eq_true->mq,false->OU,true->OV
open Int renaming natCast_nonneg->mo,toNat->K
open List renaming contains_iff_mem->bS,getD->U,length->OG,map_append->bU,mem_append->bw,mem_filter->bK,mem_iff_getElem->bP,mem_map->bR,mem_singleton->bN,range->kr
namespace Go.Proofs.YtjckpdepffejnaaGreatDoor
open Go.RowKit W Kp ch
def gF (P:Nat->Bool)(z:Nat->Nat):Nat->Nat
 |0=>0
 |n+1=>gF P z n+if P n=OV then z n else 0
theorem CL {P:Nat->Bool}{z:Nat->Nat}{m:Nat->Int}{f:Int->Nat}:∀n,(∀i,i<n->P i=OV->f (m i)=z i)->gF P z n=iF f (((kr n).filter P).map m)
 |0,_=>by rfl
 |n+1,h=>by
  rw[gF,CL n (λi hi hp=>h i aa hp),List.range_succ,List.filter_append,bU,Im]
  grind [iF]
theorem xi {P:Nat->Bool}{z:Nat->Nat}{m:Nat->Int}{f:Int->Nat}{n:Nat}{l:List Int}(b:∀i,i<n->P i=OV->f (m i)=z i)(hn:l.Nodup)(inj:∀i j,i<n->j<n->P i=OV->P j=OV->m i=m j->i=j)(hl:∀v,v∈l↔∃i,i<n/\P i=OV/\m i=v):gF P z n=iF f l:=by
 rw[CL n b];have c:∀v,v∈((kr n).filter P).map m↔v∈l:=λv=>by grind
 have nd:(((kr n).filter P).map m).Nodup:=by grind [List.Pairwise.imp_of_mem,List.nodup_range]
 exact Nat.le_antisymm (by simp_all [AD]) (by simp_all [AD])
theorem MJ {P Q:Nat->Bool}{z b:Nat->Nat}:∀n,(∀i,i<n->P i=Q i/\(P i=OV->z i=b i))->gF P z n=gF Q b n
 |0,_=>rfl
 |n+1,h=>by
  obtain⟨c,d⟩:=h n aa;rw[gF,gF,MJ n (λi hi=>h i aa),<-c]
  grind
theorem CM {P Q:Nat->Bool}{z:Nat->Nat}:∀n,(∀i,i<n->P i=OV->Q i=OV)->gF P z n<=gF Q z n
 |0,_=>aG _
 |n+1,h=>by
  have b:=CM (z:=z) n (λi hi=>h i aa)
  grind [gF]
theorem CN {P Q R:Nat->Bool}{z:Nat->Nat}:∀n,(∀i,i<n->R i=(P i||Q i)/\(P i&&Q i)=OU)->gF R z n=gF P z n+gF Q z n
 |0,_=>rfl
 |n+1,h=>by
  obtain⟨b,c⟩:=h n aa;rw[gF,gF,gF,(CN n (λi hi=>h i aa)),b]
  grind
def jf (T:List cH)(i:Nat):Nat:=1+OG (U T i t0).2.1
def ki (T:List cH)(i:Nat):Bool:=!(U T i t0).2.2.2&&!(U T i t0).2.2.1
def oB (T:List cH)(i:Nat):Bool:=!(U T i t0).2.2.2&&(U T i t0).2.2.1
theorem CO (T:List cH):∀n,n<=OG T->el (T.take n)=((gF (ki T) (jf T) n:Int),(gF (oB T) (jf T) n:Int))
 |0,_=>by rfl
 |n+1,h=>by
  rw[h7 T n aa t0,zM,CO T n aa];show l9 _ _=(((gF (ki T) (jf T) n+if ki T n=OV then jf T n else 0:Nat):Int),((gF (oB T) (jf T) n+if oB T n=OV then jf T n else 0:Nat):Int))
  grind [l9,ki,oB,jf]
theorem CP (T:List cH):el T=((gF (ki T) (jf T) (OG T):Int),(gF (oB T) (jf T) (OG T):Int)):=by
 have:=CO T (OG T) aa
 grind
theorem xj (T:List cH)(L:List Bool):∀n,je T L n=(gF (λi=>U L i OU) (jf T) n:Int)
 |0=>rfl
 |n+1=>by
  rw[je,xj T L n,gF]
  grind [jf]
section
variable {a:Wc}{S:cv}{W:cj}{m:Nat->Int}{Y G:List Int}
theorem cE.size (h:cE a S W m Y G){i:Nat}(hi:cz W.T i):oC (ld a.N S.s.y S.s.g S.s.ws) (m i)=jf W.T i:=by grind [parts,oC,jf]
theorem nP {T:List cH}{i:Nat}(b:i<OG T)(c:(U T i t0).2.2.2=OU):cz T i:=⟨b,c⟩
theorem cE.us (h:cE a S W m Y G)(hb:cL a S.s):el W.T=((S.s.y:Int),(S.s.g:Int)):=by
 have g:=hb.y1;have k:gF (ki W.T) (jf W.T) (OG W.T)=iF (oC (ld a.N S.s.y S.s.g S.s.ws)) Y:=by
  refine xi (m:=m) (λi hi hp=>?_) h.kv.inv.full.ty.nodup (λi j hi b hp hq e=>?_) (λv=>⟨λhv=>?_,?_⟩)
  ·grind [size,nP,ki]
  ·unfold ki at hp hq;simp at hp hq;exact h.inj i j (nP hi hp.1) (nP b hq.1) e
  ·obtain⟨i,hi,e⟩:=h.gR v (by grind)
   refine⟨i,hi.1,?_,e⟩
   unfold ki;rw[hi.2];cases c:(U W.T i t0).2.2.1
   ·rfl
   ·have d:=h.kv.inv.full.io _ (h.old i hi c)
    have f:=h.kv.inv.full.jq v hv;omega
  ·rintro⟨i,hi,hp,e⟩
   unfold ki at hp;simp at hp;rw[<-e];exact h.i7 i (nP hi hp.1) hp.2
 have l:gF (oB W.T) (jf W.T) (OG W.T)=iF (oC (ld a.N S.s.y S.s.g S.s.ws)) G:=by
  refine xi (m:=m) (λi hi hp=>?_) h.kv.inv.full.eB.nodup (λi j hi b hp hq e=>?_) (λv=>⟨λhv=>?_,?_⟩)
  ·grind [size,nP,oB]
  ·unfold oB at hp hq;simp at hp hq;exact h.inj i j (nP hi hp.1) (nP b hq.1) e
  ·obtain⟨i,hi,e⟩:=h.gR v (by grind)
   refine⟨i,hi.1,?_,e⟩
   unfold oB;rw[hi.2];cases c:(U W.T i t0).2.2.1
   ·have d:=h.kv.inv.full.jq _ (h.i7 i hi c)
    have f:=h.kv.inv.full.io v hv;omega
   ·rfl
  ·rintro⟨i,hi,hp,e⟩
   unfold oB at hp;simp at hp;rw[<-e];exact h.old i (nP hi hp.1) hp.2
 have n:=h.kv.inv.full.ty.sum;have o:=h.kv.inv.full.eB.sum
 grind [CP]
end
theorem cE.start (a:Wc)(n o:Nat):cE a (ju n o).1 (ju n o).2 (λ_=>0) [] []:=by
 have no:∀i,¬cz (ju n o).2.T i:=λi hi=>absurd hi.1 (Nat.not_lt_zero i)
 have c:∀x∈(ju n o).1.s.rs,di x=OV->cq x∈([]:List Int)\/cq x∈([]:List Int):=λx b ha=>by
  have b:x∈tw 2 12:=b
  simp_all [A3,tw]
 exact
 {
  kv:=⟨⟨ey.start,c,λv hv=>(by simp_all)⟩,λv hv=>(by grind)⟩
  rl:=af,rv:=λv hv=>(List.eq_of_mem_replicate hv▸dL.nil _)
  fv:=λi hi=>(by grind),rs:=af
  i7:=λi hi=>(by grind),old:=λi hi=>(by grind),inj:=λi _ hi=>(by grind)
  gR:=λv hv=>by simp_all
  hd:=λi hi=>(by grind),fd:=λi hi=>(by grind),rg:=rfl,gv:=λe he=>(by cases he),wt:=rfl,dH:=λe he=>(by cases he)
  tl:=λi=>by simp[ju,t0]}
section
variable {a:Wc}{S:cv}{W:cj}{m:Nat->Int}{Y G:List Int}
theorem cE.xc (h:cE a S W m Y G)(c:OG W.T<=10000)(d:OG W.rg<=1000)(b:OG W.wt<=1000):fX W:=
 {
  iv:=⟨λi hi hk=>by have:=qc _ _ (h.hd i hi).1;omega,λi hi v hv b=>(h.fv i hi v hv).t b,λe he=>⟨(h.dH e he).h0,(h.dH e he).h⟩,h.tl⟩
  rv:=λv hv b=>(h.rv v hv).t b
  gv:=λe he=>⟨⟨(h.gv e he).g0,(h.gv e he).g⟩,(h.gv e he).h0,(h.gv e he).h⟩
  wg:=λe he=>⟨(h.dH e he).g0,(h.dH e he).g⟩
  tl:=c,gl:=d,wl:=b}
theorem cE.iv (h:cE a S W m Y G):e9 W.T W.wt:=
 ⟨λi hi hk=>by have:=qc _ _ (h.hd i hi).1;omega,λi hi v hv b=>(h.fv i hi v hv).t b,λe he=>⟨(h.dH e he).h0,(h.dH e he).h⟩,h.tl⟩
theorem cE.first (h:cE a S W m Y G)(mj:Bool):hJ W.T (kZ W.T W.rs mj):=
 ⟨By _ _ _,λk hk=>by
  obtain⟨c,b⟩:=(lK _ _ _ _).1 hk;rcases b with⟨_,b,_⟩|⟨v,hv,d,e⟩
  ·exact⟨c,b⟩
  ·rw[<-e];exact((h.rv v hv).t d).2⟩
theorem cE.field (h:cE a S W m Y G){i:Nat}(hi:cz W.T i){v:Int×Int}(hv:v∈(U W.T i t0).2.1):∃k:Nat,k<OG (U W.T i t0).2.1/\U (U W.T i t0).2.1 k (0,0)=v/\ld a.N S.s.y S.s.g S.s.ws (m i+1+k)=wv m v:=by grind [fd,bP]
theorem cE.two (h:cE a S W m Y G){i:Nat}(hi:cz W.T i)(hk:(U W.T i t0).1=1\/(U W.T i t0).1=3\/(U W.T i t0).1=4):OG (U W.T i t0).2.1=2:=by have:=qc _ _ (h.hd i hi).1;omega
end
structure lP (k:cf)(z:C0)(C:Int->Prop):Prop where
 old:∀b∈z.G,C b
 p:∀c,(c∈k.T\/c∈z.G)->C c->pk (k.l0 z c)=1\/pk (k.l0 z c)=2->∀i:Nat,(i:Int)<pf (k.l0 z c)->k.cP (k.l0 z (c+1+i))=OV->C (cq (k.l0 z (c+1+i)))
 w:∀c,(c∈k.T\/c∈z.G)->C c->pk (k.l0 z c)=3->k.cP (k.l0 z (c+1+1))=OV->C (cq (k.l0 z (c+1+1)))
 e:∀c,(c∈k.T\/c∈z.G)->C c->pk (k.l0 z c)=4->(k.cP (k.l0 z (c+1+0))=OV->C (cq (k.l0 z (c+1+0))))->k.cP (k.l0 z (c+1+1))=OV->C (cq (k.l0 z (c+1+1)))
def mD (k:cf)(C:Int->Prop)(q:List b8):Prop:=∀e∈q,(k.cP e.1=OV->C (cq e.1))->k.cP e.2=OV->C (cq e.2)
def dm (k:cf)(C:Int->Prop)(s:cn):Prop:=∀a∈k.T,s.f a≠-1->C a
section
variable {k:cf}{z:C0}{s t:cn}{H D:List Int}{C:Int->Prop}
theorem oQ {x:Int}(h:k.cP x=OV):cq x∈k.T:=by grind [cf.cP]
theorem nQ {x:Int}(h:k.ls s x=OV):k.cP x=OV:=by grind [cf.ls]
theorem dm.br (h:dm k C s)(x:Int)(d:k.cP x=OV->C (cq x)):dm k C (k.br s x).2:=by
 unfold cf.br;split
 ·rename_i c;intro b hb f;by_cases e:b=cq x
  ·grind [nQ]
  ·refine h b hb ?_
   simp_all [cf.cp,ia]
 omega
theorem dK.tK (h:dK k z s H){a b i:Int}(ho:k.or z s a b)(c:0<=i)(d:i<pf (k.l0 z a))(hl:k.cP (k.ld s (b+1+i))=OV):k.ld s (b+1+i)=k.l0 z (a+1+i):=by
 rcases h.fd a b ho i c d with e|⟨y1,f,g⟩
 ·omega
 ·have hb:=h.jR (h.fh _ (oQ y1) f)
  have n1:=h.ci.hN';have j:=h.ci.hO;have l:=h.ci.hg;rw[g,oA h.ci hb.1 aa] at hl
  grind
theorem dm.kf (h:dm k C s)(mi:dK k z s H){a b i:Int}(ho:k.or z s a b)(c:0<=i)(d:i<pf (k.l0 z a))(e:k.cP (k.l0 z (a+1+i))=OV->C (cq (k.l0 z (a+1+i)))):dm k C (k.kf s (b+1+i)):=
 h.br _ (by grind [dK.tK])
theorem dm.g9 (h:dm k C s)(mi:dK k z s H){a b:Int}(ho:k.or z s a b)(c:∀i:Nat,(i:Int)<pf (k.l0 z a)->k.cP (k.l0 z (a+1+i))=OV->C (cq (k.l0 z (a+1+i)))):∀n:Nat,(n:Int)<=pf (k.l0 z a)->dm k C (k.g9 s b n)
 |0,_=>h
 |n+1,hn=>by obtain⟨e,m1,d,_⟩:=mi.g9 ho n aa;exact(dm.g9 h mi ho c n aa).kf m1 (d.or ho) aa aa (by grind)
theorem xk {a b:Int}(ho:k.or z s a b):a∈k.T\/a∈z.G:=by
 rcases ho with⟨e,h⟩|⟨h,_⟩
 all_goals grind
theorem dm.or (h:dm k C s)(d:lP k z C){a b:Int}(ho:k.or z s a b):C a:=by
 rcases ho with⟨e,c⟩|⟨c,f,g⟩
 ·grind [lP.old]
 ·exact h a c aa
theorem dm.lk (h:dm k C s)(mi:dK k z s H)(c:lP k z C){a b:Int}(ho:k.or z s a b):dm k C (k.lk s b):=by
 have ha:=h.or c ho;have hm:=xk ho;have e:=mi.hd a b ho;have hb:=mi.bd (mi.mem ho)
 have j:=du (k.ld s b)
 unfold cf.lk;by_cases c1:pk (k.ld s b)=1\/pk (k.ld s b)=2
 ·rw[aM c1];exact h.g9 mi ho (c.p a hm ha (by simp_all)) _ (by rw[<-e];omega)
 ·rw[aJ c1];by_cases c3:pk (k.ld s b)=3
  ·rw[aM c3];have l:=iG hb.2.2 (aI (aK c3))
   have hN:=mi.ci.hN';have hO:=mi.ci.hO;have hg:=mi.ci.hg;have f:=mi.turn (s.wk++[b]) s.ep s.rs s.nx (λx g=>by
    rcases bw.1 g with d|d
    ·exact mi.ci.ja x d
    ·rw[bN] at d;omega) mi.ci.iZ mi.ci.iY mi.ci.kt
   have i:dm k C {s with wk:=s.wk++[b],ep:=s.ep,rs:=s.rs,nx:=s.nx}:=h;have m:=i.kf f ho aa (by simp_all) (c.w a hm ha ((e▸c3)))
   grind
  ·rw[aJ c3];split
   ·exact h
   ·exact h
theorem dm.lb (b:lP k z C):∀(n:Nat){s:cn}{H:List Int},LI k z s H D->dm k C s->dm k C (k.lb n s)
 |0,_,_,_,h=>h
 |n+1,s,H,l,h=>by
  unfold cf.lb;cases hn:hB k.N s.g s.nx
  ·simp_all
  ·have hb:=kJ hn;obtain⟨a,ho⟩:=l.mi.from (List.mem_append_right z.G (l.bo.resolve_right aa))
   obtain⟨c,m1,_,_⟩:=l.l7 hn;exact dm.lb b n m1 (h.lk l.mi b ho)
theorem dm.key (h:dm k C s)(mi:dK k z s H){a b:Int}(ho:k.or z s a b)(c:0<pf (k.l0 z a))(hl:k.ls s (k.ld s (b+1))=OU)(hy:k.cP (k.l0 z (a+1+0))=OV):C (cq (k.l0 z (a+1+0))):=by
 refine h _ (oQ hy) ?_;have f:b+1+0=b+1:=aa;rcases mi.fd a b ho 0 aa c with e|⟨y1,g,_⟩
 ·rw[f] at e;intro d;unfold cf.ls at hl;rw[e,hy,d] at hl;simp at hl
 ·exact g
theorem dm.sD (h:dm k C s)(l:LI k z s H D)(c:lP k z C){b:Int}(hb:b∈z.G++H)(f:pk (k.ld s b)=4)(d:k.ls s (k.ld s (b+1))=OU):dm k C (k.kf (k.kf s (b+1)) (b+2)):=by
 obtain⟨a,o⟩:=l.mi.from hb;have n:=iG (l.mi.bd hb).2.2 (aI (aI f))
 have p:=l.mi.hd a b o;have g:b+1+0=b+1:=aa;have j:b+1+1=b+2:=aa;obtain⟨q,m1,m,_,_⟩:=l.mi.kf (i:=0) o aa (by simp_all)
 have e:=(h.kf l.mi o aa (by simp_all) (h.key l.mi o (by simp_all) d)).kf m1 (m.or o) aa (by simp_all) (c.e a (xk o) (h.or c o) (by simp_all) (h.key l.mi o (by simp_all) d))
 rw[g,j] at e;exact e
theorem dm.jb (c:lP k z C):∀(l left:List Int){s:cn}{H:List Int},LI k z s H D->(∀a∈l,a∈z.G++H/\pk (k.ld s a)=4)->dm k C s->dm k C (l.foldl k.cW (left,s)).2
 |[],_,_,_,_,_,h=>h
 |b::l,left,s,H,li,hl,h=>by
  rw[a8];cases hls:k.ls s _
  ·have d:k.cW (left,s) b=(left,k.kf (k.kf s (b+1)) (b+2)):=by unfold cf.cW;rw[aJ (by rw[hls];simp)]
   rw[d];obtain⟨e,f⟩:=hl b ac;obtain⟨m,m1,g,i,n,o⟩:=li.sD e f;exact dm.jb c l left m1 (λa ha=>by
    obtain⟨n1,j⟩:=hl a (bk _ ha)
    exact⟨AO i n1,(g.hd li.mi m1.mi n1▸j)⟩) (h.sD li c e f hls)
  ·have d:k.cW (left,s) b=(left++[b],s):=by unfold cf.cW;rw[aM hls]
   rw[d];exact dm.jb c l _ li (λa ha=>hl a (bk _ ha)) h
theorem dm.kv (b:lP k z C)(l:LI k z s H D)(w:dT k z s H)(h:dm k C s):dm k C (k.kv s).2:=dm.jb b s.ep [] l w.ep h
theorem dm.lE:∀(l:List Nat)(t:(cn×List b8)×Bool)(H:List Int),LI k z t.1.1 H D->dT k z t.1.1 H->(∀i∈l,i<OG t.1.2)->mD k C t.1.2->dm k C t.1.1->dm k C (l.foldl (dN k.al k.br) t).1.1/\mD k C (l.foldl (dN k.al k.br) t).1.2
 |[],_,_,_,_,_,q,h=>⟨h,q⟩
 |i::l,t,H,li,w,hl,q,h=>by
  rw[a8];by_cases c:(k.al t.1.1 (U t.1.2 i (0,0)).2||!k.al t.1.1 (U t.1.2 i (0,0)).1)=OV
  ·have b:dN k.al k.br t i=t:=by unfold dN;rw[aM c]
   rw[b];exact dm.lE l t H li w (λj e=>hl j (bk _ e)) q h
  ·have b:dN k.al k.br t i=(((k.br t.1.1 (U t.1.2 i (0,0)).2).2,t.1.2.set i ((U t.1.2 i (0,0)).1,(k.br t.1.1 (U t.1.2 i (0,0)).2).1)),OV):=by unfold dN;rw[aJ c]
   obtain⟨f,l1,w1,g,_⟩:=df.br _ H li w;obtain⟨_,_,_,y1,_,_,_⟩:=li.mi.br _;have c2:k.al t.1.1 (U t.1.2 i (0,0)).1=OV:=by simp_all
   have hg:k.cP (U t.1.2 i (0,0)).1=OV->_:=λhy=>h _ (oQ hy) (λd=>by unfold cf.al cf.ls at c2;rw[hy,d] at c2;simp at c2)
   rw[b];refine dm.lE l _ f l1 w1 (λj e=>?_) ?_ (h.br _ (q _ (fL (hl i ac)) hg))
   ·simp_all
   ·intro d hd;have hd:=hd;rcases List.mem_or_eq_of_mem_set hd with hd|rfl
    ·exact q d hd
    ·intro _ hy;rw[y1] at hy;cases hy
theorem dm.wa {t:cn×List b8}(l:LI k z t.1 H D)(w:dT k z t.1 H)(q:mD k C t.2)(h:dm k C t.1):dm k C (k.wa t).1.1/\mD k C (k.wa t).1.2:=
 dm.lE _ (t,OU) H l w (λ_ hi=>List.mem_range.1 hi) q h
theorem dm.de (b:lP k z C):∀(n:Nat)(t:cn×List b8)(H:List Int),LI k z t.1 H D->dT k z t.1 H->mD k C t.2->dm k C t.1->dm k C (k.de n t).1/\mD k C (k.de n t).2
 |0,_,_,_,_,q,h=>⟨h,q⟩
 |n+1,t,H,l,w,q,h=>by
  obtain⟨g,l1,w1,o,_⟩:=df.lb (k.O+1) H l w;obtain⟨d,l2,c,p,_⟩:=df.kv g l1 w1;have e:=dm.kv b l1 w1 (dm.lb b (k.O+1) l h)
  obtain⟨i,j,m,_,_⟩:=df.wa ((k.kv _).2,t.2) d l2 c;obtain⟨f,q3⟩:=dm.wa (t:=((k.kv _).2,t.2)) l2 c q e;unfold cf.de;split
  ·exact dm.de b n ((k.kv _).2,t.2) d l2 c q e
  ·split
   ·exact dm.de b n _ i j m q3 f
   ·exact⟨f,q3⟩
theorem dm.ke (b:lP k z C){t:cn×List b8}(l:LI k z t.1 H D)(w:dT k z t.1 H)(q:mD k C t.2)(h:dm k C t.1)(x:Int)(c:k.cP x=OV->C (cq x)):dm k C (k.ke t x).2.1/\mD k C (k.ke t x).2.2:=by obtain⟨d,l1,w1,_,_⟩:=df.br x H l w;exact dm.de b _ ((k.br t.1 x).2,t.2) d l1 w1 q (h.br x c)
theorem dm.cO (l:LI k z s H D)(h:dm k C s)(hr:∀i,i<OG s.rs->k.cP (U s.rs i 0)=OV->C (cq (U s.rs i 0))):∀n,n<=OG s.rs->dm k C (k.cO s n)
 |0,_=>h
 |n+1,hn=>by
  obtain⟨_,_,_,_,_,_,b,_⟩:=LI.cO l n aa;have:=(dm.cO l h hr n aa).br (U (k.cO s n).rs n 0) (((b n bY)▸hr n aa))
  exact this
theorem dm.lm (e:lP k z C)(c:Int)(M:List Int)(hz:eQ (k.l0 z) ((k.N:Int)+z.g) k.N z.G):∀(l:List Int){s:cn}{H D:List Int},LI k z s H D->(∀a∈l,a∈z.G\/(k.N:Int)+z.g<=a)->dm k C s->dm k C (l.foldl (k.g_ ((k.N:Int)+z.g) c M) s)
 |[],_,_,_,_,_,h=>h
 |b::l,s,H,D,li,hl,h=>by
  rw[a8];have i:=du (k.ld s b)
  by_cases d:b∈z.G/\(gP k.N c b&&M.contains (cN k.N b))=OV
  ·have hb:=(hz.mem b d.1).2.1;have f:k.g_ ((k.N:Int)+z.g) c M s b=k.lk s b:=by unfold cf.g_;rw[aM (by rw[(li.mi.hd b b (aK ⟨rfl,d.1⟩))];omega),aM d.2]
   rw[f];obtain⟨j,m1,m,⟨n,o⟩⟩:=li.lk d.1;exact dm.lm e c M hz l m1 (λa ha=>hl a (bk _ ha)) (h.lk li.mi e (aK ⟨rfl,d.1⟩))
  ·have f:k.g_ ((k.N:Int)+z.g) c M s b=s:=by
    unfold cf.g_;by_cases g:b∈z.G
    ·simp_all
    ·have:=(hl b ac).resolve_left g;rw[aJ aa]
   rw[f];exact dm.lm e c M hz l li (λa ha=>hl a (bk _ ha)) h
end
section
variable {k:cf}{z:C0}{s t:cn}{H D:List Int}
theorem CQ (k:cf):∀(l left:List Int)(s:cn),OG left+OG l<=OG (l.foldl k.cW (left,s)).1->l.foldl k.cW (left,s)=(left++l,s)/\∀a∈l,k.ls s (k.ld s (a+1))=OV
 |[],left,s,_=>(by grind)
 |b::l,left,s,h=>by
  rw[a8] at h⊢;cases hls:k.ls s _
  ·have c:k.cW (left,s) b=(left,k.kf (k.kf s (b+1)) (b+2)):=by unfold cf.cW;rw[aJ (by rw[hls];simp)]
   grind [sE]
  ·have c:k.cW (left,s) b=(left++[b],s):=by grind [cf.cW]
   rw[c] at h⊢;obtain⟨d,e⟩:=CQ k l (left++[b]) s (by grind)
   grind
theorem MK (h:(k.kv s).1=OU):(k.kv s).2=s/\∀a∈s.ep,k.ls s (k.ld s (a+1))=OV:=by
 unfold cf.kv cf.em at h⊢;obtain⟨b,c⟩:=CQ k s.ep [] s (by simp_all)
 rw[b];exact⟨rfl,c⟩
theorem xl:∀(n:Nat)(t:cn×List b8)(H:List Int),LI k z t.1 H D->dT k z t.1 H->eC k t.1->k.mu t.1<n->∀b∈(k.de n t).1.ep,k.ls (k.de n t).1 (k.ld (k.de n t).1 (b+1))=OV
 |0,t,H,_,_,_,e=>aa
 |n+1,t,H,h,w,hb,e=>by
  obtain⟨u,l1,w1,_,_,v⟩:=LI.pF (k.O+1) h w;obtain⟨c1,c2,c3⟩:=CI.lb h.mi.ci hb (k.O+1)
  obtain⟨i,c,x,j⟩:=CI.kv c1 c2;obtain⟨d,l2,f,_,_⟩:=l1.kv w1;unfold cf.de;cases hk:(k.kv _).1
  ·obtain⟨g1,g2⟩:=MK hk;obtain⟨B,l,F,N,m⟩:=CI.wa (s:=((k.kv _).2,t.2)) i c;cases hw:(k.wa ((k.kv _).2,t.2)).2
   ·grind [vY]
   ·obtain⟨o,p,q,_,_⟩:=df.wa ((k.kv _).2,t.2) d l2 f;have g:=m hw;dsimp only at g;exact xl n _ o p q l aa
  ·rw[aM rfl];have g:=j hk;exact xl n ((k.kv _).2,t.2) d l2 f c (by grind)
structure ga (k:cf)(s:cn)(q0 q:List b8):Prop where
 len:OG q=OG q0
 eq:∀n,n<OG q0->(U q n (0,0)).1=(U q0 n (0,0)).1/\k.ml s (U q0 n (0,0)).2 (U q n (0,0)).2
theorem ga.refl (s:cn)(q:List b8):ga k s q q:=⟨rfl,λ_ _=>⟨rfl,aK rfl⟩⟩
theorem ga.kz {q0 q:List b8}(h:ga k s q0 q)(p:c_ k s t):ga k t q0 q:=⟨h.len,λn hn=>(by grind [eq,c_.ml])⟩
theorem ga.snoc {q0 q:List b8}(h:ga k s q0 q){e b:b8}(d:b.1=e.1)(f:k.ml s e.2 b.2):ga k s (q0++[e]) (q++[b]):=by
 refine⟨by simp[h.len],λn hn=>?_⟩
 rw[aX,List.length_singleton] at hn;by_cases c:n<OG q0
 ·grind [pT,len,eq]
 ·have en:n=OG q0:=aa;subst en
  grind [len]
theorem ga.mf {q0:List b8}:∀(l:List Nat)(t:(cn×List b8)×Bool)(H:List Int),LI k z t.1.1 H D->dT k z t.1.1 H->(∀i∈l,i<OG t.1.2)->ga k t.1.1 q0 t.1.2->ga k (l.foldl (dN k.al k.br) t).1.1 q0 (l.foldl (dN k.al k.br) t).1.2
 |[],_,_,_,_,_,e=>e
 |i::l,t,H,h,w,hl,e=>by
  rw[a8];by_cases c:(k.al t.1.1 (U t.1.2 i (0,0)).2||!k.al t.1.1 (U t.1.2 i (0,0)).1)=OV
  ·have b:dN k.al k.br t i=t:=by grind [dN]
   rw[b];exact ga.mf l t H h w (by grind) e
  ·have b:dN k.al k.br t i=(((k.br t.1.1 (U t.1.2 i (0,0)).2).2,t.1.2.set i ((U t.1.2 i (0,0)).1,(k.br t.1.1 (U t.1.2 i (0,0)).2).1)),OV):=by grind [dN]
   obtain⟨d,l1,w1,f,_⟩:=df.br _ H h w;obtain⟨_,_,_,_,_,m1,_⟩:=h.mi.br _;rw[b];refine ga.mf l _ d l1 w1 (λj g=>?_) ⟨?_,λn hn=>?_⟩
   ·grind
   ·grind [len]
   ·rw[xf _ _ _ _ _ (by grind)];by_cases en:i=n
    ·rw[aM en];subst en;exact⟨(e.eq i hn).1,m1 _ (e.eq i hn).2⟩
    ·rw[aJ en]
     grind [eq,c_.ml]
theorem ga.wa {q0:List b8}{t:cn×List b8}(h:LI k z t.1 H D)(w:dT k z t.1 H)(e:ga k t.1 q0 t.2):ga k (k.wa t).1.1 q0 (k.wa t).1.2:=
 ga.mf _ (t,OU) H h w (by grind) e
theorem ga.de {q0:List b8}:∀(n:Nat)(t:cn×List b8)(H:List Int),LI k z t.1 H D->dT k z t.1 H->ga k t.1 q0 t.2->ga k (k.de n t).1 q0 (k.de n t).2
 |0,_,_,_,_,e=>e
 |n+1,t,H,h,w,e=>by
  obtain⟨f,l1,w1,g,_⟩:=df.lb (k.O+1) H h w;obtain⟨c,l2,b,i,_⟩:=df.kv f l1 w1;have d:=e.kz (g.trans i)
  obtain⟨j,l,m,_,_⟩:=df.wa ((k.kv _).2,t.2) c l2 b;have o:=ga.wa (t:=((k.kv _).2,t.2)) l2 b d;unfold cf.de;split
  ·exact ga.de n ((k.kv _).2,t.2) c l2 b d
  ·split
   ·exact ga.de n _ j l m o
   omega
structure mE (k:cf)(z:C0)(D:List Int)(q0:List b8)(t:cn×List b8):Prop where
 li:∃H,LI k z t.1 H D/\dT k z t.1 H
 cb:eC k t.1
 wq:wh k t.1 t.2
 he:hB k.N t.1.g t.1.nx=OU
 ep:∀b∈t.1.ep,k.ls t.1 (k.ld t.1 (b+1))=OV
 q:ga k t.1 q0 t.2
theorem mE.sp {q0:List b8}{t:cn×List b8}(h:LI k z t.1 H D)(w:dT k z t.1 H)(hb:eC k t.1)(e:ga k t.1 q0 t.2):mE k z D q0 (k.sp t)/\c_ k t.1 (k.sp t).1:=by obtain⟨K,m1,c,b,_⟩:=df.sp t H h w;exact⟨⟨(by grind),(qO _ t h.mi.ci hb).2,sT _ t H h w hb aa,sF _ t H h w hb aa,xl _ t H h w hb aa,ga.de _ t H h w e⟩,b⟩
theorem mE.ke {q0:List b8}{t:cn×List b8}(h:mE k z D q0 t)(x:Int):mE k z D q0 (k.ke t x).2/\c_ k t.1 (k.ke t x).2.1/\(∀b,k.ml t.1 b x->k.ml (k.ke t x).2.1 b (k.ke t x).1)/\k.cP (k.ke t x).1=OU/\k.al (k.ke t x).2.1 x=OV:=by
 obtain⟨H,l,w⟩:=h.li;obtain⟨j,l1,w1,d,_⟩:=df.br x H l w;obtain⟨_,_,_,y1,_,m1,m,_⟩:=l.mi.br x;obtain⟨_,f,g,e⟩:=nz k t.1 x;have hb:eC k (k.br t.1 x).2:=⟨by rw[f,e];exact h.cb.wk,by rw[g,e];exact h.cb.ep⟩
 obtain⟨i,c⟩:=mE.sp (t:=((k.br t.1 x).2,t.2)) l1 w1 hb (h.q.kz d)
 refine⟨i,d.trans c,λb hm=>c.ml (m1 b hm),y1,qU c ?_⟩
 grind [cf.al,cf.ls]
end
section
variable {a:Wc}{S:cv}{W:cj}{m:Nat->Int}{Y G:List Int}
theorem cE.T (h:cE a S W m Y G)(hb:cL a S.s):(S.s.j0 a).T=G++Y:=(mr h.kv.inv.full hb).2.2
theorem cE.memT (h:cE a S W m Y G)(hb:cL a S.s){i:Nat}(hi:cz W.T i):m i∈(S.s.j0 a).T:=(h.T hb▸(by grind [mem]))
theorem cE.xm (h:cE a S W m Y G)(hb:cL a S.s){c:Int}(hc:c∈(S.s.j0 a).T):∃i,cz W.T i/\m i=c:=by
 rw[h.T hb] at hc
 grind [gR]
theorem cE.jt (h:cE a S W m Y G)(hb:cL a S.s){v:Int×Int}(hv:dL W.T v):(S.s.j0 a).jt (wv m v)=(v.1==3):=by
 unfold b_.jt;rw[h.xh hb hv];by_cases c:v.1=3
 ·rw[(h.vt hb hv c).2,c,bS.2 (h.memT hb (hv.t c).2)];rfl
 grind
theorem cE.mX (h:cE a S W m Y G)(hb:cL a S.s){i:Nat}(hi:cz W.T i):(S.s.j0 a).jt (ew 3 (m i))=OV/\cq (ew 3 (m i))=m i:=by grind [word,memT,b_.jt]
theorem cE.al (h:cE a S W m Y G)(hb:cL a S.s)(s:cy){i:Nat}(hi:cz W.T i):(S.s.j0 a).al s (ew 3 (m i))=OV↔s.f (m i)≠-1:=by grind [mX,b_.al,b_.dd]
theorem cE.pU (h:cE a S W m Y G)(hb:cL a S.s)(s:cy){v:Int×Int}(hv:dL W.T v)(b:v.1=3):(S.s.j0 a).dd s (wv m v)=OU↔s.f (m (K v.2))≠-1:=by rw[jJ b,<-h.al hb s (hv.t b).2];unfold b_.al;simp
theorem cE.marked (h:cE a S W m Y G)(hb:cL a S.s){s:cy}{q:List b8}(d:fR (S.s.j0 a) s q)(hq:∀e∈W.wt,we m e∈q):iJ W.T W.wt (λi=>cz W.T i/\s.f (m i)≠-1):=by
 intro i _ hX v hv f;obtain⟨hi,j⟩:=hX;have hk:lC (S.s.j0 a) s (m i):=by
  rcases d.kV.cmp _ (h.memT hb hi) j with c|c|c
  all_goals grind [fR.td]
 obtain⟨l,w,_⟩:=h.parts hi;have l:pk ((S.s.j0 a).ld (m i))=(U W.T i t0).1:=l;rcases hv with⟨c,hm⟩|⟨c,e⟩|⟨c,x,e⟩|⟨c,g,he,B,F⟩
 ·obtain⟨k,N,_,p⟩:=h.field hi hm;have b:=h.fv i hi v hm;refine⟨(b.t f).2,(h.pU hb s b f).1 ?_⟩
  have:=hk.p aa k (by show(k:Int)<pf (ld a.N S.s.y S.s.g S.s.ws (m i));omega)
  have e:(S.s.j0 a).ld (m i+1+k)=wv m v:=p
  grind
 ·have hl:=h.two hi aa;have hm:v∈(U W.T i t0).2.1:=(by grind)
  have b:=h.fv i hi v hm;refine⟨(b.t f).2,(h.pU hb s b f).1 ?_⟩
  have:=hk.w aa;have t:(S.s.j0 a).ld (m i+2)=wv m v:=by
   have:=h.fd i hi 1 aa;rw[<-e] at this
   show ld a.N S.s.y S.s.g S.s.ws (m i+2)=_
   grind
  grind
 ·have hl:=h.two hi aa;have hm:v∈(U W.T i t0).2.1:=by simp_all
  have b:=h.fv i hi v hm;refine⟨(b.t f).2,(h.pU hb s b f).1 ?_⟩
  have t:(S.s.j0 a).ld (m i+2)=wv m v:=by
   have:=h.fd i hi 1 aa;rw[<-e] at this
   show ld a.N S.s.y S.s.g S.s.ws (m i+2)=_
   grind
  have h9:(S.s.j0 a).ld (m i+1)=wv m (U (U W.T i t0).2.1 0 (0,0)):=by
   have:=h.fd i hi 0 aa;show ld a.N S.s.y S.s.g S.s.ws (m i+1)=_
   grind
  rcases hk.e aa with n|n
  ·have ab:=d.ep _ n
   grind [fv,jt,pU,b_.dd]
  grind
 ·have o:=h.dH g he;have ad:K g.1=i:=aa;have u:K v.2=K g.2:=by grind
  rw[u];refine⟨o.h,(h.al hb s o.h).1 ?_⟩
  rcases d.wq _ (hq g he) with c|c
  ·exact c
  ·exfalso;have:=(h.al hb s hi).2 j;have c:(S.s.j0 a).al s (ew 3 (m (K g.1)))=OU:=c
   grind
def iT (W:cj)(m:Nat->Int)(X:Nat->Prop)(c:Int):Prop:=∃i,cz W.T i/\m i=c/\X i
theorem cE.nR (h:cE a S W m Y G){X:Nat->Prop}{i:Nat}(hi:cz W.T i):iT W m X (m i)↔X i:=
 ⟨fun⟨j,c,e,b⟩=>(h.inj j i c hi e▸b),λb=>⟨i,hi,rfl,b⟩⟩
theorem cE.closed (h:cE a S W m Y G)(hb:cL a S.s){X:Nat->Prop}(hX:iJ W.T W.wt X)(hr:∀v∈W.rs,v.1=3->X (K v.2)):m2 (S.s.j0 a) (iT W m X)/\qT (S.s.j0 a) (iT W m X) (W.wt.map (we m)):=by
 have key:∀{i:Nat}{v:Int×Int},cz W.T i->X i->dL W.T v->jH W.T W.wt X i v->(S.s.j0 a).jt (wv m v)=OV->iT W m X (cq (wv m v)):=λ{i v} hi f hv hk d=>by
  rw[h.jt hb hv] at d;have g:v.1=3:=by simpa using d
  rw[(h.vt hb hv g).2];exact⟨_,(hv.t g).2,rfl,hX i hi.1 f v hk g⟩
 have fl:∀{i:Nat},cz W.T i->∀k:Nat,(k:Int)<pf ((S.s.j0 a).ld (m i))->k<OG (U W.T i t0).2.1:=λ{i} hi k hk=>by have hk:(k:Int)<pf (ld a.N S.s.y S.s.g S.s.ws (m i)):=hk;rw[(h.parts hi).2.1] at hk;omega
 have kd:∀{i:Nat},cz W.T i->pk ((S.s.j0 a).ld (m i))=(U W.T i t0).1:=λ{i} hi=>(h.parts hi).1;have p:∀{i:Nat},cz W.T i->OG (U W.T i t0).2.1=2->(S.s.j0 a).ld (m i+2)=wv m (U (U W.T i t0).2.1 1 (0,0))/\(S.s.j0 a).ld (m i+1)=wv m (U (U W.T i t0).2.1 0 (0,0)):=λ{i} hi hl=>by
  constructor
  ·show ld a.N S.s.y S.s.g S.s.ws (m i+2)=_;rw[<-(h.fd i hi 1 aa)]
   congr 1
   omega
  ·show ld a.N S.s.y S.s.g S.s.ws (m i+1)=_;rw[<-(h.fd i hi 0 aa)]
   congr 1
   omega
 refine⟨⟨λi hi d=>?_,λc hc n hk i hi d=>?_,λc hc n hk d=>?_,λc hc n hk t d=>?_⟩,λe he hg d=>?_⟩
 ·obtain⟨er,hv⟩:=h.root hi;have er:U (S.s.j0 a).s.rs i 0=wv m (U W.rs i (0,0)):=er;rw[er] at d⊢;rw[h.jt hb hv] at d;have g:(U W.rs i (0,0)).1=3:=by simpa using d
  rw[(h.vt hb hv g).2];exact⟨_,(hv.t g).2,rfl,hr _ (fL ((h.rl▸hi))) g⟩
 ·obtain⟨j,b,rfl,f⟩:=n;have hl:=fl b i hi;have w:(S.s.j0 a).ld (m j+1+i)=wv m (U (U W.T j t0).2.1 i (0,0)):=h.fd j b i hl;rw[w] at d⊢;rw[kd b] at hk;exact key b f (h.fv j b _ (fL hl)) (aK ⟨hk,fL hl⟩) d
 ·obtain⟨j,b,rfl,f⟩:=n;rw[kd b] at hk;have hl:=h.two b (aI (aK hk))
  rw[(p b hl).1] at d⊢;exact key b f (h.fv j b _ (fL aa)) (aI (aK ⟨hk,rfl⟩)) d
 ·obtain⟨j,b,rfl,f⟩:=n;rw[kd b] at hk;have hl:=h.two b (aI (aI hk))
  rw[(p b hl).1] at d⊢;rw[(p b hl).2] at t;have s:=h.fv j b _ (fL (x:=((0,0):Int×Int)) (show 0<OG (U W.T j t0).2.1 by omega))
  refine key b f (h.fv j b _ (fL aa)) (aI (aI (aK ⟨hk,λk3=>?_,rfl⟩))) d;have q:=t (by rw[h.jt hb s];simpa using k3)
  rw[(h.vt hb s k3).2] at q;exact(h.nR (s.t k3).2).1 q
 ·obtain⟨o,u,rfl⟩:=bR.1 he;have l:=h.dH o u;obtain⟨g1,g2⟩:=h.mX hb l.g;obtain⟨F,B⟩:=h.mX hb l.h;have q:=hg g1;have q:iT W m X (cq (ew 3 (m (K o.1)))):=q;rw[g2] at q;show iT W m X (cq (ew 3 (m (K o.2))))
  rw[B];exact⟨_,l.h,rfl,hX _ l.g.1 ((h.nR l.g).1 q) (3,o.2) (aI (aI (aI ⟨l.k,o,u,by have:=l.g0;omega,rfl⟩))) rfl⟩
structure Rg (a:Wc)(S:cv)(W:cj)(m:Nat->Int)(t:cy×List b8)(L:List Bool)(C:List b8):Prop where
 dp:fR (S.s.j0 a) t.1 t.2
 sn:dU (S.s.j0 a) (λ_=>True) t.1
 ok:hJ W.T L
 gN:∀i,cz W.T i->(t.1.f (m i)≠-1↔cx L i)
 q:t.2=(W.wt++C).map (we m)
 c:∀e∈C,e∈W.rg/\cx L (K e.2)
 r:∀v∈W.rs,v.1=3->cx L (K v.2)
theorem Rg.is (c:cE a S W m Y G)(hb:cL a S.s){t:cy×List b8}{L:List Bool}{C:List b8}(h:Rg a S W m t L C){x:Int}(b:cz W.T (K x)):(S.s.j0 a).al t.1 (ew 3 (m (K x)))=cZ L x:=by
 unfold cZ;have d:=c.al hb t.1 b;have e:=h.gN _ b
 grind [cx]
theorem Rg.xn (b:cE a S W m Y G)(hb:cL a S.s){g:List Bool->List Bool}(hg:dW W.T W.wt g):oL (S.s.j0 a).gx g (we m) W.rg (Rg a S W m):=by
 refine⟨λt L C e h he hn=>?_,λt L C e h he hy=>?_⟩
 ·have f:=b.gv e he;rw[<-Rg.is b hb h f.g] at hn;exact oa (o:=et cy) (is:=λs x=>(S.s.j0 a).al s.1 x) (kp:=(S.s.j0 a).ke) (s:=t) (e:=we m e) hn
 ·have f:=b.gv e he;rw[<-Rg.is b hb h f.g] at hy;obtain⟨k1,k2,k3,k4⟩:=h.dp.kV.ke (t:=t) (ew 3 (m (K e.2)))
  have p:(S.s.j0 a).gx t (we m e)=(OV,(((S.s.j0 a).ke t (ew 3 (m (K e.2)))).2.1,t.2++[we m e])):=by refine(ob (o:=et cy) (is:=λs x=>(S.s.j0 a).al s.1 x) (kp:=(S.s.j0 a).ke) (s:=t) (e:=we m e) hy).trans ?_;show(OV,(((S.s.j0 a).ke t (ew 3 (m (K e.2)))).2.1,((S.s.j0 a).ke t (ew 3 (m (K e.2)))).2.2++[we m e]))=_;rw[k3]
  have u:=(h.dp.cm (we m e)).1;rw[p] at u;rw[p];obtain⟨o1,ao,ap⟩:=h.ok.put f.h;have w:=hg _ o1.len o1.al;obtain⟨n1,ab,ad⟩:=h.ok.gz hg b.iv f.h;have k:=ad;obtain⟨c1,c2⟩:=b.closed hb w.cl (λv hv B=>k _ (h.r v hv B))
  have c3:qT (S.s.j0 a) (iT W m (cx (gz g L e.2))) t.2:=by
   rw[h.q,bU];intro x l;rcases bw.1 l with d|d
   ·exact c2 x d
   ·obtain⟨n,ag,rfl⟩:=bR.1 d;obtain⟨ai,al⟩:=h.c n ag;have F:=b.gv n ai;intro _ _;show iT W m _ (cq (ew 3 (m (K n.2))))
    rw[(b.mX hb F.h).2];exact⟨_,F.h,rfl,k _ al⟩
  have s0:dU (S.s.j0 a) (iT W m (cx (gz g L e.2))) t.1:=⟨λc hc N=>by obtain⟨i,hi,rfl⟩:=b.xm hb hc;exact⟨i,hi,rfl,k i (by grind [gN])⟩,h.sn.ea⟩
  have s1:=dU.ke c1 c3 s0 h.dp.kV (ew 3 (m (K e.2))) (λ_=>by rw[(b.mX hb f.h).2];exact⟨_,f.h,rfl,ab⟩)
  refine⟨rfl,u,⟨λ_ _ _=>trivial,s1.ea⟩,n1,λi hi=>⟨λN=>?_,λam=>?_⟩,?_,λx l=>?_,λv hv B=>(by grind [r])⟩
  ·exact(b.nR hi).1 (s1.snd _ (b.memT hb hi) N)
  ·have an:=b.marked hb k1 (λx l=>by
    rw[k3,h.q]
    grind)
   refine(w.lt _ an (λj ar=>?_) i am).2
   grind [hJ.al,gN,dx.f,cE.al,cx]
  ·grind [q]
  grind [c]
theorem Rg.start (b:cE a S W m Y G)(hb:cL a S.s){g:List Bool->List Bool}(hg:dW W.T W.wt g):Rg a S W m (S.j2 a) (W.c0 g OV) []:=by
 have o:=c8.start hb.n1 hb.o1 hb.y1 hb.g1;obtain⟨m1,_,F⟩:=(dh.start o).cO 12;obtain⟨c,N,l⟩:=dh.sp (t:=((S.s.j0 a).cO ir 12,S.q)) m1;have l:(S.j2 a).2=S.q:=l;have d:=b.first OV;have p:=hg _ d.len d.al;obtain⟨n1,ab⟩:=hg.ok b.iv d;have hr:_:=λv hv f=>ab _ ((lK _ _ _ _).2 ⟨((b.rv v hv).t f).2.1,aI ⟨v,hv,f,rfl⟩⟩)
 obtain⟨c1,c2⟩:=b.closed hb p.cl hr;rw[<-b.wt] at c2;have cO:∀n,n<=12->dU (S.s.j0 a) (iT W m (cx (W.c0 g OV))) ((S.s.j0 a).cO ir n):=λn=>by
  induction n with
  |zero=>
   intro _;show dU _ _ ir;exact⟨λ_ _ q=>absurd rfl q,λ_ ha=>by simp[ir] at ha⟩
  |succ n ad=>
   intro hn;obtain⟨m1,_⟩:=(dh.start (X:=λ_=>False) o).cO n;exact(ad aa).ma _ (c1.rt n aa) (m1.ma _).2.1
 have s1:dU (S.s.j0 a) (iT W m (cx (W.c0 g OV))) (S.j2 a).1:=dU.de c1 _ ((S.s.j0 a).cO ir 12,S.q) c2 (cO 12 aa) m1;have c:fR (S.s.j0 a) (S.j2 a).1 (S.j2 a).2:=c;refine⟨c,⟨λ_ _ _=>trivial,s1.ea⟩,n1,λi hi=>⟨λq=>(b.nR hi).1 (by grind [dU.snd,cE.memT]),λag=>?_⟩,?_,λe he=>(by grind),hr⟩
 ·refine(p.lt _ (b.marked hb c (λx al=>by rw[l,b.wt];grind)) (λj s=>?_) i ag).2;refine⟨d.al j s,?_⟩
  obtain⟨_,u⟩:=(lK _ _ _ _).1 s;rcases u with⟨_,_,u⟩|⟨v,hv,f,e⟩
  ·grind
  ·obtain⟨k,hk,h9⟩:=bP.1 hv;have w:k<12:=(b.rl▸hk)
   obtain⟨er,B⟩:=b.root w;have ai:U W.rs k (0,0)=v:=by simp_all
   rw[ai] at er B;have j0:=F k w;have er:U (S.s.j0 a).s.rs k 0=wv m v:=er;rw[er] at j0;rw[<-e];exact(b.pU hb _ B f).1 (N.dd j0)
 grind [cE.wt]
theorem Rg.settled (b:cE a S W m Y G)(hb:cL a S.s){g:List Bool->List Bool}(hg:dW W.T W.wt g):Rg a S W m (S.cI a,((S.s.j0 a).fA (S.j2 a) S.r).2) (W.cR g OV).1 (W.cR g OV).2.1:=by
 have h0:=Rg.start b hb hg;have j:S.r.filter (λe=>!(S.s.j0 a).al (S.j2 a).1 e.2)=(W.rg.filter (λe=>!cZ (W.c0 g OV) e.2)).map (we m):=by
  rw[b.rg];exact m4 _ _ _ W.rg (λe he=>by
   show(!(S.s.j0 a).al _ (ew 3 (m (K e.2))))=_
   grind [is,gO.h,cE.gv])
 obtain⟨c,_⟩:=(Rg.xn b hb hg).turns _ (W.rg.filter (λe=>!cZ _ e.2)) (S.j2 a) _ [] (λe he=>(by grind)) h0;have d:e4 (S.s.j0 a).gx (OG (S.r.filter (λe=>!(S.s.j0 a).al (S.j2 a).1 e.2))+1) (S.j2 a) (S.r.filter (λe=>!(S.s.j0 a).al (S.j2 a).1 e.2))=e4 (S.s.j0 a).gx (OG W.rg+1) (S.j2 a) ((W.rg.filter (λe=>!cZ (W.c0 g OV) e.2)).map (we m)):=by grind [tt]
 have f:(S.s.j0 a).fA (S.j2 a) S.r=(e4 (S.s.j0 a).gx (OG W.rg+1) (S.j2 a) ((W.rg.filter (λe=>!cZ (W.c0 g OV) e.2)).map (we m))).1:=by rw[<-d];rfl
 have i:(S.cI a,((S.s.j0 a).fA (S.j2 a) S.r).2)=(S.s.j0 a).fA (S.j2 a) S.r:=rfl;rw[i,f];exact c
end
section
variable {a:Wc}{S:cv}{W:cj}{m:Nat->Int}{Y G D:List Int}
theorem cE.gL (h:cE a S W m Y G)(hb:cL a S.s):(S.s.k0 a).T=Y:=pG h.kv.inv.full hb.n1 hb.y1 hb.o1 hb.g1
theorem cE.lQ (h:cE a S W m Y G)(hb:cL a S.s){v:Int}(b:v∈Y):v∉G:=λc=>by have q1:=h.kv.inv.full.jq v b;have d:=h.kv.inv.full.io v c;have:=hb.y1;omega
theorem cE.pV (h:cE a S W m Y G)(hb:cL a S.s){i:Nat}(hi:cz W.T i):(S.s.k0 a).cP (ew 3 (m i))=OV↔m i∈Y:=by grind [word,gL,cf.cP]
theorem cE.tL (h:cE a S W m Y G)(hb:cL a S.s){v:Int×Int}(hv:dL W.T v)(hy:(S.s.k0 a).cP (wv m v)=OV):v.1=3/\cq (wv m v)=m (K v.2):=by grind [xh,vt,cf.cP]
theorem cE.k9 (h:cE a S W m Y G)(hb:cL a S.s)(s:cn){i:Nat}(hi:cz W.T i):(S.s.k0 a).al s (ew 3 (m i))=OV↔(m i∈G\/s.f (m i)≠-1):=by grind [pV,word,mem,lQ,cf.al,cf.ls]
theorem cE.ML (h:cE a S W m Y G)(hb:cL a S.s){s:cn}{i:Nat}(hi:cz W.T i)(hs:(S.s.k0 a).al s (ew 3 (m i))=OV):∃b,(S.s.k0 a).or (S.s.z0 G) s (m i) b:=by
 rcases(h.k9 hb s hi).1 hs with d|d
 ·exact⟨m i,aK ⟨rfl,d⟩⟩
 ·rcases h.mem hi with e|e
  ·exact⟨s.f (m i),aI ⟨(h.gL hb▸e),rfl,d⟩⟩
  ·exact⟨m i,aK ⟨rfl,e⟩⟩
def rf (a:Wc)(S:cv)(G D:List Int):Prop:=∀v∈G,v∉D->∀i,0<=i->i<pf ((S.s.k0 a).l0 (S.s.z0 G) v)->(S.s.k0 a).cP ((S.s.k0 a).l0 (S.s.z0 G) (v+1+i))=OU
theorem cE.xo (h:cE a S W m Y G)(hb:cL a S.s)(hc:rf a S G D){q0:List b8}{t:cn×List b8}(d:mE (S.s.k0 a) (S.s.z0 G) D q0 t)(hq:∀e∈W.wt,∃n,n<OG q0/\U q0 n (0,0)=we m e):
 iJ W.T W.wt (λi=>cz W.T i/\(S.s.k0 a).al t.1 (ew 3 (m i))=OV):=by
 obtain⟨H,li,bb⟩:=d.li;have hz:∀v,(v∈(S.s.k0 a).T\/v∈(S.s.z0 G).G)->∀i,0<=i->i<pf ((S.s.k0 a).l0 (S.s.z0 G) v)->di ((S.s.k0 a).l0 (S.s.z0 G) (v+1+i))=OV->cq ((S.s.k0 a).l0 (S.s.z0 G) (v+1+i))∈(S.s.k0 a).T\/cq ((S.s.k0 a).l0 (S.s.z0 G) (v+1+i))∈(S.s.z0 G).G:=λv hv i ai g ha=>by rw[h.gL hb] at hv⊢;exact h.kv.inv.fd v hv i ai g ha
 have told:∀{q x:Int}{j:Nat},cz W.T j->q=ew 3 (m j)->(S.s.k0 a).ml t.1 q x->(S.s.k0 a).al t.1 x=OV->(S.s.k0 a).al t.1 (ew 3 (m j))=OV:=λ{q x j} w B hm bd=>by
  rcases hm with e|⟨_,p,_⟩
  ·simp_all
  ·rw[B,(h.word hb w).2.2] at p;exact(h.k9 hb t.1 w).2 (aI p)
 intro i _ hX v hv s;obtain⟨hi,hs⟩:=hX;obtain⟨b,o⟩:=h.ML hb hi hs;have B:(S.s.k0 a).ld t.1 b=ld a.N S.s.y S.s.g S.s.ws (m i):=li.mi.hd _ _ o;obtain⟨be,bg,_⟩:=h.parts hi;have bi:∀{n:Nat},n<OG (U W.T i t0).2.1->(U (U W.T i t0).2.1 n (0,0)).1=3->¬((U W.T i t0).1=3/\n=0)->¬((U W.T i t0).1=4/\b∈t.1.ep)->(S.s.k0 a).al t.1 (ew 3 (m (K (U (U W.T i t0).2.1 n (0,0)).2)))=OV:=λ{n} hn F n1 bl=>by
  have u:=h.fv i hi _ (fL (x:=((0,0):Int×Int)) hn)
  have al:=(u.t F).2;have N:(S.s.k0 a).l0 (S.s.z0 G) (m i+1+n)=ew 3 (m (K (U (U W.T i t0).2.1 n (0,0)).2)):=(h.fd i hi n hn).trans (jJ F)
  have g:(n:Int)<pf ((S.s.k0 a).l0 (S.s.z0 G) (m i)):=by
   show(n:Int)<pf (ld a.N S.s.y S.s.g S.s.ws (m i))
   omega
  have ab:=li.mi.fd (m i) b o n (mo n) g;refine told al N ab ?_;rcases ab with e|⟨y1,p,am⟩
  ·rw[N] at e;have ha:di ((S.s.k0 a).ld t.1 (b+1+n))=OV:=(by grind [word])
   have an:(n:Int)<pf ((S.s.k0 a).ld t.1 b):=by simp_all
   rcases li.fields d.he hz hc (li.mi.mem o) (mo n) an ha with c|⟨c1,c2,_⟩|⟨c1,c2⟩
   ·exact sP (li.mi.qP c)
   all_goals grind
  ·have ao:=li.mi.jR (li.mi.fh _ (oQ y1) p)
   have bn:=li.mi.ci.hN';have bo:=li.mi.ci.hO;have bp:=li.mi.ci.hg;rw[am];exact sP (oA li.mi.ci ao.1 aa)
 rcases hv with⟨c,hm⟩|⟨c,e⟩|⟨c,ap,e⟩|⟨c,k,he,br,ar⟩
 ·obtain⟨n,hn,en,_⟩:=h.field hi hm;have u:=h.fv i hi v hm;refine⟨(u.t s).2,?_⟩
  grind
 ·have hl:=h.two hi (aI (aK c))
  have hm:v∈(U W.T i t0).2.1:=by simp_all
  refine⟨((h.fv i hi v hm).t s).2,?_⟩
  grind
 ·have hl:=h.two hi (aI (aI c))
  have hm:v∈(U W.T i t0).2.1:=by simp_all
  refine⟨((h.fv i hi v hm).t s).2,?_⟩
  have ad:=h.fv i hi _ (fL (x:=((0,0):Int×Int)) (show 0<OG (U W.T i t0).2.1 by omega))
  have bs:b∉t.1.ep:=λaF=>by
   have aR:b+1+0=b+1:=aa;have g:(0:Int)<pf ((S.s.k0 a).l0 (S.s.z0 G) (m i)):=by
    show(0:Int)<pf (ld a.N S.s.y S.s.g S.s.ws (m i))
    omega
   have f:=d.ep b aF;rw[<-aR] at f;have h9:(S.s.k0 a).l0 (S.s.z0 G) (m i+1+0)=wv m (U (U W.T i t0).2.1 0 (0,0)):=h.fd i hi 0 aa;rw[(li.mi.tK o (Int.le_refl 0) g (nQ f)),h9] at f;obtain⟨k3,a0⟩:=h.tL hb ad (nQ f)
   have q1:=(cf.og f).2.2;have l:=(cf.og f).2.1;rw[a0] at q1 l;rw[h.gL hb] at l;rcases(h.k9 hb t.1 (ad.t k3).2).1 (ap k3).2 with w1|w1
   all_goals grind [lQ]
  grind
 ·have ag:=h.dH k he;have bt:K k.1=i:=aa;have a1:K v.2=K k.2:=by rw[ar]
  rw[a1];refine⟨ag.h,?_⟩
  obtain⟨n,hn,en⟩:=hq k he;obtain⟨q1,l⟩:=d.q.eq n hn;rw[en] at q1 l;have a2:U t.2 n (0,0)∈t.2:=fL ((d.q.len▸hn))
  refine told ag.h rfl l ?_;rcases d.wq _ a2 with w1|w1
  ·exact w1
  ·exfalso;have q1:(U t.2 n (0,0)).1=ew 3 (m (K k.1)):=q1
   grind
theorem cE.CR (h:cE a S W m Y G)(hb:cL a S.s){X:Nat->Prop}(hX:iJ W.T W.wt X)(ho:∀i,cz W.T i->(U W.T i t0).2.2.1=OV->X i):lP (S.s.k0 a) (S.s.z0 G) (iT W m X):=by
 have key:∀{i:Nat}{v:Int×Int},cz W.T i->X i->dL W.T v->jH W.T W.wt X i v->(S.s.k0 a).cP (wv m v)=OV->iT W m X (cq (wv m v)):=λ{i v} hi g hv hk f=>by obtain⟨o,e⟩:=h.tL hb hv f;rw[e];exact⟨_,(hv.t o).2,rfl,hX i hi.1 g v hk o⟩
 have kd:∀{i:Nat},cz W.T i->pk ((S.s.k0 a).l0 (S.s.z0 G) (m i))=(U W.T i t0).1/\pf ((S.s.k0 a).l0 (S.s.z0 G) (m i))=OG (U W.T i t0).2.1:=λ{i} hi=>⟨(h.parts hi).1,(h.parts hi).2.1⟩
 have q:∀{i:Nat},cz W.T i->∀{n:Nat},n<OG (U W.T i t0).2.1->(S.s.k0 a).l0 (S.s.z0 G) (m i+1+n)=wv m (U (U W.T i t0).2.1 n (0,0)):=λ{i} hi {n} hn=>h.fd i hi n hn;refine⟨λb p=>?_,λc _ k hk i hi f=>?_,λc _ k hk f=>?_,λc _ k hk s f=>?_⟩
 ·obtain⟨i,hi,e⟩:=h.gR b (aI p)
  refine⟨i,hi,e,ho i hi ?_⟩
  cases c:(U W.T i t0).2.2.1
  ·exact absurd (e▸p) (h.lQ hb (h.i7 i hi c))
  ·rfl
 ·obtain⟨j,d,rfl,g⟩:=k;rw[(kd d).2] at hi;have hl:i<OG (U W.T j t0).2.1:=aa;rw[q d hl] at f⊢;rw[(kd d).1] at hk;exact key d g (by grind [fv]) (aK ⟨hk,fL hl⟩) f
 ·obtain⟨j,d,rfl,g⟩:=k;rw[(kd d).1] at hk;have hl:=h.two d aa;have l:(S.s.k0 a).l0 (S.s.z0 G) (m j+1+1)=wv m (U (U W.T j t0).2.1 1 (0,0)):=(by grind)
  rw[l] at f⊢;exact key d g (by grind [fv]) (aI (aK ⟨hk,rfl⟩)) f
 ·obtain⟨j,d,rfl,g⟩:=k;rw[(kd d).1] at hk;have hl:=h.two d aa;have l:(S.s.k0 a).l0 (S.s.z0 G) (m j+1+1)=wv m (U (U W.T j t0).2.1 1 (0,0)):=(by grind)
  have t:(S.s.k0 a).l0 (S.s.z0 G) (m j+1+0)=wv m (U (U W.T j t0).2.1 0 (0,0)):=(by grind)
  rw[l] at f⊢;rw[t] at s;have u:=h.fv j d _ (fL (x:=((0,0):Int×Int)) (show 0<OG (U W.T j t0).2.1 by omega))
  refine key d g (by grind [fv]) (aI (aI (aK ⟨hk,λk3=>?_,rfl⟩))) f;have w:=(u.t k3).2;rcases h.mem w with w1|w1
  ·grind [pV,jJ,nR,vt]
  grind [lQ,i7]
theorem cE.CS (h:cE a S W m Y G)(hb:cL a S.s){X:Nat->Prop}(hX:iJ W.T W.wt X)(ho:∀i,cz W.T i->(U W.T i t0).2.2.1=OV->X i){C:List b8}(w:∀e∈C,e∈W.rg/\X (K e.2)){s:cn}{H:List Int}(mi:dK (S.s.k0 a) (S.s.z0 G) s H){q:List b8}(hq:ga (S.s.k0 a) s ((W.wt++C).map (we m)) q):mD (S.s.k0 a) (iT W m X) q:=by
 intro e he hg hy;obtain⟨n,hn,en⟩:=bP.1 he;have g:U q n (0,0)=e:=by simp_all
 have j:n<OG ((W.wt++C).map (we m)):=(hq.len▸hn)
 obtain⟨q1,f⟩:=hq.eq n j;have k:n<OG (W.wt++C):=by simp_all
 rw[g,oN (we m) (W.wt++C) n (0,0) (0,0) k] at q1 f;have l:U (W.wt++C) n (0,0)∈W.wt++C:=(by grind)
 generalize U (W.wt++C) n (0,0)=b at*;have c:gO W.T b:=by grind [dH,gv]
 have o:e.2=ew 3 (m (K b.2)):=by
  rcases f with d|⟨y1,p,t⟩
  ·exact d
  ·have u:=mi.jR (mi.fh _ (oQ y1) p)
   have x:=mi.ci.hN';have B:=mi.ci.hO;have F:=mi.ci.hg;rw[t,oA mi.ci u.1 aa] at hy
   grind
 have N:e.1=ew 3 (m (K b.1)):=q1;rw[o,(h.word hb c.h).2.2];refine⟨_,c.h,rfl,?_⟩
 rcases bw.1 l with d|d
 ·have v:X (K b.1):=by
   rcases h.mem c.g with w1|w1
   ·grind [pV,gO.g,nR,word]
   grind [gO.g,lQ,i7]
  exact hX _ c.g.1 v (3,b.2) (aI (aI (aI ⟨c.k,b,d,by have:=c.g0;omega,rfl⟩))) rfl
 grind
structure kj (a:Wc)(S:cv)(W:cj)(m:Nat->Int)(G D:List Int)(t:cn×List b8)(L:List Bool)(C:List b8):Prop where
 dp:mE (S.s.k0 a) (S.s.z0 G) D ((W.wt++C).map (we m)) t
 ok:hJ W.T L
 gN:∀i,cz W.T i->((S.s.k0 a).al t.1 (ew 3 (m i))=OV↔cx L i)
 c:∀e∈C,e∈W.rg/\cx L (K e.2)
 r:∀v∈W.rs,v.1=3->cx L (K v.2)
 o:∀i,cz W.T i->(U W.T i t0).2.2.1=OV->cx L i
theorem kj.is {t:cn×List b8}{L:List Bool}{C:List b8}(h:kj a S W m G D t L C){x:Int}(e:cz W.T (K x)):(S.s.k0 a).al t.1 (ew 3 (m (K x)))=cZ L x:=by
 unfold cZ;have b:=h.gN _ e;cases c:U L (K x) OU
 ·rw[Bool.eq_false_iff];intro d;rw[b.1 d] at c
  grind
 ·exact b.2 c
theorem xp {C:List b8}:∀e∈W.wt,∃n,n<OG ((W.wt++C).map (we m))/\U ((W.wt++C).map (we m)) n (0,0)=we m e:=λe he=>by
 obtain⟨n,hn,en⟩:=bP.1 he;refine⟨n,by grind,?_⟩
 grind
theorem kj.xn (b:cE a S W m Y G)(hb:cL a S.s)(hc:rf a S G D){g:List Bool->List Bool}(hg:dW W.T W.wt g):oL (cm (et cn) (λs x=>(S.s.k0 a).al s.1 x) (S.s.k0 a).ke) g (we m) W.rg (kj a S W m G D):=by
 refine⟨λt L C e h he hn=>?_,λt L C e h he hy=>?_⟩
 ·have f:=b.gv e he;rw[<-h.is f.g] at hn;exact oa hn
 ·have f:=b.gv e he;rw[<-h.is f.g] at hy;obtain⟨k1,k2,k3,k4,k5⟩:=h.dp.ke _;rw[(ob (s:=t) hy)];obtain⟨o1,al,am⟩:=h.ok.put f.h;have p:=hg _ o1.len o1.al;obtain⟨n1,u,F⟩:=h.ok.gz hg b.iv f.h;have hX:=p.cl;have l:=F;have ho:∀i,cz W.T i->(U W.T i t0).2.2.1=OV->_:=λi hi q=>l i (h.o i hi q)
  obtain⟨H,li,N⟩:=h.dp.li;have s0:dm (S.s.k0 a) (iT W m (cx (gz g L e.2))) t.1:=λc w o=>by
   rw[b.gL hb] at w;obtain⟨i,hi,rfl⟩:=b.gR c (aK w)
   exact⟨i,hi,rfl,l i ((h.gN i hi).1 ((b.k9 hb t.1 hi).2 (aI o)))⟩
  obtain⟨s1,_⟩:=dm.ke (b.CR hb hX ho) li N (b.CS hb hX ho (λx k=>⟨(h.c x k).1,l _ (h.c x k).2⟩) li.mi h.dp.q) s0 _ (λ_=>by rw[(b.word hb f.h).2.2];exact⟨_,f.h,rfl,u⟩)
  have ab:(W.wt++(C++[e])).map (we m)=(W.wt++C).map (we m)++[we m e]:=by rw[<-bf,bU];rfl
  refine⟨rfl,⟨k1.li,k1.cb,λx k=>?_,k1.he,k1.ep,?_⟩,n1,λi hi=>⟨λo=>?_,λad=>?_⟩,λx k=>?_,λv hv ag=>l _ (h.r v hv ag),ho⟩
  ·rcases bw.1 k with d|d
   ·exact k1.wq x d
   ·rw[bN.1 d];exact aK (sP k4)
  ·rw[ab];exact k1.q.snoc rfl (k3 _ (aK rfl))
  ·rcases(b.k9 hb _ hi).1 o with d|d
   ·refine ho i hi ?_;cases c:(U W.T i t0).2.2.1
    ·exact absurd d (b.lQ hb (b.i7 _ hi c))
    ·rfl
   ·rcases b.mem hi with w1|w1
    ·exact(b.nR hi).1 (s1 _ (by rw[b.gL hb];exact w1) d)
    ·refine ho i hi ?_;cases c:(U W.T i t0).2.2.1
     ·exact absurd w1 (b.lQ hb (b.i7 _ hi c))
     ·rfl
  ·refine(p.lt _ (b.xo hb hc k1 xp) (λj n=>?_) i ad).2;have B:=o1.al j n;refine⟨B,?_⟩
   unfold cx at n;rw[wy _ _ _ (by rw[h.ok.len];exact f.h.1)] at n;split at n
   ·rename_i ai;rw[<-ai];exact k5
   ·exact qU k2 ((h.gN j B).2 n)
  ·rcases bw.1 k with d|d
   ·exact⟨(h.c x d).1,l _ (h.c x d).2⟩
   ·rw[bN.1 d];exact⟨he,u⟩
theorem cE.MM (h:cE a S W m Y G)(hb:cL a S.s){i:Nat}(hi:cz W.T i)(d:m i∈G):(U W.T i t0).2.2.1=OV:=by grind [lQ,i7]
theorem kj.start (b:cE a S W m Y G)(hb:cL a S.s)(hr:S.s.y<=a.O-S.s.g){g:List Bool->List Bool}(hg:dW W.T W.wt g):∃D,rf a S G D/\kj a S W m G D (S.t3 a) (W.c0 g OU) []:=by
 have h:=b.kv;have bi:=b.gL hb;have B:=LI.start h.inv.full hb.n0 hb.n1 hb.o1 hb.y1 hb.g1 hb.l1 hr;have ao:12<=OG (S.s.s0 a).rs:=by show 12<=OG S.s.rs;rw[hb.r1];exact aG _
 obtain⟨H1,n,bl,⟨b5,bn⟩,l1,y1,_,m1⟩:=B.cO 12 ao;have ap:dM a.N S.s.y (S.s.s1 a).g (S.s.s1 a).ws=G++H1:=(n.mi.full.lists hb.n1 hb.y1 hb.o1 n.mi.ci.hg).2;have bo:(S.s.s1 a).nx=((S.s.k0 a).N:Int)+(S.s.z0 G).g:=(nA (S.s.k0 a) (S.s.s0 a) 12).2.2;have ar:eQ ((S.s.k0 a).l0 (S.s.z0 G)) (((S.s.k0 a).N:Int)+(S.s.z0 G).g) (S.s.k0 a).N (S.s.z0 G).G:=h.inv.full.eB;have hlo:∀x∈G++H1,x∈(S.s.z0 G).G\/((S.s.k0 a).N:Int)+(S.s.z0 G).g<=x:=λx bp=>(bw.1 bp).imp id (λd=>n.mi.hlo x d)
 obtain⟨F,s,N,aB,aF,⟨b6,b7⟩,_,hD⟩:=LI.qN (dS a.O) S.s.M ar (G++H1) n ((dT.start a S.s G).cO B.mi 12 n.mi bl ⟨_,bn⟩) hlo;have br:(G++H1).foldl ((S.s.k0 a).g_ (((S.s.k0 a).N:Int)+(S.s.z0 G).g) (dS a.O) S.s.M) ((S.s.k0 a).cO (S.s.s0 a) 12)=S.s.s2 a:=by unfold eK.s2 cf.lm;rw[ap,bo];rfl
 have hlen:=sI (S.s.k0 a) (((S.s.k0 a).N:Int)+(S.s.z0 G).g) (dS a.O) S.s.M (G++H1) ((S.s.k0 a).cO (S.s.s0 a) 12)
 have u:=b.first OU;have aR:=hg _ u.len u.al;obtain⟨n1,aV⟩:=hg.ok b.iv u;have hX:=aR.cl;have ho:∀i,cz W.T i->(U W.T i t0).2.2.1=OV->_:=λi hi q=>aV i ((lK _ _ _ _).2 ⟨hi.1,aK ⟨q,hi.2,rfl⟩⟩)
 have a0:_:=λv hv f=>aV _ ((lK _ _ _ _).2 ⟨((b.rv v hv).t f).2.1,aI ⟨v,hv,f,rfl⟩⟩)
 have a1:=b.CR hb hX ho;have bs:dm (S.s.k0 a) (iT W m (cx (W.c0 g OU))) (S.s.s0 a):=λ_ _ ab=>absurd rfl ab;have bt:=dm.cO B bs (λi hi hy=>by
  have hi:i<12:=(hb.r1▸hi)
  obtain⟨er,hv⟩:=b.root hi;have er:U (S.s.s0 a).rs i 0=wv m (U W.rs i (0,0)):=er;rw[er] at hy⊢;obtain⟨f,ev⟩:=b.tL hb hv hy;rw[ev];exact⟨_,(hv.t f).2,rfl,a0 _ (fL ((b.rl▸hi))) f⟩) 12 ao
 have a2:=dm.lm a1 (dS a.O) S.s.M ar (G++H1) n hlo bt;rw[br] at N aB aF hlen a2;have b8:OG (G++H1)<=2000:=(ap▸jo _ _)
 obtain⟨q1,q2,q3⟩:=nA _ _ 12;have cb:eC (S.s.k0 a) (S.s.s2 a):=by exact v5
 have bb:rf a S G s:=λv hv bx i b0 b1=>by
  cases hc:(S.s.k0 a).cP _
  ·rfl
  ·exfalso;unfold cf.cP at hc;rw[mq,bi] at hc;have hm:=h.cd v hv i b0 b1 hc.1 (bS.1 hc.2)
   exact bx (hD v (List.mem_append_left _ hv) hv hm)
 have b2:S.q=(W.wt++[]).map (we m):=by rw[List.append_nil];exact b.wt
 have bd:ga (S.s.k0 a) (S.s.s2 a) ((W.wt++[]).map (we m)) S.q:=(b2▸ga.refl _ _)
 have ad:=b.CS hb hX ho (λe he=>(by cases he)) N.mi bd;have key:∀s2:cn,LI (S.s.k0 a) (S.s.z0 G) s2 F s->dT (S.s.k0 a) (S.s.z0 G) s2 F->eC (S.s.k0 a) s2->ga (S.s.k0 a) s2 ((W.wt++[]).map (we m)) S.q->dm (S.s.k0 a) (iT W m (cx (W.c0 g OU))) s2->mD (S.s.k0 a) (iT W m (cx (W.c0 g OU))) S.q->
  mE (S.s.k0 a) (S.s.z0 G) s ((W.wt++[]).map (we m)) ((S.s.k0 a).sp (s2,S.q))/\c_ (S.s.k0 a) s2 ((S.s.k0 a).sp (s2,S.q)).1/\dm (S.s.k0 a) (iT W m (cx (W.c0 g OU))) ((S.s.k0 a).sp (s2,S.q)).1:=λs2 l w c e sn ad=>by
  obtain⟨o,ag⟩:=mE.sp (t:=(s2,S.q)) l w c e;exact⟨o,ag,(dm.de a1 _ (s2,S.q) F l w ad sn).1⟩
 obtain⟨o,ag,ai⟩:=key _ N aB cb bd a2 ad;have o:=o;have ai:dm (S.s.k0 a) (iT W m (cx (W.c0 g OU))) (S.t3 a).1:=ai;refine⟨s,bb,o,n1,λi hi=>⟨λab=>?_,λb3=>?_⟩,λe he=>(by cases he),a0,ho⟩
 ·rcases b.mem hi with w1|w1
  ·rcases(b.k9 hb _ hi).1 ab with d|d
   ·exact absurd d (b.lQ hb w1)
   ·exact(b.nR hi).1 (ai _ (by simp_all) d)
  ·exact ho i hi (b.MM hb hi w1)
 ·refine(aR.lt _ (b.xo hb bb o xp) (λj be=>?_) i b3).2;have al:=u.al j be;refine⟨al,?_⟩
  obtain⟨_,am⟩:=(lK _ _ _ _).1 be;rcases am with⟨am,_,_⟩|⟨v,hv,f,e⟩
  ·exact(b.k9 hb _ al).2 (aK (b.old j al am))
  ·obtain⟨k,hk,h9⟩:=bP.1 hv;have an:k<12:=(b.rl▸hk)
   obtain⟨er,b4⟩:=b.root an;have ev:U W.rs k (0,0)=v:=by simp_all
   rw[ev] at er b4;have p:cz W.T (K v.2):=by simp_all
   refine qU (aF.trans ag) ?_;rw[<-e];rcases b.mem p with w1|w1
   ·have hm:=m1 k an;have er:U (S.s.s0 a).rs k 0=wv m v:=er;rw[er,jJ f] at hm;rcases hm with d|⟨_,bg,_⟩
    ·have:=y1 k an;rw[d,((b.pV hb p).2 w1)] at this
     cases this
    ·rw[(b.word hb p).2.2] at bg;exact(b.k9 hb _ p).2 (aI bg)
   ·exact(b.k9 hb _ p).2 (aK w1)
theorem kj.settled (b:cE a S W m Y G)(hb:cL a S.s)(hc:rf a S G D){g:List Bool->List Bool}(hg:dW W.T W.wt g)(h0:kj a S W m G D (S.t3 a) (W.c0 g OU) []):kj a S W m G D (S.s4 a,((S.s.k0 a).fA (S.t3 a) S.r).2) (W.cR g OU).1 (W.cR g OU).2.1:=by
 have j:S.r.filter (λe=>!(S.s.k0 a).al (S.t3 a).1 e.2)=(W.rg.filter (λe=>!cZ (W.c0 g OU) e.2)).map (we m):=by
  rw[b.rg];exact m4 _ _ _ W.rg (λe he=>by
   show(!(S.s.k0 a).al _ (ew 3 (m (K e.2))))=_
   grind [is,gO.h,cE.gv])
 obtain⟨c,_⟩:=(kj.xn b hb hc hg).turns _ (W.rg.filter (λe=>!cZ _ e.2)) (S.t3 a) _ [] (λe he=>(by grind)) h0;have d:e4 (cm (et cn) (λs x=>(S.s.k0 a).al s.1 x) (S.s.k0 a).ke) (OG (S.r.filter (λe=>!(S.s.k0 a).al (S.t3 a).1 e.2))+1) (S.t3 a) (S.r.filter (λe=>!(S.s.k0 a).al (S.t3 a).1 e.2))=e4 (cm (et cn) (λs x=>(S.s.k0 a).al s.1 x) (S.s.k0 a).ke) (OG W.rg+1) (S.t3 a) ((W.rg.filter (λe=>!cZ (W.c0 g OU) e.2)).map (we m)):=by grind [tt]
 have f:(S.s.k0 a).fA (S.t3 a) S.r=(e4 (cm (et cn) (λs x=>(S.s.k0 a).al s.1 x) (S.s.k0 a).ke) (OG W.rg+1) (S.t3 a) ((W.rg.filter (λe=>!cZ (W.c0 g OU) e.2)).map (we m))).1:=by rw[<-d];rfl
 have i:(S.s4 a,((S.s.k0 a).fA (S.t3 a) S.r).2)=(S.s.k0 a).fA (S.t3 a) S.r:=rfl;rw[i,f];exact c
end
section
variable {k:cf}{z:C0}{s t:cn}{H D:List Int}
def cf.cJ (k:cf)(s:cn)(x:Int):Int:=if k.ls s x=OV then 3 else k.nw s x
theorem MN {s t:cn}(b:t.f=s.f)(x:Int):k.ls t x=k.ls s x/\k.nw t x=k.nw s x:=by grind [cf.ls,cf.nw]
def Fo (k:cf)(s:cn):Prop:=∀a∈k.T,s.f a≠-1->(k.N:Int)<=s.f a/\s.f a<1000000
theorem dK.fB (h:dK k z s H):Fo k s:=λa ha b=>by
 have hb:=h.jR (h.fh a ha b)
 have n1:=h.ci.hN';have c:=h.ci.hO;have d:=h.ci.hg;omega
theorem pW {x:Int}(h:k.cP x=OU):k.nw s x=x:=by unfold cf.nw;rw[h];simp
theorem tM {x:Int}(h:k.cP x=OV)(b:s.f (cq x)≠-1):k.nw s x=ew 3 (s.f (cq x)):=by grind [cf.nw]
theorem MO (ci:CI k s)(fB:Fo k s){x:Int}(h:k.ls s x=OU):k.cP (k.nw s x)=OU:=by
 cases c:k.cP x
 ·grind [pW]
 ·have b:s.f (cq x)≠-1:=λe=>by grind [cf.ls]
  rw[tM c b];obtain⟨b1,b2⟩:=fB _ (oQ c) b
  grind [oA]
theorem MP:k.cP 3=OU:=by unfold cf.cP;rw[show di 3=OU by decide];rfl
theorem CT (ci:CI k s)(fB:Fo k s)(x:Int):k.cP (k.cJ s x)=OU:=by grind [MO,MP,cf.cJ]
theorem MQ {x:Int}(h:k.cP x=OU):k.cJ s x=x:=by grind [pW,cf.cJ,cf.ls]
theorem MR (k:cf)(s:cn)(a:Int):k.e6 s a=k.st s (a+1) (k.cJ s (k.ld s (a+1))):=by grind [cf.e6,cf.cJ]
theorem xq (k:cf)(s:cn)(a x:Int):OG (k.st s a x).ws=OG s.ws:=by grind [cf.st]
theorem xr (hl:OG s.ws=k.N+k.O)(hy:k.y<=k.N)(hg:s.g<=k.O)(hv:∀x,k.cP (k.cJ s x)=OU):∀(l:List Int)(t:cn),t.f=s.f->t.g=s.g->OG t.ws=OG s.ws->(∀c∈l,dB k.N k.y s.g (c+1)=OV)->
 (l.foldl k.e6 t).f=s.f/\(l.foldl k.e6 t).g=s.g/\OG (l.foldl k.e6 t).ws=OG s.ws/\(l.foldl k.e6 t).ep=t.ep/\(l.foldl k.e6 t).rs=t.rs/\∀p,k.ld (l.foldl k.e6 t) p=if p-1∈l then k.cJ s (k.ld t p) else k.ld t p
 |[],t,d,b,f,_=>(by grind)
 |c::l,t,d,b,f,hi=>by
  have vt:∀x,k.cJ t x=k.cJ s x:=λx=>by grind [MN,cf.cJ]
  rw[a8,MR];obtain⟨g,i,j,m,n,o⟩:=xr hl hy hg hv l (k.st t (c+1) (k.cJ t (k.ld t (c+1)))) d b (by grind [xq]) (by grind)
  refine⟨g,i,j,m,n,λp=>?_⟩
  rw[o p];have hp:=cf.pi (f.trans hl) hy aa (c+1) (k.cJ t (k.ld t (c+1))) p;rw[b] at hp;by_cases e:p=c+1
  ·simp_all [MQ]
  grind
theorem xs (hy:k.y<=k.N):∀(l:List Int)(t:cn),OG t.ws=k.N+k.O->t.g<=k.O->(∀c∈l,dB k.N k.y t.g (c+1)=OV/\dB k.N k.y t.g (c+2)=OV)->
 (l.foldl k.ib t).rs=t.rs/\(l.foldl k.ib t).g=t.g/\∀p,k.ld (l.foldl k.ib t) p=if p-1∈l\/p-2∈l then 3 else k.ld t p
 |[],t,_,_,_=>(by grind)
 |c::l,t,d,b,hi=>by
  obtain⟨c1,c2⟩:=hi c ac;have l1:OG (k.st t (c+1) 3).ws=k.N+k.O:=(by grind [xq])
  rw[a8];obtain⟨e,f,g⟩:=xs hy l _ ((xq _ _ _ _).trans l1) b (λx i=>hi x (bk _ i))
  refine⟨e,f,λp=>?_⟩
  have j:k.ib t c=k.st (k.st t (c+1) 3) (c+2) 3:=rfl;rw[j,g p,(cf.pi l1 hy b (c+2) 3) p,(cf.pi d hy b (c+1) 3) p];have g1:(k.st t (c+1) 3).g=t.g:=rfl
  grind
theorem CU (ci:CI k s)(fB:Fo k s){b x:Int}(h:k.ml s b x):k.nw s x=k.nw s b:=by
 rcases h with e|⟨y1,c,d⟩
 ·rw[e]
 ·rw[tM y1 c,d];obtain⟨b1,b2⟩:=fB _ (oQ y1) c
  grind [pW,oA]
theorem CV {b x:Int}(h:k.ml s b x)(hy:k.cP x=OU):x=k.nw s b:=by
 rcases h with e|⟨y1,c,d⟩
 ·grind [pW]
 grind [tM]
theorem MS (li:LI k z s H D)(w:dT k z s H){a b i:Int}(o:k.or z s a b)(W:0<=i)(x:i<pf (k.l0 z a)):
 k.ld (k.be (k.mw s s.wk) (k.mw s s.wk).ep) (b+1+i)=if b∈s.ep then 3 else if b∈s.wk/\i=0 then k.cJ s (k.ld s (b+1+i)) else k.ld s (b+1+i):=by
 have ci:=li.mi.ci;have full:=li.mi.full;have hb:=li.mi.mem o;have ab:i<pf (k.ld s b):=((li.mi.hd a b o)▸x)
 have B:∀c∈s.wk,dB k.N k.y s.g (c+1)=OV:=λc hc=>by
  obtain⟨q1,f⟩:=w.wk c hc;have q3:=li.mi.bd q1;have:=iG q3.2.2 (aI (aK f))
  exact iX aa aa
 have ad:∀c∈s.ep,dB k.N k.y s.g (c+1)=OV/\dB k.N k.y s.g (c+2)=OV:=λc hc=>by
  obtain⟨q1,f⟩:=w.ep c hc;have q3:=li.mi.bd q1;have:=iG q3.2.2 (aI (aI f))
  exact⟨iX aa aa,iX aa aa⟩
 obtain⟨m1,g,m,n,_,q⟩:=xr ci.len ci.hy ci.hg (CT ci li.mi.fB) s.wk s rfl rfl rfl B;have n:(k.mw s s.wk).ep=s.ep:=n;have g:(k.mw s s.wk).g=s.g:=g;have m:OG (k.mw s s.wk).ws=OG s.ws:=m;obtain⟨_,_,b3⟩:=xs ci.hy s.ep _ ((m▸ci.len)) ((g▸ci.hg)) (by simp_all)
 have b3:∀p,k.ld (k.be (k.mw s s.wk) s.ep) p=if p-1∈s.ep\/p-2∈s.ep then 3 else k.ld (k.mw s s.wk) p:=b3
 have q:∀p,k.ld (k.mw s s.wk) p=if p-1∈s.wk then k.cJ s (k.ld s p) else k.ld s p:=q
 rw[n,b3,q];have t:∀j,0<=j->j<pf (k.ld s b)->_:=λj j0 F=>full.eB.field hb j0 F;have q1:∀l:List Int,(∀c∈l,c∈z.G++H)->((b+1+i)-1∈l↔(b∈l/\i=0)):=λl hl=>by
  constructor
  ·intro d;by_cases e:i=0
   ·simp_all
   ·exfalso;have:b+1+i-1=b+1+(i-1):=aa;rw[this] at d;exact t (i-1) aa aa (hl _ d)
  ·simp_all
 have f:(b+1+i)-2∈s.ep↔(b∈s.ep/\i=1):=by
  constructor
  ·intro d;obtain⟨r1,N⟩:=w.ep _ d;by_cases e:i=1
   ·subst e;have:b+1+1-2=b:=aa;rw[this] at d;exact⟨d,rfl⟩
   ·exfalso;by_cases S:i=0
    ·subst S;have ag:=iG (li.mi.bd r1).2.2 (aI (aI N))
     have u:=full.eB.apart _ r1 b hb aa;have u:b+1+0-2+(1+pf (k.ld s (b+1+0-2)))<=b:=u;omega
    ·have:b+1+i-2=b+1+(i-2):=aa;rw[this] at r1;exact t (i-2) aa aa r1
  ·rintro⟨d,e⟩
   subst e;have:b+1+1-2=b:=aa;rw[this];exact d
 have ai:=q1 s.ep (λc hc=>(w.ep c hc).1)
 have al:=q1 s.wk (λc hc=>(w.wk c hc).1)
 by_cases c:b∈s.ep
 ·have v:=iG (full.eB.mem b hb).2.2 (aI (aI (w.ep b c).2))
  have v:pf (k.ld s b)=2:=v;rw[aM c,aM];rcases(show i=0\/i=1 by omega) with e|e
  ·simp_all
  ·simp_all
 ·simp_all
theorem MT (li:LI k z s H D)(w:dT k z s H){a b:Int}(o:k.or z s a b):k.ld (k.be (k.mw s s.wk) (k.mw s s.wk).ep) b=k.l0 z a/\(k.be (k.mw s s.wk) (k.mw s s.wk).ep).rs=s.rs:=by
 have ci:=li.mi.ci;have n:∀c∈s.wk,dB k.N k.y s.g (c+1)=OV:=λc hc=>by
  obtain⟨q1,t⟩:=w.wk c hc;have q3:=li.mi.bd q1
  grind [iG,iX]
 have v:∀c∈s.ep,dB k.N k.y s.g (c+1)=OV/\dB k.N k.y s.g (c+2)=OV:=λc hc=>by
  obtain⟨q1,t⟩:=w.ep c hc;have q3:=li.mi.bd q1
  grind [iG,iX]
 obtain⟨m1,f,g,i,u,j⟩:=xr ci.len ci.hy ci.hg (CT ci li.mi.fB) s.wk s rfl rfl rfl n;have i:(k.mw s s.wk).ep=s.ep:=i;have f:(k.mw s s.wk).g=s.g:=f;have g:OG (k.mw s s.wk).ws=OG s.ws:=g;obtain⟨b1,_,b3⟩:=xs ci.hy s.ep _ ((g▸ci.len)) ((f▸ci.hg)) (by simp_all)
 have b3:∀p,k.ld (k.be (k.mw s s.wk) s.ep) p=if p-1∈s.ep\/p-2∈s.ep then 3 else k.ld (k.mw s s.wk) p:=b3
 have j:∀p,k.ld (k.mw s s.wk) p=if p-1∈s.wk then k.cJ s (k.ld s p) else k.ld s p:=j
 have no:∀c,c∈z.G++H->pf (k.ld s c)=2->∀d:Int,(d=1\/d=2)->b-d≠c:=λc hc x d hd e=>by have l:=li.mi.full.eB.apart c hc b (li.mi.mem o) aa;have l:c+(1+pf (k.ld s c))<=b:=l;omega
 rw[i,b3,j];refine⟨?_,b1.trans u⟩
 rw[aJ,aJ,(li.mi.hd a b o)]
 ·intro q;obtain⟨r1,m⟩:=w.wk _ q;exact no _ r1 (iG (li.mi.bd r1).2.2 aa) 1 aa rfl
 ·rintro(q|q)
  ·obtain⟨r1,m⟩:=w.ep _ q;exact no _ r1 (iG (li.mi.bd r1).2.2 aa) 1 aa rfl
  ·obtain⟨r1,m⟩:=w.ep _ q;exact no _ r1 (iG (li.mi.bd r1).2.2 aa) 2 aa rfl
end
theorem tN {L:List Bool}{i:Nat}{t:cH}(b:U L i OU=OV)(c:t.1=3\/t.1=4->OG t.2.1=2):OG (gj L i t).2.1=OG t.2.1/\(gj L i t).1=t.1/\(gj L i t).2.2=(OV,t.2.2.2):=by
 unfold gj
 grind
theorem CW {L:List Bool}{i:Nat}{t:cH}(b:U L i OU=OU):gj L i t=(t.1,[],t.2.2.1,OV):=by grind [gj]
theorem nT {L:List Bool}{i:Nat}{t:cH}(b:U L i OU=OV)(c:t.1=3\/t.1=4->OG t.2.1=2){k:Nat}(hk:k<OG t.2.1):
 U (gj L i t).2.1 k (0,0)=if((t.1=3\/t.1=4)/\eM L (U t.2.1 0 (0,0))=OU)/\(k=0\/(t.1=4/\k=1)) then(2,0) else U t.2.1 k (0,0):=by
 unfold gj
 grind
structure tO (a:Wc)(S:cv)(W:cj)(m:Nat->Int)(B L:List Bool)(C:List b8)(S':cv)(m':Nat->Int)(G':List Int):Prop where
 kv:eA a S'.s [] G'
 ok:hJ W.T L
 cl:iJ W.T W.wt (cx L)
 up:∀i,cx B i->cx L i
 rr:∀v∈W.rs,v.1=3->cx L (K v.2)
 cc:∀e∈C,e∈W.rg/\cx L (K e.2)
 rs:S'.s.rs=W.rs.map (wv m')
 pl:∀i,cx L i->m' i∈G'
 inj:∀i j,cx L i->cx L j->m' i=m' j->i=j
 gR:∀v∈G',∃i,cx L i/\m' i=v
 hd:∀i,cx L i->ld a.N S'.s.y S'.s.g S'.s.ws (m' i)=ld a.N S.s.y S.s.g S.s.ws (m i)
 fd:∀i,cx L i->∀k:Nat,k<OG (U W.T i t0).2.1->ld a.N S'.s.y S'.s.g S'.s.ws (m' i+1+k)=wv m' (U (gj L i (U W.T i t0)).2.1 k (0,0))
 rg:S'.r=(W.rg.filter (λe=>cZ B e.2&&cZ L e.1)).map (we m')
 wt:S'.q=((W.wt++C).filter (λe=>cZ L e.1)).map (we m')
section
variable {a:Wc}{S S':cv}{W:cj}{m m':Nat->Int}{Y G G':List Int}{B L:List Bool}{C:List b8}
theorem CX {L:List Bool}{v:Int×Int}(b:v.1=3):eM L v=U L (K v.2) OU:=by grind [eM]
theorem MU {L:List Bool}{v:Int×Int}(b:v.1≠3):eM L v=OV:=by grind [eM]
theorem cE.led (h:cE a S W m Y G)(ok:hJ W.T L)(cl:iJ W.T W.wt (cx L)){i:Nat}(hi:cx L i){k:Nat}(hk:k<OG (U W.T i t0).2.1)(b:(U (gj L i (U W.T i t0)).2.1 k (0,0)).1=3):cx L (K (U (gj L i (U W.T i t0)).2.1 k (0,0)).2):=by
 have al:=ok.al i hi;have d:(U W.T i t0).1=3\/(U W.T i t0).1=4->_=_:=λc=>h.two al aa;rw[nT hi d hk] at b⊢;split at b
 ·omega
 ·rename_i c;rw[aJ c];have j:=qc _ _ (h.hd i al).1;by_cases f:(U W.T i t0).1=1\/(U W.T i t0).1=2
  ·exact cl i al.1 hi _ (aK ⟨f,(fL hk)⟩) b
  by_cases k3:(U W.T i t0).1=3
  ·have l2:=d aa;rcases(show k=0\/k=1 by omega) with e|e
   ·grind [oF]
   ·subst e;exact cl i al.1 hi _ (aI (aK ⟨k3,rfl⟩)) b
  by_cases k4:(U W.T i t0).1=4
  ·have g:eM L (U (U W.T i t0).2.1 0 (0,0))=OV:=by grind
   rcases(show k=0\/k=1 by omega) with e|e
   ·grind [oF]
   ·subst e;exact cl i al.1 hi _ (aI (aI (aK ⟨k4,oF g,rfl⟩))) b
  omega
theorem tO.done (h:cE a S W m Y G)(c:tO a S W m B L C S' m' G'):cE a S' ⟨gS L W.T (OG W.T),W.rs,W.rg.filter (λe=>cZ B e.2&&cZ L e.1),(W.wt++C).filter (λe=>cZ L e.1)⟩ m' [] G':=by
 have gt:∀j,j<OG W.T->U (gS L W.T (OG W.T)) j t0=gj L j (U W.T j t0):=λj n=>by rw[sX L W.T (OG W.T) j bY n,aM n]
 have g:∀i,cx L i->((U W.T i t0).1=3\/(U W.T i t0).1=4->_=_):=λi hi q=>h.two (c.ok.al i hi) (aI q)
 have al:∀j,cz (gS L W.T (OG W.T)) j↔cx L j:=λj=>by
  unfold cz;rw[kC];constructor
  ·grind [CW,cx]
  ·intro b;have ha:=c.ok.al j b;refine⟨ha.1,?_⟩
   rw[gt j ha.1,(tN b (g j b)).2.2];exact ha.2
 have o:∀j,cx L j->OG (U (gS L W.T (OG W.T)) j t0).2.1=OG (U W.T j t0).2.1/\(U (gS L W.T (OG W.T)) j t0).1=(U W.T j t0).1/\(U (gS L W.T (OG W.T)) j t0).2.2.1=OV:=λj b=>by
  have ha:=c.ok.al j b;obtain⟨q1,f,q3⟩:=tN b (g j b)
  rw[gt j ha.1,q3];exact⟨q1,f,rfl⟩
 have u:∀v,dL W.T v->(v.1=3->cx L (K v.2))->dL (gS L W.T (OG W.T)) v:=λv hv b=>⟨λe=>⟨(hv.t e).1,(al _).2 (b e)⟩,hv.o⟩
 have s:∀e,gO W.T e->cx L (K e.1)->cx L (K e.2)->gO (gS L W.T (OG W.T)) e:=λe he t g=>⟨he.g0,(al _).2 t,((o _ t).2.1▸he.k),he.h0,(al _).2 g⟩
 exact
 {
  kv:=c.kv,rl:=h.rl,rv:=λv hv=>u v (h.rv v hv) (c.rr v hv)
  fv:=λi hi v hv=>by
   have b:=(al i).1 hi;have ha:=c.ok.al i b;have hv:=hv;rw[gt i ha.1] at hv;obtain⟨k,hk,e⟩:=bP.1 hv;have ev:U (gj L i (U W.T i t0)).2.1 k (0,0)=v:=by rw[aN,aP hk,e];rfl
   rw[(tN b (g i b)).1] at hk;refine⟨λl=>?_,λl=>?_⟩
   ·have hl:=h.led c.ok c.cl b hk (by simp_all)
    rw[ev] at hl;refine⟨?_,(al _).2 hl⟩
    rw[nT b (g i b) hk] at ev;split at ev
    ·rw[<-ev] at l;exact absurd l ae
    ·rw[<-ev] at l⊢;exact((h.fv i ha _ (fL hk)).t l).1
   ·rw[nT b (g i b) hk] at ev;split at ev
    ·rw[<-ev];decide
    ·rw[<-ev] at l⊢;exact(h.fv i ha _ (fL hk)).o l
  rs:=c.rs
  i7:=λi hi e=>by simp_all
  old:=λi hi _=>c.pl i ((al i).1 hi)
  inj:=λi j hi n e=>c.inj i j ((al i).1 hi) ((al j).1 n) e
  gR:=λv hv=>by grind [gR]
  hd:=λi hi=>by have b:=(al i).1 hi;show hc _ _=0/\ld a.N S'.s.y S'.s.g S'.s.ws (m' i)=hw _ _;rw[(o i b).1,(o i b).2.1,c.hd i b];exact h.hd i (c.ok.al i b)
  fd:=λi hi k hk=>by have b:=(al i).1 hi;have hk:=hk;rw[(o i b).1] at hk;show ld a.N S'.s.y S'.s.g S'.s.ws _=wv m' _;rw[gt i (c.ok.al i b).1];exact c.fd i b k hk
  rg:=c.rg
  gv:=λe he=>by obtain⟨q1,f⟩:=bK.1 he;rw[mq] at f;exact s e (h.gv e q1) f.2 (c.up _ f.1)
  wt:=c.wt
  dH:=λe he=>by
   obtain⟨q1,f⟩:=bK.1 he;rcases bw.1 q1 with d|d
   ·have p:=h.dH e d;exact s e p f (c.cl _ p.g.1 f (3,e.2) (aI (aI (aI ⟨p.k,e,d,by have:=p.g0;omega,rfl⟩))) rfl)
   ·obtain⟨w,x⟩:=c.cc e d;exact s e (h.gv e w) f x
  tl:=λi=>by
   show OG (U (gS L W.T (OG W.T)) i t0).2.1<=12;by_cases hi:i<OG W.T
   ·rw[gt i hi];cases d:U L i OU
    ·rw[CW d];simp
    ·rw[(tN d (g i d)).1];exact h.tl i
   ·rw[aN,List.getElem?_eq_none (by rw[kC];omega)];simp[t0]}
end
end Go.Proofs.YtjckpdepffejnaaGreatDoor
