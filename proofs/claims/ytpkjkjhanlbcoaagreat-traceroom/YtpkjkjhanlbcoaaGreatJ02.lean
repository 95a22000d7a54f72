import Derived.Test.YtpkjkjhanlbcoaaGreatJ01
import Derived.Deep.RegionWith
open Array renaming size->MB
open Bool renaming false->K,true->ML
open Decidable renaming decide->Mt
open Go renaming Addr->bI,Calls->J,TypeId->bU,Value->bj
open Go.Ending renaming returned->MD
open Go.IntKind renaming i64->Q
open Go.Obj renaming cells->E
open Go.Proofs.Tryz renaming prog->MO
open Go.RowKit renaming Below->C
open Go.Value renaming agg->bF,bool->bJ,pointer->bL,slice->My,tuple->a6
open Go.World renaming cell?->V,heap->G,ownsRow->aC
open Int renaming eq_ofNat_of_zero_le->bG,toNat->MJ,toNat_natCast->bH
open List renaming contains_iff_mem->bP,filter_cons_of_neg->qo,filter_cons_of_pos->rq,getD->X,length->Mx,length_cons->gp,map_cons->yg,mem_append->bD,mem_filter->bM,mem_iff_getElem->bX,mem_singleton->bS,range->lF,replicate->MQ
open Nat renaming le_succ->mq
open Option renaming none->MH,some->Z
namespace Go.Proofs.YtpkjkjhanlbcoaaGreat
set_option maxRecDepth 100000
set_option maxHeartbeats 1000000
open Tryz
open Go.RowKit W Kp cq
theorem wP {P:Prop}(h:P:=by
 obtain⟨h1,h2⟩:=h;rcases h2 with⟨e,_⟩|⟨k',cap,cur,hv,hb,hh,h3,h4,h5,h6⟩
 ·cases e
 ·cases hv;rw[hh];have:cur.toList=(MQ n (0:Int)).map (Value.int Q):=by rw[<-List.take_of_length_le (l:=cur.toList) (i:=n*1) (by simp;omega),h6];show(madeCells #[Value.int Q 0] (n*1)).toList=_;rw[toList_madeCells_one];simp
  rw[<-this]):P:=h
theorem sW {P:Prop}(h:P:=by
 go_wp2
 go_quiet (fail)
 go_wp2;go_ret2;exact⟨rfl,below_drewN b9 _⟩):P:=h
theorem qv {P:Prop}(h:P:=by
 rintro e w1 ⟨rfl,hb1⟩
 go_wp2;go_ret;exact⟨rfl,hb1⟩):P:=h
def d9 (L:List Bool)(v:Int×Int):Bool:=!(v.1==3)||X L (MJ v.2) K
def t0:cJ:=(0,[],K,K)
def jn (T:List cJ)(wt:List cf)(X:Nat->Prop)(i:Nat)(v:Int×Int):Prop:=
 (((T.getD i t0).1=1\/(T.getD i t0).1=2)/\v∈(T.getD i t0).2.1)\/((T.getD i t0).1=3/\v=(T.getD i t0).2.1.getD 1 (0,0))\/
 ((T.getD i t0).1=4/\(((T.getD i t0).2.1.getD 0 (0,0)).1=3->X (MJ ((T.getD i t0).2.1.getD 0 (0,0)).2))/\v=(T.getD i t0).2.1.getD 1 (0,0))\/
 ((T.getD i t0).1=5/\∃e∈wt,e.1=i/\v=(3,e.2))
theorem jn.mono {T:List cJ}{wt:List cf}{X Y:Nat->Prop}(e:∀i,X i->Y i){i:Nat}{v:Int×Int}(h:jn T wt X i v):jn T wt Y i v:=by
 rcases h with h|h|⟨b,f,d⟩|h
 ·exact aM h
 ·exact aK (aM h)
 ·exact aK (aK (aM ⟨b,fun c=>(by grind),d⟩))
 ·exact aK (aK (aK h))
def h7 (T:List cJ)(wt:List cf)(X:Nat->Prop):Prop:=∀i,i<Mx T->X i->∀v,jn T wt X i v->v.1=3->X (MJ v.2)
def cx (L:List Bool):Nat->Prop:=fun i=>X L i K=ML
structure oh (T:List cJ)(wt:List cf)(is out:List Bool):Prop where
 len:Mx out=Mx is
 up:∀i,cx is i->cx out i
 cl:h7 T wt (cx out)
 lt:∀X,h7 T wt X->(∀i,cx is i->X i)->∀i,cx out i->X i
theorem m8 {L:List Bool}{v:Int×Int}(h:d9 L v=K):v.1=3/\X L (MJ v.2) K=K:=by grind [d9]
theorem m9 {L:List Bool}{v:Int×Int}(h:d9 L v=ML):v.1=3->cx L (MJ v.2):=fun b=>by grind [d9,cx]
theorem m_ (L:List Bool)(i j:Nat)(h:i<Mx L):X (L.set i ML) j K=if i=j then ML else X L j K:=by grind
theorem cx.lt {L:List Bool}{i:Nat}(h:cx L i):i<Mx L:=by grind [cx]
def cnt (L:List Bool):Nat:=Mx (L.filter (fun b=>!b))
theorem sX:∀(L:List Bool)(i:Nat),X L i ML=K->cnt (L.set i ML)+1=cnt L
 |[],i,h=>by grind
 |b::L,0,h=>by grind [cnt]
 |b::L,i+1,h=>by
  have h:X L i ML=K:=by assumption
  have c:=sX L i h
  grind [cnt]
def cA (T:List cJ)(i:Nat):Prop:=i<Mx T/\(X T i t0).2.2.2=K
structure em (T:List cJ)(wt:List cf):Prop where
 fl:∀i,cA T i->(X T i t0).1=3\/(X T i t0).1=4->Mx (X T i t0).2.1=2
 fv:∀i,cA T i->∀v∈(X T i t0).2.1,v.1=3->0<=v.2/\cA T (MJ v.2)
 wv:∀e∈wt,0<=e.2/\cA T (MJ e.2)
 tl:∀i,Mx (X T i t0).2.1<=12
theorem getD_in {b:Type}{l:List b}{i:Nat}{x:b}(h:i<Mx l):X l i x∈l:=by rw[aL,aN h];exact a9 h
theorem em.pj {T:List cJ}{wt:List cf}(h:em T wt){X:Nat->Prop}{i:Nat}(hi:cA T i){v:Int×Int}(hv:jn T wt X i v)(b:v.1=3):0<=v.2/\cA T (MJ v.2):=by
 rcases hv with⟨_,hm⟩|⟨hk,e⟩|⟨hk,_,e⟩|⟨_,c,he,_,e⟩
 ·exact h.fv i hi v hm b
 ·exact h.fv i hi v (by rw[e];exact getD_in (by rw[h.fl i hi (aM hk)];decide)) b
 ·exact h.fv i hi v (by rw[e];exact getD_in (by rw[h.fl i hi (aK hk)];decide)) b
 ·rw[e];exact h.wv c he
theorem em.cls {T:List cJ}{wt:List cf}(h:em T wt):h7 T wt (cA T):=fun _ _ b _ hv c=>(h.pj b hv c).2
def sY (mj:Bool)(t:cJ):Bool:=t.2.2.1&&!t.2.2.2&&!mj
def na (L:List Bool)(v:Int×Int):List Bool:=if v.1=3 then L.set (MJ v.2) ML else L
def j7 (T:List cJ)(rs:List (Int×Int))(mj:Bool):List Bool:=rs.foldl na (T.map (sY mj))
theorem wQ (L:List Bool)(v:Int×Int):Mx (na L v)=Mx L:=by
 unfold na;split
 ·rw[bh]
 ·rfl
theorem wR (T:List cJ)(rs:List _)(mj:Bool):Mx (j7 T rs mj)=Mx T:=by
 have key:∀(rs:List (Int×Int))(L:List Bool),Mx (rs.foldl na L)=Mx L:=fun rs=>by
  induction rs with
  |nil=>intro L;rfl
  |cons v rs b=>intro L;rw[a_,b,wQ]
 unfold j7;rw[key,aZ]
theorem Di {L:List Bool}{v:Int×Int}{i:Nat}:cx (na L v) i↔cx L i\/(v.1=3/\MJ v.2=i/\i<Mx L):=by
 unfold na;by_cases b:v.1=3
 ·rw[aJ b];unfold cx;by_cases hl:MJ v.2<Mx L
  ·rw[m_ _ _ _ hl];constructor
   ·intro h;split at h
    ·rename_i e;exact aK ⟨b,e,aa⟩
    ·exact aM h
   ·rintro(h|⟨_,e,_⟩)
    ·split
     ·rfl
     ·exact h
    ·rw[aJ e]
  ·rw[List.set_eq_of_length_le aa];exact⟨aM,fun h=>h.elim id (fun⟨_,e,c⟩=>absurd c aa)⟩
 ·rw[aI b];exact⟨aM,fun h=>h.elim id (fun⟨e,_⟩=>absurd e b)⟩
theorem aW {α:Type _}(y:α){a:α}{l:List α}:a ∈ l -> a ∈ y :: l:=by intros;apply List.mem_cons_of_mem<;>assumption
theorem wS:∀(rs:List (Int×Int))(L:List Bool)(i:Nat),cx (rs.foldl na L) i↔cx L i\/(i<Mx L/\∃v∈rs,v.1=3/\MJ v.2=i)
 |[],L,i=>by simp
 |v::rs,L,i=>by
  rw[a_,wS rs,Di,wQ];constructor
  ·rintro((h|⟨c,b,d⟩)|⟨c,u,f,b⟩)
   ·exact aM h
   ·exact aK ⟨d,v,ac,c,b⟩
   ·exact aK ⟨c,u,aW _ f,b⟩
  ·rintro(h|⟨c,u,f,b,d⟩)
   ·exact aM (aM h)
   ·rcases List.mem_cons.1 f with e|e
    ·rw[e] at b d;exact aM (aK ⟨b,d,c⟩)
    ·exact aK ⟨c,u,e,b,d⟩
theorem Dj (mj:Bool)(T:List cJ)(i:Nat):cx (T.map (sY mj)) i↔i<Mx T/\(X T i t0).2.2.1=ML/\(X T i t0).2.2.2=K/\mj=K:=by
 unfold cx;by_cases h:i<Mx T
 ·rw[aL,List.getElem?_map,aN h,aL,aN h];simp[sY,h,and_assoc]
 ·simp[h]
theorem kD (T:List cJ)(rs:List _)(mj:Bool)(i:Nat):cx (j7 T rs mj) i↔i<Mx T/\(((X T i t0).2.2.1=ML/\(X T i t0).2.2.2=K/\mj=K)\/∃v∈rs,v.1=3/\MJ v.2=i):=by
 unfold j7;rw[wS,Dj,aZ];constructor
 ·rintro(⟨c,b⟩|⟨c,b⟩)
  ·exact⟨c,aM b⟩
  ·exact⟨c,aK b⟩
 ·rintro⟨c,b|b⟩
  ·exact aM ⟨c,b⟩
  ·exact aK ⟨c,b⟩
def jo (p:Int×Int)(t:cJ):Int×Int:=if t.2.2.2=ML then p else if t.2.2.1=ML then(p.1,p.2+(1+Mx t.2.1)) else(p.1+(1+Mx t.2.1),p.2)
def eD (l:List cJ):Int×Int:=l.foldl jo (0,0)
theorem wT (l:List cJ)(t:cJ):eD (l++[t])=jo (eD l) t:=by simp[eD,List.foldl_append]
theorem wU (l:List cJ)(h:∀t∈l,Mx t.2.1<=12):0<=(eD l).1/\(eD l).1<=13*Mx l/\0<=(eD l).2/\(eD l).2<=13*Mx l:=by
 have key:∀(l:List cJ)(p:Int×Int),(∀t∈l,Mx t.2.1<=12)->p.1<=(l.foldl jo p).1/\(l.foldl jo p).1<=p.1+13*Mx l/\p.2<=(l.foldl jo p).2/\(l.foldl jo p).2<=p.2+13*Mx l:=by
  intro l
  induction l with
  |nil=>simp
  |cons t l b=>
   intro p hl;have d:=b (jo p t) (fun x c=>hl x (aW _ c))
   have e:=hl t ac;rw[a_];have f:p.1<=(jo p t).1/\(jo p t).1<=p.1+13/\p.2<=(jo p t).2/\(jo p t).2<=p.2+13:=by
    unfold jo;split
    ·omega
    ·split
     ·dsimp only;omega
     ·dsimp only;omega
   simp only [gp];omega
 have:=key l (0,0) h;unfold eD;omega
section
variable {T:List cJ}{wt:List cf}
theorem oh.uniq {is a b:List Bool}(h:oh T wt is a)(c:oh T wt is b):a=b:=by
 refine List.ext_getElem (h.len.trans c.len.symm) (fun i d e=>?_)
 have key:cx a i↔cx b i:=⟨fun q=>h.lt _ c.cl c.up i q,fun q=>c.lt _ h.cl h.up i q⟩
 unfold cx at key;cases ha:a[i]<;>cases hb:b[i]<;>simp_all
end
def cW (L:List Bool)(x:Int):Bool:=X L (MJ x) K
def fK (g:List Bool->List Bool)(L:List Bool)(x:Int):List Bool:=g (L.set (MJ x) ML)
def iQ (T:List cJ)(L:List Bool):Nat->Int
 |0=>0
 |i+1=>if X L i K=ML then iQ T L i+(1+Mx (X T i t0).2.1) else iQ T L i
def fC (L:List Bool)(i:Nat)(t:cJ):cJ:=
 if X L i K=ML then
  (t.1,(if t.1=4/\d9 L (X t.2.1 0 (0,0))=K then[(2,0),(2,0)] else if t.1=3/\d9 L (X t.2.1 0 (0,0))=K then[(2,0),X t.2.1 1 (0,0)] else t.2.1),ML,t.2.2.2)
 else(t.1,[],t.2.2.1,ML)
def gh (L:List Bool)(T:List cJ):Nat->List cJ
 |0=>T
 |i+1=>(gh L T i).set i (fC L i (X T i t0))
def cn.c0 (g:List Bool->List Bool)(s:cn)(mj:Bool):List Bool:=g (j7 s.T s.rs mj)
def cn.cR (g:List Bool->List Bool)(s:cn)(mj:Bool):List Bool×List cf×List cf:=
 turns cW (fK g) (Mx s.rg+1) (s.rg.filter (fun e=>!cW (s.c0 g mj) e.2)) (s.c0 g mj) []
def cn.cF (g:List Bool->List Bool)(s:cn)(b_:Int)(mj:Bool):Bool:=
 (!mj&&decide (b_-(eD s.T).2<(eD s.T).1))||decide (b_<iQ s.T (s.cR g mj).1 (Mx s.T))
def cn.cut (g:List Bool->List Bool)(s:cn)(b_:Int)(mj:Bool):cn:=
 if s.cF g b_ mj=ML then s else
  {T:=gh (s.cR g mj).1 s.T (Mx s.T),rs:=s.rs,rg:=s.rg.filter (fun e=>cW (s.c0 g mj) e.2&&cW (s.cR g mj).1 e.1),wt:=(s.wt++(s.cR g mj).2.1).filter (fun e=>cW (s.cR g mj).1 e.1)}
def cn.gZ (g:List Bool->List Bool)(s:cn)(b_:Int)(mj:Bool):Int:=if s.cF g b_ mj=ML then 3 else 0
def dz (T:List cJ)(wt:List cf)(g:List Bool->List Bool):Prop:=∀is:List Bool,Mx is=Mx T->(∀k,cx is k->cA T k)->oh T wt is (g is)
theorem jF (L:List Bool)(T:List cJ):∀i,Mx (gh L T i)=Mx T
 |0=>rfl
 |i+1=>by rw[gh,bh];exact jF L T i
theorem qw (L:List Bool)(T:List cJ):∀(i j:Nat),i<=Mx T->j<Mx T->X (gh L T i) j t0=if j<i then fC L j (X T j t0) else X T j t0
 |0,j,_,_=>by rfl
 |i+1,j,hi,b=>by
  rw[gh,aL,List.getElem?_set];by_cases e:i=j
  ·subst e;rw[aJ rfl,aJ (by rw[jF];exact b),aJ aa];rfl
  ·rw[aI e,<-aL,(qw L T i j aa b)];by_cases c:j<i
   ·rw[aJ c,aJ aa]
   ·rw[aI c,aI aa]
theorem wV (T:List cJ)(L:List Bool)(h:∀i,Mx (X T i t0).2.1<=12):∀i,0<=iQ T L i/\iQ T L i<=13*i
 |0=>by simp[iQ]
 |i+1=>by
  have b:=wV T L h i;have:=h i;unfold iQ;split
  ·omega
  ·omega
section
variable {T:List cJ}{wt:List cf}{g:List Bool->List Bool}
structure gP (T:List cJ)(L:List Bool):Prop where
 len:Mx L=Mx T
 al:∀k,cx L k->cA T k
theorem dz.ok (hg:dz T wt g)(c:em T wt){L:List Bool}(h:gP T L):gP T (g L)/\∀k,cx L k->cx (g L) k:=by have b:=hg L h.len h.al;exact⟨⟨b.len.trans h.len,fun k hk=>b.lt _ c.cls h.al k hk⟩,b.up⟩
theorem gP.put {L:List Bool}(h:gP T L){x:Nat}(b:cA T x):gP T (L.set x ML)/\cx (L.set x ML) x/\∀k,cx L k->cx (L.set x ML) k:=by
 have hl:x<Mx L:=by rw[h.len];exact b.1
 refine⟨⟨by rw[bh];exact h.len,fun k hk=>?_⟩,?_,fun k hk=>?_⟩
 ·unfold cx at hk;rw[m_ _ _ _ hl] at hk;split at hk
  ·rename_i e;rw[<-e];exact b
  ·exact h.al k hk
 ·unfold cx;rw[m_ _ _ _ hl,aJ rfl]
 ·unfold cx at hk⊢;rw[m_ _ _ _ hl];split
  ·rfl
  ·exact hk
theorem gP.fK (hg:dz T wt g)(c:em T wt){L:List Bool}(h:gP T L){x:Int}(d:cA T (MJ x)):gP T (fK g L x)/\cx (fK g L x) (MJ x)/\∀k,cx L k->cx (fK g L x) k:=by obtain⟨e,f,i⟩:=h.put d;obtain⟨q1,b⟩:=hg.ok c e;exact⟨q1,b _ f,fun k hk=>b _ (i k hk)⟩
end
structure nc {σ:Type}(lk:σ->cf->Bool×σ)(g:List Bool->List Bool)(pe:cf->cf)(R:List cf)(ρ:σ->List Bool->List cf->Prop):Prop where
 no:∀t L C e,ρ t L C->e∈R->cW L e.1=K->lk t (pe e)=(K,t)
 yes:∀t L C e,ρ t L C->e∈R->cW L e.1=ML->(lk t (pe e)).1=ML/\ρ (lk t (pe e)).2 (fK g L e.2) (C++[e])
section
variable {σ:Type}{lk:σ->cf->Bool×σ}{g:List Bool->List Bool}{pe:cf->cf}{R:List cf}{ρ:σ->List Bool->List cf->Prop}
theorem nc.pass (h:nc lk g pe R ρ):∀(l:List cf)(t:σ)(L:List Bool)(C D A:List cf),(∀e∈l,e∈R)->ρ t L C->
 ρ ((l.map pe).foldl (eI lk) (A,D.map pe,t)).2.2 (cq.pass cW (fK g) l L C D).1 (cq.pass cW (fK g) l L C D).2.1/\((l.map pe).foldl (eI lk) (A,D.map pe,t)).2.1=(cq.pass cW (fK g) l L C D).2.2.map pe/\
 Mx ((l.map pe).foldl (eI lk) (A,D.map pe,t)).1+Mx C=Mx A+Mx (cq.pass cW (fK g) l L C D).2.1
 |[],t,L,C,D,A,_,hr=>⟨hr,rfl,rfl⟩
 |e::l,t,L,C,D,A,hl,hr=>by
  have he:=hl e ac;rw[yg,a_];cases c:cW L e.1
  ·have b:eI lk (A,D.map pe,t) (pe e)=(A,(D++[e]).map pe,t):=by unfold eI;rw[h.no t L C e hr he c,List.map_append];rfl
   rw[b,cq.pass,c,aI ac];exact h.pass l t L C (D++[e]) A (fun x d=>hl x (aW _ d)) hr
  ·obtain⟨y1,f⟩:=h.yes t L C e hr he c;have b:eI lk (A,D.map pe,t) (pe e)=(A++[pe e],D.map pe,(lk t (pe e)).2):=by unfold eI;rw[aJ y1]
   rw[b,cq.pass,c,aJ rfl];obtain⟨i,j,k⟩:=h.pass l _ _ _ D _ (fun x d=>hl x (aW _ d)) f;refine⟨i,j,?_⟩
   simp only [List.length_append,gp,List.length_nil] at k;omega
theorem sZ {σ:Type}(is:σ->Int->Bool)(kp:σ->Int->σ)(e:cf):∀(l:List cf)(s:σ)(C D:List cf),e∈(cq.pass is kp l s C D).2.2->e∈D\/e∈l
 |[],_,_,_,h=>aM h
 |x::l,s,C,D,h=>by
  rw[cq.pass] at h;split at h
  ·exact(sZ is kp e l _ _ _ h).imp id (aW _)
  ·rcases sZ is kp e l _ _ _ h with b|b
   ·rcases bD.1 b with b|b
    ·exact aM b
    ·exact aK (by rw[bS.1 b];simp)
   ·exact aK (aW _ b)
theorem wW {σ:Type}(is:σ->Int->Bool)(kp:σ->Int->σ)(l:List cf)(s:σ)(C:List cf)(e:cf)(h:e∈(cq.pass is kp l s C []).2.2):e∈l:=
 (sZ is kp e l s C [] h).resolve_left ac
theorem nc.turns (h:nc lk g pe R ρ):∀(n:Nat)(D:List cf)(t:σ)(L:List Bool)(C:List cf),(∀e∈D,e∈R)->ρ t L C->
 ρ (eP lk n t (D.map pe)).1 (cq.turns cW (fK g) n D L C).1 (cq.turns cW (fK g) n D L C).2.1/\(eP lk n t (D.map pe)).2=(cq.turns cW (fK g) n D L C).2.2.map pe
 |0,D,t,L,C,_,hr=>⟨hr,rfl⟩
 |n+1,D,t,L,C,f,hr=>by
  obtain⟨b,d,i⟩:=h.pass D t L C [] [] f hr;have b:=b;have d:(pts lk t (D.map pe)).2.1=(cq.pass cW (fK g) D L C []).2.2.map pe:=d;have i:Mx (pts lk t (D.map pe)).1+Mx C=0+Mx (cq.pass cW (fK g) D L C []).2.1:=i;by_cases c:Mx (pts lk t (D.map pe)).1=0
  ·rw[mc _ _ _ _ c,CV aa];exact⟨b,d⟩
  ·rw[me _ _ _ _ c,CU aa,d];exact h.turns n _ _ _ _ (fun e he=>f e (wW _ _ D L C e he)) b
end
theorem qx {d:Type}(lk:d->cf->Bool×d):∀(n k:Nat)(t:d)(b:List cf),Mx b<n->Mx b<k->eP lk n t b=eP lk k t b
 |0,_,_,_,h,_=>absurd h aa
 |_+1,0,_,_,_,h=>absurd h aa
 |n+1,k+1,t,b,e,f=>by
  have hl:=pi lk t b;by_cases c:Mx (pts lk t b).1=0
  ·rw[mc _ _ _ _ c,mc _ _ _ _ c]
  ·rw[me _ _ _ _ c,me _ _ _ _ c];exact qx lk n k _ _ aa aa
theorem lL {b d:Type}(f:b->d)(p:d->Bool)(q:b->Bool):∀l:List b,(∀x∈l,p (f x)=q x)->(l.map f).filter p=(l.filter q).map f
 |[],_=>rfl
 |x::l,h=>by
  have e:=lL f p q l (fun y hy=>h y (aW _ hy))
  have g:=h x ac;rw[yg];cases c:q x
  ·rw[qo (by rw[g,c];simp),qo (by rw[c];simp),e]
  ·rw[rq (by rw[g,c]),rq c,yg,e]
structure fD (s:cn):Prop where
 iv:em s.T s.wt
 rv:∀v∈s.rs,v.1=3->0<=v.2/\cA s.T (MJ v.2)
 gv:∀e∈s.rg,(0<=e.1/\cA s.T (MJ e.1))/\0<=e.2/\cA s.T (MJ e.2)
 wg:∀e∈s.wt,0<=e.1/\cA s.T (MJ e.1)
 tl:Mx s.T<=10000
 gl:Mx s.rg<=1000
 wl:Mx s.wt<=1000
theorem fD.t12 {s:cn}(h:fD s):∀t∈s.T,Mx t.2.1<=12:=fun t ht=>by
 obtain⟨i,hi,e⟩:=bX.1 ht;have:=h.iv.tl i;rw[aL,aN hi,e] at this
 exact this
theorem fD.first {s:cn}(h:fD s)(mj:Bool):gP s.T (j7 s.T s.rs mj):=
 ⟨wR _ _ _,fun k hk=>by
  obtain⟨c,b⟩:=(kD _ _ _ _).1 hk;rcases b with⟨_,b,_⟩|⟨v,hv,d,e⟩
  ·exact⟨c,b⟩
  ·rw[<-e];exact(h.rv v hv d).2⟩
structure ch (F:Nat->Prop)(w:az)(F':Nat->Prop)(w':az):Prop where
 fr:Fr F w w'
 sub:∀b,F' b->F b\/MB (G w)<=b
theorem ch.refl (F:Nat->Prop)(w:az):ch F w F w:=⟨Fr.refl _ _,fun _ h=>aM h⟩
theorem ch.trans {F d e:Nat->Prop}{w w' f:az}(h:ch F w d w')(k:ch d w' e f):ch F w e f:=
 ⟨h.fr.trans k.fr h.sub,fun b hb=>(k.sub b hb).elim (h.sub b) (fun c=>aK (aU h.fr.size c))⟩
theorem ch.of {F:Nat->Prop}{w w':az}(h:C (MB (G w)) w w'):ch F w F w':=⟨Fr.of h,fun _ h=>aM h⟩
theorem ch.below {F b:Nat->Prop}{w w' c:az}(h:ch F w b w')(hb:C (MB (G w')) w' c):ch F w b c:=h.trans (ch.of hb)
theorem bC {α:Type _}{i:Nat}{l:List α}:Mx (List.take i l) = Min.min i (Mx l):=List.length_take ..
theorem s3 {w:az}{base g n cap:Nat}{e:bU}{b:List bj}(h:aC w base e 1 (My (au g) n cap) n b)(m:Nat)(hm:m<=n):aC w base e 1 (My (au g) m cap) m (b.take m):=by
 obtain⟨l,c⟩:=h;rcases c with⟨hv,_⟩|⟨o,p,d,hv,hb,f,q,i,j,k⟩
 ·simp at hv
 ·obtain⟨rfl,rfl⟩:=hv;refine⟨by rw[bC];omega,aK ⟨g,cap,d,rfl,hb,f,aa,i,j,?_⟩⟩
  rw[<-k,List.take_take]
  congr 1
  omega
theorem s7 {w:az}{base g n cap:Nat}{e:bU}{b:List bj}(h:aC w base e 1 (My (au g) n cap) n b):n<=cap/\cap<=maxLen:=by
 rcases h.2 with⟨hv,_⟩|⟨f,i,j,hv,hb,k,c,d,l,m⟩
 ·simp at hv
 ·obtain⟨rfl,rfl⟩:=hv;exact⟨c,d⟩
abbrev dZ:=Int×Option bI×Nat×List (Int×Int)
def nv (m:List dZ):List Value:=m.flatMap fun x=>[ak x.1,My x.2.1 (Mx x.2.2.2) x.2.2.1]
def iA (m:List dZ):List (Int×List (Int×Int)):=m.map fun x=>(x.1,x.2.2.2)
theorem wX (a b:List dZ):nv (a++b)=nv a++nv b:=by simp[nv]
theorem pm:∀(l:List dZ)(i:Nat)(x:dZ),l[i]?=Z x->(nv l)[i*2]?=Z (ak x.1)/\(nv l)[i*2+1]?=Z (My x.2.1 (Mx x.2.2.2) x.2.2.1)
 |[],i,x,h=>by grind
 |e::r,0,x,h=>by simp_all [nv]
 |e::r,i+1,x,h=>by have b:(nv (e::r))=ak e.1::My e.2.1 (Mx e.2.2.2) e.2.2.1::nv r:=af;rw[b,show(i+1)*2=i*2+1+1 by omega];simpa using(pm r i x (by assumption))
theorem s8:∀(l:List dZ)(i:Nat)(x:dZ)(ad:Option bI)(c:Nat)(b:List (Int×Int)),l[i]?=Z x->nv (l.set i (x.1,ad,c,b))=(nv l).set (i*2+1) (My ad (Mx b) c)
 |[],_,_,_,_,_,_=>rfl
 |e::l,0,x,ad,c,b,h=>by simp_all [nv]
 |e::l,i+1,x,ad,c,b,h=>by have d:(nv (e::l))=ak e.1::My e.2.1 (Mx e.2.2.2) e.2.2.1::nv l:=af;have f:(nv (e::l.set i (x.1,ad,c,b)))=ak e.1::My e.2.1 (Mx e.2.2.2) e.2.2.1::nv (l.set i (x.1,ad,c,b)):=af;rw[List.set_cons_succ,f,d,(s8 l i x ad c b (by assumption)),show(i+1)*2+1=i*2+1+1+1 by omega];simp
theorem nf {w:az}{base size n g cap:Nat}{e:bU}{b:List bj}(h:aC w base e size (My (au g) n cap) n b)(i:Nat)(u:bj):aC (w.setCell ⟨g,i,MH⟩ u) base e size (My (au g) n cap) n (b.set i u):=by
 refine⟨by rw[bh];exact h.1,?_⟩
 rcases h.2 with⟨hv,_⟩|⟨k,l,c,hv,hb,hg,d,f,m,j⟩
 ·grind
 ·obtain⟨rfl,rfl⟩:=hv;refine aK ⟨g,cap,c.setIfInBounds i u,rfl,hb,?_,d,f,by simp_all,?_⟩
  ·simp only [World.setCell,Array.getElem?_modify,if_true,hg,Option.map_some];rfl
  ·rw[Array.toList_setIfInBounds,List.take_set,j]
def fL (w:az)(ad:Option bI)(l:List (Int×Int)):Prop:=dC w ad l/\(0<Mx l->∃b o c,ad=Z ⟨b,o,MH⟩/\w.heap[b]?=Z (E c 97 (0,0)))
section
variable {w:az}
theorem fL.nil {ad:Option bI}:fL w ad []:=⟨fun h=>by simp at h,fun h=>by simp at h⟩
theorem fL.of {base cap:Nat}{ad:Option bI}{l:List _}(h:aC w base 97 2 (My ad (Mx l) cap) (Mx l) (ev l)):fL w ad l:=by
 refine⟨ik h,fun hp=>?_⟩
 obtain⟨b,c0,c⟩:=eS h hp;obtain⟨d,hc⟩:=fw h b (by rw[c];rfl)
 grind
end
def fM (m:List dZ)(k:Nat):Prop:=∃x∈m,0<Mx x.2.2.2/\∃o,x.2.1=Z ⟨k,o,MH⟩
theorem iR {w:az}{base size n g cap:Nat}{e:bU}{b:List bj}(h:aC w base e size (My (au g) n cap) n b){i:Nat}{u:bj}(hi:b[i]?=Z u):V w (av g i)=Z u/\w.frozen? (av g i)=K:=by
 rcases h.2 with⟨hv,_⟩|⟨f,j,k,hv,hb,hg,l,m,o,c⟩
 ·grind
 ·obtain⟨rfl,rfl⟩:=hv;rw[<-c] at hi;have d:i<n*size:=by grind
  rw[List.getElem?_take_of_lt d] at hi;constructor
  ·simp[World.cell?,hg]
   grind
  ·simp[World.frozen?,hg]
def Ln (w:az)(ad:Option bI)(c:List (Int×List (Int×Int))):Prop:=
 ∃m:List dZ,iA m=c/\(∀x∈m,dC w x.2.1 x.2.2.2)/\(0<Mx m->∃b o,ad=Z ⟨b,o,MH⟩/\b<MB (G w)/\∀i x,m[i]?=Z x->V w (av b (o+i*2))=Z (ak x.1)/\V w (av b (o+i*2+1))=Z (My x.2.1 (Mx x.2.2.2) x.2.2.1))
theorem Ln.below {w w':az}{ad:Option bI}{c:List _}(h:Ln w ad c)(hb:C (MB (G w)) w w'):Ln w' ad c:=by
 obtain⟨m,f,g,j⟩:=h;refine⟨m,f,fun x d=>(g x d).below hb,fun hp=>?_⟩
 obtain⟨b,o,e,hl,hc⟩:=j hp;exact⟨b,o,e,aO hl hb.size,fun i x d=>(by grind [Below.cell])⟩
def jp (w:az)(base:Nat)(ad:Option bI)(l:List (Int×Int)):Prop:=dC w ad l/\(0<Mx l->∃b o,ad=Z ⟨b,o,MH⟩/\base<=b)
def i6 (w:az)(base:Nat)(ad:Option bI)(c:List (Int×List (Int×Int))):Prop:=
 ∃m:List dZ,iA m=c/\(∀x∈m,dC w x.2.1 x.2.2.2)/\(∀k,fM m k->base<=k)/\(0<Mx m->∃b o,ad=Z ⟨b,o,MH⟩/\base<=b/\b<MB (G w)/\∀i x,m[i]?=Z x->V w (av b (o+i*2))=Z (ak x.1)/\V w (av b (o+i*2+1))=Z (My x.2.1 (Mx x.2.2.2) x.2.2.1))
theorem i6.ln {w:az}{base:Nat}{ad:Option bI}{b:List _}(h:i6 w base ad b):Ln w ad b:=by obtain⟨m,c,d,_,e⟩:=h;exact⟨m,c,d,fun hp=>by grind⟩
theorem jp.fr {F:Nat->Prop}{w w':az}{base:Nat}{ad:Option bI}{l:List (Int×Int)}(h:jp w base ad l)(f:Fr F w w')(c:∀b,F b->b<base):jp w' base ad l:=
 ⟨h.1.keep f.size (fun hp b e=>by
  obtain⟨d,g,i,hb⟩:=h.2 hp;obtain⟨b1,o1,j,l1,_⟩:=h.1 hp
  grind [Fr.block]),h.2⟩
theorem i6.fr {F:Nat->Prop}{w w':az}{base:Nat}{ad:Option bI}{g:List (Int×List (Int×Int))}(h:i6 w base ad g)(f:Fr F w w')(p:∀b,F b->b<base):i6 w' base ad g:=by
 obtain⟨m,l,i,j,n⟩:=h;refine⟨m,l,fun x d=>(i x d).keep f.size (fun hp b e=>?_),j,fun hp=>?_⟩
 ·obtain⟨b1,o1,k,l1,_⟩:=i x d hp;rw[k] at e;cases e;have q:=j b1 ⟨x,d,hp,o1,k⟩
  grind [Fr.block]
 ·obtain⟨b,o,e,g1,g2,c⟩:=n hp;have hb:w'.heap[b]?=w.heap[b]?:=(by grind [Fr.block])
  grind [aQ]
theorem jp.base {w:az}{b c:Nat}{ad:Option bI}{l:List (Int×Int)}(h:jp w b ad l)(hb:c<=b):jp w c ad l:=
 ⟨h.1,fun hp=>by
  obtain⟨k,o,e,hk⟩:=h.2 hp
  grind⟩
theorem i6.base {w:az}{b c:Nat}{ad:Option bI}{d:List (Int×List (Int×Int))}(h:i6 w b ad d)(hb:c<=b):i6 w c ad d:=by
 obtain⟨m,e,f,g,i⟩:=h;refine⟨m,e,f,fun k hk=>(by grind),fun hp=>?_⟩
 grind
abbrev wY:=cJ×Option bI×Nat
def tv (m:List wY):List Value:=m.flatMap fun x=>[ak x.1.1,My x.2.1 (Mx x.1.2.1) x.2.2,bJ x.1.2.2.1,bJ x.1.2.2.2]
def dj (k:Int):Int:=
 if k=1\/k=2\/k=8 then 1 else if k=3\/k=5\/k=10\/k=11\/k=13 then 3 else if k=4\/k=6\/k=7\/k=14 then 7
 else if k=9\/k=12 then 6 else if k=15\/k=16 then 0 else-1
def il (k n:Int):Int:=if k=1 then vc 1 n else if k=5 then hc 2 n else 0
def ed (r:Int):Bool:=decide (0<=r)&&decide (r<12)
def d5 (k R A B n:Int):Int:=
 if dj k=-1 then 2 else if(decide (dj k=1\/dj k=3\/dj k=7)&&!ed R)||(decide (dj k=3\/dj k=6\/dj k=7)&&!ed A)||(decide (dj k=6\/dj k=7)&&!ed B) then 1 else il k n
theorem qy (k:Int):k=1\/k=2\/k=3\/k=4\/k=5\/k=6\/k=7\/k=8\/k=9\/k=10\/k=11\/k=12\/k=13\/k=14\/k=15\/k=16\/(k<1\/16<k):=aa
theorem qz {k:Int}(h:k<1\/16<k):dj k=-1:=by unfold dj;rw[aI aa,aI aa,aI aa,aI aa,aI aa]
theorem Dk (k:Int)(w:az):J MO 54 #[ak k] w fun e w'=>e=MD (ak (dj k))/\w'=w:=by
 rcases qy k with rfl|rfl|rfl|rfl|rfl|rfl|rfl|rfl|rfl|rfl|rfl|rfl|rfl|rfl|rfl|rfl|h
 case' inr.inr.inr.inr.inr.inr.inr.inr.inr.inr.inr.inr.inr.inr.inr.inr=>
  rw[qz h];have b:¬k=1:=aa;have c:¬k=2:=aa;have d:¬k=3:=aa;have f:¬k=4:=aa;have g:¬k=5:=aa;have i:¬k=6:=aa;have j:¬k=7:=aa;have l:¬k=8:=aa;have m:¬k=9:=aa;have n:¬k=10:=aa;have o:¬k=11:=aa;have p:¬k=12:=aa;have q:¬k=13:=aa;have s:¬k=14:=aa;have t:¬k=15:=aa;have u:¬k=16:=aa;clear h
 all_goals
  go_enter func54,ntmps54;go_wp2_with fail;go_ret;exact⟨rfl,rfl⟩
theorem bq {p:Prop} [inst:Decidable p]:p -> Mt p = ML:=decide_eq_true
theorem bB {p:Prop} [Decidable p]:¬p -> Mt p = K:=decide_eq_false
theorem j8 (r:Int)(w:az):J MO 119 #[ak r] w fun e w'=>e=MD (bJ (ed r))/\w'=w:=by
 by_cases h0:0<=r
 ·by_cases b:r<12
  ·have e:ed r=ML:=by unfold ed;rw[bq h0,bq b];rfl
   rw[e];go_enter func119,ntmps119;go_wp2;go_ret;exact⟨rfl,rfl⟩
  ·have e:ed r=K:=by unfold ed;rw[bB b,Bool.and_false]
   rw[e];go_enter func119,ntmps119;go_wp2;go_ret;exact⟨rfl,rfl⟩
 ·have e:ed r=K:=by unfold ed;rw[bB h0,Bool.false_and]
  go_wp2;go_ret;exact⟨rfl,rfl⟩
abbrev eg:=List cJ->List cf->List Bool->List Bool
def h8 (T:List cJ)(v:Int×Int):Bool:=v.1==3&&(X T (MJ v.2) t0).1==5
def jq (T:List cJ)(v:Int×Int):Bool:=v.1==3&&!((X T (MJ v.2) t0).1==5)
theorem pn {T:List cJ}{v:Int×Int}:h8 T v=ML↔v.1=3/\(X T (MJ v.2) t0).1=5:=by unfold h8;simp
theorem jh {T:List cJ}{v:Int×Int}:jq T v=ML↔v.1=3/\(X T (MJ v.2) t0).1≠5:=by unfold jq;simp
abbrev h9 (T:List cJ)(j i:Nat)(y:Int×Int):List cJ:=T.set j ((X T j t0).1,(X T j t0).2.1.set i y,(X T j t0).2.2)
def cn.room (g:eg)(cj b_:Int)(s:cn)(m:Int):Int×cn:=
 if m<=cj-(eD s.T).1 then(0,s) else(s.gZ (g s.T s.wt) b_ (decide (b_-(eD s.T).2<(eD s.T).1)),s.cut (g s.T s.wt) b_ (decide (b_-(eD s.T).2<(eD s.T).1)))
def cn.put (s:cn)(kd:Int)(l:List (Int×Int)):cn:={s with T:=s.T++[(kd,l,K,K)]}
def cn.b_ (g:eg)(cj b_:Int)(s:cn)(kd:Int)(l:List (Int×Int)):(Int×Int)×Int×cn:=
 if(s.room g cj b_ (1+Mx l)).1=0 then((3,(Mx (s.room g cj b_ (1+Mx l)).2.T:Int)),0,(s.room g cj b_ (1+Mx l)).2.put kd l)
 else((0,0),(s.room g cj b_ (1+Mx l)).1,(s.room g cj b_ (1+Mx l)).2)
def cn.pop (s:cn)(v:Int×Int):(Int×Int)×Int×cn:=
 if h8 s.T v=ML then(if dU v.2 s.wt<Mx s.wt then((3,(X s.wt (dU v.2 s.wt) (0,0)).2),0,{s with wt:=s.wt.take (dU v.2 s.wt)++s.wt.drop (dU v.2 s.wt+1)}) else((0,0),4,s)) else((0,0),2,s)
def cn.fc (s:cn)(v:Int×Int)(I:Int):Int:=if jq s.T v=ML then(if I<0\/(Mx (X s.T (MJ v.2) t0).2.1:Int)<=I then 1 else 0) else 2
def cn.rt (g:eg)(cj b_:Int)(s:cn)(k:Int)(A B:Nat)(I n:Int):(Int×Int)×Int×cn:=
 if k=1 then((1,n),0,s) else if k=3 then(X s.rs A (0,0),0,s) else if k=4 then s.b_ g cj b_ 1 [X s.rs A (0,0),X s.rs B (0,0)] else if k=5 then s.b_ g cj b_ 2 (MQ (MJ n) (X s.rs A (0,0)))
 else if k=6 then s.b_ g cj b_ 3 [X s.rs A (0,0),X s.rs B (0,0)] else if k=7 then s.b_ g cj b_ 4 [X s.rs A (0,0),X s.rs B (0,0)] else if k=8 then s.b_ g cj b_ 5 [] else if k=10 then s.pop (X s.rs A (0,0))
 else if k=11 then((if s.fc (X s.rs A (0,0)) I=0 then X (X s.T (MJ (X s.rs A (0,0)).2) t0).2.1 (MJ I) (0,0) else(0,0)),s.fc (X s.rs A (0,0)) I,s)
 else if k=13 then(if jq s.T (X s.rs A (0,0))=ML then((1,(Mx (X s.T (MJ (X s.rs A (0,0)).2) t0).2.1:Int)),0,s) else((0,0),2,s))
 else if k=14 then((1,if X s.rs A (0,0)=X s.rs B (0,0) then 1 else 0),0,s) else((0,0),0,s)
def cn.reg (s:cn)(t b:Int×Int):Int×cn:=
 if t.1=3/\h8 s.T b=ML then(if 24<=Mx s.rg+Mx s.wt then(3,s) else(0,{s with rg:=s.rg++[(b.2,t.2)]})) else(2,s)
def cn.set (s:cn)(v:Int×Int)(I:Int)(y:Int×Int):Int×cn:=(s.fc v I,if s.fc v I=0 then {s with T:=h9 s.T (MJ v.2) (MJ I) y} else s)
def cn.fQ (g:eg)(cj b_:Int)(s:cn)(k R A B I n:Int):Int×cn:=
 if d5 k R A B n=0 then(if k=9 then s.reg (X s.rs (MJ A) (0,0)) (X s.rs (MJ B) (0,0)) else if k=12 then s.set (X s.rs (MJ A) (0,0)) I (X s.rs (MJ B) (0,0))
  else if k=15 then(s.gZ (g s.T s.wt) b_ K,s.cut (g s.T s.wt) b_ K) else if k=16 then(s.gZ (g s.T s.wt) b_ ML,s.cut (g s.T s.wt) b_ ML)
  else if(s.rt g cj b_ k (MJ A) (MJ B) I n).2.1=0 then(0,{(s.rt g cj b_ k (MJ A) (MJ B) I n).2.2 with rs:=(s.rt g cj b_ k (MJ A) (MJ B) I n).2.2.rs.set (MJ R) (s.rt g cj b_ k (MJ A) (MJ B) I n).1})
  else((s.rt g cj b_ k (MJ A) (MJ B) I n).2.1,(s.rt g cj b_ k (MJ A) (MJ B) I n).2.2))
 else(d5 k R A B n,s)
def fZ (v:Int×Int):Int:=ew v.1 v.2
def fp (T:List cJ)(v:Int×Int):Prop:=vc v.1 v.2=0/\(v.1=3->0<=v.2/\cA T (MJ v.2))
theorem fp.lt {T:List cJ}{v:Int×Int}(h:fp T v)(b:v.1=3):0<=v.2/\v.2<Mx T:=by obtain⟨h0,c⟩:=h.2 b;have:=c.1;exact⟨h0,aa⟩
def tI (n:Nat):List Int:=(lF n).map (fun i:Nat=>(i:Int))
theorem ng {n:Nat}{a:Int}:a∈tI n↔0<=a/\a<n:=by
 unfold tI;simp only [List.mem_map,List.mem_range];constructor
 ·rintro⟨i,hi,e⟩
  omega
 ·rintro⟨h0,b⟩
  exact⟨MJ a,aa,aa⟩
theorem lM (n:Nat):Mx (tI n)=n:=by simp[tI]
def gQ (T:List cJ)(a:Int):Int:=(X T (MJ a) t0).1
def f3 (T:List cJ)(wt:List cf)(a:Int):List Int:=((X T (MJ a) t0).2.1.map fZ)++(if(X T (MJ a) t0).1=5 then(wt.filter (fun e=>e.1==a)).map (fun e=>ew 3 e.2) else[])
structure nh (T:List cJ)(wt:List cf):Prop where
 fv:∀i,cA T i->∀v∈(X T i t0).2.1,fp T v
 wv:∀e∈wt,0<=e.1/\0<=e.2/\cA T (MJ e.2)
 tl:∀i,Mx (X T i t0).2.1<=12
 l1:Mx T<=10000
 l2:Mx wt<=10000
section
variable {T:List cJ}{M:cX->Int->cX}{s:cX}{v:Int×Int}
theorem lN (h:fp T v):dk (fZ v)=v.1/\dq (fZ v)=v.2:=(qn _ _ h.1).2
theorem Dl (h:fp T v)(b:v.1≠3):eH M (tI (Mx T)) s (fZ v)=(v,s):=by unfold eH;rw[(lN h).1,(lN h).2,aI b]
theorem Do (h:fp T v)(b:v.1=3)(hs:s.1.contains v.2=ML):eH M (tI (Mx T)) s (fZ v)=((3,(s.1.idxOf v.2:Int)),s):=by unfold eH;rw[(lN h).1,(lN h).2,aJ b,aJ (bP.2 (ng.2 (h.lt b))),aJ hs]
theorem Dp (h:fp T v)(b:v.1=3)(hs:s.1.contains v.2=K):eH M (tI (Mx T)) s (fZ v)=((3,(Mx s.1:Int)),M s v.2):=by unfold eH;rw[(lN h).1,(lN h).2,aJ b,aJ (bP.2 (ng.2 (h.lt b))),aI (by rw[hs];simp)]
end
def dK.ee (T:List cJ)(wt:List cf)(l:List (Int×Int)):List (Int×Int)×cX:=dF (met (tI (Mx T)) (gQ T) (f3 T wt) (Mx T)) (tI (Mx T)) ([],[]) (l.map fZ)
theorem Dq {T:List cJ}{wt:List cf}(d:em T wt):∃g,dz T wt g:=by
 classical
 refine⟨fun is=>(lF (Mx is)).map (fun i=>decide (∀X:Nat->Prop,h7 T wt X->(∀k,cx is k->X k)->X i)),fun is hl e=>?_⟩
 have key:∀i,cx ((lF (Mx is)).map (fun i=>decide (∀X:Nat->Prop,h7 T wt X->(∀k,cx is k->X k)->X i))) i↔i<Mx is/\∀X:Nat->Prop,h7 T wt X->(∀k,cx is k->X k)->X i:=by grind [cx]
 refine⟨ac,fun i hi=>(by grind [cx.lt]),fun i hi j v hv f=>?_,fun X b hs i hi=>(by grind)⟩
 have c:∀X:Nat->Prop,h7 T wt X->(∀k,cx is k->X k)->_:=fun X b hs=>b i hi (by grind) v (by grind [jn.mono]) f;exact(key _).2 ⟨(hl▸(c (cA T) d.cls e).1),c⟩
theorem wZ:∃g:eg,∀T wt,em T wt->dz T wt (g T wt):=by
 classical
 refine⟨fun T wt=>if h:∃g,dz T wt g then h.choose else id,fun T wt b=>?_⟩
 grind [Dq]
section
variable {σ:Type}{is:σ->Int->Bool}{kp:σ->Int->σ}{I:σ->List cf->Prop}{R:List cf}
theorem s9 (hk:∀s C e,I s C->e∈R->is s e.1=ML->I (kp s e.2) (C++[e])):∀(l:List cf)(s:σ)(C D:List cf),(∀e∈l,e∈R)->I s C->I (cq.pass is kp l s C D).1 (cq.pass is kp l s C D).2.1
 |[],_,_,_,_,h=>h
 |e::r,s,C,D,b,h=>by
  unfold cq.pass;have hr:_:=fun x d=>b x (aW _ d)
  split
  ·rename_i c;exact s9 hk r _ _ _ hr (by grind)
  ·exact s9 hk r _ _ _ hr h
theorem w6 (hk:∀s C e,I s C->e∈R->is s e.1=ML->I (kp s e.2) (C++[e])):∀(n:Nat)(D:List cf)(s:σ)(C:List cf),(∀e∈D,e∈R)->I s C->I (cq.turns is kp n D s C).1 (cq.turns is kp n D s C).2.1
 |0,_,_,_,_,h=>h
 |n+1,D,s,C,b,h=>by
  have c:=s9 hk D s C [] b h;unfold cq.turns;split
  ·omega
  ·exact w6 hk n _ _ _ (by grind [wW]) c
end
structure s_ (s:cn)(g:List Bool->List Bool)(mj:Bool)(L:List Bool)(C:List cf):Prop where
 ok:gP s.T L
 up:∀k,cx (s.c0 g mj) k->cx L k
 cl:h7 s.T s.wt (cx L)
 cC:∀e∈C,e∈s.rg/\cx L (MJ e.1)/\cx L (MJ e.2)
 lt:∀X,h7 s.T s.wt X->(∀k,cx (s.c0 g mj) k->X k)->(∀e∈s.rg,cW (s.c0 g mj) e.2=K->X (MJ e.2))->∀k,cx L k->X k
theorem w7 {s:cn}(h:fD s){g:List Bool->List Bool}(hg:dz s.T s.wt g)(mj:Bool):oh s.T s.wt (j7 s.T s.rs mj) (s.c0 g mj)/\gP s.T (s.c0 g mj):=by have b:=h.first mj;exact⟨hg _ b.len b.al,(hg.ok h.iv b).1⟩
theorem w8 {s:cn}(h:fD s){g:List Bool->List Bool}(hg:dz s.T s.wt g)(mj:Bool):s_ s g mj (s.cR g mj).1 (s.cR g mj).2.1:=by
 obtain⟨m,n⟩:=w7 h hg mj;refine w6 (fun L C e f he o=>?_) _ _ _ _ (fun e he=>he) ⟨n,fun k hk=>hk,m.cl,fun e he=>by grind,fun X _ l _ k hk=>(by grind)⟩
 obtain⟨he,hn⟩:=bM.1 he;have hn:cW (s.c0 g mj) e.2=K:=by grind
 have ha:=(h.gv e he).2;obtain⟨j,p,t⟩:=f.ok.put ha.2;have c:=hg _ j.len j.al;have d:∀k,cx L k->_:=fun k hk=>c.up k (by grind)
 refine⟨(hg.ok h.iv j).1,fun k hk=>d k (f.up k hk),c.cl,fun x b=>?_,fun X l h0 u k hk=>?_⟩
 ·rcases bD.1 b with b|b
  ·obtain⟨q1,q,q3⟩:=f.cC x b;exact⟨q1,d _ q,d _ q3⟩
  ·rw[bS.1 b];exact⟨he,d _ o,c.up _ p⟩
 ·refine c.lt X l (fun i hi=>?_) k hk
  grind [s_.lt,cx]
theorem Dr (s:cn)(g:List Bool->List Bool)(mj:Bool):Mx (s.cR g mj).2.1<=Mx (s.rg.filter (fun e=>!cW (s.c0 g mj) e.2)):=by
 have:=wi (is:=cW) (kp:=fK g) (Mx s.rg+1) (s.rg.filter (fun e=>!cW (s.c0 g mj) e.2)) (s.c0 g mj) [];unfold cn.cR
 grind
theorem w9 {s:cn}(h:fD s){g:List Bool->List Bool}(hg:dz s.T s.wt g)(mj:Bool){v:Int×Int}(hv:v∈s.rs)(b:v.1=3):cx (s.c0 g mj) (MJ v.2):=
 (w7 h hg mj).1.up _ ((kD _ _ _ _).2 ⟨(h.rv v hv b).2.1,aK ⟨v,hv,b,rfl⟩⟩)
theorem qA (L:List Bool)(T:List cJ)(i:Nat):X (gh L T (Mx T)) i t0=if i<Mx T then fC L i (X T i t0) else t0:=by
 by_cases h:i<Mx T
 ·rw[qw L T (Mx T) i aa h,aJ h,aJ h]
 grind [jF]
theorem w_ {L:List Bool}{i:Nat}{t:cJ}(b:X L i K=K):fC L i t=(t.1,[],t.2.2.1,ML):=by grind [fC]
theorem qB (L:List Bool)(i:Nat)(t:cJ):(fC L i t).1=t.1:=by grind [fC]
theorem Ds {L:List Bool}{i:Nat}{t:cJ}(b:X L i K=ML):(fC L i t).2.2=(ML,t.2.2.2):=by grind [fC]
theorem xa {T:List cJ}{L:List Bool}(h:gP T L)(i:Nat):cA (gh L T (Mx T)) i↔cx L i:=by
 unfold cA;rw[jF,qA];constructor
 ·grind [w_,cx]
 ·intro hi;have ha:=h.al i hi;refine⟨ha.1,?_⟩
  rw[aJ ha.1,Ds hi];exact ha.2
theorem qC {L:List Bool}{i:Nat}{t:cJ}(b:X L i K=ML):
 (t.1=4/\d9 L (X t.2.1 0 (0,0))=K/\(fC L i t).2.1=[(2,0),(2,0)])\/(t.1=3/\d9 L (X t.2.1 0 (0,0))=K/\(fC L i t).2.1=[(2,0),X t.2.1 1 (0,0)])\/((t.1=3\/t.1=4->d9 L (X t.2.1 0 (0,0))=ML)/\(fC L i t).2.1=t.2.1):=by grind [fC]
def mr (T:List cJ)(e:cf):Prop:=(0<=e.1/\cA T (MJ e.1))/\(X T (MJ e.1) t0).1=5/\0<=e.2/\cA T (MJ e.2)
structure dp (s:cn)(j:Nat):Prop where
 kd:∀i,cA s.T i->1<=(X s.T i t0).1/\(X s.T i t0).1<=5
 fl:∀i,cA s.T i->(X s.T i t0).1=3\/(X s.T i t0).1=4->Mx (X s.T i t0).2.1=2
 g5:∀i,cA s.T i->(X s.T i t0).1=5->(X s.T i t0).2.1=[]
 fv:∀i,cA s.T i->∀v∈(X s.T i t0).2.1,fp s.T v
 tl:∀i,Mx (X s.T i t0).2.1<=12
 rv:∀v∈s.rs,fp s.T v
 rl:Mx s.rs=12
 gv:∀e∈s.rg,mr s.T e
 wv:∀e∈s.wt,mr s.T e
 en:Mx s.rg+Mx s.wt<=24
 tj:Mx s.T<=j
theorem dp.more {s:cn}{j k:Nat}(h:dp s j)(hk:j<=k):dp s k:={h with tj:=aU h.tj hk}
theorem dp.iv {s:cn}{j:Nat}(h:dp s j):em s.T s.wt:=⟨h.fl,fun i hi v hv=>(h.fv i hi v hv).2,fun e he=>(h.wv e he).2.2,h.tl⟩
theorem dp.oi {s:cn}{j:Nat}(h:dp s j)(b:j<=10000):fD s:=
 ⟨h.iv,fun v hv=>(h.rv v hv).2,fun e he=>⟨(h.gv e he).1,(h.gv e he).2.2⟩,fun e he=>(h.wv e he).1,aU h.tj b,by have:=h.en;omega,by have:=h.en;omega⟩
theorem dp.ta {s:cn}{j:Nat}(h:dp s j)(b:j<=10000):nh s.T s.wt:=
 ⟨h.fv,fun e he=>⟨(h.wv e he).1.1,(h.wv e he).2.2⟩,h.tl,aU h.tj b,by have:=h.en;omega⟩
theorem fp.mono {T c:List cJ}{v:Int×Int}(h:fp T v)(hm:v.1=3->cA T (MJ v.2)->cA c (MJ v.2)):fp c v:=⟨h.1,fun b=>⟨(h.2 b).1,hm b (h.2 b).2⟩⟩
theorem k7 (T:List cJ):fp T (0,0):=⟨ae,fun h=>by cases h⟩
theorem xc (T:List cJ):fp T (2,0):=⟨ae,fun h=>by cases h⟩
theorem dp.rt {s:cn}{j:Nat}(h:dp s j)(i:Nat):fp s.T (X s.rs i (0,0)):=by grind [rv,k7]
theorem bz (a b:Bool):((a && b) = ML) = (a = ML /\ b = ML):=Bool.and_eq_true ..
theorem bu {α:Type _}(p:α -> Bool)(l:List α):Mx (List.filter p l) <= Mx l:=List.length_filter_le ..
theorem dp.cut {s:cn}{j:Nat}(h:dp s j)(p:j<=10000){g:List Bool->List Bool}(hg:dz s.T s.wt g)(b_:Int)(mj:Bool):dp (s.cut g b_ mj) j:=by
 unfold cn.cut;split
 ·exact h
 have hw:=h.oi p;have d:=w8 hw hg mj;have hl:=Dr s g mj;generalize N:(s.cR g mj).1=L at*;generalize S:(s.cR g mj).2.1=C at*;have m:=xa d.ok;have gt:∀i,cx L i->X (gh L s.T (Mx s.T)) i t0=fC L i (X s.T i t0):=fun i hi=>by rw[qA,aJ (d.ok.al i hi).1]
 have tr:∀v,fp s.T v->(v.1=3->cx L (MJ v.2))->_:=fun v hv hi=>hv.mono (fun b _=>(m _).2 (hi b))
 have ev:∀e,mr s.T e->cx L (MJ e.1)->cx L (MJ e.2)->mr (gh L s.T (Mx s.T)) e:=fun e he f k=>⟨⟨he.1.1,(m _).2 f⟩,by rw[gt _ f,qB];exact he.2.1,he.2.2.1,(m _).2 k⟩
 refine {kd:=fun i hi=>?_,fl:=fun i hi hk=>?_,g5:=fun i hi hk=>?_,fv:=fun i hi v hv=>?_,tl:=fun i=>?_,rv:=fun v hv=>?_,rl:=h.rl,gv:=fun e he=>?_,wv:=fun e he=>?_,en:=?_,tj:=?_}
 ·have hi:=(m i).1 hi;rw[gt i hi,qB];exact h.kd i (d.ok.al i hi)
 ·have hi:=(m i).1 hi;rw[gt i hi,qB] at hk;rw[gt i hi];have k:=h.fl i (d.ok.al i hi) hk;rcases qC (L:=L) hi with⟨_,_,e⟩|⟨_,_,e⟩|⟨_,e⟩<;>rw[e]
  all_goals grind
 ·have hi:=(m i).1 hi;rw[gt i hi,qB] at hk;rw[gt i hi];rcases qC (t:=X s.T i t0) hi with⟨u,_,_⟩|⟨u,_,_⟩|⟨_,e⟩
  ·omega
  ·omega
  ·rw[e];exact h.g5 i (d.ok.al i hi) hk
 ·have hi:=(m i).1 hi;have ha:=d.ok.al i hi;rw[gt i hi] at hv;have cl:∀v,jn s.T s.wt (cx L) i v->v.1=3->_:=fun v hk b=>d.cl i ha.1 hi v hk b;rcases qC (L:=L) hi with⟨_,_,e⟩|⟨w,_,e⟩|⟨B,e⟩
  ·rw[e] at hv
   grind [xc]
  ·rw[e] at hv;have:v=(2,0)\/v=X (X s.T i t0).2.1 1 (0,0):=by grind
   rcases this with rfl|rfl
   ·exact xc _
   ·exact tr _ (by grind [fv,fl]) (fun b=>cl _ (aK (aM ⟨w,rfl⟩)) b)
  ·rw[e] at hv;refine tr v (h.fv i ha v hv) (fun b=>?_)
   have hk:=h.kd i ha;by_cases F:(X s.T i t0).1=1\/(X s.T i t0).1=2
   ·exact cl v (aM ⟨F,hv⟩) b
   ·by_cases c5:(X s.T i t0).1=5
    ·grind [g5]
    ·have o:(X s.T i t0).1=3\/(X s.T i t0).1=4:=aa;have h0:=m9 (B o)
     have k:=h.fl i ha o;obtain⟨q,hq,eq⟩:=bX.1 hv;have n:X (X s.T i t0).2.1 q (0,0)=v:=by grind
     match q,hq,n with
     |0,_,n=>
      grind
     |1,_,n=>
      rcases o with c|c
      ·exact cl v (aK (aM ⟨c,n.symm⟩)) b
      ·exact cl v (aK (aK (aM ⟨c,h0,n.symm⟩))) b
     |q+2,hq,_=>omega
 ·rw[qA];split
  ·cases c:X L i K
   ·rw[w_ c];simp
   ·rcases qC (L:=L) c with⟨_,_,e⟩|⟨_,_,e⟩|⟨_,e⟩<;>rw[e]
    ·simp
    ·simp
    ·exact h.tl i
  ·simp[t0]
 ·exact tr v (h.rv v hv) (fun b=>d.up _ (w9 hw hg mj hv b))
 ·obtain⟨f,k⟩:=bM.1 he;rw[bz] at k;exact ev e (h.gv e f) k.2 (d.up _ k.1)
 ·obtain⟨f,k⟩:=bM.1 he;rcases bD.1 f with f|f
  ·have hv:=h.wv e f;exact ev e hv k (d.cl (MJ e.1) hv.1.2.1 k (3,e.2) (aK (aK (aK ⟨hv.2.1,e,f,by have:=hv.1.1;omega,rfl⟩))) rfl)
  grind [s_.cC,gv]
 ·dsimp only;have l1:Mx (s.rg.filter (fun e=>cW (s.c0 g mj) e.2&&cW L e.1))+Mx (s.rg.filter (fun e=>!cW (s.c0 g mj) e.2))<=Mx s.rg:=by
   have key:∀l:List cf,Mx (l.filter (fun e=>cW (s.c0 g mj) e.2&&cW L e.1))+Mx (l.filter (fun e=>!cW (s.c0 g mj) e.2))<=Mx l:=fun l=>by
    induction l with
    |nil=>simp
    |cons x l W=>
     grind
   exact key s.rg
  have l2:=bu (fun e:cf=>cW L e.1) (s.wt++C)
  rw[a8] at l2;have:=h.en;omega
 simp_all [jF,tj]
abbrev d_ (k R A B I n:Int):Value:=bF #[ak k,ak R,ak A,ak B,ak I,ak n]
abbrev cH (k R A B I n:Int):Obj:=E #[ak k,ak R,ak A,ak B,ak I,ak n] 44 (0,0)
theorem es {w:az}{b:Nat}{k R A B I n:Int}(h:w.heap[b]?=Z (cH k R A B I n)):V w (av b 0)=Z (ak k)/\V w (av b 1)=Z (ak R)/\V w (av b 2)=Z (ak A)/\V w (av b 3)=Z (ak B)/\V w (av b 4)=Z (ak I)/\V w (av b 5)=Z (ak n):=by refine⟨?_,?_,?_,?_,?_,?_⟩<;>simp[World.cell?,h]
theorem tc {k R A B n:Int}(h:d5 k R A B n=0):¬((decide (dj k=1\/dj k=3\/dj k=7)&&!ed R)||(decide (dj k=3\/dj k=6\/dj k=7)&&!ed A)||(decide (dj k=6\/dj k=7)&&!ed B))=ML:=fun c=>by unfold d5 at h;split at h<;>omega
theorem te {r:Int}(h:ed r=ML):0<=r/\r<12:=by unfold ed at h;simpa using h
theorem xd {k R A B n:Int}(h:d5 k R A B n=0)(b:dj k=1\/dj k=3\/dj k=7):0<=R/\R<12:=by
 refine te ?_;cases c:ed R
 ·exact absurd (by rw[c,bq b];rfl) (tc h)
 ·rfl
theorem lO {k R A B n:Int}(h:d5 k R A B n=0)(b:dj k=3\/dj k=6\/dj k=7):0<=A/\A<12:=by
 refine te ?_;cases c:ed A
 ·exact absurd (by rw[c,bq b];simp) (tc h)
 ·rfl
theorem mv {k R A B n:Int}(h:d5 k R A B n=0)(b:dj k=6\/dj k=7):0<=B/\B<12:=by
 refine te ?_;cases c:ed B
 ·exact absurd (by rw[c,bq b];simp) (tc h)
 ·rfl
theorem po (T:List cJ)(t:cJ)(i:Nat):X (T++[t]) i t0=if i=Mx T then t else X T i t0:=by grind
theorem oj (T:List cJ)(k:Int)(fl:List _)(i:Nat):cA (T++[(k,fl,K,K)]) i↔cA T i\/i=Mx T:=by grind [cA]
theorem Dt (g:List Bool->List Bool)(s:cn)(b_:Int)(mj:Bool):(s.cut g b_ mj).rs=s.rs:=by grind [cn.cut]
theorem xe (g:eg)(cj b_:Int)(s:cn)(m:Int):(s.room g cj b_ m).2.rs=s.rs:=by grind [Dt,cn.room]
theorem tf {k R A B n:Int}(h:d5 k R A B n=0):il k n=0:=by grind [d5]
theorem xf {R A B n:Int}(h:d5 5 R A B n=0):0<=n/\n<=12:=by
 have b:=tf h
 grind [il,hc]
theorem xg {R A B n:Int}(h:d5 1 R A B n=0):vc 1 n=0:=by have b:=tf h;assumption
section
variable {s:cn}{j:Nat}{g:eg}{cj b_:Int}
theorem dp.room (h:dp s j)(b:j<=10000)(hg:dz s.T s.wt (g s.T s.wt))(m:Int):dp (s.room g cj b_ m).2 j:=by grind [cut,cn.room]
theorem dp.put (h:dp s j){kd:Int}{fl:List _}(c:1<=kd)(d:kd<=5)(f:kd=3\/kd=4->Mx fl=2)(g:kd=5->fl=[])(k:∀v∈fl,fp s.T v)(hl:Mx fl<=12):dp (s.put kd fl) (j+1):=by
 have b:=oj s.T kd fl;have tr:∀v,fp s.T v->_:=fun v hv=>hv.mono (fun _ ha=>(b _).2 (aM ha))
 have gt:∀i,cA s.T i->X (s.T++[(kd,fl,K,K)]) i t0=X s.T i t0:=fun i hi=>by rw[po,aI (by have:=hi.1;omega)]
 have l:X (s.T++[(kd,fl,K,K)]) (Mx s.T) t0=(kd,fl,K,K):=by simp_all
 have ev:∀e,mr s.T e->mr (s.T++[(kd,fl,K,K)]) e:=fun e he=>⟨⟨he.1.1,(b _).2 (aM he.1.2)⟩,(gt _ he.1.2▸he.2.1),he.2.2.1,(b _).2 (aM he.2.2.2)⟩
 unfold cn.put;refine {kd:=fun i hi=>?_,fl:=fun i hi hk=>?_,g5:=fun i hi hk=>?_,fv:=fun i hi v hv=>?_,tl:=fun i=>?_,rv:=fun v hv=>tr v (h.rv v hv),rl:=h.rl,gv:=fun e he=>ev e (h.gv e he),wv:=fun e he=>ev e (h.wv e he),en:=h.en,tj:=?_}
 ·rcases(b i).1 hi with hi|rfl
  ·rw[gt i hi];exact h.kd i hi
  grind
 ·rcases(b i).1 hi with hi|rfl
  all_goals grind [fl]
 ·rcases(b i).1 hi with hi|rfl
  all_goals grind [g5]
 ·rcases(b i).1 hi with hi|rfl
  ·rw[gt i hi] at hv;exact tr v (h.fv i hi v hv)
  ·simp_all
 ·grind [tl]
 simp_all [tj]
theorem dp.pr (h:dp s j)(b:j<=10000)(hg:dz s.T s.wt (g s.T s.wt)){kd:Int}{fl:List _}(c:1<=kd)(d:kd<=5)(e:kd=3\/kd=4->Mx fl=2)(f:kd=5->fl=[])(i:∀v∈fl,v∈s.rs\/v=(0,0))(hl:Mx fl<=12):
 dp (s.b_ g cj b_ kd fl).2.2 (j+1)/\fp (s.b_ g cj b_ kd fl).2.2.T (s.b_ g cj b_ kd fl).1:=by
 have hr:=h.room b hg (cj:=cj) (b_:=b_) (1+Mx fl)
 have hs:=xe g cj b_ s (1+Mx fl)
 unfold cn.b_;generalize s.room g cj b_ _=p at*;split
 ·dsimp only;refine⟨hr.put c d e f (fun v hv=>?_) hl,?_⟩
  ·grind [rv,k7]
  ·have k:=hr.tj;refine⟨n6 _ aa aa,fun _=>⟨aa,?_⟩⟩
   grind [oj,cn.put]
 ·exact⟨hr.more aa,k7 _⟩
theorem dp.pop (h:dp s j)(b:j<=10000)(v:Int×Int):dp (s.pop v).2.2 j/\fp (s.pop v).2.2.T (s.pop v).1:=by
 unfold cn.pop;split
 ·split
  ·rename_i c;have he:=h.wv _ (getD_in (x:=(0,0)) c)
   have hb:=he.2.2.2.1;have ht:=h.tj;refine⟨{h with wv:=fun e hm=>?_,en:=?_},n6 _ he.2.2.1 (by grind),fun _=>he.2.2⟩
   ·grind [wv]
   ·have:=h.en
    grind
  grind [k7]
 grind [k7]
theorem Du {T:List cJ}{v:Int×Int}(hv:fp T v)(h:h8 T v=ML):(0<=v.2/\cA T (MJ v.2))/\(X T (MJ v.2) t0).1=5:=by obtain⟨b,c⟩:=pn.1 h;exact⟨hv.2 b,c⟩
theorem dp.reg (h:dp s j){t b:Int×Int}(ht:fp s.T t)(hd:fp s.T b):dp (s.reg t b).2 j:=by
 unfold cn.reg;split
 ·rename_i c;split
  ·omega
  ·obtain⟨q1,d⟩:=Du hd c.2;refine {h with gv:=fun e he=>?_,en:=?_}
   ·rcases bD.1 he with he|he
    ·grind [gv]
    ·rw[bS.1 he];exact⟨q1,d,ht.2 c.1⟩
   grind
 omega
theorem Dv (T:List cJ)(i q:Nat)(y:Int×Int)(k:Nat)(hi:i<Mx T):X (h9 T i q y) k t0=if k=i then((X T i t0).1,(X T i t0).2.1.set q y,(X T i t0).2.2) else X T k t0:=by grind
theorem Dw (T:List cJ)(i q:Nat)(y:Int×Int)(hi:i<Mx T)(k:Nat):cA (h9 T i q y) k↔cA T k:=by grind [cA]
theorem dp.set (h:dp s j){v y:Int×Int}(I:Int)(hv:fp s.T v)(hy:fp s.T y):dp (s.set v I y).2 j:=by
 unfold cn.set;split
 ·rename_i c;have g:jq s.T v=ML:=by grind [cn.fc]
  obtain⟨l,m⟩:=jh.1 g;obtain⟨_,ha⟩:=hv.2 l;generalize MJ v.2=i at*;have hi:=ha.1;have d:=Dw s.T i (MJ I) y hi;have gt:=fun k=>Dv s.T i (MJ I) y k hi;have tr:∀v,fp s.T v->_:=fun v hv=>hv.mono (fun _ ha=>(d _).2 ha)
  have k1:∀k,(X (h9 s.T i (MJ I) y) k t0).1=(X s.T k t0).1:=fun k=>by grind
  have l1:∀k,Mx (X (h9 s.T i (MJ I) y) k t0).2.1=Mx (X s.T k t0).2.1:=fun k=>by grind
  have ev:∀e,mr s.T e->mr (h9 s.T i (MJ I) y) e:=fun e he=>⟨⟨he.1.1,(d _).2 he.1.2⟩,by rw[k1];exact he.2.1,he.2.2.1,(d _).2 he.2.2.2⟩
  refine {kd:=fun k hk=>?_,fl:=fun k hk hq=>?_,g5:=fun k hk hq=>?_,fv:=fun k hk x b=>?_,tl:=fun k=>?_,rv:=fun x b=>tr x (h.rv x b),rl:=h.rl,gv:=fun e he=>ev e (h.gv e he),wv:=fun e he=>ev e (h.wv e he),en:=h.en,tj:=?_}
  ·rw[k1];exact h.kd k (by grind)
  ·grind [fl]
  ·grind [g5]
  ·rw[gt k] at b;split at b
   ·rename_i e;rcases List.mem_or_eq_of_mem_set b with f|f
    ·exact tr x (h.fv i ha x f)
    ·simp_all
   ·exact tr x (h.fv k ((d k).1 hk) x b)
  ·grind [tl]
  simp_all [tj]
 omega
theorem dp.root (h:dp s j)(R:Nat){v:Int×Int}(hv:fp s.T v):dp {s with rs:=s.rs.set R v} j:=
 {
  h with
  rv:=fun x b=>(by grind [rv])
  rl:=by grind [rl]}
theorem ti (s:cn)(i:Nat):X s.rs i (0,0)∈s.rs\/X s.rs i (0,0)=(0,0):=by grind
theorem dp.rts (h:dp s j)(b:j<=10000)(hg:dz s.T s.wt (g s.T s.wt)){k R A B n:Int}(hc:d5 k R A B n=0)(I:Int):dp (s.rt g cj b_ k (MJ A) (MJ B) I n).2.2 (j+1)/\fp (s.rt g cj b_ k (MJ A) (MJ B) I n).2.2.T (s.rt g cj b_ k (MJ A) (MJ B) I n).1:=by
 have hs:=h.more (mq j)
 have two:∀v∈[X s.rs (MJ A) (0,0),X s.rs (MJ B) (0,0)],v∈s.rs\/v=(0,0):=fun v hv=>by
  have:v=X s.rs (MJ A) (0,0)\/v=X s.rs (MJ B) (0,0):=by simpa using hv
  rcases this with rfl|rfl
  ·exact ti s _
  ·exact ti s _
 have t:∀x:Int,-1152921504606846976<=x->x<1152921504606846976->fp s.T (1,x):=fun x w F=>⟨by simp[vc,rc];omega,fun h=>by cases h⟩
 unfold cn.rt;by_cases k1:k=1
 ·rw[aJ k1];subst k1;exact⟨hs,xg hc,fun h=>by cases h⟩
 rw[aI k1];by_cases d:k=3
 ·rw[aJ d];exact⟨hs,h.rt _⟩
 rw[aI d];by_cases f:k=4
 ·rw[aJ f];exact h.pr b hg ae ae ac ac two ac
 rw[aI f];by_cases k5:k=5
 ·rw[aJ k5];subst k5;have hn:=xf hc;exact h.pr b hg ae ae ac ac (fun v hv=>((List.mem_replicate.1 hv).2▸ti s _)) (by simp_all)
 rw[aI k5];by_cases k6:k=6
 ·rw[aJ k6];exact h.pr b hg ae ae ac ac two ac
 rw[aI k6];by_cases i:k=7
 ·rw[aJ i];exact h.pr b hg ae ae ac ac two ac
 rw[aI i];by_cases l:k=8
 ·rw[aJ l];exact h.pr b hg ae ae ac ac ac ac
 rw[aI l];by_cases m:k=10
 ·rw[aJ m];have:=h.pop b (X s.rs (MJ A) (0,0))
  exact⟨this.1.more (mq _),this.2⟩
 rw[aI m];by_cases o:k=11
 ·rw[aJ o];refine⟨hs,?_⟩
  split
  ·rename_i c;by_cases e:jq s.T (X s.rs (MJ A) (0,0))=ML
   ·obtain⟨u,_⟩:=jh.1 e;by_cases ci:MJ I<Mx (X s.T (MJ (X s.rs (MJ A) (0,0)).2) t0).2.1
    ·exact h.fv _ ((h.rt (MJ A)).2 u).2 _ (getD_in ci)
    ·rw[aL,List.getElem?_eq_none aa];exact k7 _
   ·unfold cn.fc at c;rw[aI e] at c;omega
  ·exact k7 _
 rw[aI o];by_cases p:k=13
 ·rw[aJ p];split
  ·refine⟨hs,t _ aa ?_⟩
   have:=h.tl (MJ (X s.rs (MJ A) (0,0)).2);omega
  ·exact⟨hs,k7 _⟩
 rw[aI p];by_cases q:k=14
 ·rw[aJ q];refine⟨hs,?_⟩
  split
  ·simp_all
  ·simp_all
 rw[aI q];exact⟨hs,k7 _⟩
theorem dp.fQ (h:dp s j)(b:j<=10000)(hg:dz s.T s.wt (g s.T s.wt))(k R A B I n:Int):dp (s.fQ g cj b_ k R A B I n).2 (j+1):=by
 have hs:=mq j;unfold cn.fQ;by_cases hc:d5 k R A B n=0
 ·rw[aJ hc];split
  ·grind [more,reg,rt]
  ·split
   ·grind [more,set,rt]
   ·split
    ·exact(h.cut b hg _ _).more hs
    ·split
     ·exact(h.cut b hg _ _).more hs
     grind [rts,root]
 grind [more]
end
theorem dp.start:dp ⟨[],MQ 12 (0,0),[],[]⟩ 0:=
 ⟨fun i hi=>absurd hi.1 ac,fun i hi=>absurd hi.1 ac,fun i hi=>absurd hi.1 ac,fun i hi=>absurd hi.1 ac,fun i=>by simp[t0],fun v hv=>by grind [k7],ac,fun e he=>by grind,fun e he=>by grind,ac,ac⟩
open Go.RowKit W
def hB (b u a:Int):Bool:=decide (b<=a/\a<b+u)
theorem jP {b u a:Int}(h:hB b u a=ML):b<=a/\a<b+u:=by simpa[hB] using h
def dv (N y g:Nat)(a:Int):Bool:=hB 0 y a||hB N g a
def ld (N y g:Nat)(ws:List Int)(a:Int):Int:=if dv N y g a=ML then X ws (MJ a) 0 else 0
theorem jQ {N O y g:Nat}{a:Int}(h:dv N y g a=ML)(hy:y<=N)(hg:g<=O):0<=a/\a<(N:Int)+O:=by
 rcases Bool.or_eq_true _ _▸h with h|h
 ·have:=jP h;omega
 ·have:=jP h;omega
theorem mx (b s u:Int)(w:az)(hb:0<=b)(c:b<=100000)(d:0<=u)(f:u<=100000):
 J MO 170 #[bF #[ak b,ak s,ak u]] w fun e w'=>e=MD (ak (b+u))/\C (MB (G w)) w w':=by
 exact kA
theorem pt (b s u:Int)(w:az)(hb:0<=s)(c:s<=100000)(d:0<=u)(f:u<=100000):
 J MO 169 #[bF #[ak b,ak s,ak u]] w fun e w'=>e=MD (ak (s-u))/\C (MB (G w)) w w':=by
 exact kA
theorem xh (b s u a:Int)(w:az)(hb:0<=b)(c:b<=100000)(d:0<=u)(f:u<=100000):
 J MO 174 #[bF #[ak b,ak s,ak u],ak a] w fun e w'=>e=MD (bJ (hB b u a))/\C (MB (G w)) w w':=by
 by_cases h:b<=a
 ·have e:hB b u a=decide (a<b+u):=by simp[hB,h]
  rw[e];go_enter func174,ntmps174;go_wp2_with fail;refine(mx b s u _ hb c d f).mono ?_;rintro e w1 ⟨rfl,g⟩
  go_wp2;go_ret;exact⟨rfl,(b9.alloc b8 _).trans (g.mono ac)⟩
 ·have e:hB b u a=K:=by simp[hB,h]
  rw[e];exact kA
theorem ni {p q N O y g:Nat}{ws:List Int}(a:Int)(w:az)(h:At w p q N O y g ws):
 J MO 95 #[aq p,ak a] w fun e w'=>e=MD (bJ (hB 0 y a))/\C (MB (G w)) w w':=by
 obtain⟨c0,c1,c2,c3,c4,c5,b⟩:=h.cells;have k1:=h.hN';have c:=h.hy;go_enter func95,ntmps95;go_wp2_with fail;refine(xh 0 N y a _ aa aa aa aa).mono ?_;exact qv
theorem nk {p q N O y g:Nat}{ws:List Int}(a:Int)(w:az)(h:At w p q N O y g ws):
 J MO 96 #[aq p,ak a] w fun e w'=>e=MD (bJ (hB N g a))/\C (MB (G w)) w w':=by
 obtain⟨c0,c1,c2,c3,c4,c5,b⟩:=h.cells;have k1:=h.hN';have c:=h.hO;have d:=h.hg;go_enter func96,ntmps96;go_wp2_with fail;refine(xh N O g a _ aa aa aa aa).mono ?_;exact qv
theorem qD {p q N O y g:Nat}{ws:List Int}(a:Int)(w:az)(h:At w p q N O y g ws):
 J MO 172 #[aq p,ak a] w fun e w'=>e=MD (bJ (dv N y g a))/\C (MB (G w)) w w':=by
 cases hy:hB 0 y a
 ·have e:dv N y g a=hB N g a:=by simp[dv,hy]
  rw[e];have b:=hide hy;go_enter func172,ntmps172;go_wp2_with fail;refine(ni a _ h).mono ?_;rintro e w1 ⟨rfl,hb1⟩
  rw[b.o];go_wp2_with fail;refine(nk a _ (h.below hb1 b8)).mono ?_;rintro e d ⟨rfl,c⟩
  go_wp2;go_ret;exact⟨rfl,hb1.trans (c.mono hb1.size)⟩
 ·have e:dv N y g a=ML:=by simp[dv,hy]
  rw[e];go_enter func172,ntmps172;go_wp2_with fail;refine(ni a _ h).mono ?_;exact qv
theorem j9 {p q N O y g:Nat}{ws:List Int}(a:Int)(w:az)(h:At w p q N O y g ws):
 J MO 98 #[aq p,ak a] w fun e w'=>e=MD (ak (ld N y g ws a))/\C (MB (G w)) w w':=by
 cases hi:dv N y g a
 ·have e:ld N y g ws a=0:=by simp[ld,hi]
  rw[e];have c:=hide hi;go_enter func98,ntmps98;go_wp2_with fail;refine(qD a _ h).mono ?_;rintro e w1 ⟨rfl,b⟩
  rw[c.o];go_wp2;go_ret;exact⟨rfl,b⟩
 ·have e:ld N y g ws a=X ws (MJ a) 0:=by simp[ld,hi]
  rw[e];obtain⟨f,i⟩:=jQ hi h.hy h.hg;have c:=hide hi;clear hi;go_enter func98,ntmps98;go_wp2_with fail;refine(qD a _ h).mono ?_;rintro e w1 ⟨rfl,b⟩
  rw[c.o];have d:=h.below b b8
  obtain⟨c0,c1,c2,c3,c4,c5,j⟩:=d.cells;have k:=d.word (MJ a) aa;go_wp2;go_ret;exact⟨rfl,b⟩
theorem lP {p q N O y g:Nat}{ws:List Int}(a x:Int)(w:az)(h:At w p q N O y g ws):
 J MO 93 #[aq p,ak a,ak x] w fun e w'=>e=MD (bJ (dv N y g a))/\At w' p q N O y g (if dv N y g a=ML then ws.set (MJ a) x else ws)/\di p q w w':=by
 cases hi:dv N y g a
 ·rw[aI ac];have d:=hide hi;go_enter func93,ntmps93;go_wp2_with fail;refine(qD a _ h).mono ?_;rintro e w1 ⟨rfl,b⟩
  rw[d.o];go_wp2;go_ret;exact⟨rfl,h.below b b8,di.of b⟩
 ·rw[aJ rfl];obtain⟨f,i⟩:=jQ hi h.hy h.hg;go_enter func93,ntmps93;go_wp2_with fail;refine(qD a _ h).mono ?_;rintro e w1 ⟨rfl,b⟩
  have c:=h.below b b8
  obtain⟨c0,c1,c2,c3,c4,c5,j⟩:=c.cells;have k:=c.word (MJ a) aa;have l:=c.sN (MJ a);go_wp2;go_ret;exact⟨rfl,c.set (MJ a) x,(di.of b).trans (di.sM _ _)⟩
theorem gH {p q N O y g:Nat}{ws:List Int}(a:Int)(w:az)(h:At w p q N O y g ws):
 J MO 102 #[aq p,ak a] w fun e w'=>e=MD (a6 #[ak (pk (ld N y g ws a)),ak (pf (ld N y g ws a)),ak (pc (ld N y g ws a))])/\C (MB (G w)) w w':=by
 go_enter func102,ntmps102;go_wp2_with fail;refine(j9 a _ h).mono ?_;rintro e w1 ⟨rfl,b⟩
 go_wp2_with fail;refine(C9 _ _).mono ?_;rintro e c ⟨rfl,rfl⟩
 go_wp2
 go_ret3
 exact⟨rfl,b⟩
theorem k8 {p q N O y g:Nat}{ws:List Int}(w:az)(h:At w p q N O y g ws):
 J MO 22 #[aq p] w fun e w'=>e=MD (a6 #[ak y,ak g])/\C (MB (G w)) w w':=by
 obtain⟨c0,c1,c2,c3,c4,c5,b⟩:=h.cells;exact sW
theorem nl {p q N O y g:Nat}{ws:List Int}(w:az)(h:At w p q N O y g ws):
 J MO 86 #[aq p] w fun e w'=>e=MD (a6 #[ak 0,ak N])/\C (MB (G w)) w w':=by
 obtain⟨c0,c1,c2,c3,c4,c5,b⟩:=h.cells;exact sW
theorem xi {p q N O y g:Nat}{ws:List Int}(w:az)(h:At w p q N O y g ws):
 J MO 114 #[aq p] w fun e w'=>e=MD (a6 #[])/\At w' p q N O 0 g ws/\di p q w w':=by
 obtain⟨c0,c1,c2,c3,c4,c5,b⟩:=h.cells;have c:=h.frozen 3;go_wp2;go_end0;exact⟨rfl,h.wF 0 (a5 _),di.pd _ _⟩
theorem Dy {p q N O y g:Nat}{ws:List Int}(n:Int)(w:az)(h:At w p q N O y g ws)(h0:0<=n)(b:n<=O):
 J MO 163 #[aq p,ak n] w fun e w'=>e=MD (a6 #[])/\At w' p q N O y (MJ n) ws/\di p q w w':=by
 obtain⟨n,rfl⟩:=bG h0;obtain⟨c0,c1,c2,c3,c4,c5,c⟩:=h.cells;have d:=h.frozen 6;go_wp2;go_end0;exact⟨rfl,h.wG n aa,di.pd _ _⟩
theorem Dz {p q N O y g:Nat}{ws:List Int}(n:Int)(w:az)(h:At w p q N O y g ws)(h0:0<=n)(j:n<=(N:Int)-y):
 J MO 90 #[bL (Z ⟨p,1,MH⟩),ak n] w fun e w'=>e=MD (a6 #[ak y,bJ ML])/\At w' p q N O (y+MJ n) g ws/\di p q w w':=by
 obtain⟨n,rfl⟩:=bG h0;obtain⟨c0,c1,c2,c3,c4,c5,c⟩:=h.cells;have k1:=h.hN';have k:=h.hy;go_enter func90,ntmps90;go_wp2_with fail;refine(pt 0 N y _ aa aa aa aa).mono ?_;rintro e w1 ⟨rfl,d⟩
 have f:=h.below d b8
 obtain⟨c0,c1,c2,c3,c4,c5,c⟩:=f.cells;go_wp2_with fail;refine(mx 0 N y _ aa aa aa aa).mono ?_;rintro e l ⟨rfl,i⟩
 have b:=f.below i b8
 obtain⟨c0,c1,c2,c3,c4,c5,c⟩:=b.cells;have m:=b.frozen 3;go_wp2_with fail;go_ret2;exact⟨ac,b.wF (y+n) aa,((di.of d).trans (di.of i)).trans (di.pd _ _)⟩
theorem DA {p q N O y g:Nat}{ws:List Int}(n:Int)(w:az)(h:At w p q N O y g ws)(h0:(N:Int)-y<n):
 J MO 90 #[bL (Z ⟨p,1,MH⟩),ak n] w fun e w'=>e=MD (a6 #[ak 0,bJ K])/\C (MB (G w)) w w':=by
 obtain⟨c0,c1,c2,c3,c4,c5,c⟩:=h.cells;have k1:=h.hN';have d:=h.hy;go_enter func90,ntmps90;go_wp2_with fail;refine(pt 0 N y _ aa aa aa aa).mono ?_;rintro e w1 ⟨rfl,b⟩
 go_wp2;go_ret2;exact⟨rfl,b⟩
theorem DB {p q N O y g:Nat}{ws:List Int}(n:Int)(w:az)(h:At w p q N O y g ws)(h0:0<=n)(j:n<=(O:Int)-g):
 J MO 90 #[bL (Z ⟨p,4,MH⟩),ak n] w fun e w'=>e=MD (a6 #[ak (N+g:Nat),bJ ML])/\At w' p q N O y (g+MJ n) ws/\di p q w w':=by
 obtain⟨n,rfl⟩:=bG h0;obtain⟨c0,c1,c2,c3,c4,c5,c⟩:=h.cells;have k1:=h.hN';have k:=h.hg;have l:=h.hO;go_enter func90,ntmps90;go_wp2_with fail;refine(pt N O g _ aa aa aa aa).mono ?_;rintro e w1 ⟨rfl,d⟩
 have f:=h.below d b8
 obtain⟨c0,c1,c2,c3,c4,c5,c⟩:=f.cells;go_wp2_with fail;refine(mx N O g _ aa aa aa aa).mono ?_;rintro e m ⟨rfl,i⟩
 have b:=f.below i b8
 obtain⟨c0,c1,c2,c3,c4,c5,c⟩:=b.cells;have o:=b.frozen 6;go_wp2_with fail;go_ret2;exact⟨ac,b.wG (g+n) aa,((di.of d).trans (di.of i)).trans (di.pd _ _)⟩
theorem DC {p q N O y g:Nat}{ws:List Int}(n:Int)(w:az)(h:At w p q N O y g ws)(h0:(O:Int)-g<n):
 J MO 90 #[bL (Z ⟨p,4,MH⟩),ak n] w fun e w'=>e=MD (a6 #[ak 0,bJ K])/\C (MB (G w)) w w':=by
 obtain⟨c0,c1,c2,c3,c4,c5,c⟩:=h.cells;have d:=h.hg;have f:=h.hO;go_enter func90,ntmps90;go_wp2_with fail;refine(pt N O g _ aa aa aa aa).mono ?_;rintro e w1 ⟨rfl,b⟩
 go_wp2;go_ret2;exact⟨rfl,b⟩
theorem pu {p q N O y g:Nat}{ws:List Int}(w:az)(h:At w p q N O y g ws):
 J MO 105 #[aq p] w fun e w'=>e=MD (a6 #[ak ((N:Int)-y),ak ((O:Int)-g)])/\C (MB (G w)) w w':=by
 obtain⟨c0,c1,c2,c3,c4,c5,f⟩:=h.cells;have k1:=h.hN';have i:=h.hg;have j:=h.hO;have k:=h.hy;go_enter func105,ntmps105;go_wp2_with fail
 go_region_with (go_at_call 169;refine(pt _ _ _ _ aa aa aa aa).mono ?_;rintro e w1 ⟨rfl,b⟩;have d:At w1 p q N O y g ws:=(by first|exact h.drew.below b b8|exact d.below b b8);have c:C (MB (G w)) w w1:=(by first|exact(aH _ w).drew.trans b|exact c.trans (b.mono c.size));obtain⟨c0,c1,c2,c3,c4,c5,f⟩:=d.cells)
 all_goals
  go_wp2_with fail;go_ret2;exact⟨rfl,c⟩
theorem xj:(prog.info? 2).map (fun i=>(i.zero,i.size,i.bytes))=Z (Z (ak 0),1,8):=ah
theorem xk {w:az}{b k n:Nat}(h:aC w b 2 1 (My (au k) n n) n (madeCells (Value.int Q 0).cells (n*1)).toList):
 w.heap[k]?=Z (E ((MQ n (0:Int)).map (Value.int Q)).toArray 2 (0,0)):=by
 exact wP
theorem tq {w:az}{k:Nat}(o:Obj)(h:MB (G w)=k):(w.alloc o).heap[k]?=Z o:=by subst h;exact aP _ _
theorem DD {w w1:az}{a b:bj}{t:bU}(hg:(w.alloc (E #[a,b] t)).grownBy w1 MH):
 V w1 (av (MB (G w)) 0)=Z a/\V w1 (av (MB (G w)) 1)=Z b/\w1.frozen? (av (MB (G w)) 0)=K/\w1.frozen? (av (MB (G w)) 1)=K/\MB (G w)<MB (G w1):=by
 have hb:=hg.block (MB (G w)) ac ac;have hz:=hg.size;rw[(aP _ _)] at hb;refine⟨?_,?_,?_,?_,by simp at hz;omega⟩<;>simp[World.cell?,World.frozen?,hb]
theorem DE (n o:Int)(w:az)(h0:16<=n)(k:n<=256)(c:0<=o)(l:o<=1024):
 J MO 85 #[ak n,ak o] w fun e w'=>∃p q,e=MD (a6 #[aq p,bF #[ak 0,ak 0]])/\At w' p q (MJ n) (MJ o) 0 0 (MQ (MJ n+MJ o) 0)/\MB (G w)<=p/\MB (G w)<=q/\C (MB (G w)) w w':=by
 obtain⟨n,rfl⟩:=bG (show 0<=n by omega)
 obtain⟨o,rfl⟩:=bG c;simp only [bH];obtain⟨d,hi,f,g,i⟩:=info_parts xj;go_enter func85,ntmps85;go_wp2_with (at_make;refine wpList_make_full _ rfl _ _ 53 rfl (MB (G w)) 2 d (ak 0) 1 underlying53 hi f g Q Q _ _ (n+o) rfl rfl aa aa (by rw[i];omega) (by unfold maxLen;omega) ac ?_;intro w1 j b;obtain⟨c0,c1,m,s,hz⟩:=DD b)
 have hr:=xk j;simp only [World.size_alloc] at hr;have t:=lt_of_some hr;refine a7 (v:=a6 #[aq (MB (G w1)),bF #[ak 0,ak 0]]) (by simp[results,results85,go_sem,c0,c1,hz]) rfl ⟨MB (G w1),MB (G w)+1,rfl,⟨?_,?_,ac,aa,aa,aa,aa,aa⟩,aa,aa,?_⟩
 ·exact tq _ (by simp[World.setCell])
 ·refine(aS _ _ _ (by simp[World.setCell];omega)).trans ?_;rw[aX _ _ _ _ ac,aX _ _ _ _ ac];exact hr
 ·refine Below.alloc (Below.setCell (Below.setCell ?_ ?_ _) ?_ _) ?_ _
  ·exact(b9.alloc b8 _).grown b ac (fun _ h=>by cases h)
  ·exact aG _
  ·exact aG _
  ·simp[World.setCell];omega
def fR (ws:List Int)(y:Nat)(hd:Int):Nat->List Int
 |0=>ws.set y hd
 |k+1=>(fR ws y hd k).set (y+1+k) 2
theorem bw (n:Int):Go.IntKind.i64.wrap n = (n + 9223372036854775808) % 18446744073709551616 - 9223372036854775808:=IntKind.wrap_i64 ..
theorem DF {p q N O y g:Nat}{ws:List Int}(k f:Int)(w:az)(h:At w p q N O y g ws)(hk:hc k f=0)(hr:f+1<=(N:Int)-y):
 J MO 41 #[aq p,ak k,ak f] w fun e w'=>e=MD (ak y)/\At w' p q N O (y+1+MJ f) g (fR ws y (hw k f) (MJ f))/\di p q w w':=by
 obtain⟨_,_,o,s⟩:=jf k f hk;obtain⟨f,rfl⟩:=bG o;simp only [bH];have H:aA (hc k f=0):=hk;clear hk;have k1:=h.hN';have t:=h.hy;have u:=h.hO;have v:=h.hg;go_enter func41,ntmps41;go_wp2_with fail;refine(pa k f _).mono ?_;rintro e w1 ⟨rfl,rfl⟩
 rw[H.o];obtain⟨c0,c1,c2,c3,c4,c5,d⟩:=h.cells;go_wp2_with fail;refine(Dz (1+f) _ h aa aa).mono ?_;rintro e x ⟨rfl,b,s2⟩
 rw[show MJ (1+(f:Int))=1+f by omega] at b;obtain⟨c0,c1,c2,c3,c4,c5,d⟩:=b.cells;have l:=b.word y aa;have m:=b.sN y;have b1:(y:Int)<((N+O:Nat):Int):=aa;go_wp2_with fail
 go_loopw [39] (fun i wr=>∃j:Nat,j<=f/\i=ak j/\At wr p q N O (y+(1+f)) g (fR ws y (hw k f) j)/\di p q w1 wr) (fun i _=>f-MJ (intOf i))
 case atStart=>exact⟨0,a5 _,rfl,b.set y _,s2.trans (di.sM _ _)⟩
 case round=>
  obtain⟨j,B,rfl,c,n⟩:=hrel;clear c0 c1 c2 c3 c4 c5 d l m;obtain⟨c0,c1,c2,c3,c4,c5,d⟩:=c.cells;by_cases F:j<f
  ·have l:=c.word (y+1+j) aa;have m:=c.sN (y+1+j)
   have b2:(y:Int)+1+j<((N+O:Nat):Int):=aa;go_wp2_with fail;have b3:(0:Int)<=(y:Int)+1+j:=aa;have b4:MJ ((y:Int)+1+j)=y+1+j:=aa;have b5:(y:Int)+1+j<(N:Int)+O:=aa;have b6:IntKind.i64.wrap ((y:Int)+1)=(y:Int)+1:=by rw[bw];omega
   have S:IntKind.i64.wrap ((y:Int)+1+j)=(y:Int)+1+j:=by rw[bw];omega
   go_region_with (go_at_call 47;refine(sK _).mono ?_;rintro e W ⟨rfl,rfl⟩)
   all_goals
    go_wp2_with fail;go_roundw
    case rel=>exact⟨j+1,aa,aj,c.drew.set _ _,n.drew.trans (di.sM _ _)⟩
    case measure=>simp[intOf];omega
  ·go_wp2_with fail;go_ret;have e:j=f:=aa;subst e;exact⟨rfl,by rw[Nat.add_assoc];exact c,n⟩
theorem DG {p q N O y g:Nat}{ws:List Int}(k f:Int)(w:az)(h:At w p q N O y g ws)(hk:hc k f≠0\/(N:Int)-y<f+1):
 J MO 41 #[aq p,ak k,ak f] w fun e w'=>e=MD (ak (-1))/\C (MB (G w)) w w':=by
 by_cases c:hc k f=0
 ·obtain⟨_,_,b,d⟩:=jf k f c;go_enter func41,ntmps41;go_wp2_with fail;refine(pa k f _).mono ?_;rintro e w1 ⟨rfl,rfl⟩
  rw[(hide c).o];obtain⟨c0,c1,c2,c3,c4,c5,i⟩:=h.cells;go_wp2_with fail;refine(DA (1+f) _ h aa).mono ?_;rintro e j ⟨rfl,hb⟩
  go_wp2;go_ret;exact⟨rfl,hb⟩
 ·go_enter func41,ntmps41;go_wp2_with fail;refine(pa k f _).mono ?_;rintro e w1 ⟨rfl,rfl⟩
  go_wp2;go_ret;exact⟨rfl,aH _ _⟩
end Go.Proofs.YtpkjkjhanlbcoaaGreat
