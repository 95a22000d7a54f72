import Derived.Test.YtpkjkjhanlbcoaaGreatJ01
import Derived.Deep.RegionWith
open Array renaming size->M3
open Bool renaming false->K,true->Nc
open Decidable renaming decide->MV
open Go renaming Addr->bG,Calls->J,TypeId->bU,Value->bD
open Go.Ending renaming returned->E
open Go.IntKind renaming i64->Q
open Go.Obj renaming cells->M5
open Go.Proofs.Tryz renaming prog->Ng
open Go.RowKit renaming Below->C
open Go.Value renaming agg->bF,bool->bK,pointer->bJ,slice->M0,tuple->a8
open Go.World renaming cell?->V,heap->G,ownsRow->aC
open Int renaming eq_ofNat_of_zero_le->bH,toNat->Na,toNat_natCast->bI
open List renaming contains_iff_mem->bP,filter_cons_of_neg->j4,filter_cons_of_pos->j5,getD->X,length->MZ,length_cons->bZ,map_cons->yo,mem_append->bE,mem_filter->bM,mem_iff_getElem->bY,mem_singleton->bQ,range->k4,replicate->Ni
open Nat renaming le_succ->nC
open Option renaming none->M9,some->Z
namespace Go.Proofs.YtpkjkjhanlbcoaaGreat
set_option maxRecDepth 100000
set_option maxHeartbeats 1000000
open Tryz
open Go.RowKit W Kp cq
theorem xh {P:Prop}(h:P:=by
 obtain⟨h1,h2⟩:=h;rcases h2 with⟨e,_⟩|⟨k',cap,cur,hv,hb,hh,h3,h4,h5,h6⟩
 ·cases e
 ·cases hv;rw[hh];have:cur.toList=(Ni n (0:Int)).map (Value.int Q):=by rw[<-List.take_of_length_le (l:=cur.toList) (i:=n*1) (by simp;omega),h6];show(madeCells #[Value.int Q 0] (n*1)).toList=_;rw[toList_madeCells_one];simp
  rw[<-this]):P:=h
theorem s_ {P:Prop}(h:P:=by go_wp2_with fail;exact a6 (v:=a8 #[bJ M9,bF #[ak 1,ak (-1)]]) (by simp[results,results85,go_sem]) rfl ⟨rfl,b9.alloc b8 _⟩):P:=h
theorem ta {P:Prop}(h:P:=by
 go_wp2
 go_quiet (fail)
 go_wp2;go_ret2;exact⟨rfl,below_drewN b9 _⟩):P:=h
theorem qD {P:Prop}(h:P:=by
 rintro e w1 ⟨rfl,hb1⟩
 go_wp2;go_ret;exact⟨rfl,hb1⟩):P:=h
def d_ (L:List Bool)(v:Int×Int):Bool:=!(v.1==3)||X L (Na v.2) K
def t0:cJ:=(0,[],K,K)
def jv (T:List cJ)(wt:List cf)(X:Nat->Prop)(i:Nat)(v:Int×Int):Prop:=
 (((T.getD i t0).1=1\/(T.getD i t0).1=2)/\v∈(T.getD i t0).2.1)\/((T.getD i t0).1=3/\v=(T.getD i t0).2.1.getD 1 (0,0))\/
 ((T.getD i t0).1=4/\(((T.getD i t0).2.1.getD 0 (0,0)).1=3->X (Na ((T.getD i t0).2.1.getD 0 (0,0)).2))/\v=(T.getD i t0).2.1.getD 1 (0,0))\/
 ((T.getD i t0).1=5/\∃e∈wt,e.1=i/\v=(3,e.2))
theorem jv.mono {T:List cJ}{wt:List cf}{X Y:Nat->Prop}(e:∀i,X i->Y i){i:Nat}{v:Int×Int}(h:jv T wt X i v):jv T wt Y i v:=by
 rcases h with h|h|⟨b,f,d⟩|h
 ·exact aM h
 ·exact aK (aM h)
 ·exact aK (aK (aM ⟨b,fun c=>(by grind),d⟩))
 ·exact aK (aK (aK h))
def ic (T:List cJ)(wt:List cf)(X:Nat->Prop):Prop:=∀i,i<MZ T->X i->∀v,jv T wt X i v->v.1=3->X (Na v.2)
def cx (L:List Bool):Nat->Prop:=fun i=>X L i K=Nc
structure ow (T:List cJ)(wt:List cf)(is out:List Bool):Prop where
 len:MZ out=MZ is
 up:∀i,cx is i->cx out i
 cl:ic T wt (cx out)
 lt:∀X,ic T wt X->(∀i,cx is i->X i)->∀i,cx out i->X i
theorem nh {L:List Bool}{v:Int×Int}(h:d_ L v=K):v.1=3/\X L (Na v.2) K=K:=by grind [d_]
theorem ni {L:List Bool}{v:Int×Int}(h:d_ L v=Nc):v.1=3->cx L (Na v.2):=fun b=>by grind [d_,cx]
theorem nk (L:List Bool)(i j:Nat)(h:i<MZ L):X (L.set i Nc) j K=if i=j then Nc else X L j K:=by grind
theorem cx.lt {L:List Bool}{i:Nat}(h:cx L i):i<MZ L:=by grind [cx]
def cnt (L:List Bool):Nat:=MZ (L.filter (fun b=>!b))
theorem tc:∀(L:List Bool)(i:Nat),X L i Nc=K->cnt (L.set i Nc)+1=cnt L
 |[],i,h=>by grind
 |b::L,0,h=>by grind [cnt]
 |b::L,i+1,h=>by
  have h:X L i Nc=K:=by assumption
  have c:=tc L i h
  grind [cnt]
def cA (T:List cJ)(i:Nat):Prop:=i<MZ T/\(X T i t0).2.2.2=K
structure ey (T:List cJ)(wt:List cf):Prop where
 fl:∀i,cA T i->(X T i t0).1=3\/(X T i t0).1=4->MZ (X T i t0).2.1=2
 fv:∀i,cA T i->∀v∈(X T i t0).2.1,v.1=3->0<=v.2/\cA T (Na v.2)
 wv:∀e∈wt,0<=e.2/\cA T (Na e.2)
 tl:∀i,MZ (X T i t0).2.1<=12
theorem getD_in {b:Type}{l:List b}{i:Nat}{x:b}(h:i<MZ l):X l i x∈l:=by rw[aL,aN h];exact a9 h
theorem ey.px {T:List cJ}{wt:List cf}(h:ey T wt){X:Nat->Prop}{i:Nat}(hi:cA T i){v:Int×Int}(hv:jv T wt X i v)(b:v.1=3):0<=v.2/\cA T (Na v.2):=by
 rcases hv with⟨_,hm⟩|⟨hk,e⟩|⟨hk,_,e⟩|⟨_,c,he,_,e⟩
 ·exact h.fv i hi v hm b
 ·exact h.fv i hi v (by rw[e];exact getD_in (by rw[h.fl i hi (aM hk)];decide)) b
 ·exact h.fv i hi v (by rw[e];exact getD_in (by rw[h.fl i hi (aK hk)];decide)) b
 ·rw[e];exact h.wv c he
theorem ey.cls {T:List cJ}{wt:List cf}(h:ey T wt):ic T wt (cA T):=fun _ _ b _ hv c=>(h.px b hv c).2
def te (mj:Bool)(t:cJ):Bool:=t.2.2.1&&!t.2.2.2&&!mj
def nl (L:List Bool)(v:Int×Int):List Bool:=if v.1=3 then L.set (Na v.2) Nc else L
def kc (T:List cJ)(rs:List (Int×Int))(mj:Bool):List Bool:=rs.foldl nl (T.map (te mj))
theorem xi (L:List Bool)(v:Int×Int):MZ (nl L v)=MZ L:=by
 unfold nl;split
 ·rw[bh]
 ·rfl
theorem xj (T:List cJ)(rs:List _)(mj:Bool):MZ (kc T rs mj)=MZ T:=by
 have key:∀(rs:List (Int×Int))(L:List Bool),MZ (rs.foldl nl L)=MZ L:=fun rs=>by
  induction rs with
  |nil=>intro L;rfl
  |cons v rs b=>intro L;rw[a_,b,xi]
 unfold kc;rw[key,aZ]
theorem DH {L:List Bool}{v:Int×Int}{i:Nat}:cx (nl L v) i↔cx L i\/(v.1=3/\Na v.2=i/\i<MZ L):=by
 unfold nl;by_cases b:v.1=3
 ·rw[aJ b];unfold cx;by_cases hl:Na v.2<MZ L
  ·rw[nk _ _ _ hl];constructor
   ·intro h;split at h
    ·rename_i e;exact aK ⟨b,e,aa⟩
    ·exact aM h
   ·rintro(h|⟨_,e,_⟩)
    ·split
     ·rfl
     ·exact h
    ·rw[aJ e]
  ·rw[List.set_eq_of_length_le aa];exact⟨aM,fun h=>h.elim id (fun⟨_,e,c⟩=>absurd c aa)⟩
 ·rw[aI b];exact⟨aM,fun h=>h.elim id (fun⟨e,_⟩=>absurd e b)⟩
theorem aW {α:Type _}(y:α){a:α}{l:List α}:a ∈ l -> a ∈ y :: l:=by intros;apply List.mem_cons_of_mem<;>assumption
theorem xk:∀(rs:List (Int×Int))(L:List Bool)(i:Nat),cx (rs.foldl nl L) i↔cx L i\/(i<MZ L/\∃v∈rs,v.1=3/\Na v.2=i)
 |[],L,i=>by simp
 |v::rs,L,i=>by
  rw[a_,xk rs,DH,xi];constructor
  ·rintro((h|⟨c,b,d⟩)|⟨c,u,f,b⟩)
   ·exact aM h
   ·exact aK ⟨d,v,ac,c,b⟩
   ·exact aK ⟨c,u,aW _ f,b⟩
  ·rintro(h|⟨c,u,f,b,d⟩)
   ·exact aM (aM h)
   ·rcases List.mem_cons.1 f with e|e
    ·rw[e] at b d;exact aM (aK ⟨b,d,c⟩)
    ·exact aK ⟨c,u,e,b,d⟩
theorem DI (mj:Bool)(T:List cJ)(i:Nat):cx (T.map (te mj)) i↔i<MZ T/\(X T i t0).2.2.1=Nc/\(X T i t0).2.2.2=K/\mj=K:=by
 unfold cx;by_cases h:i<MZ T
 ·rw[aL,List.getElem?_map,aN h,aL,aN h];simp[te,h,and_assoc]
 ·simp[h]
theorem kK (T:List cJ)(rs:List _)(mj:Bool)(i:Nat):cx (kc T rs mj) i↔i<MZ T/\(((X T i t0).2.2.1=Nc/\(X T i t0).2.2.2=K/\mj=K)\/∃v∈rs,v.1=3/\Na v.2=i):=by
 unfold kc;rw[xk,DI,aZ];constructor
 ·rintro(⟨c,b⟩|⟨c,b⟩)
  ·exact⟨c,aM b⟩
  ·exact⟨c,aK b⟩
 ·rintro⟨c,b|b⟩
  ·exact aM ⟨c,b⟩
  ·exact aK ⟨c,b⟩
def jx (p:Int×Int)(t:cJ):Int×Int:=if t.2.2.2=Nc then p else if t.2.2.1=Nc then(p.1,p.2+(1+MZ t.2.1)) else(p.1+(1+MZ t.2.1),p.2)
def eI (l:List cJ):Int×Int:=l.foldl jx (0,0)
theorem xl (l:List cJ)(t:cJ):eI (l++[t])=jx (eI l) t:=by simp[eI,List.foldl_append]
theorem xm (l:List cJ)(h:∀t∈l,MZ t.2.1<=12):0<=(eI l).1/\(eI l).1<=13*MZ l/\0<=(eI l).2/\(eI l).2<=13*MZ l:=by
 have key:∀(l:List cJ)(p:Int×Int),(∀t∈l,MZ t.2.1<=12)->p.1<=(l.foldl jx p).1/\(l.foldl jx p).1<=p.1+13*MZ l/\p.2<=(l.foldl jx p).2/\(l.foldl jx p).2<=p.2+13*MZ l:=by
  intro l
  induction l with
  |nil=>simp
  |cons t l b=>
   intro p hl;have d:=b (jx p t) (fun x c=>hl x (aW _ c))
   have e:=hl t ac;rw[a_];have f:p.1<=(jx p t).1/\(jx p t).1<=p.1+13/\p.2<=(jx p t).2/\(jx p t).2<=p.2+13:=by
    unfold jx;split
    ·omega
    ·split
     ·dsimp only;omega
     ·dsimp only;omega
   simp only [bZ];omega
 have:=key l (0,0) h;unfold eI;omega
section
variable {T:List cJ}{wt:List cf}
theorem ow.uniq {is a b:List Bool}(h:ow T wt is a)(c:ow T wt is b):a=b:=by
 refine List.ext_getElem (h.len.trans c.len.symm) (fun i d e=>?_)
 have key:cx a i↔cx b i:=⟨fun q=>h.lt _ c.cl c.up i q,fun q=>c.lt _ h.cl h.up i q⟩
 unfold cx at key;cases ha:a[i]<;>cases hb:b[i]<;>simp_all
end
def cW (L:List Bool)(x:Int):Bool:=X L (Na x) K
def fR (g:List Bool->List Bool)(L:List Bool)(x:Int):List Bool:=g (L.set (Na x) Nc)
def iV (T:List cJ)(L:List Bool):Nat->Int
 |0=>0
 |i+1=>if X L i K=Nc then iV T L i+(1+MZ (X T i t0).2.1) else iV T L i
def fJ (L:List Bool)(i:Nat)(t:cJ):cJ:=
 if X L i K=Nc then
  (t.1,(if t.1=4/\d_ L (X t.2.1 0 (0,0))=K then[(2,0),(2,0)] else if t.1=3/\d_ L (X t.2.1 0 (0,0))=K then[(2,0),X t.2.1 1 (0,0)] else t.2.1),Nc,t.2.2.2)
 else(t.1,[],t.2.2.1,Nc)
def gy (L:List Bool)(T:List cJ):Nat->List cJ
 |0=>T
 |i+1=>(gy L T i).set i (fJ L i (X T i t0))
def cn.c0 (g:List Bool->List Bool)(s:cn)(mj:Bool):List Bool:=g (kc s.T s.rs mj)
def cn.cR (g:List Bool->List Bool)(s:cn)(mj:Bool):List Bool×List cf×List cf:=
 turns cW (fR g) (MZ s.rg+1) (s.rg.filter (fun e=>!cW (s.c0 g mj) e.2)) (s.c0 g mj) []
def cn.cF (g:List Bool->List Bool)(s:cn)(b_:Int)(mj:Bool):Bool:=
 (!mj&&decide (b_-(eI s.T).2<(eI s.T).1))||decide (b_<iV s.T (s.cR g mj).1 (MZ s.T))
def cn.cut (g:List Bool->List Bool)(s:cn)(b_:Int)(mj:Bool):cn:=
 if s.cF g b_ mj=Nc then s else
  {T:=gy (s.cR g mj).1 s.T (MZ s.T),rs:=s.rs,rg:=s.rg.filter (fun e=>cW (s.c0 g mj) e.2&&cW (s.cR g mj).1 e.1),wt:=(s.wt++(s.cR g mj).2.1).filter (fun e=>cW (s.cR g mj).1 e.1)}
def cn.hC (g:List Bool->List Bool)(s:cn)(b_:Int)(mj:Bool):Int:=if s.cF g b_ mj=Nc then 3 else 0
def dB (T:List cJ)(wt:List cf)(g:List Bool->List Bool):Prop:=∀is:List Bool,MZ is=MZ T->(∀k,cx is k->cA T k)->ow T wt is (g is)
theorem jK (L:List Bool)(T:List cJ):∀i,MZ (gy L T i)=MZ T
 |0=>rfl
 |i+1=>by rw[gy,bh];exact jK L T i
theorem qE (L:List Bool)(T:List cJ):∀(i j:Nat),i<=MZ T->j<MZ T->X (gy L T i) j t0=if j<i then fJ L j (X T j t0) else X T j t0
 |0,j,_,_=>by rfl
 |i+1,j,hi,b=>by
  rw[gy,aL,List.getElem?_set];by_cases e:i=j
  ·subst e;rw[aJ rfl,aJ (by rw[jK];exact b),aJ aa];rfl
  ·rw[aI e,<-aL,(qE L T i j aa b)];by_cases c:j<i
   ·rw[aJ c,aJ aa]
   ·rw[aI c,aI aa]
theorem xn (T:List cJ)(L:List Bool)(h:∀i,MZ (X T i t0).2.1<=12):∀i,0<=iV T L i/\iV T L i<=13*i
 |0=>by simp[iV]
 |i+1=>by
  have b:=xn T L h i;have:=h i;unfold iV;split
  ·omega
  ·omega
section
variable {T:List cJ}{wt:List cf}{g:List Bool->List Bool}
structure gW (T:List cJ)(L:List Bool):Prop where
 len:MZ L=MZ T
 al:∀k,cx L k->cA T k
theorem dB.ok (hg:dB T wt g)(c:ey T wt){L:List Bool}(h:gW T L):gW T (g L)/\∀k,cx L k->cx (g L) k:=by have b:=hg L h.len h.al;exact⟨⟨b.len.trans h.len,fun k hk=>b.lt _ c.cls h.al k hk⟩,b.up⟩
theorem gW.put {L:List Bool}(h:gW T L){x:Nat}(b:cA T x):gW T (L.set x Nc)/\cx (L.set x Nc) x/\∀k,cx L k->cx (L.set x Nc) k:=by
 have hl:x<MZ L:=by rw[h.len];exact b.1
 refine⟨⟨by rw[bh];exact h.len,fun k hk=>?_⟩,?_,fun k hk=>?_⟩
 ·unfold cx at hk;rw[nk _ _ _ hl] at hk;split at hk
  ·rename_i e;rw[<-e];exact b
  ·exact h.al k hk
 ·unfold cx;rw[nk _ _ _ hl,aJ rfl]
 ·unfold cx at hk⊢;rw[nk _ _ _ hl];split
  ·rfl
  ·exact hk
theorem gW.fR (hg:dB T wt g)(c:ey T wt){L:List Bool}(h:gW T L){x:Int}(d:cA T (Na x)):gW T (fR g L x)/\cx (fR g L x) (Na x)/\∀k,cx L k->cx (fR g L x) k:=by obtain⟨e,f,i⟩:=h.put d;obtain⟨q1,b⟩:=hg.ok c e;exact⟨q1,b _ f,fun k hk=>b _ (i k hk)⟩
end
structure nm {σ:Type}(lk:σ->cf->Bool×σ)(g:List Bool->List Bool)(pe:cf->cf)(R:List cf)(ρ:σ->List Bool->List cf->Prop):Prop where
 no:∀t L C e,ρ t L C->e∈R->cW L e.1=K->lk t (pe e)=(K,t)
 yes:∀t L C e,ρ t L C->e∈R->cW L e.1=Nc->(lk t (pe e)).1=Nc/\ρ (lk t (pe e)).2 (fR g L e.2) (C++[e])
section
variable {σ:Type}{lk:σ->cf->Bool×σ}{g:List Bool->List Bool}{pe:cf->cf}{R:List cf}{ρ:σ->List Bool->List cf->Prop}
theorem nm.pass (h:nm lk g pe R ρ):∀(l:List cf)(t:σ)(L:List Bool)(C D A:List cf),(∀e∈l,e∈R)->ρ t L C->
 ρ ((l.map pe).foldl (eM lk) (A,D.map pe,t)).2.2 (cq.pass cW (fR g) l L C D).1 (cq.pass cW (fR g) l L C D).2.1/\((l.map pe).foldl (eM lk) (A,D.map pe,t)).2.1=(cq.pass cW (fR g) l L C D).2.2.map pe/\
 MZ ((l.map pe).foldl (eM lk) (A,D.map pe,t)).1+MZ C=MZ A+MZ (cq.pass cW (fR g) l L C D).2.1
 |[],t,L,C,D,A,_,hr=>⟨hr,rfl,rfl⟩
 |e::l,t,L,C,D,A,hl,hr=>by
  have he:=hl e ac;rw[yo,a_];cases c:cW L e.1
  ·have b:eM lk (A,D.map pe,t) (pe e)=(A,(D++[e]).map pe,t):=by unfold eM;rw[h.no t L C e hr he c,List.map_append];rfl
   rw[b,cq.pass,c,aI ac];exact h.pass l t L C (D++[e]) A (fun x d=>hl x (aW _ d)) hr
  ·obtain⟨y1,f⟩:=h.yes t L C e hr he c;have b:eM lk (A,D.map pe,t) (pe e)=(A++[pe e],D.map pe,(lk t (pe e)).2):=by unfold eM;rw[aJ y1]
   rw[b,cq.pass,c,aJ rfl];obtain⟨i,j,k⟩:=h.pass l _ _ _ D _ (fun x d=>hl x (aW _ d)) f;refine⟨i,j,?_⟩
   simp only [List.length_append,bZ,List.length_nil] at k;omega
theorem tf {σ:Type}(is:σ->Int->Bool)(kp:σ->Int->σ)(e:cf):∀(l:List cf)(s:σ)(C D:List cf),e∈(cq.pass is kp l s C D).2.2->e∈D\/e∈l
 |[],_,_,_,h=>aM h
 |x::l,s,C,D,h=>by
  rw[cq.pass] at h;split at h
  ·exact(tf is kp e l _ _ _ h).imp id (aW _)
  ·rcases tf is kp e l _ _ _ h with b|b
   ·rcases bE.1 b with b|b
    ·exact aM b
    ·exact aK (by rw[bQ.1 b];simp)
   ·exact aK (aW _ b)
theorem xo {σ:Type}(is:σ->Int->Bool)(kp:σ->Int->σ)(l:List cf)(s:σ)(C:List cf)(e:cf)(h:e∈(cq.pass is kp l s C []).2.2):e∈l:=
 (tf is kp e l s C [] h).resolve_left ac
theorem nm.turns (h:nm lk g pe R ρ):∀(n:Nat)(D:List cf)(t:σ)(L:List Bool)(C:List cf),(∀e∈D,e∈R)->ρ t L C->
 ρ (eT lk n t (D.map pe)).1 (cq.turns cW (fR g) n D L C).1 (cq.turns cW (fR g) n D L C).2.1/\(eT lk n t (D.map pe)).2=(cq.turns cW (fR g) n D L C).2.2.map pe
 |0,D,t,L,C,_,hr=>⟨hr,rfl⟩
 |n+1,D,t,L,C,f,hr=>by
  obtain⟨b,d,i⟩:=h.pass D t L C [] [] f hr;have b:=b;have d:(pts lk t (D.map pe)).2.1=(cq.pass cW (fR g) D L C []).2.2.map pe:=d;have i:MZ (pts lk t (D.map pe)).1+MZ C=0+MZ (cq.pass cW (fR g) D L C []).2.1:=i;by_cases c:MZ (pts lk t (D.map pe)).1=0
  ·rw[mz _ _ _ _ c,Di aa];exact⟨b,d⟩
  ·rw[mA _ _ _ _ c,Dh aa,d];exact h.turns n _ _ _ _ (fun e he=>f e (xo _ _ D L C e he)) b
end
theorem qF {d:Type}(lk:d->cf->Bool×d):∀(n k:Nat)(t:d)(b:List cf),MZ b<n->MZ b<k->eT lk n t b=eT lk k t b
 |0,_,_,_,h,_=>absurd h aa
 |_+1,0,_,_,_,h=>absurd h aa
 |n+1,k+1,t,b,e,f=>by
  have hl:=pv lk t b;by_cases c:MZ (pts lk t b).1=0
  ·rw[mz _ _ _ _ c,mz _ _ _ _ c]
  ·rw[mA _ _ _ _ c,mA _ _ _ _ c];exact qF lk n k _ _ aa aa
theorem lR {b d:Type}(f:b->d)(p:d->Bool)(q:b->Bool):∀l:List b,(∀x∈l,p (f x)=q x)->(l.map f).filter p=(l.filter q).map f
 |[],_=>rfl
 |x::l,h=>by
  have e:=lR f p q l (fun y hy=>h y (aW _ hy))
  have g:=h x ac;rw[yo];cases c:q x
  ·rw[j4 (by rw[g,c];simp),j4 (by rw[c];simp),e]
  ·rw[j5 (by rw[g,c]),j5 c,yo,e]
structure fK (s:cn):Prop where
 iv:ey s.T s.wt
 rv:∀v∈s.rs,v.1=3->0<=v.2/\cA s.T (Na v.2)
 gv:∀e∈s.rg,(0<=e.1/\cA s.T (Na e.1))/\0<=e.2/\cA s.T (Na e.2)
 wg:∀e∈s.wt,0<=e.1/\cA s.T (Na e.1)
 tl:MZ s.T<=10000
 gl:MZ s.rg<=1000
 wl:MZ s.wt<=1000
theorem fK.t12 {s:cn}(h:fK s):∀t∈s.T,MZ t.2.1<=12:=fun t ht=>by
 obtain⟨i,hi,e⟩:=bY.1 ht;have:=h.iv.tl i;rw[aL,aN hi,e] at this
 exact this
theorem fK.first {s:cn}(h:fK s)(mj:Bool):gW s.T (kc s.T s.rs mj):=
 ⟨xj _ _ _,fun k hk=>by
  obtain⟨c,b⟩:=(kK _ _ _ _).1 hk;rcases b with⟨_,b,_⟩|⟨v,hv,d,e⟩
  ·exact⟨c,b⟩
  ·rw[<-e];exact(h.rv v hv d).2⟩
structure ch (F:Nat->Prop)(w:az)(F':Nat->Prop)(w':az):Prop where
 fr:Fr F w w'
 sub:∀b,F' b->F b\/M3 (G w)<=b
theorem ch.refl (F:Nat->Prop)(w:az):ch F w F w:=⟨Fr.refl _ _,fun _ h=>aM h⟩
theorem ch.trans {F d e:Nat->Prop}{w w' f:az}(h:ch F w d w')(k:ch d w' e f):ch F w e f:=
 ⟨h.fr.trans k.fr h.sub,fun b hb=>(k.sub b hb).elim (h.sub b) (fun c=>aK (aU h.fr.size c))⟩
theorem ch.of {F:Nat->Prop}{w w':az}(h:C (M3 (G w)) w w'):ch F w F w':=⟨Fr.of h,fun _ h=>aM h⟩
theorem ch.below {F b:Nat->Prop}{w w' c:az}(h:ch F w b w')(hb:C (M3 (G w')) w' c):ch F w b c:=h.trans (ch.of hb)
theorem bz {α:Type _}{i:Nat}{l:List α}:MZ (List.take i l) = Min.min i (MZ l):=List.length_take ..
theorem ti {w:az}{base g n cap:Nat}{e:bU}{b:List bD}(h:aC w base e 1 (M0 (au g) n cap) n b)(m:Nat)(hm:m<=n):aC w base e 1 (M0 (au g) m cap) m (b.take m):=by
 obtain⟨l,c⟩:=h;rcases c with⟨hv,_⟩|⟨o,p,d,hv,hb,f,q,i,j,k⟩
 ·simp at hv
 ·obtain⟨rfl,rfl⟩:=hv;refine⟨by rw[bz];omega,aK ⟨g,cap,d,rfl,hb,f,aa,i,j,?_⟩⟩
  rw[<-k,List.take_take]
  congr 1
  omega
theorem tq {w:az}{base g n cap:Nat}{e:bU}{b:List bD}(h:aC w base e 1 (M0 (au g) n cap) n b):n<=cap/\cap<=maxLen:=by
 rcases h.2 with⟨hv,_⟩|⟨f,i,j,hv,hb,k,c,d,l,m⟩
 ·simp at hv
 ·obtain⟨rfl,rfl⟩:=hv;exact⟨c,d⟩
abbrev d6:=Int×Option bG×Nat×List (Int×Int)
def nv (m:List d6):List Value:=m.flatMap fun x=>[ak x.1,M0 x.2.1 (MZ x.2.2.2) x.2.2.1]
def iG (m:List d6):List (Int×List (Int×Int)):=m.map fun x=>(x.1,x.2.2.2)
theorem xp (a b:List d6):nv (a++b)=nv a++nv b:=by simp[nv]
theorem py:∀(l:List d6)(i:Nat)(x:d6),l[i]?=Z x->(nv l)[i*2]?=Z (ak x.1)/\(nv l)[i*2+1]?=Z (M0 x.2.1 (MZ x.2.2.2) x.2.2.1)
 |[],i,x,h=>by grind
 |e::r,0,x,h=>by simp_all [nv]
 |e::r,i+1,x,h=>by have b:(nv (e::r))=ak e.1::M0 e.2.1 (MZ e.2.2.2) e.2.2.1::nv r:=af;rw[b,show(i+1)*2=i*2+1+1 by omega];simpa using(py r i x (by assumption))
theorem ts:∀(l:List d6)(i:Nat)(x:d6)(ad:Option bG)(c:Nat)(b:List (Int×Int)),l[i]?=Z x->nv (l.set i (x.1,ad,c,b))=(nv l).set (i*2+1) (M0 ad (MZ b) c)
 |[],_,_,_,_,_,_=>rfl
 |e::l,0,x,ad,c,b,h=>by simp_all [nv]
 |e::l,i+1,x,ad,c,b,h=>by have d:(nv (e::l))=ak e.1::M0 e.2.1 (MZ e.2.2.2) e.2.2.1::nv l:=af;have f:(nv (e::l.set i (x.1,ad,c,b)))=ak e.1::M0 e.2.1 (MZ e.2.2.2) e.2.2.1::nv (l.set i (x.1,ad,c,b)):=af;rw[List.set_cons_succ,f,d,(ts l i x ad c b (by assumption)),show(i+1)*2+1=i*2+1+1+1 by omega];simp
theorem nn {w:az}{base size n g cap:Nat}{e:bU}{b:List bD}(h:aC w base e size (M0 (au g) n cap) n b)(i:Nat)(u:bD):aC (w.setCell ⟨g,i,M9⟩ u) base e size (M0 (au g) n cap) n (b.set i u):=by
 refine⟨by rw[bh];exact h.1,?_⟩
 rcases h.2 with⟨hv,_⟩|⟨k,l,c,hv,hb,hg,d,f,m,j⟩
 ·grind
 ·obtain⟨rfl,rfl⟩:=hv;refine aK ⟨g,cap,c.setIfInBounds i u,rfl,hb,?_,d,f,by simp_all,?_⟩
  ·simp only [World.setCell,Array.getElem?_modify,if_true,hg,Option.map_some];rfl
  ·rw[Array.toList_setIfInBounds,List.take_set,j]
def fS (w:az)(ad:Option bG)(l:List (Int×Int)):Prop:=dA w ad l/\(0<MZ l->∃b o c,ad=Z ⟨b,o,M9⟩/\w.heap[b]?=Z (M5 c 97 (0,0)))
section
variable {w:az}
theorem fS.nil {ad:Option bG}:fS w ad []:=⟨fun h=>by simp at h,fun h=>by simp at h⟩
theorem fS.of {base cap:Nat}{ad:Option bG}{l:List _}(h:aC w base 97 2 (M0 ad (MZ l) cap) (MZ l) (ev l)):fS w ad l:=by
 refine⟨it h,fun hp=>?_⟩
 obtain⟨b,c0,c⟩:=eW h hp;obtain⟨d,hc⟩:=fF h b (by rw[c];rfl)
 grind
end
def fT (m:List d6)(k:Nat):Prop:=∃x∈m,0<MZ x.2.2.2/\∃o,x.2.1=Z ⟨k,o,M9⟩
theorem iW {w:az}{base size n g cap:Nat}{e:bU}{b:List bD}(h:aC w base e size (M0 (au g) n cap) n b){i:Nat}{u:bD}(hi:b[i]?=Z u):V w (av g i)=Z u/\w.frozen? (av g i)=K:=by
 rcases h.2 with⟨hv,_⟩|⟨f,j,k,hv,hb,hg,l,m,o,c⟩
 ·grind
 ·obtain⟨rfl,rfl⟩:=hv;rw[<-c] at hi;have d:i<n*size:=by grind
  rw[List.getElem?_take_of_lt d] at hi;constructor
  ·simp[World.cell?,hg]
   grind
  ·simp[World.frozen?,hg]
def Ln (w:az)(ad:Option bG)(c:List (Int×List (Int×Int))):Prop:=
 ∃m:List d6,iG m=c/\(∀x∈m,dA w x.2.1 x.2.2.2)/\(0<MZ m->∃b o,ad=Z ⟨b,o,M9⟩/\b<M3 (G w)/\∀i x,m[i]?=Z x->V w (av b (o+i*2))=Z (ak x.1)/\V w (av b (o+i*2+1))=Z (M0 x.2.1 (MZ x.2.2.2) x.2.2.1))
theorem Ln.below {w w':az}{ad:Option bG}{c:List _}(h:Ln w ad c)(hb:C (M3 (G w)) w w'):Ln w' ad c:=by
 obtain⟨m,f,g,j⟩:=h;refine⟨m,f,fun x d=>(g x d).below hb,fun hp=>?_⟩
 obtain⟨b,o,e,hl,hc⟩:=j hp;exact⟨b,o,e,aO hl hb.size,fun i x d=>(by grind [Below.cell])⟩
def jc (w:az)(base:Nat)(ad:Option bG)(l:List (Int×Int)):Prop:=dA w ad l/\(0<MZ l->∃b o,ad=Z ⟨b,o,M9⟩/\base<=b)
def iH (w:az)(base:Nat)(ad:Option bG)(c:List (Int×List (Int×Int))):Prop:=
 ∃m:List d6,iG m=c/\(∀x∈m,dA w x.2.1 x.2.2.2)/\(∀k,fT m k->base<=k)/\(0<MZ m->∃b o,ad=Z ⟨b,o,M9⟩/\base<=b/\b<M3 (G w)/\∀i x,m[i]?=Z x->V w (av b (o+i*2))=Z (ak x.1)/\V w (av b (o+i*2+1))=Z (M0 x.2.1 (MZ x.2.2.2) x.2.2.1))
theorem iH.ln {w:az}{base:Nat}{ad:Option bG}{b:List _}(h:iH w base ad b):Ln w ad b:=by obtain⟨m,c,d,_,e⟩:=h;exact⟨m,c,d,fun hp=>by grind⟩
theorem jc.fr {F:Nat->Prop}{w w':az}{base:Nat}{ad:Option bG}{l:List (Int×Int)}(h:jc w base ad l)(f:Fr F w w')(c:∀b,F b->b<base):jc w' base ad l:=
 ⟨h.1.keep f.size (fun hp b e=>by
  obtain⟨d,g,i,hb⟩:=h.2 hp;obtain⟨b1,o1,j,l1,_⟩:=h.1 hp
  grind [Fr.block]),h.2⟩
theorem iH.fr {F:Nat->Prop}{w w':az}{base:Nat}{ad:Option bG}{g:List (Int×List (Int×Int))}(h:iH w base ad g)(f:Fr F w w')(p:∀b,F b->b<base):iH w' base ad g:=by
 obtain⟨m,l,i,j,n⟩:=h;refine⟨m,l,fun x d=>(i x d).keep f.size (fun hp b e=>?_),j,fun hp=>?_⟩
 ·obtain⟨b1,o1,k,l1,_⟩:=i x d hp;rw[k] at e;cases e;have q:=j b1 ⟨x,d,hp,o1,k⟩
  grind [Fr.block]
 ·obtain⟨b,o,e,g1,g2,c⟩:=n hp;have hb:w'.heap[b]?=w.heap[b]?:=(by grind [Fr.block])
  grind [aQ]
theorem jc.base {w:az}{b c:Nat}{ad:Option bG}{l:List (Int×Int)}(h:jc w b ad l)(hb:c<=b):jc w c ad l:=
 ⟨h.1,fun hp=>by
  obtain⟨k,o,e,hk⟩:=h.2 hp
  grind⟩
theorem iH.base {w:az}{b c:Nat}{ad:Option bG}{d:List (Int×List (Int×Int))}(h:iH w b ad d)(hb:c<=b):iH w c ad d:=by
 obtain⟨m,e,f,g,i⟩:=h;refine⟨m,e,f,fun k hk=>(by grind),fun hp=>?_⟩
 grind
abbrev xq:=cJ×Option bG×Nat
def tv (m:List xq):List Value:=m.flatMap fun x=>[ak x.1.1,M0 x.2.1 (MZ x.1.2.1) x.2.2,bK x.1.2.2.1,bK x.1.2.2.2]
def dl (k:Int):Int:=
 if k=1\/k=2\/k=8 then 1 else if k=3\/k=5\/k=10\/k=11\/k=13 then 3 else if k=4\/k=6\/k=7\/k=14 then 7
 else if k=9\/k=12 then 6 else if k=15\/k=16 then 0 else-1
def iu (k n:Int):Int:=if k=1 then vc 1 n else if k=5 then hc 2 n else 0
def ef (r:Int):Bool:=decide (0<=r)&&decide (r<12)
def d7 (k R A B n:Int):Int:=
 if dl k=-1 then 2 else if(decide (dl k=1\/dl k=3\/dl k=7)&&!ef R)||(decide (dl k=3\/dl k=6\/dl k=7)&&!ef A)||(decide (dl k=6\/dl k=7)&&!ef B) then 1 else iu k n
theorem qG (k:Int):k=1\/k=2\/k=3\/k=4\/k=5\/k=6\/k=7\/k=8\/k=9\/k=10\/k=11\/k=12\/k=13\/k=14\/k=15\/k=16\/(k<1\/16<k):=aa
theorem qH {k:Int}(h:k<1\/16<k):dl k=-1:=by unfold dl;rw[aI aa,aI aa,aI aa,aI aa,aI aa]
theorem DJ (k:Int)(w:az):J Ng 54 #[ak k] w fun e w'=>e=E (ak (dl k))/\w'=w:=by
 rcases qG k with rfl|rfl|rfl|rfl|rfl|rfl|rfl|rfl|rfl|rfl|rfl|rfl|rfl|rfl|rfl|rfl|h
 case' inr.inr.inr.inr.inr.inr.inr.inr.inr.inr.inr.inr.inr.inr.inr.inr=>
  rw[qH h];have b:¬k=1:=aa;have c:¬k=2:=aa;have d:¬k=3:=aa;have f:¬k=4:=aa;have g:¬k=5:=aa;have i:¬k=6:=aa;have j:¬k=7:=aa;have l:¬k=8:=aa;have m:¬k=9:=aa;have n:¬k=10:=aa;have o:¬k=11:=aa;have p:¬k=12:=aa;have q:¬k=13:=aa;have s:¬k=14:=aa;have t:¬k=15:=aa;have u:¬k=16:=aa;clear h
 all_goals
  go_enter func54,ntmps54;go_wp2_with fail;go_ret;exact⟨rfl,rfl⟩
theorem bv {p:Prop} [inst:Decidable p]:p -> MV p = Nc:=decide_eq_true
theorem bC {p:Prop} [Decidable p]:¬p -> MV p = K:=decide_eq_false
theorem kh (r:Int)(w:az):J Ng 119 #[ak r] w fun e w'=>e=E (bK (ef r))/\w'=w:=by
 by_cases h0:0<=r
 ·by_cases b:r<12
  ·have e:ef r=Nc:=by unfold ef;rw[bv h0,bv b];rfl
   rw[e];go_enter func119,ntmps119;go_wp2;go_ret;exact⟨rfl,rfl⟩
  ·have e:ef r=K:=by unfold ef;rw[bC b,Bool.and_false]
   rw[e];go_enter func119,ntmps119;go_wp2;go_ret;exact⟨rfl,rfl⟩
 ·have e:ef r=K:=by unfold ef;rw[bC h0,Bool.false_and]
  go_wp2;go_ret;exact⟨rfl,rfl⟩
abbrev eg:=List cJ->List cf->List Bool->List Bool
def ie (T:List cJ)(v:Int×Int):Bool:=v.1==3&&(X T (Na v.2) t0).1==5
def jy (T:List cJ)(v:Int×Int):Bool:=v.1==3&&!((X T (Na v.2) t0).1==5)
theorem pz {T:List cJ}{v:Int×Int}:ie T v=Nc↔v.1=3/\(X T (Na v.2) t0).1=5:=by unfold ie;simp
theorem jq {T:List cJ}{v:Int×Int}:jy T v=Nc↔v.1=3/\(X T (Na v.2) t0).1≠5:=by unfold jy;simp
abbrev ig (T:List cJ)(j i:Nat)(y:Int×Int):List cJ:=T.set j ((X T j t0).1,(X T j t0).2.1.set i y,(X T j t0).2.2)
def cn.room (g:eg)(cj b_:Int)(s:cn)(m:Int):Int×cn:=
 if m<=cj-(eI s.T).1 then(0,s) else(s.hC (g s.T s.wt) b_ (decide (b_-(eI s.T).2<(eI s.T).1)),s.cut (g s.T s.wt) b_ (decide (b_-(eI s.T).2<(eI s.T).1)))
def cn.put (s:cn)(kd:Int)(l:List (Int×Int)):cn:={s with T:=s.T++[(kd,l,K,K)]}
def cn.b_ (g:eg)(cj b_:Int)(s:cn)(kd:Int)(l:List (Int×Int)):(Int×Int)×Int×cn:=
 if(s.room g cj b_ (1+MZ l)).1=0 then((3,(MZ (s.room g cj b_ (1+MZ l)).2.T:Int)),0,(s.room g cj b_ (1+MZ l)).2.put kd l)
 else((0,0),(s.room g cj b_ (1+MZ l)).1,(s.room g cj b_ (1+MZ l)).2)
def cn.pop (s:cn)(v:Int×Int):(Int×Int)×Int×cn:=
 if ie s.T v=Nc then(if dW v.2 s.wt<MZ s.wt then((3,(X s.wt (dW v.2 s.wt) (0,0)).2),0,{s with wt:=s.wt.take (dW v.2 s.wt)++s.wt.drop (dW v.2 s.wt+1)}) else((0,0),4,s)) else((0,0),2,s)
def cn.fc (s:cn)(v:Int×Int)(I:Int):Int:=if jy s.T v=Nc then(if I<0\/(MZ (X s.T (Na v.2) t0).2.1:Int)<=I then 1 else 0) else 2
def cn.rt (g:eg)(cj b_:Int)(s:cn)(k:Int)(A B:Nat)(I n:Int):(Int×Int)×Int×cn:=
 if k=1 then((1,n),0,s) else if k=3 then(X s.rs A (0,0),0,s) else if k=4 then s.b_ g cj b_ 1 [X s.rs A (0,0),X s.rs B (0,0)] else if k=5 then s.b_ g cj b_ 2 (Ni (Na n) (X s.rs A (0,0)))
 else if k=6 then s.b_ g cj b_ 3 [X s.rs A (0,0),X s.rs B (0,0)] else if k=7 then s.b_ g cj b_ 4 [X s.rs A (0,0),X s.rs B (0,0)] else if k=8 then s.b_ g cj b_ 5 [] else if k=10 then s.pop (X s.rs A (0,0))
 else if k=11 then((if s.fc (X s.rs A (0,0)) I=0 then X (X s.T (Na (X s.rs A (0,0)).2) t0).2.1 (Na I) (0,0) else(0,0)),s.fc (X s.rs A (0,0)) I,s)
 else if k=13 then(if jy s.T (X s.rs A (0,0))=Nc then((1,(MZ (X s.T (Na (X s.rs A (0,0)).2) t0).2.1:Int)),0,s) else((0,0),2,s))
 else if k=14 then((1,if X s.rs A (0,0)=X s.rs B (0,0) then 1 else 0),0,s) else((0,0),0,s)
def cn.reg (s:cn)(t b:Int×Int):Int×cn:=
 if t.1=3/\ie s.T b=Nc then(if 24<=MZ s.rg+MZ s.wt then(3,s) else(0,{s with rg:=s.rg++[(b.2,t.2)]})) else(2,s)
def cn.set (s:cn)(v:Int×Int)(I:Int)(y:Int×Int):Int×cn:=(s.fc v I,if s.fc v I=0 then {s with T:=ig s.T (Na v.2) (Na I) y} else s)
def cn.fY (g:eg)(cj b_:Int)(s:cn)(k R A B I n:Int):Int×cn:=
 if d7 k R A B n=0 then(if k=9 then s.reg (X s.rs (Na A) (0,0)) (X s.rs (Na B) (0,0)) else if k=12 then s.set (X s.rs (Na A) (0,0)) I (X s.rs (Na B) (0,0))
  else if k=15 then(s.hC (g s.T s.wt) b_ K,s.cut (g s.T s.wt) b_ K) else if k=16 then(s.hC (g s.T s.wt) b_ Nc,s.cut (g s.T s.wt) b_ Nc)
  else if(s.rt g cj b_ k (Na A) (Na B) I n).2.1=0 then(0,{(s.rt g cj b_ k (Na A) (Na B) I n).2.2 with rs:=(s.rt g cj b_ k (Na A) (Na B) I n).2.2.rs.set (Na R) (s.rt g cj b_ k (Na A) (Na B) I n).1})
  else((s.rt g cj b_ k (Na A) (Na B) I n).2.1,(s.rt g cj b_ k (Na A) (Na B) I n).2.2))
 else(d7 k R A B n,s)
def ga (v:Int×Int):Int:=ew v.1 v.2
def fz (T:List cJ)(v:Int×Int):Prop:=vc v.1 v.2=0/\(v.1=3->0<=v.2/\cA T (Na v.2))
theorem fz.lt {T:List cJ}{v:Int×Int}(h:fz T v)(b:v.1=3):0<=v.2/\v.2<MZ T:=by obtain⟨h0,c⟩:=h.2 b;have:=c.1;exact⟨h0,aa⟩
def tI (n:Nat):List Int:=(k4 n).map (fun i:Nat=>(i:Int))
theorem nr {n:Nat}{a:Int}:a∈tI n↔0<=a/\a<n:=by
 unfold tI;simp only [List.mem_map,List.mem_range];constructor
 ·rintro⟨i,hi,e⟩
  omega
 ·rintro⟨h0,b⟩
  exact⟨Na a,aa,aa⟩
theorem lS (n:Nat):MZ (tI n)=n:=by simp[tI]
def gX (T:List cJ)(a:Int):Int:=(X T (Na a) t0).1
def gb (T:List cJ)(wt:List cf)(a:Int):List Int:=((X T (Na a) t0).2.1.map ga)++(if(X T (Na a) t0).1=5 then(wt.filter (fun e=>e.1==a)).map (fun e=>ew 3 e.2) else[])
structure ns (T:List cJ)(wt:List cf):Prop where
 fv:∀i,cA T i->∀v∈(X T i t0).2.1,fz T v
 wv:∀e∈wt,0<=e.1/\0<=e.2/\cA T (Na e.2)
 tl:∀i,MZ (X T i t0).2.1<=12
 l1:MZ T<=10000
 l2:MZ wt<=10000
section
variable {T:List cJ}{M:cX->Int->cX}{s:cX}{v:Int×Int}
theorem lU (h:fz T v):dk (ga v)=v.1/\dr (ga v)=v.2:=(qw _ _ h.1).2
theorem DK (h:fz T v)(b:v.1≠3):eL M (tI (MZ T)) s (ga v)=(v,s):=by unfold eL;rw[(lU h).1,(lU h).2,aI b]
theorem DL (h:fz T v)(b:v.1=3)(hs:s.1.contains v.2=Nc):eL M (tI (MZ T)) s (ga v)=((3,(s.1.idxOf v.2:Int)),s):=by unfold eL;rw[(lU h).1,(lU h).2,aJ b,aJ (bP.2 (nr.2 (h.lt b))),aJ hs]
theorem DM (h:fz T v)(b:v.1=3)(hs:s.1.contains v.2=K):eL M (tI (MZ T)) s (ga v)=((3,(MZ s.1:Int)),M s v.2):=by unfold eL;rw[(lU h).1,(lU h).2,aJ b,aJ (bP.2 (nr.2 (h.lt b))),aI (by rw[hs];simp)]
end
def dL.eh (T:List cJ)(wt:List cf)(l:List (Int×Int)):List (Int×Int)×cX:=dG (met (tI (MZ T)) (gX T) (gb T wt) (MZ T)) (tI (MZ T)) ([],[]) (l.map ga)
theorem DN {T:List cJ}{wt:List cf}(d:ey T wt):∃g,dB T wt g:=by
 classical
 refine⟨fun is=>(k4 (MZ is)).map (fun i=>decide (∀X:Nat->Prop,ic T wt X->(∀k,cx is k->X k)->X i)),fun is hl e=>?_⟩
 have key:∀i,cx ((k4 (MZ is)).map (fun i=>decide (∀X:Nat->Prop,ic T wt X->(∀k,cx is k->X k)->X i))) i↔i<MZ is/\∀X:Nat->Prop,ic T wt X->(∀k,cx is k->X k)->X i:=by grind [cx]
 refine⟨ac,fun i hi=>(by grind [cx.lt]),fun i hi j v hv f=>?_,fun X b hs i hi=>(by grind)⟩
 have c:∀X:Nat->Prop,ic T wt X->(∀k,cx is k->X k)->_:=fun X b hs=>b i hi (by grind) v (by grind [jv.mono]) f;exact(key _).2 ⟨(hl▸(c (cA T) d.cls e).1),c⟩
theorem xr:∃g:eg,∀T wt,ey T wt->dB T wt (g T wt):=by
 classical
 refine⟨fun T wt=>if h:∃g,dB T wt g then h.choose else id,fun T wt b=>?_⟩
 grind [DN]
section
variable {σ:Type}{is:σ->Int->Bool}{kp:σ->Int->σ}{I:σ->List cf->Prop}{R:List cf}
theorem tt (hk:∀s C e,I s C->e∈R->is s e.1=Nc->I (kp s e.2) (C++[e])):∀(l:List cf)(s:σ)(C D:List cf),(∀e∈l,e∈R)->I s C->I (cq.pass is kp l s C D).1 (cq.pass is kp l s C D).2.1
 |[],_,_,_,_,h=>h
 |e::r,s,C,D,b,h=>by
  unfold cq.pass;have hr:_:=fun x d=>b x (aW _ d)
  split
  ·rename_i c;exact tt hk r _ _ _ hr (by grind)
  ·exact tt hk r _ _ _ hr h
theorem xs (hk:∀s C e,I s C->e∈R->is s e.1=Nc->I (kp s e.2) (C++[e])):∀(n:Nat)(D:List cf)(s:σ)(C:List cf),(∀e∈D,e∈R)->I s C->I (cq.turns is kp n D s C).1 (cq.turns is kp n D s C).2.1
 |0,_,_,_,_,h=>h
 |n+1,D,s,C,b,h=>by
  have c:=tt hk D s C [] b h;unfold cq.turns;split
  ·omega
  ·exact xs hk n _ _ _ (by grind [xo]) c
end
structure tu (s:cn)(g:List Bool->List Bool)(mj:Bool)(L:List Bool)(C:List cf):Prop where
 ok:gW s.T L
 up:∀k,cx (s.c0 g mj) k->cx L k
 cl:ic s.T s.wt (cx L)
 cC:∀e∈C,e∈s.rg/\cx L (Na e.1)/\cx L (Na e.2)
 lt:∀X,ic s.T s.wt X->(∀k,cx (s.c0 g mj) k->X k)->(∀e∈s.rg,cW (s.c0 g mj) e.2=K->X (Na e.2))->∀k,cx L k->X k
theorem xt {s:cn}(h:fK s){g:List Bool->List Bool}(hg:dB s.T s.wt g)(mj:Bool):ow s.T s.wt (kc s.T s.rs mj) (s.c0 g mj)/\gW s.T (s.c0 g mj):=by have b:=h.first mj;exact⟨hg _ b.len b.al,(hg.ok h.iv b).1⟩
theorem xu {s:cn}(h:fK s){g:List Bool->List Bool}(hg:dB s.T s.wt g)(mj:Bool):tu s g mj (s.cR g mj).1 (s.cR g mj).2.1:=by
 obtain⟨m,n⟩:=xt h hg mj;refine xs (fun L C e f he o=>?_) _ _ _ _ (fun e he=>he) ⟨n,fun k hk=>hk,m.cl,fun e he=>by grind,fun X _ l _ k hk=>(by grind)⟩
 obtain⟨he,hn⟩:=bM.1 he;have hn:cW (s.c0 g mj) e.2=K:=by grind
 have ha:=(h.gv e he).2;obtain⟨j,p,t⟩:=f.ok.put ha.2;have c:=hg _ j.len j.al;have d:∀k,cx L k->_:=fun k hk=>c.up k (by grind)
 refine⟨(hg.ok h.iv j).1,fun k hk=>d k (f.up k hk),c.cl,fun x b=>?_,fun X l h0 u k hk=>?_⟩
 ·rcases bE.1 b with b|b
  ·obtain⟨q1,q,q3⟩:=f.cC x b;exact⟨q1,d _ q,d _ q3⟩
  ·rw[bQ.1 b];exact⟨he,d _ o,c.up _ p⟩
 ·refine c.lt X l (fun i hi=>?_) k hk
  grind [tu.lt,cx]
theorem DO (s:cn)(g:List Bool->List Bool)(mj:Bool):MZ (s.cR g mj).2.1<=MZ (s.rg.filter (fun e=>!cW (s.c0 g mj) e.2)):=by
 have:=wN (is:=cW) (kp:=fR g) (MZ s.rg+1) (s.rg.filter (fun e=>!cW (s.c0 g mj) e.2)) (s.c0 g mj) [];unfold cn.cR
 grind
theorem xv {s:cn}(h:fK s){g:List Bool->List Bool}(hg:dB s.T s.wt g)(mj:Bool){v:Int×Int}(hv:v∈s.rs)(b:v.1=3):cx (s.c0 g mj) (Na v.2):=
 (xt h hg mj).1.up _ ((kK _ _ _ _).2 ⟨(h.rv v hv b).2.1,aK ⟨v,hv,b,rfl⟩⟩)
theorem qI (L:List Bool)(T:List cJ)(i:Nat):X (gy L T (MZ T)) i t0=if i<MZ T then fJ L i (X T i t0) else t0:=by
 by_cases h:i<MZ T
 ·rw[qE L T (MZ T) i aa h,aJ h,aJ h]
 grind [jK]
theorem xw {L:List Bool}{i:Nat}{t:cJ}(b:X L i K=K):fJ L i t=(t.1,[],t.2.2.1,Nc):=by grind [fJ]
theorem qJ (L:List Bool)(i:Nat)(t:cJ):(fJ L i t).1=t.1:=by grind [fJ]
theorem DP {L:List Bool}{i:Nat}{t:cJ}(b:X L i K=Nc):(fJ L i t).2.2=(Nc,t.2.2.2):=by grind [fJ]
theorem xx {T:List cJ}{L:List Bool}(h:gW T L)(i:Nat):cA (gy L T (MZ T)) i↔cx L i:=by
 unfold cA;rw[jK,qI];constructor
 ·grind [xw,cx]
 ·intro hi;have ha:=h.al i hi;refine⟨ha.1,?_⟩
  rw[aJ ha.1,DP hi];exact ha.2
theorem qK {L:List Bool}{i:Nat}{t:cJ}(b:X L i K=Nc):
 (t.1=4/\d_ L (X t.2.1 0 (0,0))=K/\(fJ L i t).2.1=[(2,0),(2,0)])\/(t.1=3/\d_ L (X t.2.1 0 (0,0))=K/\(fJ L i t).2.1=[(2,0),X t.2.1 1 (0,0)])\/((t.1=3\/t.1=4->d_ L (X t.2.1 0 (0,0))=Nc)/\(fJ L i t).2.1=t.2.1):=by grind [fJ]
def mC (T:List cJ)(e:cf):Prop:=(0<=e.1/\cA T (Na e.1))/\(X T (Na e.1) t0).1=5/\0<=e.2/\cA T (Na e.2)
structure dq (s:cn)(j:Nat):Prop where
 kd:∀i,cA s.T i->1<=(X s.T i t0).1/\(X s.T i t0).1<=5
 fl:∀i,cA s.T i->(X s.T i t0).1=3\/(X s.T i t0).1=4->MZ (X s.T i t0).2.1=2
 g5:∀i,cA s.T i->(X s.T i t0).1=5->(X s.T i t0).2.1=[]
 fv:∀i,cA s.T i->∀v∈(X s.T i t0).2.1,fz s.T v
 tl:∀i,MZ (X s.T i t0).2.1<=12
 rv:∀v∈s.rs,fz s.T v
 rl:MZ s.rs=12
 gv:∀e∈s.rg,mC s.T e
 wv:∀e∈s.wt,mC s.T e
 en:MZ s.rg+MZ s.wt<=24
 tj:MZ s.T<=j
theorem dq.more {s:cn}{j k:Nat}(h:dq s j)(hk:j<=k):dq s k:={h with tj:=aU h.tj hk}
theorem dq.iv {s:cn}{j:Nat}(h:dq s j):ey s.T s.wt:=⟨h.fl,fun i hi v hv=>(h.fv i hi v hv).2,fun e he=>(h.wv e he).2.2,h.tl⟩
theorem dq.ox {s:cn}{j:Nat}(h:dq s j)(b:j<=10000):fK s:=
 ⟨h.iv,fun v hv=>(h.rv v hv).2,fun e he=>⟨(h.gv e he).1,(h.gv e he).2.2⟩,fun e he=>(h.wv e he).1,aU h.tj b,by have:=h.en;omega,by have:=h.en;omega⟩
theorem dq.tx {s:cn}{j:Nat}(h:dq s j)(b:j<=10000):ns s.T s.wt:=
 ⟨h.fv,fun e he=>⟨(h.wv e he).1.1,(h.wv e he).2.2⟩,h.tl,aU h.tj b,by have:=h.en;omega⟩
theorem fz.mono {T c:List cJ}{v:Int×Int}(h:fz T v)(hm:v.1=3->cA T (Na v.2)->cA c (Na v.2)):fz c v:=⟨h.1,fun b=>⟨(h.2 b).1,hm b (h.2 b).2⟩⟩
theorem ll (T:List cJ):fz T (0,0):=⟨ae,fun h=>by cases h⟩
theorem xy (T:List cJ):fz T (2,0):=⟨ae,fun h=>by cases h⟩
theorem dq.rt {s:cn}{j:Nat}(h:dq s j)(i:Nat):fz s.T (X s.rs i (0,0)):=by grind [rv,ll]
theorem bB (a b:Bool):((a && b) = Nc) = (a = Nc /\ b = Nc):=Bool.and_eq_true ..
theorem bm {α:Type _}(p:α -> Bool)(l:List α):MZ (List.filter p l) <= MZ l:=List.length_filter_le ..
theorem dq.cut {s:cn}{j:Nat}(h:dq s j)(p:j<=10000){g:List Bool->List Bool}(hg:dB s.T s.wt g)(b_:Int)(mj:Bool):dq (s.cut g b_ mj) j:=by
 unfold cn.cut;split
 ·exact h
 have hw:=h.ox p;have d:=xu hw hg mj;have hl:=DO s g mj;generalize N:(s.cR g mj).1=L at*;generalize S:(s.cR g mj).2.1=C at*;have m:=xx d.ok;have gt:∀i,cx L i->X (gy L s.T (MZ s.T)) i t0=fJ L i (X s.T i t0):=fun i hi=>by rw[qI,aJ (d.ok.al i hi).1]
 have tr:∀v,fz s.T v->(v.1=3->cx L (Na v.2))->_:=fun v hv hi=>hv.mono (fun b _=>(m _).2 (hi b))
 have ev:∀e,mC s.T e->cx L (Na e.1)->cx L (Na e.2)->mC (gy L s.T (MZ s.T)) e:=fun e he f k=>⟨⟨he.1.1,(m _).2 f⟩,by rw[gt _ f,qJ];exact he.2.1,he.2.2.1,(m _).2 k⟩
 refine {kd:=fun i hi=>?_,fl:=fun i hi hk=>?_,g5:=fun i hi hk=>?_,fv:=fun i hi v hv=>?_,tl:=fun i=>?_,rv:=fun v hv=>?_,rl:=h.rl,gv:=fun e he=>?_,wv:=fun e he=>?_,en:=?_,tj:=?_}
 ·have hi:=(m i).1 hi;rw[gt i hi,qJ];exact h.kd i (d.ok.al i hi)
 ·have hi:=(m i).1 hi;rw[gt i hi,qJ] at hk;rw[gt i hi];have k:=h.fl i (d.ok.al i hi) hk;rcases qK (L:=L) hi with⟨_,_,e⟩|⟨_,_,e⟩|⟨_,e⟩<;>rw[e]
  all_goals grind
 ·have hi:=(m i).1 hi;rw[gt i hi,qJ] at hk;rw[gt i hi];rcases qK (t:=X s.T i t0) hi with⟨u,_,_⟩|⟨u,_,_⟩|⟨_,e⟩
  ·omega
  ·omega
  ·rw[e];exact h.g5 i (d.ok.al i hi) hk
 ·have hi:=(m i).1 hi;have ha:=d.ok.al i hi;rw[gt i hi] at hv;have cl:∀v,jv s.T s.wt (cx L) i v->v.1=3->_:=fun v hk b=>d.cl i ha.1 hi v hk b;rcases qK (L:=L) hi with⟨_,_,e⟩|⟨w,_,e⟩|⟨B,e⟩
  ·rw[e] at hv
   grind [xy]
  ·rw[e] at hv;have:v=(2,0)\/v=X (X s.T i t0).2.1 1 (0,0):=by grind
   rcases this with rfl|rfl
   ·exact xy _
   ·exact tr _ (by grind [fv,fl]) (fun b=>cl _ (aK (aM ⟨w,rfl⟩)) b)
  ·rw[e] at hv;refine tr v (h.fv i ha v hv) (fun b=>?_)
   have hk:=h.kd i ha;by_cases F:(X s.T i t0).1=1\/(X s.T i t0).1=2
   ·exact cl v (aM ⟨F,hv⟩) b
   ·by_cases c5:(X s.T i t0).1=5
    ·grind [g5]
    ·have o:(X s.T i t0).1=3\/(X s.T i t0).1=4:=aa;have h0:=ni (B o)
     have k:=h.fl i ha o;obtain⟨q,hq,eq⟩:=bY.1 hv;have n:X (X s.T i t0).2.1 q (0,0)=v:=by grind
     match q,hq,n with
     |0,_,n=>
      grind
     |1,_,n=>
      rcases o with c|c
      ·exact cl v (aK (aM ⟨c,n.symm⟩)) b
      ·exact cl v (aK (aK (aM ⟨c,h0,n.symm⟩))) b
     |q+2,hq,_=>omega
 ·rw[qI];split
  ·cases c:X L i K
   ·rw[xw c];simp
   ·rcases qK (L:=L) c with⟨_,_,e⟩|⟨_,_,e⟩|⟨_,e⟩<;>rw[e]
    ·simp
    ·simp
    ·exact h.tl i
  ·simp[t0]
 ·exact tr v (h.rv v hv) (fun b=>d.up _ (xv hw hg mj hv b))
 ·obtain⟨f,k⟩:=bM.1 he;rw[bB] at k;exact ev e (h.gv e f) k.2 (d.up _ k.1)
 ·obtain⟨f,k⟩:=bM.1 he;rcases bE.1 f with f|f
  ·have hv:=h.wv e f;exact ev e hv k (d.cl (Na e.1) hv.1.2.1 k (3,e.2) (aK (aK (aK ⟨hv.2.1,e,f,by have:=hv.1.1;omega,rfl⟩))) rfl)
  grind [tu.cC,gv]
 ·dsimp only;have l1:MZ (s.rg.filter (fun e=>cW (s.c0 g mj) e.2&&cW L e.1))+MZ (s.rg.filter (fun e=>!cW (s.c0 g mj) e.2))<=MZ s.rg:=by
   have key:∀l:List cf,MZ (l.filter (fun e=>cW (s.c0 g mj) e.2&&cW L e.1))+MZ (l.filter (fun e=>!cW (s.c0 g mj) e.2))<=MZ l:=fun l=>by
    induction l with
    |nil=>simp
    |cons x l W=>
     grind
   exact key s.rg
  have l2:=bm (fun e:cf=>cW L e.1) (s.wt++C)
  rw[a7] at l2;have:=h.en;omega
 simp_all [jK,tj]
abbrev eb (k R A B I n:Int):Value:=bF #[ak k,ak R,ak A,ak B,ak I,ak n]
abbrev cH (k R A B I n:Int):Obj:=M5 #[ak k,ak R,ak A,ak B,ak I,ak n] 44 (0,0)
theorem ez {w:az}{b:Nat}{k R A B I n:Int}(h:w.heap[b]?=Z (cH k R A B I n)):V w (av b 0)=Z (ak k)/\V w (av b 1)=Z (ak R)/\V w (av b 2)=Z (ak A)/\V w (av b 3)=Z (ak B)/\V w (av b 4)=Z (ak I)/\V w (av b 5)=Z (ak n):=by refine⟨?_,?_,?_,?_,?_,?_⟩<;>simp[World.cell?,h]
theorem tz {k R A B n:Int}(h:d7 k R A B n=0):¬((decide (dl k=1\/dl k=3\/dl k=7)&&!ef R)||(decide (dl k=3\/dl k=6\/dl k=7)&&!ef A)||(decide (dl k=6\/dl k=7)&&!ef B))=Nc:=fun c=>by unfold d7 at h;split at h<;>omega
theorem tC {r:Int}(h:ef r=Nc):0<=r/\r<12:=by unfold ef at h;simpa using h
theorem xz {k R A B n:Int}(h:d7 k R A B n=0)(b:dl k=1\/dl k=3\/dl k=7):0<=R/\R<12:=by
 refine tC ?_;cases c:ef R
 ·exact absurd (by rw[c,bv b];rfl) (tz h)
 ·rfl
theorem lV {k R A B n:Int}(h:d7 k R A B n=0)(b:dl k=3\/dl k=6\/dl k=7):0<=A/\A<12:=by
 refine tC ?_;cases c:ef A
 ·exact absurd (by rw[c,bv b];simp) (tz h)
 ·rfl
theorem mD {k R A B n:Int}(h:d7 k R A B n=0)(b:dl k=6\/dl k=7):0<=B/\B<12:=by
 refine tC ?_;cases c:ef B
 ·exact absurd (by rw[c,bv b];simp) (tz h)
 ·rfl
theorem pA (T:List cJ)(t:cJ)(i:Nat):X (T++[t]) i t0=if i=MZ T then t else X T i t0:=by grind
theorem oy (T:List cJ)(k:Int)(fl:List _)(i:Nat):cA (T++[(k,fl,K,K)]) i↔cA T i\/i=MZ T:=by grind [cA]
theorem DQ (g:List Bool->List Bool)(s:cn)(b_:Int)(mj:Bool):(s.cut g b_ mj).rs=s.rs:=by grind [cn.cut]
theorem xA (g:eg)(cj b_:Int)(s:cn)(m:Int):(s.room g cj b_ m).2.rs=s.rs:=by grind [DQ,cn.room]
theorem tD {k R A B n:Int}(h:d7 k R A B n=0):iu k n=0:=by grind [d7]
theorem xB {R A B n:Int}(h:d7 5 R A B n=0):0<=n/\n<=12:=by
 have b:=tD h
 grind [iu,hc]
theorem xC {R A B n:Int}(h:d7 1 R A B n=0):vc 1 n=0:=by have b:=tD h;assumption
section
variable {s:cn}{j:Nat}{g:eg}{cj b_:Int}
theorem dq.room (h:dq s j)(b:j<=10000)(hg:dB s.T s.wt (g s.T s.wt))(m:Int):dq (s.room g cj b_ m).2 j:=by grind [cut,cn.room]
theorem dq.put (h:dq s j){kd:Int}{fl:List _}(c:1<=kd)(d:kd<=5)(f:kd=3\/kd=4->MZ fl=2)(g:kd=5->fl=[])(k:∀v∈fl,fz s.T v)(hl:MZ fl<=12):dq (s.put kd fl) (j+1):=by
 have b:=oy s.T kd fl;have tr:∀v,fz s.T v->_:=fun v hv=>hv.mono (fun _ ha=>(b _).2 (aM ha))
 have gt:∀i,cA s.T i->X (s.T++[(kd,fl,K,K)]) i t0=X s.T i t0:=fun i hi=>by rw[pA,aI (by have:=hi.1;omega)]
 have l:X (s.T++[(kd,fl,K,K)]) (MZ s.T) t0=(kd,fl,K,K):=by simp_all
 have ev:∀e,mC s.T e->mC (s.T++[(kd,fl,K,K)]) e:=fun e he=>⟨⟨he.1.1,(b _).2 (aM he.1.2)⟩,(gt _ he.1.2▸he.2.1),he.2.2.1,(b _).2 (aM he.2.2.2)⟩
 unfold cn.put;refine {kd:=fun i hi=>?_,fl:=fun i hi hk=>?_,g5:=fun i hi hk=>?_,fv:=fun i hi v hv=>?_,tl:=fun i=>?_,rv:=fun v hv=>tr v (h.rv v hv),rl:=h.rl,gv:=fun e he=>ev e (h.gv e he),wv:=fun e he=>ev e (h.wv e he),en:=h.en,tj:=?_}
 ·rcases(b i).1 hi with hi|rfl
  ·rw[gt i hi];exact h.kd i hi
  grind
 ·rcases(b i).1 hi with hi|rfl
  all_goals grind [fl]
 ·rcases(b i).1 hi with hi|rfl
  all_goals grind [g5]
 ·rcases(b i).1 hi with hi|rfl
  ·rw[gt i hi] at hv;exact tr v (h.fv i hi v hv)
  ·simp_all
 ·grind [tl]
 simp_all [tj]
theorem dq.pB (h:dq s j)(b:j<=10000)(hg:dB s.T s.wt (g s.T s.wt)){kd:Int}{fl:List _}(c:1<=kd)(d:kd<=5)(e:kd=3\/kd=4->MZ fl=2)(f:kd=5->fl=[])(i:∀v∈fl,v∈s.rs\/v=(0,0))(hl:MZ fl<=12):
 dq (s.b_ g cj b_ kd fl).2.2 (j+1)/\fz (s.b_ g cj b_ kd fl).2.2.T (s.b_ g cj b_ kd fl).1:=by
 have hr:=h.room b hg (cj:=cj) (b_:=b_) (1+MZ fl)
 have hs:=xA g cj b_ s (1+MZ fl)
 unfold cn.b_;generalize s.room g cj b_ _=p at*;split
 ·dsimp only;refine⟨hr.put c d e f (fun v hv=>?_) hl,?_⟩
  ·grind [rv,ll]
  ·have k:=hr.tj;refine⟨oe _ aa aa,fun _=>⟨aa,?_⟩⟩
   grind [oy,cn.put]
 ·exact⟨hr.more aa,ll _⟩
theorem dq.pop (h:dq s j)(b:j<=10000)(v:Int×Int):dq (s.pop v).2.2 j/\fz (s.pop v).2.2.T (s.pop v).1:=by
 unfold cn.pop;split
 ·split
  ·rename_i c;have he:=h.wv _ (getD_in (x:=(0,0)) c)
   have hb:=he.2.2.2.1;have ht:=h.tj;refine⟨{h with wv:=fun e hm=>?_,en:=?_},oe _ he.2.2.1 (by grind),fun _=>he.2.2⟩
   ·grind [wv]
   ·have:=h.en
    grind
  grind [ll]
 grind [ll]
theorem DR {T:List cJ}{v:Int×Int}(hv:fz T v)(h:ie T v=Nc):(0<=v.2/\cA T (Na v.2))/\(X T (Na v.2) t0).1=5:=by obtain⟨b,c⟩:=pz.1 h;exact⟨hv.2 b,c⟩
theorem dq.reg (h:dq s j){t b:Int×Int}(ht:fz s.T t)(hd:fz s.T b):dq (s.reg t b).2 j:=by
 unfold cn.reg;split
 ·rename_i c;split
  ·omega
  ·obtain⟨q1,d⟩:=DR hd c.2;refine {h with gv:=fun e he=>?_,en:=?_}
   ·rcases bE.1 he with he|he
    ·grind [gv]
    ·rw[bQ.1 he];exact⟨q1,d,ht.2 c.1⟩
   grind
 omega
theorem DS (T:List cJ)(i q:Nat)(y:Int×Int)(k:Nat)(hi:i<MZ T):X (ig T i q y) k t0=if k=i then((X T i t0).1,(X T i t0).2.1.set q y,(X T i t0).2.2) else X T k t0:=by grind
theorem DT (T:List cJ)(i q:Nat)(y:Int×Int)(hi:i<MZ T)(k:Nat):cA (ig T i q y) k↔cA T k:=by grind [cA]
theorem dq.set (h:dq s j){v y:Int×Int}(I:Int)(hv:fz s.T v)(hy:fz s.T y):dq (s.set v I y).2 j:=by
 unfold cn.set;split
 ·rename_i c;have g:jy s.T v=Nc:=by grind [cn.fc]
  obtain⟨l,m⟩:=jq.1 g;obtain⟨_,ha⟩:=hv.2 l;generalize Na v.2=i at*;have hi:=ha.1;have d:=DT s.T i (Na I) y hi;have gt:=fun k=>DS s.T i (Na I) y k hi;have tr:∀v,fz s.T v->_:=fun v hv=>hv.mono (fun _ ha=>(d _).2 ha)
  have k1:∀k,(X (ig s.T i (Na I) y) k t0).1=(X s.T k t0).1:=fun k=>by grind
  have l1:∀k,MZ (X (ig s.T i (Na I) y) k t0).2.1=MZ (X s.T k t0).2.1:=fun k=>by grind
  have ev:∀e,mC s.T e->mC (ig s.T i (Na I) y) e:=fun e he=>⟨⟨he.1.1,(d _).2 he.1.2⟩,by rw[k1];exact he.2.1,he.2.2.1,(d _).2 he.2.2.2⟩
  refine {kd:=fun k hk=>?_,fl:=fun k hk hq=>?_,g5:=fun k hk hq=>?_,fv:=fun k hk x b=>?_,tl:=fun k=>?_,rv:=fun x b=>tr x (h.rv x b),rl:=h.rl,gv:=fun e he=>ev e (h.gv e he),wv:=fun e he=>ev e (h.wv e he),en:=h.en,tj:=?_}
  ·rw[k1];exact h.kd k (by grind)
  ·grind [fl]
  ·grind [g5]
  ·rw[gt k] at b;split at b
   ·rename_i e;rcases List.mem_or_eq_of_mem_set b with f|f
    ·exact tr x (h.fv i ha x f)
    ·simp_all
   ·exact tr x (h.fv k ((d k).1 hk) x b)
  ·grind [tl]
  simp_all [tj]
 omega
theorem dq.root (h:dq s j)(R:Nat){v:Int×Int}(hv:fz s.T v):dq {s with rs:=s.rs.set R v} j:=
 {
  h with
  rv:=fun x b=>(by grind [rv])
  rl:=by grind [rl]}
theorem tE (s:cn)(i:Nat):X s.rs i (0,0)∈s.rs\/X s.rs i (0,0)=(0,0):=by grind
theorem dq.rts (h:dq s j)(b:j<=10000)(hg:dB s.T s.wt (g s.T s.wt)){k R A B n:Int}(hc:d7 k R A B n=0)(I:Int):dq (s.rt g cj b_ k (Na A) (Na B) I n).2.2 (j+1)/\fz (s.rt g cj b_ k (Na A) (Na B) I n).2.2.T (s.rt g cj b_ k (Na A) (Na B) I n).1:=by
 have hs:=h.more (nC j)
 have two:∀v∈[X s.rs (Na A) (0,0),X s.rs (Na B) (0,0)],v∈s.rs\/v=(0,0):=fun v hv=>by
  have:v=X s.rs (Na A) (0,0)\/v=X s.rs (Na B) (0,0):=by simpa using hv
  rcases this with rfl|rfl
  ·exact tE s _
  ·exact tE s _
 have t:∀x:Int,-1152921504606846976<=x->x<1152921504606846976->fz s.T (1,x):=fun x w F=>⟨by simp[vc,rc];omega,fun h=>by cases h⟩
 unfold cn.rt;by_cases k1:k=1
 ·rw[aJ k1];subst k1;exact⟨hs,xC hc,fun h=>by cases h⟩
 rw[aI k1];by_cases d:k=3
 ·rw[aJ d];exact⟨hs,h.rt _⟩
 rw[aI d];by_cases f:k=4
 ·rw[aJ f];exact h.pB b hg ae ae ac ac two ac
 rw[aI f];by_cases k5:k=5
 ·rw[aJ k5];subst k5;have hn:=xB hc;exact h.pB b hg ae ae ac ac (fun v hv=>((List.mem_replicate.1 hv).2▸tE s _)) (by simp_all)
 rw[aI k5];by_cases k6:k=6
 ·rw[aJ k6];exact h.pB b hg ae ae ac ac two ac
 rw[aI k6];by_cases i:k=7
 ·rw[aJ i];exact h.pB b hg ae ae ac ac two ac
 rw[aI i];by_cases l:k=8
 ·rw[aJ l];exact h.pB b hg ae ae ac ac ac ac
 rw[aI l];by_cases m:k=10
 ·rw[aJ m];have:=h.pop b (X s.rs (Na A) (0,0))
  exact⟨this.1.more (nC _),this.2⟩
 rw[aI m];by_cases o:k=11
 ·rw[aJ o];refine⟨hs,?_⟩
  split
  ·rename_i c;by_cases e:jy s.T (X s.rs (Na A) (0,0))=Nc
   ·obtain⟨u,_⟩:=jq.1 e;by_cases ci:Na I<MZ (X s.T (Na (X s.rs (Na A) (0,0)).2) t0).2.1
    ·exact h.fv _ ((h.rt (Na A)).2 u).2 _ (getD_in ci)
    ·rw[aL,List.getElem?_eq_none aa];exact ll _
   ·unfold cn.fc at c;rw[aI e] at c;omega
  ·exact ll _
 rw[aI o];by_cases p:k=13
 ·rw[aJ p];split
  ·refine⟨hs,t _ aa ?_⟩
   have:=h.tl (Na (X s.rs (Na A) (0,0)).2);omega
  ·exact⟨hs,ll _⟩
 rw[aI p];by_cases q:k=14
 ·rw[aJ q];refine⟨hs,?_⟩
  split
  ·simp_all
  ·simp_all
 rw[aI q];exact⟨hs,ll _⟩
theorem dq.fY (h:dq s j)(b:j<=10000)(hg:dB s.T s.wt (g s.T s.wt))(k R A B I n:Int):dq (s.fY g cj b_ k R A B I n).2 (j+1):=by
 have hs:=nC j;unfold cn.fY;by_cases hc:d7 k R A B n=0
 ·rw[aJ hc];split
  ·grind [more,reg,rt]
  ·split
   ·grind [more,set,rt]
   ·split
    ·exact(h.cut b hg _ _).more hs
    ·split
     ·exact(h.cut b hg _ _).more hs
     grind [rts,root]
 grind [more]
end
theorem dq.start:dq ⟨[],Ni 12 (0,0),[],[]⟩ 0:=
 ⟨fun i hi=>absurd hi.1 ac,fun i hi=>absurd hi.1 ac,fun i hi=>absurd hi.1 ac,fun i hi=>absurd hi.1 ac,fun i=>by simp[t0],fun v hv=>by grind [ll],ac,fun e he=>by grind,fun e he=>by grind,ac,ac⟩
open Go.RowKit W
def hB (b u a:Int):Bool:=decide (b<=a/\a<b+u)
theorem jU {b u a:Int}(h:hB b u a=Nc):b<=a/\a<b+u:=by simpa[hB] using h
def dw (N y g:Nat)(a:Int):Bool:=hB 0 y a||hB N g a
def ld (N y g:Nat)(ws:List Int)(a:Int):Int:=if dw N y g a=Nc then X ws (Na a) 0 else 0
theorem jV {N O y g:Nat}{a:Int}(h:dw N y g a=Nc)(hy:y<=N)(hg:g<=O):0<=a/\a<(N:Int)+O:=by
 rcases Bool.or_eq_true _ _▸h with h|h
 ·have:=jU h;omega
 ·have:=jU h;omega
theorem mE (b s u:Int)(w:az)(hb:0<=b)(c:b<=100000)(d:0<=u)(f:u<=100000):
 J Ng 170 #[bF #[ak b,ak s,ak u]] w fun e w'=>e=E (ak (b+u))/\C (M3 (G w)) w w':=by
 exact kH
theorem pC (b s u:Int)(w:az)(hb:0<=s)(c:s<=100000)(d:0<=u)(f:u<=100000):
 J Ng 169 #[bF #[ak b,ak s,ak u]] w fun e w'=>e=E (ak (s-u))/\C (M3 (G w)) w w':=by
 exact kH
theorem xD (b s u a:Int)(w:az)(hb:0<=b)(c:b<=100000)(d:0<=u)(f:u<=100000):
 J Ng 174 #[bF #[ak b,ak s,ak u],ak a] w fun e w'=>e=E (bK (hB b u a))/\C (M3 (G w)) w w':=by
 by_cases h:b<=a
 ·have e:hB b u a=decide (a<b+u):=by simp[hB,h]
  rw[e];go_enter func174,ntmps174;go_wp2_with fail;refine(mE b s u _ hb c d f).mono ?_;rintro e w1 ⟨rfl,g⟩
  go_wp2;go_ret;exact⟨rfl,(b9.alloc b8 _).trans (g.mono ac)⟩
 ·have e:hB b u a=K:=by simp[hB,h]
  rw[e];exact kH
theorem nt {p q N O y g:Nat}{ws:List Int}(a:Int)(w:az)(h:At w p q N O y g ws):
 J Ng 95 #[aq p,ak a] w fun e w'=>e=E (bK (hB 0 y a))/\C (M3 (G w)) w w':=by
 obtain⟨c0,c1,c2,c3,c4,c5,b⟩:=h.cells;have k1:=h.hN';have c:=h.hy;go_enter func95,ntmps95;go_wp2_with fail;refine(xD 0 N y a _ aa aa aa aa).mono ?_;exact qD
theorem nu {p q N O y g:Nat}{ws:List Int}(a:Int)(w:az)(h:At w p q N O y g ws):
 J Ng 96 #[aq p,ak a] w fun e w'=>e=E (bK (hB N g a))/\C (M3 (G w)) w w':=by
 obtain⟨c0,c1,c2,c3,c4,c5,b⟩:=h.cells;have k1:=h.hN';have c:=h.hO;have d:=h.hg;go_enter func96,ntmps96;go_wp2_with fail;refine(xD N O g a _ aa aa aa aa).mono ?_;exact qD
theorem qL {p q N O y g:Nat}{ws:List Int}(a:Int)(w:az)(h:At w p q N O y g ws):
 J Ng 172 #[aq p,ak a] w fun e w'=>e=E (bK (dw N y g a))/\C (M3 (G w)) w w':=by
 cases hy:hB 0 y a
 ·have e:dw N y g a=hB N g a:=by simp[dw,hy]
  rw[e];have b:=hide hy;go_enter func172,ntmps172;go_wp2_with fail;refine(nt a _ h).mono ?_;rintro e w1 ⟨rfl,hb1⟩
  rw[b.o];go_wp2_with fail;refine(nu a _ (h.below hb1 b8)).mono ?_;rintro e d ⟨rfl,c⟩
  go_wp2;go_ret;exact⟨rfl,hb1.trans (c.mono hb1.size)⟩
 ·have e:dw N y g a=Nc:=by simp[dw,hy]
  rw[e];go_enter func172,ntmps172;go_wp2_with fail;refine(nt a _ h).mono ?_;exact qD
theorem ki {p q N O y g:Nat}{ws:List Int}(a:Int)(w:az)(h:At w p q N O y g ws):
 J Ng 98 #[aq p,ak a] w fun e w'=>e=E (ak (ld N y g ws a))/\C (M3 (G w)) w w':=by
 cases hi:dw N y g a
 ·have e:ld N y g ws a=0:=by simp[ld,hi]
  rw[e];have c:=hide hi;go_enter func98,ntmps98;go_wp2_with fail;refine(qL a _ h).mono ?_;rintro e w1 ⟨rfl,b⟩
  rw[c.o];go_wp2;go_ret;exact⟨rfl,b⟩
 ·have e:ld N y g ws a=X ws (Na a) 0:=by simp[ld,hi]
  rw[e];obtain⟨f,i⟩:=jV hi h.hy h.hg;have c:=hide hi;clear hi;go_enter func98,ntmps98;go_wp2_with fail;refine(qL a _ h).mono ?_;rintro e w1 ⟨rfl,b⟩
  rw[c.o];have d:=h.below b b8
  obtain⟨c0,c1,c2,c3,c4,c5,j⟩:=d.cells;have k:=d.word (Na a) aa;go_wp2;go_ret;exact⟨rfl,b⟩
theorem lW {p q N O y g:Nat}{ws:List Int}(a x:Int)(w:az)(h:At w p q N O y g ws):
 J Ng 93 #[aq p,ak a,ak x] w fun e w'=>e=E (bK (dw N y g a))/\At w' p q N O y g (if dw N y g a=Nc then ws.set (Na a) x else ws)/\dj p q w w':=by
 cases hi:dw N y g a
 ·rw[aI ac];have d:=hide hi;go_enter func93,ntmps93;go_wp2_with fail;refine(qL a _ h).mono ?_;rintro e w1 ⟨rfl,b⟩
  rw[d.o];go_wp2;go_ret;exact⟨rfl,h.below b b8,dj.of b⟩
 ·rw[aJ rfl];obtain⟨f,i⟩:=jV hi h.hy h.hg;go_enter func93,ntmps93;go_wp2_with fail;refine(qL a _ h).mono ?_;rintro e w1 ⟨rfl,b⟩
  have c:=h.below b b8
  obtain⟨c0,c1,c2,c3,c4,c5,j⟩:=c.cells;have k:=c.word (Na a) aa;have l:=c.sY (Na a);go_wp2;go_ret;exact⟨rfl,c.set (Na a) x,(dj.of b).trans (dj.sX _ _)⟩
theorem gO {p q N O y g:Nat}{ws:List Int}(a:Int)(w:az)(h:At w p q N O y g ws):
 J Ng 102 #[aq p,ak a] w fun e w'=>e=E (a8 #[ak (pk (ld N y g ws a)),ak (pf (ld N y g ws a)),ak (pc (ld N y g ws a))])/\C (M3 (G w)) w w':=by
 go_enter func102,ntmps102;go_wp2_with fail;refine(ki a _ h).mono ?_;rintro e w1 ⟨rfl,b⟩
 go_wp2_with fail;refine(Dw _ _).mono ?_;rintro e c ⟨rfl,rfl⟩
 go_wp2
 go_ret3
 exact⟨rfl,b⟩
theorem lq {p q N O y g:Nat}{ws:List Int}(w:az)(h:At w p q N O y g ws):
 J Ng 22 #[aq p] w fun e w'=>e=E (a8 #[ak y,ak g])/\C (M3 (G w)) w w':=by
 obtain⟨c0,c1,c2,c3,c4,c5,b⟩:=h.cells;exact ta
theorem ny {p q N O y g:Nat}{ws:List Int}(w:az)(h:At w p q N O y g ws):
 J Ng 86 #[aq p] w fun e w'=>e=E (a8 #[ak 0,ak N])/\C (M3 (G w)) w w':=by
 obtain⟨c0,c1,c2,c3,c4,c5,b⟩:=h.cells;exact ta
theorem xE {p q N O y g:Nat}{ws:List Int}(w:az)(h:At w p q N O y g ws):
 J Ng 114 #[aq p] w fun e w'=>e=E (a8 #[])/\At w' p q N O 0 g ws/\dj p q w w':=by
 obtain⟨c0,c1,c2,c3,c4,c5,b⟩:=h.cells;have c:=h.frozen 3;go_wp2;go_end0;exact⟨rfl,h.w8 0 (a5 _),dj.pu _ _⟩
theorem DU {p q N O y g:Nat}{ws:List Int}(n:Int)(w:az)(h:At w p q N O y g ws)(h0:0<=n)(b:n<=O):
 J Ng 163 #[aq p,ak n] w fun e w'=>e=E (a8 #[])/\At w' p q N O y (Na n) ws/\dj p q w w':=by
 obtain⟨n,rfl⟩:=bH h0;obtain⟨c0,c1,c2,c3,c4,c5,c⟩:=h.cells;have d:=h.frozen 6;go_wp2;go_end0;exact⟨rfl,h.w9 n aa,dj.pu _ _⟩
theorem DV {p q N O y g:Nat}{ws:List Int}(n:Int)(w:az)(h:At w p q N O y g ws)(h0:0<=n)(j:n<=(N:Int)-y):
 J Ng 90 #[bJ (Z ⟨p,1,M9⟩),ak n] w fun e w'=>e=E (a8 #[ak y,bK Nc])/\At w' p q N O (y+Na n) g ws/\dj p q w w':=by
 obtain⟨n,rfl⟩:=bH h0;obtain⟨c0,c1,c2,c3,c4,c5,c⟩:=h.cells;have k1:=h.hN';have k:=h.hy;go_enter func90,ntmps90;go_wp2_with fail;refine(pC 0 N y _ aa aa aa aa).mono ?_;rintro e w1 ⟨rfl,d⟩
 have f:=h.below d b8
 obtain⟨c0,c1,c2,c3,c4,c5,c⟩:=f.cells;go_wp2_with fail;refine(mE 0 N y _ aa aa aa aa).mono ?_;rintro e l ⟨rfl,i⟩
 have b:=f.below i b8
 obtain⟨c0,c1,c2,c3,c4,c5,c⟩:=b.cells;have m:=b.frozen 3;go_wp2_with fail;go_ret2;exact⟨ac,b.w8 (y+n) aa,((dj.of d).trans (dj.of i)).trans (dj.pu _ _)⟩
theorem DW {p q N O y g:Nat}{ws:List Int}(n:Int)(w:az)(h:At w p q N O y g ws)(h0:(N:Int)-y<n):
 J Ng 90 #[bJ (Z ⟨p,1,M9⟩),ak n] w fun e w'=>e=E (a8 #[ak 0,bK K])/\C (M3 (G w)) w w':=by
 obtain⟨c0,c1,c2,c3,c4,c5,c⟩:=h.cells;have k1:=h.hN';have d:=h.hy;go_enter func90,ntmps90;go_wp2_with fail;refine(pC 0 N y _ aa aa aa aa).mono ?_;rintro e w1 ⟨rfl,b⟩
 go_wp2;go_ret2;exact⟨rfl,b⟩
theorem DX {p q N O y g:Nat}{ws:List Int}(n:Int)(w:az)(h:At w p q N O y g ws)(h0:0<=n)(j:n<=(O:Int)-g):
 J Ng 90 #[bJ (Z ⟨p,4,M9⟩),ak n] w fun e w'=>e=E (a8 #[ak (N+g:Nat),bK Nc])/\At w' p q N O y (g+Na n) ws/\dj p q w w':=by
 obtain⟨n,rfl⟩:=bH h0;obtain⟨c0,c1,c2,c3,c4,c5,c⟩:=h.cells;have k1:=h.hN';have k:=h.hg;have l:=h.hO;go_enter func90,ntmps90;go_wp2_with fail;refine(pC N O g _ aa aa aa aa).mono ?_;rintro e w1 ⟨rfl,d⟩
 have f:=h.below d b8
 obtain⟨c0,c1,c2,c3,c4,c5,c⟩:=f.cells;go_wp2_with fail;refine(mE N O g _ aa aa aa aa).mono ?_;rintro e m ⟨rfl,i⟩
 have b:=f.below i b8
 obtain⟨c0,c1,c2,c3,c4,c5,c⟩:=b.cells;have o:=b.frozen 6;go_wp2_with fail;go_ret2;exact⟨ac,b.w9 (g+n) aa,((dj.of d).trans (dj.of i)).trans (dj.pu _ _)⟩
theorem DY {p q N O y g:Nat}{ws:List Int}(n:Int)(w:az)(h:At w p q N O y g ws)(h0:(O:Int)-g<n):
 J Ng 90 #[bJ (Z ⟨p,4,M9⟩),ak n] w fun e w'=>e=E (a8 #[ak 0,bK K])/\C (M3 (G w)) w w':=by
 obtain⟨c0,c1,c2,c3,c4,c5,c⟩:=h.cells;have d:=h.hg;have f:=h.hO;go_enter func90,ntmps90;go_wp2_with fail;refine(pC N O g _ aa aa aa aa).mono ?_;rintro e w1 ⟨rfl,b⟩
 go_wp2;go_ret2;exact⟨rfl,b⟩
theorem pD {p q N O y g:Nat}{ws:List Int}(w:az)(h:At w p q N O y g ws):
 J Ng 105 #[aq p] w fun e w'=>e=E (a8 #[ak ((N:Int)-y),ak ((O:Int)-g)])/\C (M3 (G w)) w w':=by
 obtain⟨c0,c1,c2,c3,c4,c5,f⟩:=h.cells;have k1:=h.hN';have i:=h.hg;have j:=h.hO;have k:=h.hy;go_enter func105,ntmps105;go_wp2_with fail
 go_region_with (go_at_call 169;refine(pC _ _ _ _ aa aa aa aa).mono ?_;rintro e w1 ⟨rfl,b⟩;have d:At w1 p q N O y g ws:=(by first|exact h.drew.below b b8|exact d.below b b8);have c:C (M3 (G w)) w w1:=(by first|exact(aH _ w).drew.trans b|exact c.trans (b.mono c.size));obtain⟨c0,c1,c2,c3,c4,c5,f⟩:=d.cells)
 all_goals
  go_wp2_with fail;go_ret2;exact⟨rfl,c⟩
theorem xF:(prog.info? 2).map (fun i=>(i.zero,i.size,i.bytes))=Z (Z (ak 0),1,8):=ah
theorem xG {w:az}{b k n:Nat}(h:aC w b 2 1 (M0 (au k) n n) n (madeCells (Value.int Q 0).cells (n*1)).toList):
 w.heap[k]?=Z (M5 ((Ni n (0:Int)).map (Value.int Q)).toArray 2 (0,0)):=by
 exact xh
theorem tH {w:az}{k:Nat}(o:Obj)(h:M3 (G w)=k):(w.alloc o).heap[k]?=Z o:=by subst h;exact aP _ _
theorem DZ {w w1:az}{a b:bD}{t:bU}(hg:(w.alloc (M5 #[a,b] t)).grownBy w1 M9):
 V w1 (av (M3 (G w)) 0)=Z a/\V w1 (av (M3 (G w)) 1)=Z b/\w1.frozen? (av (M3 (G w)) 0)=K/\w1.frozen? (av (M3 (G w)) 1)=K/\M3 (G w)<M3 (G w1):=by
 have hb:=hg.block (M3 (G w)) ac ac;have hz:=hg.size;rw[(aP _ _)] at hb;refine⟨?_,?_,?_,?_,by simp at hz;omega⟩<;>simp[World.cell?,World.frozen?,hb]
theorem D0 (n o:Int)(w:az)(h0:16<=n)(k:n<=256)(c:0<=o)(l:o<=1024):
 J Ng 85 #[ak n,ak o] w fun e w'=>∃p q,e=E (a8 #[aq p,bF #[ak 0,ak 0]])/\At w' p q (Na n) (Na o) 0 0 (Ni (Na n+Na o) 0)/\M3 (G w)<=p/\M3 (G w)<=q/\C (M3 (G w)) w w':=by
 obtain⟨n,rfl⟩:=bH (show 0<=n by omega)
 obtain⟨o,rfl⟩:=bH c;simp only [bI];obtain⟨d,hi,f,g,i⟩:=info_parts xF;go_enter func85,ntmps85;go_wp2_with (at_make;refine wpList_make_full _ rfl _ _ 53 rfl (M3 (G w)) 2 d (ak 0) 1 underlying53 hi f g Q Q _ _ (n+o) rfl rfl aa aa (by rw[i];omega) (by unfold maxLen;omega) ac ?_;intro w1 j b;obtain⟨c0,c1,m,s,hz⟩:=DZ b)
 have hr:=xG j;simp only [World.size_alloc] at hr;have t:=lt_of_some hr;refine a6 (v:=a8 #[aq (M3 (G w1)),bF #[ak 0,ak 0]]) (by simp[results,results85,go_sem,c0,c1,hz]) rfl ⟨M3 (G w1),M3 (G w)+1,rfl,⟨?_,?_,ac,aa,aa,aa,aa,aa⟩,aa,aa,?_⟩
 ·exact tH _ (by simp[World.setCell])
 ·refine(aS _ _ _ (by simp[World.setCell];omega)).trans ?_;rw[aX _ _ _ _ ac,aX _ _ _ _ ac];exact hr
 ·refine Below.alloc (Below.setCell (Below.setCell ?_ ?_ _) ?_ _) ?_ _
  ·exact(b9.alloc b8 _).grown b ac (fun _ h=>by cases h)
  ·exact aG _
  ·exact aG _
  ·simp[World.setCell];omega
theorem D1 (n o:Int)(w:az)(h:n<16\/256<n\/o<0\/1024<o):
 J Ng 85 #[ak n,ak o] w fun e w'=>e=E (a8 #[bJ M9,bF #[ak 1,ak (-1)]])/\C (M3 (G w)) w w':=by
 by_cases b:n<16
 ·go_enter func85,ntmps85;exact s_
 by_cases c:256<n
 ·go_enter func85,ntmps85;exact s_
 by_cases d:o<0
 ·go_enter func85,ntmps85;exact s_
 have f:1024<o:=aa;go_enter func85,ntmps85;go_wp2_with fail;exact a6 (v:=a8 #[bJ M9,bF #[ak 1,ak (-1)]]) (by simp[results,results85,go_sem]) rfl ⟨rfl,b9.alloc b8 _⟩
def fZ (ws:List Int)(y:Nat)(hd:Int):Nat->List Int
 |0=>ws.set y hd
 |k+1=>(fZ ws y hd k).set (y+1+k) 2
theorem bA (n:Int):Go.IntKind.i64.wrap n = (n + 9223372036854775808) % 18446744073709551616 - 9223372036854775808:=IntKind.wrap_i64 ..
theorem D2 {p q N O y g:Nat}{ws:List Int}(k f:Int)(w:az)(h:At w p q N O y g ws)(hk:hc k f=0)(hr:f+1<=(N:Int)-y):
 J Ng 41 #[aq p,ak k,ak f] w fun e w'=>e=E (ak y)/\At w' p q N O (y+1+Na f) g (fZ ws y (hw k f) (Na f))/\dj p q w w':=by
 obtain⟨_,_,o,s⟩:=jo k f hk;obtain⟨f,rfl⟩:=bH o;simp only [bI];have H:aA (hc k f=0):=hk;clear hk;have k1:=h.hN';have t:=h.hy;have u:=h.hO;have v:=h.hg;go_enter func41,ntmps41;go_wp2_with fail;refine(pt k f _).mono ?_;rintro e w1 ⟨rfl,rfl⟩
 rw[H.o];obtain⟨c0,c1,c2,c3,c4,c5,d⟩:=h.cells;go_wp2_with fail;refine(DV (1+f) _ h aa aa).mono ?_;rintro e x ⟨rfl,b,s2⟩
 rw[show Na (1+(f:Int))=1+f by omega] at b;obtain⟨c0,c1,c2,c3,c4,c5,d⟩:=b.cells;have l:=b.word y aa;have m:=b.sY y;have b1:(y:Int)<((N+O:Nat):Int):=aa;go_wp2_with fail
 go_loopw [39] (fun i wr=>∃j:Nat,j<=f/\i=ak j/\At wr p q N O (y+(1+f)) g (fZ ws y (hw k f) j)/\dj p q w1 wr) (fun i _=>f-Na (intOf i))
 case atStart=>exact⟨0,a5 _,rfl,b.set y _,s2.trans (dj.sX _ _)⟩
 case round=>
  obtain⟨j,B,rfl,c,n⟩:=hrel;clear c0 c1 c2 c3 c4 c5 d l m;obtain⟨c0,c1,c2,c3,c4,c5,d⟩:=c.cells;by_cases F:j<f
  ·have l:=c.word (y+1+j) aa;have m:=c.sY (y+1+j)
   have b2:(y:Int)+1+j<((N+O:Nat):Int):=aa;go_wp2_with fail;have b3:(0:Int)<=(y:Int)+1+j:=aa;have b4:Na ((y:Int)+1+j)=y+1+j:=aa;have b5:(y:Int)+1+j<(N:Int)+O:=aa;have b6:IntKind.i64.wrap ((y:Int)+1)=(y:Int)+1:=by rw[bA];omega
   have S:IntKind.i64.wrap ((y:Int)+1+j)=(y:Int)+1+j:=by rw[bA];omega
   go_region_with (go_at_call 47;refine(sV _).mono ?_;rintro e W ⟨rfl,rfl⟩)
   all_goals
    go_wp2_with fail;go_roundw
    case rel=>exact⟨j+1,aa,aj,c.drew.set _ _,n.drew.trans (dj.sX _ _)⟩
    case measure=>simp[intOf];omega
  ·go_wp2_with fail;go_ret;have e:j=f:=aa;subst e;exact⟨rfl,by rw[Nat.add_assoc];exact c,n⟩
theorem D3 {p q N O y g:Nat}{ws:List Int}(k f:Int)(w:az)(h:At w p q N O y g ws)(hk:hc k f≠0\/(N:Int)-y<f+1):
 J Ng 41 #[aq p,ak k,ak f] w fun e w'=>e=E (ak (-1))/\C (M3 (G w)) w w':=by
 by_cases c:hc k f=0
 ·obtain⟨_,_,b,d⟩:=jo k f c;go_enter func41,ntmps41;go_wp2_with fail;refine(pt k f _).mono ?_;rintro e w1 ⟨rfl,rfl⟩
  rw[(hide c).o];obtain⟨c0,c1,c2,c3,c4,c5,i⟩:=h.cells;go_wp2_with fail;refine(DW (1+f) _ h aa).mono ?_;rintro e j ⟨rfl,hb⟩
  go_wp2;go_ret;exact⟨rfl,hb⟩
 ·go_enter func41,ntmps41;go_wp2_with fail;refine(pt k f _).mono ?_;rintro e w1 ⟨rfl,rfl⟩
  go_wp2;go_ret;exact⟨rfl,aH _ _⟩
end Go.Proofs.YtpkjkjhanlbcoaaGreat
