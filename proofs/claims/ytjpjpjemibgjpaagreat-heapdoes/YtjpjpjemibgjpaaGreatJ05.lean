import Derived.Test.YtjpjpjemibgjpaaGreatJ04
namespace Go.Proofs.YtjpjpjemibgjpaaGreat
set_option maxRecDepth 100000
set_option maxHeartbeats 2000000
open Tryz
open Go.RowKit W Kp cg
theorem w6 {P:Prop}(h:P:=by
 rcases bB hy with hy|hy
 ·exact aJ ⟨y,hy,hl,o,e⟩
 ·subst hy;have e:a2=some ⟨k,o,none⟩:=e;exact aI (ce hr k (by rw[e];rfl)).1):P:=h
theorem w7 {P:Prop}(h:P:=by
 have:=hi;rw[<-h.nd,iu,bq] at this
 obtain⟨x,hx,e⟩:=Option.map_eq_some_iff.1 this
 exact⟨x,hx,e⟩):P:=h
theorem w8 {P:Prop}(h:P:=by
 rw[aC,aC,List.getElem?_set];split
 ·rename_i e;subst e;rfl
 ·rfl):P:=h
def dq (L:List Bool)(v:Int×Int):Bool:=!(v.1==3)||L.getD v.2.toNat false
def el (L:List Bool)(v:Int×Int):List Bool:=if dq L v=true then L else L.set v.2.toNat true
def t0:cG:=(0,[],false,false)
def f3 (T:List cG)(wt:List bZ)(X:Nat->Prop)(i:Nat)(v:Int×Int):Prop:=
 (((T.getD i t0).1=1\/(T.getD i t0).1=2)/\v∈(T.getD i t0).2.1)\/((T.getD i t0).1=3/\v=(T.getD i t0).2.1.getD 1 (0,0))\/
 ((T.getD i t0).1=4/\(((T.getD i t0).2.1.getD 0 (0,0)).1=3->X ((T.getD i t0).2.1.getD 0 (0,0)).2.toNat)/\v=(T.getD i t0).2.1.getD 1 (0,0))\/
 ((T.getD i t0).1=5/\∃e∈wt,e.1=i/\v=(3,e.2))
theorem f3.mono {T:List cG}{wt:List bZ}{X Y:Nat->Prop}(b:∀i,X i->Y i){i:Nat}{v:Int×Int}(h:f3 T wt X i v):f3 T wt Y i v:=by
 rcases h with h|h|⟨d,e,f⟩|h
 ·exact aJ h
 ·exact aI (aJ h)
 ·exact aI (aI (aJ ⟨d,fun c=>b _ (e c),f⟩))
 ·exact aI (aI (aI h))
def fG (T:List cG)(wt:List bZ)(X:Nat->Prop):Prop:=∀i,i<T.length->X i->∀v,f3 T wt X i v->v.1=3->X v.2.toNat
def cu (L:List Bool):Nat->Prop:=fun i=>L.getD i false=true
structure jz (T:List cG)(wt:List bZ)(is out:List Bool):Prop where
 len:out.length=is.length
 up:∀i,cu is i->cu out i
 cl:fG T wt (cu out)
 lt:∀X,fG T wt X->(∀i,cu is i->X i)->∀i,cu out i->X i
theorem Dl (L:List Bool)(v:Int×Int):(el L v).length=L.length:=by
 unfold el;split
 ·rfl
 ·rw[aX]
theorem oG {L:List Bool}{v:Int×Int}(h:dq L v=false):v.1=3/\L.getD v.2.toNat false=false:=by unfold dq at h;rw[Bool.or_eq_false_iff] at h;exact⟨by simpa using h.1,h.2⟩
theorem mC {L:List Bool}{v:Int×Int}(h:dq L v=true):v.1=3->cu L v.2.toNat:=fun b=>by unfold dq at h;rw[b] at h;unfold cu;simpa using h
theorem kn (L:List Bool)(i j:Nat)(h:i<L.length):(L.set i true).getD j false=if i=j then true else L.getD j false:=by exact w8
theorem cu.lt {L:List Bool}{i:Nat}(h:cu L i):i<L.length:=by
 unfold cu at h;by_cases c:i<L.length
 ·exact c
 ·rw[aC,List.getElem?_eq_none V] at h;cases h
def cnt (L:List Bool):Nat:=(L.filter (fun b=>!b)).length
theorem w9:∀(L:List Bool)(i:Nat),L.getD i true=false->cnt (L.set i true)+1=cnt L
 |[],i,h=>by simp at h
 |b::L,0,h=>by
  have h:b=false:=by simpa using h
  subst h;simp[cnt]
 |b::L,i+1,h=>by
  have h:L.getD i true=false:=by simpa using h
  have c:=w9 L i h;unfold cnt at c⊢;rw[List.set_cons_succ];cases b
  ·simp only [Bool.not_false,List.filter_cons_of_pos,List.length_cons];omega
  ·exact c
theorem oH (L:List Bool)(v:Int×Int)(i:Nat)(h:cu L i):cu (el L v) i:=by
 unfold el;split
 ·exact h
 ·unfold cu at h⊢;by_cases c:v.2.toNat<L.length
  ·rw[kn _ _ _ c];split
   ·rfl
   ·exact h
  ·rw[List.set_eq_of_length_le V];exact h
theorem p7 {L:List Bool}{v:Int×Int}(c:v.1=3->v.2.toNat<L.length):v.1=3->cu (el L v) v.2.toNat:=fun b=>by
 cases h:dq L v
 ·unfold el;rw[aE (by rw[h];simp)];unfold cu;rw[kn _ _ _ (c b),aH rfl]
 ·unfold el;rw[aH h];exact mC h b
theorem Dm {L:List Bool}{v:Int×Int}{X:Nat->Prop}(h:∀i,cu L i->X i)(b:v.1=3->X v.2.toNat):∀i,cu (el L v) i->X i:=fun i hi=>by
 cases hs:dq L v
 ·unfold el at hi;rw[aE (by rw[hs];simp)] at hi;unfold cu at hi;by_cases c:v.2.toNat<L.length
  ·rw[kn _ _ _ c] at hi;split at hi
   ·rename_i e;rw[<-e];exact b (oG hs).1
   ·exact h i hi
  ·rw[List.set_eq_of_length_le V] at hi;exact h i hi
 ·unfold el at hi;rw[aH hs] at hi;exact h i hi
theorem Do {L:List Bool}{v:Int×Int}(c:v.1=3->v.2.toNat<L.length)(h:dq L v=false):cnt (el L v)<cnt L:=by
 obtain⟨d,b⟩:=oG h;unfold el;rw[aE (by rw[h];simp)];have e:L.getD v.2.toNat true=false:=by rw[aC,aG (c d)] at b⊢;simpa using b
 have:=w9 L v.2.toNat e;omega
structure fg (T:List cG)(wt:List bZ)(is P0 L:List Bool)(more:Bool)(i:Nat):Prop where
 len:L.length=is.length
 up:∀k,cu is k->cu L k
 lt:∀X,fG T wt X->(∀k,cu is k->X k)->∀k,cu L k->X k
 no:more=false->L=P0/\∀k,k<i->k<T.length->cu L k->∀v,f3 T wt (cu L) k v->v.1=3->cu L v.2.toNat
 yes:more=true->cnt L<cnt P0
theorem fg.add {T:List cG}{wt:List bZ}{is c L:List Bool}{more:Bool}{i:Nat}(h:fg T wt is c L more i)(hi:i<T.length)(f:cu L i){v:Int×Int}(hk:f3 T wt (cu L) i v)(g:v.1=3->v.2.toNat<L.length):fg T wt is c (el L v) (!dq L v||more) i:=by
 refine⟨(Dl L v).trans h.len,fun k hk=>oH L v k (h.up k hk),fun X b d k j=>Dm (h.lt X b d) (fun l=>b i hi (h.lt X b d i f) v (hk.mono (h.lt X b d)) l) k j,fun hm=>?_,fun hm=>?_⟩
 ·rw[Bool.or_eq_false_iff] at hm;obtain⟨m1,m⟩:=hm;have m1:dq L v=true:=by simpa using m1
  have e:el L v=L:=by unfold el;rw[aH m1]
  rw[e];exact h.no m
 ·cases hs:dq L v
  ·have n:=Do g hs;have o:cnt L<=cnt c:=by
    cases more
    ·rw[(h.no rfl).1];exact aA _
    ·exact Nat.le_of_lt (h.yes rfl)
   omega
  ·have e:el L v=L:=by unfold el;rw[aH hs]
   rw[e];rw[hs] at hm;exact h.yes (by simpa using hm)
theorem fg.next {T:List cG}{wt:List bZ}{is b L:List Bool}{more:Bool}{i:Nat}(h:fg T wt is b L more i)(j:more=false->i<T.length->cu L i->∀v,f3 T wt (cu L) i v->v.1=3->cu L v.2.toNat):fg T wt is b L more (i+1):=
 ⟨h.len,h.up,h.lt,fun hm=>⟨(h.no hm).1,fun k hk d e v f g=>by
  by_cases c:k<i
  ·exact(h.no hm).2 k c d e v f g
  ·obtain rfl:k=i:=V;exact j hm d e v f g⟩,h.yes⟩
theorem fg.start {T:List cG}{wt:List bZ}{is b:List Bool}(c:b.length=is.length)(d:∀k,cu is k->cu b k)(e:∀X,fG T wt X->(∀k,cu is k->X k)->∀k,cu b k->X k):fg T wt is b b false 0:=
 ⟨c,d,e,fun _=>⟨rfl,fun k hk=>absurd hk V⟩,fun h=>by cases h⟩
theorem fg.done {T:List cG}{wt:List bZ}{is b L:List Bool}(h:fg T wt is b L false T.length):jz T wt is L:=
 ⟨h.len,h.up,fun i hi c v d e=>(h.no rfl).2 i hi hi c v d e,h.lt⟩
def cH (T:List cG)(i:Nat):Prop:=i<T.length/\(T.getD i t0).2.2.2=false
structure gy (T:List cG)(wt:List bZ):Prop where
 fl:∀i,cH T i->(T.getD i t0).1=3\/(T.getD i t0).1=4->(T.getD i t0).2.1.length=2
 fv:∀i,cH T i->∀v∈(T.getD i t0).2.1,v.1=3->0<=v.2/\cH T v.2.toNat
 wv:∀e∈wt,0<=e.2/\cH T e.2.toNat
 tl:∀i,(T.getD i t0).2.1.length<=12
theorem getD_in {b:Type}{l:List b}{i:Nat}{x:b}(h:i<l.length):l.getD i x∈l:=by rw[aC,aG h];exact a6 h
theorem gy.w_ {T:List cG}{wt:List bZ}(h:gy T wt){X:Nat->Prop}{i:Nat}(hi:cH T i){v:Int×Int}(c:f3 T wt X i v)(b:v.1=3):0<=v.2/\cH T v.2.toNat:=by
 rcases c with⟨_,hm⟩|⟨hk,e⟩|⟨hk,_,e⟩|⟨_,d,he,_,e⟩
 ·exact h.fv i hi v hm b
 ·exact h.fv i hi v (by rw[e];exact getD_in (by rw[h.fl i hi (aJ hk)];decide)) b
 ·exact h.fv i hi v (by rw[e];exact getD_in (by rw[h.fl i hi (aI hk)];decide)) b
 ·rw[e];exact h.wv d he
theorem gy.cls {T:List cG}{wt:List bZ}(h:gy T wt):fG T wt (cH T):=fun _ _ b _ c d=>(h.w_ b c d).2
theorem fg.xa {T:List cG}{wt:List bZ}{is b L:List Bool}{more:Bool}{i:Nat}(h:fg T wt is b L more i)(c:gy T wt)(hi:∀k,cu is k->cH T k){k:Nat}(hk:cu L k):cH T k:=h.lt _ c.cls hi k hk
theorem fg.bd {T:List cG}{wt:List bZ}{is c L:List Bool}{more:Bool}{i:Nat}(h:fg T wt is c L more i)(b:gy T wt)(hi:∀k,cu is k->cH T k)(hl:is.length=T.length)(d:cu L i){X:Nat->Prop}{v:Int×Int}(e:f3 T wt X i v):v.1=3->0<=v.2/\v.2<L.length:=fun f=>by obtain⟨g,j⟩:=b.w_ (h.xa b hi d) e f;have:=j.1;have:=h.len;exact⟨g,V⟩
def ie (b:Bool)(t:cG):Bool:=t.2.2.1&&!t.2.2.2&&!b
def gQ (L:List Bool)(v:Int×Int):List Bool:=if v.1=3 then L.set v.2.toNat true else L
def jA (T:List cG)(rs:List (Int×Int))(b:Bool):List Bool:=rs.foldl gQ (T.map (ie b))
theorem xc (L:List Bool)(v:Int×Int):(gQ L v).length=L.length:=by
 unfold gQ;split
 ·rw[aX]
 ·rfl
theorem p8 (T:List cG)(rs:List _)(b:Bool):(jA T rs b).length=T.length:=by
 have key:∀(rs:List (Int×Int))(L:List Bool),(rs.foldl gQ L).length=L.length:=fun rs=>by
  induction rs with
  |nil=>intro L;rfl
  |cons v rs c=>intro L;rw[a8,c,xc]
 unfold jA;rw[key,aQ]
theorem Dp {L:List Bool}{v:Int×Int}{i:Nat}:cu (gQ L v) i↔cu L i\/(v.1=3/\v.2.toNat=i/\i<L.length):=by
 unfold gQ;by_cases b:v.1=3
 ·rw[aH b];unfold cu;by_cases hl:v.2.toNat<L.length
  ·rw[kn _ _ _ hl];constructor
   ·intro h;split at h
    ·rename_i e;exact aI ⟨b,e,V⟩
    ·exact aJ h
   ·rintro(h|⟨_,e,_⟩)
    ·split
     ·rfl
     ·exact h
    ·rw[aH e]
  ·rw[List.set_eq_of_length_le V];exact⟨aJ,fun h=>h.elim id (fun⟨_,e,c⟩=>absurd c V)⟩
 ·rw[aE b];exact⟨aJ,fun h=>h.elim id (fun⟨e,_⟩=>absurd e b)⟩
theorem xd:∀(rs:List (Int×Int))(L:List Bool)(i:Nat),cu (rs.foldl gQ L) i↔cu L i\/(i<L.length/\∃v∈rs,v.1=3/\v.2.toNat=i)
 |[],L,i=>by simp
 |v::rs,L,i=>by
  rw[a8,xd rs,Dp,xc];constructor
  ·rintro((h|⟨c,b,d⟩)|⟨c,u,f,b⟩)
   ·exact aJ h
   ·exact aI ⟨d,v,Z,c,b⟩
   ·exact aI ⟨c,u,aO _ f,b⟩
  ·rintro(h|⟨c,u,f,b,d⟩)
   ·exact aJ (aJ h)
   ·rcases List.mem_cons.1 f with e|e
    ·rw[e] at b d;exact aJ (aI ⟨b,d,c⟩)
    ·exact aI ⟨c,u,e,b,d⟩
theorem Dq (b:Bool)(T:List cG)(i:Nat):cu (T.map (ie b)) i↔i<T.length/\(T.getD i t0).2.2.1=true/\(T.getD i t0).2.2.2=false/\b=false:=by
 unfold cu;by_cases h:i<T.length
 ·rw[aC,bq,aG h,aC,aG h];simp[ie,h,and_assoc]
 ·simp[h]
theorem lL (T:List cG)(rs:List _)(d:Bool)(i:Nat):cu (jA T rs d) i↔i<T.length/\(((T.getD i t0).2.2.1=true/\(T.getD i t0).2.2.2=false/\d=false)\/∃v∈rs,v.1=3/\v.2.toNat=i):=by
 unfold jA;rw[xd,Dq,aQ];constructor
 ·rintro(⟨c,b⟩|⟨c,b⟩)
  ·exact⟨c,aJ b⟩
  ·exact⟨c,aI b⟩
 ·rintro⟨c,b|b⟩
  ·exact aJ ⟨c,b⟩
  ·exact aI ⟨c,b⟩
section
variable {T:List cG}{wt:List bZ}
theorem fG.less {C:List bZ}{X:Nat->Prop}(h:fG T (wt++C) X):fG T wt X:=fun i hi b v c d=>h i hi b v (by
 rcases c with h|h|h|⟨f,e,he,g⟩
 ·exact aJ h
 ·exact aI (aJ h)
 ·exact aI (aI (aJ h))
 ·exact aI (aI (aI ⟨f,e,aZ _ he,g⟩))) d
theorem fG.more {C:List bZ}{X:Nat->Prop}(h:fG T wt X)(j:∀e∈C,X e.2.toNat):fG T (wt++C) X:=fun i hi c v k d=>by
 rcases k with b|b|b|⟨b,e,he,l,g⟩
 ·exact h i hi c v (aJ b) d
 ·exact h i hi c v (aI (aJ b)) d
 ·exact h i hi c v (aI (aI (aJ b))) d
 ·rcases List.mem_append.1 he with f|f
  ·exact h i hi c v (aI (aI (aI ⟨b,e,f,l,g⟩))) d
  ·rw[g];exact j e f
theorem jz.less {C:List bZ}{is b:List Bool}(h:jz T (wt++C) is b)(c:∀e∈C,cu is e.2.toNat):jz T wt is b:=
 ⟨h.len,h.up,h.cl.less,fun X d hi=>h.lt X (d.more (fun e he=>hi _ (c e he))) hi⟩
theorem jz.uniq {is a b:List Bool}(h:jz T wt is a)(c:jz T wt is b):a=b:=by
 refine List.ext_getElem (h.len.trans c.len.symm) (fun i d e=>?_)
 have key:cu a i↔cu b i:=⟨fun q=>h.lt _ c.cl c.up i q,fun q=>c.lt _ h.cl h.up i q⟩
 unfold cu at key;cases ha:a[i]<;>cases hb:b[i]<;>simp_all
end
def cD (L:List Bool)(x:Int):Bool:=L.getD x.toNat false
def d4 (g:List Bool->List Bool)(L:List Bool)(x:Int):List Bool:=g (L.set x.toNat true)
def gR (T:List cG)(L:List Bool):Nat->Int
 |0=>0
 |i+1=>if L.getD i false=true then gR T L i+(1+(T.getD i t0).2.1.length) else gR T L i
def eE (L:List Bool)(i:Nat)(t:cG):cG:=
 if L.getD i false=true then
  (t.1,(if t.1=4/\dq L (t.2.1.getD 0 (0,0))=false then[(2,0),(2,0)] else if t.1=3/\dq L (t.2.1.getD 0 (0,0))=false then[(2,0),t.2.1.getD 1 (0,0)] else t.2.1),true,t.2.2.2)
 else(t.1,[],t.2.2.1,true)
def eu (L:List Bool)(T:List cG):Nat->List cG
 |0=>T
 |i+1=>(eu L T i).set i (eE L i (T.getD i t0))
def cj.c0 (g:List Bool->List Bool)(s:cj)(b:Bool):List Bool:=g (jA s.T s.rs b)
def cj.cR (g:List Bool->List Bool)(s:cj)(b:Bool):List Bool×List bZ×List bZ:=
 turns cD (d4 g) (s.rg.length+1) (s.rg.filter (fun e=>!cD (s.c0 g b) e.2)) (s.c0 g b) []
def cj.cF (g:List Bool->List Bool)(s:cj)(bY:Int)(b:Bool):Bool:=
 (!b&&decide (bY-(dy s.T).2<(dy s.T).1))||decide (bY<gR s.T (s.cR g b).1 s.T.length)
def cj.cut (g:List Bool->List Bool)(s:cj)(bY:Int)(b:Bool):cj:=
 if s.cF g bY b=true then s else
  {T:=eu (s.cR g b).1 s.T s.T.length,rs:=s.rs,rg:=s.rg.filter (fun e=>cD (s.c0 g b) e.2&&cD (s.cR g b).1 e.1),wt:=(s.wt++(s.cR g b).2.1).filter (fun e=>cD (s.cR g b).1 e.1)}
def cj.gz (g:List Bool->List Bool)(s:cj)(bY:Int)(b:Bool):Int:=if s.cF g bY b=true then 3 else 0
def d9 (T:List cG)(wt:List bZ)(g:List Bool->List Bool):Prop:=∀is:List Bool,is.length=T.length->(∀k,cu is k->cH T k)->jz T wt is (g is)
theorem i2 (L:List Bool)(T:List cG):∀i,(eu L T i).length=T.length
 |0=>rfl
 |i+1=>by rw[eu,aX];exact i2 L T i
theorem p9 (L:List Bool)(T:List cG):∀(i j:Nat),i<=T.length->j<T.length->(eu L T i).getD j t0=if j<i then eE L j (T.getD j t0) else T.getD j t0
 |0,j,_,_=>by rfl
 |i+1,j,hi,b=>by
  rw[eu,aC,List.getElem?_set];by_cases e:i=j
  ·subst e;rw[aH rfl,aH (by rw[i2];exact b),aH V];rfl
  ·rw[aE e,<-aC,(p9 L T i j V b)];by_cases c:j<i
   ·rw[aH c,aH V]
   ·rw[aE c,aE V]
theorem xe (T:List cG)(L:List Bool)(h:∀i,(T.getD i t0).2.1.length<=12):∀i,0<=gR T L i/\gR T L i<=13*i
 |0=>by simp[gR]
 |i+1=>by
  have b:=xe T L h i;have:=h i;unfold gR;split
  ·omega
  ·omega
section
variable {T:List cG}{wt:List bZ}{g:List Bool->List Bool}
structure fR (T:List cG)(L:List Bool):Prop where
 len:L.length=T.length
 al:∀k,cu L k->cH T k
theorem d9.ok (hg:d9 T wt g)(c:gy T wt){L:List Bool}(h:fR T L):fR T (g L)/\∀k,cu L k->cu (g L) k:=by have b:=hg L h.len h.al;exact⟨⟨b.len.trans h.len,fun k hk=>b.lt _ c.cls h.al k hk⟩,b.up⟩
theorem fR.put {L:List Bool}(h:fR T L){x:Nat}(b:cH T x):fR T (L.set x true)/\cu (L.set x true) x/\∀k,cu L k->cu (L.set x true) k:=by
 have hl:x<L.length:=by rw[h.len];exact b.1
 refine⟨⟨by rw[aX];exact h.len,fun k hk=>?_⟩,?_,fun k hk=>?_⟩
 ·unfold cu at hk;rw[kn _ _ _ hl] at hk;split at hk
  ·rename_i e;rw[<-e];exact b
  ·exact h.al k hk
 ·unfold cu;rw[kn _ _ _ hl,aH rfl]
 ·unfold cu at hk⊢;rw[kn _ _ _ hl];split
  ·rfl
  ·exact hk
theorem fR.d4 (hg:d9 T wt g)(c:gy T wt){L:List Bool}(h:fR T L){x:Int}(d:cH T x.toNat):fR T (d4 g L x)/\cu (d4 g L x) x.toNat/\∀k,cu L k->cu (d4 g L x) k:=by obtain⟨e,f,i⟩:=h.put d;obtain⟨q1,b⟩:=hg.ok c e;exact⟨q1,b _ f,fun k hk=>b _ (i k hk)⟩
end
def kq (w:au)(c:Option Addr)(L:List Bool):Prop:=0<L.length->∃b,c=ak b/\b<w.heap.size/\∀i,i<L.length->w.cell? (am b i)=some (.bool (L.getD i false))
theorem kq.below {w w':au}{c:Option Addr}{L:List Bool}(h:kq w c L)(d:Below w.heap.size w w'):kq w' c L:=fun hp=>by obtain⟨b,e,f,g⟩:=h hp;exact⟨b,e,aM f d.size,fun i hi=>(d.cell f).trans (g i hi)⟩
theorem oI {w:au}{base:Nat}{e:TypeId}{d:Option Addr}{f:Nat}{L:List Bool}(h:w.ownsRow base e 1 (.slice d L.length f) L.length (L.map Value.bool)):kq w d L:=fun hp=>by
 obtain⟨b,c,g⟩:=dW h hp;cases g;refine⟨b,rfl,(ce h b rfl).2,fun i hi=>?_⟩
 have j:(L.map Value.bool)[i]?=some (.bool (L.getD i false)):=by rw[bq,aG hi,aC,aG hi];rfl
 exact(e8 h j).1
structure fS (w:au)(ob:Nat)(ad:Option Addr)(c base:Nat)(L:List Bool):Prop where
 blk:w.heap[ob]?=some (.cells #[.slice ad L.length c] 145 (0,0))
 row:w.ownsRow base 4 1 (.slice ad L.length c) L.length (L.map Value.bool)
theorem fS.keep {w w':au}{b:Nat}{d:Option Addr}{c base:Nat}{L:List Bool}(h:fS w b d c base L)(e:w'.heap[b]?=w.heap[b]?)(f:∀k,some k=(Value.slice d L.length c).ownBlock->w'.heap[k]?=w.heap[k]?):fS w' b d c base L:=⟨e.trans h.blk,cv h.row f⟩
theorem fS.below {w w':au}{b:Nat}{d:Option Addr}{c base:Nat}{L:List Bool}(h:fS w b d c base L)(f:Below w.heap.size w w'):fS w' b d c base L:=h.keep (f.block b (lt_of_some h.blk)) (fun k e=>f.block k (ce h.row k e).2)
theorem fS.ne {w:au}{b:Nat}{d:Option Addr}{c base:Nat}{L:List Bool}(h:fS w b d c base L):∀k,some k=(Value.slice d L.length c).ownBlock->k≠b:=fun k e f=>by obtain⟨g,hc⟩:=dZ h.row k e;rw[f,h.blk] at hc;simp at hc
theorem sv:(prog.info? 4).map (fun i=>(i.zero,i.size,i.bytes))=some (some (.bool false),1,1):=ae
theorem oJ {w:au}{b k n:Nat}(h:w.ownsRow b 4 1 (.slice (ak k) n n) n (madeCells (Value.bool false).cells (n*1)).toList):
 w.ownsRow b 4 1 (.slice (ak k) n n) n ((List.replicate n false).map Value.bool):=by
 have e:(madeCells (Value.bool false).cells (n*1)).toList=(List.replicate n false).map Value.bool:=by show(madeCells #[Value.bool false] (n*1)).toList=_;rw[toList_madeCells_one];simp
 rwa [e] at h
def Lq (w:au)(c:Option Addr)(l:List Int):Prop:=iF w c l/\(0<l.length->∃b o d,c=some ⟨b,o,none⟩/\w.heap[b]?=some (.cells d 2 (0,0)))
theorem Lq.kf {B:Nat}{w w':au}{ad:Option Addr}{l:List Int}(h:Lq w ad l)(k:Kf B w w'):Lq w' ad l:=by exact wm
theorem Lq.of {w:au}{base c:Nat}{b:Option Addr}{l:List Int}(h:w.ownsRow base 2 1 (.slice b l.length c) l.length (l.map (Value.int .i64))):Lq w b l:=by
 refine⟨gO h,fun hp=>?_⟩
 exact vu
section
variable {w0 w:au}{kb co pw n:Nat}{T:List Int}{kd:Int->Int}{sh:Int->List Int}{M:cL->Int->cL}{s:cL}{vn:Value}{m:List dm}
theorem sw (hM:nt w0 kb co pw T M n)(L:ki T kd sh n M)(h:Wk w0 w kb co pw T s vn m)(N:eX T s)(aT:T.length<=s.1.length+n)(l:List Int)(O:Option Addr)(aV:Nat)(hl:Lq w O l)(hm:l.length<=100000):
 Calls prog 48 #[aj kb,.slice O l.length aV] w fun e w'=>∃a0 A a2 c2,e=.returned (.slice a2 l.length c2)/\w'.ownsRow w.heap.size 77 2 (.slice a2 l.length c2) l.length (ev (c_ M T s l).1)/\Wk w0 w' kb co pw T (c_ M T s l).2 a0 A/\e9 w0 w m w' A/\(∀k,fA A k->some k≠(Value.slice a2 l.length c2).ownBlock):=by
 obtain⟨Q,hi,R,S,U⟩:=info_parts mA;have a1:=hide hM;have a3:=hide L;have bb:=hide hl;have B:=hide h;have bd:=hide N;clear hM L hl h N;go_enter func48,ntmps48;go_wp2_with (at_make;refine wpList_make_own _ rfl _ _ 57 rfl w.heap.size 77 Q (.agg #[ah 0,ah 0]) 2 underlying57 hi R S .i64 .i64 _ l.length rfl rfl rfl (by rw[U];omega) (by unfold maxLen;omega) bW ?_;intro w1 be bg)
 have W:=(ao w).grown bg bW (fun k e=>by cases e)
 go_loopw [5,13] (fun tv iv wr=>∃(j:Nat)(f:List (Int×Int))(s1:cL)(C:Value)(m1:List dm)(a2:Option Addr)(c2:Nat),j<=l.length/\iv=ah j/\av (c_ M T s (l.take j)=(f,s1))/\tv=.slice a2 j c2/\wr.ownsRow w.heap.size 77 2 (.slice a2 j c2) j (ev f)/\av (Wk w0 wr kb co pw T s1 C m1)/\av (e9 w0 w m wr m1)/\av (∀k,fA m1 k->some k≠(Value.slice a2 j c2).ownBlock)/\av (eX T s1/\T.length<=s1.1.length+n)) (fun _ iv _=>l.length-(intOf iv).toNat)
 ·exact⟨0,[],s,vn,m,_,_,aS _,rfl,rfl,rfl,be,B.o.below W,e9.of W,fun k hk e=>by have:=B.o.fb k hk;simp[Value.ownBlock] at e;omega,⟨bd.o,aT⟩⟩
 ·
   obtain⟨j,f,s1,C,m1,a2,c2,b,rfl,D,rfl,i,E,p,F,g⟩:=hrel;by_cases X:j<l.length
   ·obtain⟨b0,b1,bi,b2,hc⟩:=(bb.o.kf p.o.1).1 V;have Y:=hc j X;subst bi;clear hc;have d:=og M T s (l.take j) (l.getD j 0)
    rw[<-fz l j X 0,D.o] at d;have d:=hide d;generalize l.getD j 0=x at Y d;have P:=CQ a1.o E.o g.o.1 g.o.2 x;have G:=pM a3.o g.o.1 g.o.2 x;have ab:av (eX T (dr M T s1 x).2/\T.length<=(dr M T s1 x).2.1.length+n):=⟨G.ok,by have:=G.le;have:=g.o.2;omega⟩
    clear G;generalize (dr M T s1 x).2=s2 at P d ab;obtain⟨u,v,ad⟩:∃u v,(dr M T s1 x).1=(u,v):=⟨_,_,rfl⟩
    rw[ad] at P d;clear ad;go_wp2_with fail;refine P.mono ?_;rintro e H ⟨bl,I,rfl,ag,q⟩
    have ai:=cv i (fun k hk=>by obtain⟨al,J⟩:=dZ i k hk;exact q.1.fF k _ _ _ J aa aa)
    have ap:av (∀k,fA I k->some k≠(Value.slice a2 j c2).ownBlock):=fun k hk e=>(q.2 k hk).elim (fun c=>F.o k c e) (fun c=>by have:=(ce i k e).2;omega)
    have ar:=hide (p.o.trans q)
    have b3:=ar.o.1.size;have ax:=hide ag;clear i q p F E g Y ag;have t:=hide ai;go_wp2_with (at_builtin;refine wpList_append_own_at _ rfl _ _ 57 rfl w.heap.size 77 Q (.agg #[ah 0,ah 0]) 2 16 underlying57 hi R S U rfl aa (.slice a2 j c2) j (ev f) rfl (f6 ai _) ⟨H.heap.size,0,none⟩ 1 1 [ah u,ah v] rfl rfl ?_ ?_ ?_ ?_ ?_ ?_;(intro j u b;match j,b with|0,b=>(simp at b;subst b;simp[Addr.add])|1,b=>(simp at b;subst b;simp[Addr.add]));(intro u o;simp at o;rcases o with o|o<;>(subst o;rfl));(unfold maxLen;omega);omega;(simp;omega);intro b5 bn aB bo _ bp;obtain⟨b4,aF,br⟩:=dW aB (Nat.succ_pos _);subst br)
    have bs:bn.ownsRow w.heap.size 77 2 (.slice (ak b4) (j+1) aF) (j+1) (ev (f++[(u,v)])):=by rw[kQ];simpa[ev] using aB
    have K:=an H (.cells #[.int .i64 u,.int .i64 v] 77)
    have aR:=(Fr.refl _ _).grown bo (fun k e=>aJ e.symm)
    have bt:=hide ((ax.o.below K).but aR (fun k _ e=>by obtain⟨al,J⟩:=dZ t.o k e;exact⟨⟨al,(K.block k (ce t.o k e).2).trans J⟩,fun c=>ap.o k c e,aP B.o.dt.size (ce t.o k e).1⟩))
    have bx:=hide ((ar.o.trans (e9.of K)).new aR (fun k e=>(ce t.o k e).1))
    have bY:=bp.imp id (fun e=>by simpa[Value.ownBlock] using e)
    have bZ:av (∀k,fA I k->some k≠some b4):=fun k hk e=>bY.elim (fun c=>ap.o k hk (e.trans c)) (fun c=>by have:=ax.o.fb k hk;simp at e;omega)
    go_wp2_with fail;go_roundw;exact⟨j+1,f++[(u,v)],s2,bl,I,ak b4,aF,V,af,d,rfl,bs,bt,bx,bZ,ab⟩
    simp[intOf];omega
   ·obtain rfl:j=l.length:=V;rw[a_] at D;go_wp2_with fail;go_ret;rw[D.o];exact⟨C,m1,a2,c2,rfl,i,E.o,p.o,F.o⟩
end
theorem xf:(prog.info? 87).map (fun i=>(i.zero,i.size,i.bytes))=some (some (.agg #[ah 0,.slice none 0 0]),2,32):=ae
section
variable {w0 w w' w'':au}{kb co pw n:Nat}{T:List Int}{s:cL}{vn:Value}{m:List dm}
theorem Wk.turned (h:Wk w0 w kb co pw T s vn m)(f:Fr (fun k=>k=co) w w'):Kf w0.heap.size w w'/\w'.heap[kb]?=some (.cells #[aj pw,.map (some co),vn] 110 (0,0))/\w'.ownsRow w0.heap.size 87 2 vn m.length (nv m)/\(∀x∈m,f7 w' x.2.1 x.2.2.2)/\Below w0.heap.size w0 w':=by
 obtain⟨D,o1,_⟩:=h.mp;obtain⟨i,j,b,_⟩:=o1;have hk:Kf w0.heap.size w w':=⟨f.os,f.tape,f.output,f.size,fun k hk hl=>f.block k hk (fun e=>by have e:=e;have:=h.lo.2;omega),fun k l e n hk _ _=>f.block k (lt_of_some hk) (fun c=>by have c:=c;rw[c,b] at hk;simp at hk)⟩
 refine⟨hk,(f.block kb (lt_of_some h.blk) (fun c=>?_)).trans h.blk,cv h.row (fun k e=>f.block k (ce h.row k e).2 (fun c=>?_)),fun x g=>(h.fl x g).kf hk,h.dt.trans (hk.below h.dt.size)⟩
 ·have c:=c;have:=h.blk;rw[c,b] at this
  simp at this
 ·obtain⟨o,d⟩:=dZ h.row k e;rw[c,b] at d;simp at d
end
theorem aW {α:Type _}{«as» bs:List α}:(«as» ++ bs).length = «as».length + bs.length:=List.length_append ..
theorem Wk.grown {w0 w w3 g:au}{d co pw:Nat}{T:List Int}{ms:List Int}{v:List _}{n j:Value}{m:List dm}{kd:Int}
 (hk:w.heap[d]?=some (.cells #[aj pw,.map (some co),n] 110 (0,0)))(lo:w0.heap.size<=d/\w0.heap.size<=co)(hm:Nm w co T ms)(p:w.ownsRow w0.heap.size 87 2 n m.length (nv m))(A:iu m=v)(E:∀x∈m,f7 w x.2.1 x.2.2.2)(B:Below w0.heap.size w0 w)
 (i:Below w.heap.size w w3)(C:g.ownsRow w0.heap.size 87 2 j (m.length+1) (nv m++[ah kd,.slice none 0 0]))(s:w3.grownBy g n.ownBlock):
 Wk w0 (g.setCell ⟨d,2,none⟩ j) d co pw T (ms,v++[(kd,[])]) j (m++[(kd,none,0,[])])/\e9 w0 w m (g.setCell ⟨d,2,none⟩ j) (m++[(kd,none,0,[])])/\g.heap[d]?=some (.cells #[aj pw,.map (some co),n] 110 (0,0)):=by
 have F:=hm;obtain⟨D,o1,_⟩:=hm;obtain⟨J,K,l,_⟩:=o1;have G:=(Kf.of i).trans (Kf.grown s (fun k e=>⟨(ce p k e.symm).1,fun L ty M hc=>by obtain⟨t,f⟩:=dZ p k e.symm;have:=(i.block k (lt_of_some f)).trans f;rw[this] at hc;simp at hc;exact aI hc.2.1.symm⟩))
 have q:=(s.block d (aM (lt_of_some hk) i.size) (fun e=>by obtain⟨t,f⟩:=dZ p d e;rw[hk] at f;simp at f)).trans ((i.block d (lt_of_some hk)).trans hk)
 have u:Kf w0.heap.size w (g.setCell ⟨d,2,none⟩ j):=G.trans (Kf.set q (aJ rfl) lo.1)
 have H:co≠d:=fun e=>by rw[e,hk] at l;simp at l
 have I:(nv (m++[(kd,none,0,[])]:List dm))=nv m++[ah kd,.slice none 0 0]:=by rw[vK];rfl
 refine⟨⟨?_,lo,?_,?_,?_,fun x b=>?_,B.trans (u.below B.size)⟩,⟨u,fun k hk=>?_⟩,q⟩
 ·simp only [World.setCell,Array.getElem?_modify,if_true,q,Option.map_some];rfl
 ·refine F.same ((aN _ _ _ _ H).trans ((s.block co (aM (lt_of_some l) i.size) (fun e=>?_)).trans (i.block co (lt_of_some l))))
  obtain⟨t,f⟩:=dZ p co e;rw[l] at f;simp at f
 ·rw[I,aW];refine cv C (fun k e=>aN _ _ _ _ (fun c=>?_))
  obtain⟨t,f⟩:=dZ C k e;rw[c,q] at f;simp at f
 ·simp[iu] at A⊢;exact A
 ·rcases List.mem_append.1 b with b|b
  ·exact(E x b).kf u
  ·simp at b;subst b;exact f7.nil
 ·obtain⟨x,b,hl,o,e⟩:=hk;rcases List.mem_append.1 b with b|b
  ·exact aJ ⟨x,b,hl,o,e⟩
  ·simp at b;subst b;simp at hl
theorem Wk.filled {w0 w:au}{l co pw g n len:Nat}{T:List Int}{s:cL}{m:List dm}(h:Wk w0 w l co pw T s (.slice (ak g) len n) m){i:Nat}{k0:Int}{v0:List _}(hi:s.2[i]?=some (k0,v0)){base c2:Nat}{a2:Option Addr}{b:List _}
 (hr:w.ownsRow base 77 2 (.slice a2 b.length c2) b.length (ev b)):
 Wk w0 (w.setCell ⟨g,i*2+1,none⟩ (.slice a2 b.length c2)) l co pw T (s.1,s.2.set i (k0,b)) (.slice (ak g) len n) (m.set i (k0,a2,c2,b))/\Kf w0.heap.size w (w.setCell ⟨g,i*2+1,none⟩ (.slice a2 b.length c2))/\(∀k,fA (m.set i (k0,a2,c2,b)) k->fA m k\/base<=k):=by
 obtain⟨v,j⟩:=dZ h.row g rfl;have d:Kf w0.heap.size w (w.setCell ⟨g,i*2+1,none⟩ (.slice a2 b.length c2)):=Kf.set j (aI rfl) (ce h.row g rfl).1;obtain⟨x,hx,q⟩:∃x:dm,m[i]?=some x/\(x.1,x.2.2.2)=(k0,v0):=by exact w7
 have t:x.1=k0:=congrArg Prod.fst q;have u:len=m.length:=by
  rcases h.row.2 with⟨f,_⟩|⟨A,B,C,f,_⟩
  ·simp at f
  ·simp at f;exact f.2.1
 refine⟨⟨(aN _ _ _ _ (fun c=>?_)).trans h.blk,h.lo,h.mp.same (aN _ _ _ _ (fun c=>?_)),?_,?_,fun y hy=>?_,h.dt.trans (d.below h.dt.size)⟩,d,fun k hk=>?_⟩
 ·have c:=c;have:=h.blk;rw[c,j] at this
  simp at this
 ·obtain⟨D,⟨E,F,p,_⟩,_⟩:=h.mp;rw[c,j] at p;simp at p
 ·rw[aX,<-t,rZ m i x a2 c2 b hx];have:=h.row;rw[<-u] at this⊢
  exact jq this _ _
 ·rw[iu,List.map_set];show((iu m).set i (k0,b))=_;rw[h.nd]
 ·rcases bB hy with hy|hy
  ·exact(h.fl y hy).kf d
  ·subst hy;exact(f7.of hr).kf d
 ·obtain⟨y,hy,hl,o,e⟩:=hk;exact w6
section
variable {w0:au}{kb co pw p q N O y g:Nat}{ws:List Int}{sd:Nat}{v0:Value}{a1:Option Addr}{k1:Nat}{Q:List bZ}{T:List Int}
theorem Dr (hq:lD w0 pw p q N O y g ws sd v0 a1 k1 Q)(aF:∀a∈T,0<=a/\a<2000)(cD:T.length<=100000)(n:Nat)(M:cL->Int->cL)(hM:nt w0 kb co pw T M n)(X:ki T (fun a=>pk (ld N y g ws a)) (eN N y g ws Q) n M):
 nt w0 kb co pw T (fun s a=>((c_ M T (s.1++[a],s.2++[(pk (ld N y g ws a),[])]) (eN N y g ws Q a)).2.1,(c_ M T (s.1++[a],s.2++[(pk (ld N y g ws a),[])]) (eN N y g ws Q a)).2.2.set s.1.length (pk (ld N y g ws a),(c_ M T (s.1++[a],s.2++[(pk (ld N y g ws a),[])]) (eN N y g ws Q a)).1))) (n+1):=by
 intro w s cE m a h l ha I hl;obtain⟨b8,hi,b9,ca,cb⟩:=info_parts xf;have cF:=l.lt ha I;have cd:=aF a ha;have cf:m.length=s.1.length:=by rw[h.len,l.len]
 have Y:=l.more ha I (pk (ld N y g ws a),[])
 have ab:=kh M T (s.1++[a],s.2++[(pk (ld N y g ws a),[])]) (eN N y g ws Q a)
 have G:=m8 X Y (by simp;omega) (eN N y g ws Q a)
 have cg:=CM N y g ws Q a;have ch:=hq.hm;have aR:(c_ M T (s.1++[a],s.2++[(pk (ld N y g ws a),[])]) (eN N y g ws Q a)).2.2[s.1.length]?=some (pk (ld N y g ws a),[]):=by rw[G.old s.1.length Z,List.getElem?_append_right (by rw[l.len];exact aA _),l.len];simp
 have cG:s.1.length<(c_ M T (s.1++[a],s.2++[(pk (ld N y g ws a),[])]) (eN N y g ws Q a)).2.1.length:=by
  have:=G.le;simp at this
  omega
 have ci:=G.ok.len;have aT:av (∀(t:au)(aV:Value)(a0:List dm)(v:Option Addr)(J:Nat),Wk w0 t kb co pw T (s.1++[a],s.2++[(pk (ld N y g ws a),[])]) aV a0->Lq t v (eN N y g ws Q a)->
  _):=
  fun t aV a0 v J cj ck=>sw hM X cj Y (by simp;omega) _ v J ck V
 have a3:av (∀w1,Below w0.heap.size w0 w1->_):=fun w1 A=>fY a w1 (hq.low A).ar;have bb:av (∀w1,Below w0.heap.size w0 w1->w1.cell? (am kb 0)=some (aj pw)->_):=
  fun w1 A hc=>CN (hq.low A) kb hc a cd.1 V
 have cH:=aK w0 _ hq.c0;have cl:av (∀w1,Below w0.heap.size w0 w1->_=_):=fun w1 A=>(hq.low A).c0;have bd:=iZ (a:=a) V V;have be:=my (s.1.length:Int) (WalkArith.wf_i64 ⟨V,V⟩)
 clear hM X G Y cg ch hq aF;dsimp only;generalize cm:c_ M T (s.1++[a],s.2++[(pk (ld N y g ws a),[])]) (eN N y g ws Q a)=R at*;clear cm;generalize eN N y g ws Q a=cI at*;obtain⟨cJ,cK⟩:=R;dsimp only at*;generalize pk (ld N y g ws a)=kd at*;generalize pf (ld N y g ws a)=f at*;generalize pc (ld N y g ws a)=cc at*;have H:av (_):=h;obtain⟨ad,dU,cn⟩:=dQ h.row;subst cn;obtain⟨c0,c1,c2,lk⟩:=h.cells;obtain⟨D,o1,bg,bi⟩:=h.mp;have hlo:=h.lo;have bl:av (∀(w1:au)(k:Nat),w1.ownsMap prog 3 (plainElem prog 3) co k (D.put (.int .i64 a) (.lit (.int .i64 (s.1.length:Int))))->Nm w1 co T (s.1++[a])):=fun w1 k cp=>Nm.put o1 bg bi ha I cp;have bn:av (iu m=s.2):=h.nd;clear h bg bi l ha I;generalize s.1.length=L at*;subst cf;go_enter func185,ntmps185;go_wp2_with (at_mapUpdate;refine wpList_mapUpdate_own _ rfl _ _ _ 108 rfl 3 3 iA underlying108 (plainElem (H:=Unit) prog 3) co T.length D rfl o1 (by unfold maxLen;omega) _ _ _ rfl rfl bd _ [] be ?_;intro w1 bo bp;(have br:Fr (fun k=>k=co) w w1:=(Fr.refl _ _).grown bp (fun k e=>aJ (by cases e;rfl)));(have b:av (_/\_/\_/\_/\_):=H.o.turned br);(have ag:av (Nm w1 co T (s.1++[a])):=bl.o w1 _ bo);(have cq:w1.cell? (am kb 0)=some (aj pw):=by simp[World.cell?,b.o.2.1]);(have y1:=cl.o w1 b.o.2.2.2.2);clear bo bp br c0 c1 c2 o1 bl)
 refine(a3.o w1 b.o.2.2.2.2).mono ?_;clear a3;rintro e K ⟨rfl,d⟩
 have ai:=(d.block kb (lt_of_some b.o.2.1)).trans b.o.2.1;have bs:K.cell? (am kb 2)=some (.slice ad m.length dU):=ay ai
 have bt:=hide ai;have bx:=hide (ag.o.same (by obtain⟨cM,cr,_⟩:=ag.o;exact d.block co cr.lt))
 have al:=cv b.o.2.2.1 (fun k hk=>d.block k (ce b.o.2.2.1 k hk).2)
 have bY:=hide al;have bZ:av (_):=fun x cs=>(b.o.2.2.2.1 x cs).kf (Kf.of (B:=0) d)
 have B2:=hide (b.o.2.2.2.2.trans (d.mono b.o.2.2.2.2.size))
 have b0:=hide ((show e9 w0 w m w1 m from⟨b.o.1,fun k h=>aJ h⟩).trans (e9.of d))
 have cN:=B2.o.size;clear b ag ai cq y1 d lk;go_wp2_with (at_builtin;refine wpList_append_own_at _ rfl _ _ 58 rfl w0.heap.size 87 b8 (.agg #[ah 0,.slice none 0 0]) 2 32 underlying58 hi b9 ca cb rfl aa (.slice ad m.length dU) m.length (nv m) rfl (f6 al _) ⟨K.heap.size,0,none⟩ 1 1 [ah kd,.slice none 0 0] rfl rfl ?_ ?_ ?_ ?_ ?_ ?_;(intro j u i;match j,i with|0,i=>(simp at i;subst i;simp[Addr.add])|1,i=>(simp at i;subst i;simp[Addr.add]));(intro u C;simp at C;rcases C with C|C<;>(subst C;rfl));(unfold maxLen;omega);omega;(simp;omega);intro cO ap ar b1 _ ct;obtain⟨b4,cu,cw⟩:=dW ar (Nat.succ_pos _);subst cw;(have P:=hide (Wk.grown bt.o hlo bx.o bY.o bn.o bZ.o B2.o (an K _) ar b1));(have u0:ap.cell? (am kb 2)=some (.slice ad m.length dU):=by simp[World.cell?,P.o.2.2]);(have cx:ap.frozen? (am kb 2)=false:=by simp[World.frozen?,P.o.2.2]);clear ar b1 ct bs al bt bx bY bn bZ B2)
 obtain⟨b2,b3,_⟩:=P.o;have S:=hide (b0.o.trans b3)
 have E:=hide b2;clear P b2 b3 u0 cx b0;generalize ap.setCell ⟨kb,2,none⟩ (.slice (some ⟨b4,0,none⟩) (m.length+1) cu)=t at S E⊢;refine(bb.o t E.o.dt E.o.cells.1).mono ?_;clear bb;rintro e cy ⟨v,J,rfl,b5,U⟩
 go_wp2_with fail;refine(aT.o cy _ _ v J (E.o.below U) (Lq.of b5)).mono ?_;clear aT;rintro e cP ⟨cQ,F,a2,cR,rfl,ax,o,b6,cz⟩
 have cS:=o.len.trans ci;obtain⟨cT,cU,cA⟩:=dW o.row V;subst cA;have bs:=o.cells.2.2.1;have cB:m.length<F.length:=V;obtain⟨aB,cV⟩:=e8 o.row ((ng F m.length _ (aG cB)).2)
 rw[<-ab] at ax;have W:=hide (o.filled aR ax)
 have b7:=hide ((S.o.trans (e9.of U)).trans b6)
 have cC:=((S.o.trans (e9.of U)).1).size;generalize (F[m.length]).2.1=q1 at aB;generalize (F[m.length]).2.2.2.length=cW at aB;generalize (F[m.length]).2.2.1=q3 at aB;rw[ab] at W;clear b5 U ax o b6 cz S E aR ab be bd;go_wp2_with fail;go_ret;exact⟨_,_,rfl,W.o.1,b7.o.1.trans W.o.2.1,fun k hk=>(W.o.2.2 k hk).elim (b7.o.2 k) (fun c=>aI (aP cC c))⟩
theorem sx (hq:lD w0 pw p q N O y g ws sd v0 a1 k1 Q)(b:∀a∈T,0<=a/\a<2000)(c:T.length<=100000):∀n,nt w0 kb co pw T (met T (fun a=>pk (ld N y g ws a)) (eN N y g ws Q) n) n
 |0=>fun w s f m a _ d ha e hl=>by have:=d.lt ha e;omega
 |n+1=>Dr hq b c n _ (sx hq b c n) (jb n)
end
def lM {d:Type}(o:dP d)(D:Int->Prop)(f:Nat)(b c:Array Value)(nw:d->Int->Int):Prop:=
 ∀F t w (x:Int),D x->o.J F t w->Calls prog f (b.push (ah x)++c) w fun r w'=>r=.returned (ah (nw t x))/\Below w.heap.size w w'
def ks {d:Type}(o:dP d)(D:Int->Prop)(f:Nat)(b c:Array Value)(is:d->Int->Bool):Prop:=
 ∀F t w (x:Int),D x->o.J F t w->Calls prog f (b.push (ah x)++c) w fun r w'=>r=.returned (.bool (is t x))/\Below w.heap.size w w'
def oK {d:Type}(o:dP d)(D:Int->Prop)(f:Nat)(b c:Array Value)(kp:d->Int->Int×d):Prop:=
 ∀F t w (x:Int),D x->o.J F t w->Calls prog f (b.push (ah x)++c) w fun r w'=>∃e,r=.returned (ah (kp t x).1)/\o.J e (kp t x).2 w'/\Fr F w w'/\∀k,e k->F k\/w.heap.size<=k
theorem xg {E:Type}(o:dP E)(D:Int->Prop)(f:Nat)(b c:Array Value)(nw:E->Int->Int)(O:d3 f)(ht:lM o D f b c nw)(l:List bZ)(G:Option Addr)(ax:Nat)(F:Nat->Prop)(t:E)(w:au)
 (hD:∀e∈l,D e.1/\D e.2)(hm:l.length<=100000)(P:o.J F t w)(hp:cY w G l):
 Calls prog 119 #[.slice G l.length ax,.func (.func f) b c] w fun r w'=>∃a1 c1,r=.returned (.slice a1 l.length c1)/\w'.ownsRow w.heap.size 83 2 (.slice a1 l.length c1) l.length (ev (l.map fun e=>(nw t e.1,nw t e.2)))/\Below w.heap.size w w':=by
 obtain⟨aB,hi,aF,aR,aT⟩:=info_parts nf;have Q:av (lM o D f b c nw):=ht;have aV:av (cY w G l):=hp;have R:av (o.J F t w):=P;clear hp ht P;have bo:∀(args:Array Value)(w:au),(callFunc f args).run prog w=.ok (.enter f args) w:=O;clear O;go_enter func119,ntmps119;go_wp2_with fail
 go_loopw [5,10] (fun vt iv wr=>∃(j:Nat)(T:List bZ)(n:Option Addr)(p:Nat),j<=l.length/\iv=ah j/\av (T=(l.take j).map fun e=>(nw t e.1,nw t e.2))/\vt=.slice n T.length p/\
  wr.ownsRow w.heap.size 83 2 (.slice n T.length p) T.length (ev T)/\Below w.heap.size w wr) (fun _ iv _=>l.length-(intOf iv).toNat)
 case atStart=>exact⟨0,[],none,0,aS _,rfl,rfl,rfl,a7 _ _ _ _,aD _ _⟩
 case round=>
  obtain⟨j,T,n,p,m,rfl,v,rfl,d,x⟩:=hrel;have a0:T.length<=100000:=by rw[v.o];simp;omega
  by_cases B:j<l.length
  ·obtain⟨bp,br,a2,bs,hc⟩:=aV.o.below x V;obtain⟨S,U⟩:=hc j B;clear hc;obtain⟨W,X⟩:=hD (l.getD j (0,0)) (by rw[aC,aG B];exact a6 B)
   have H:av (T++[(nw t (l.getD j (0,0)).1,nw t (l.getD j (0,0)).2)]=(l.take (j+1)).map fun e=>(nw t e.1,nw t e.2)):=by show _=_;rw[fz l j B (0,0),bA,v.o];rfl
   generalize (l.getD j (0,0)).1=g at S H W;generalize (l.getD j (0,0)).2=z at U H X;subst a2;have a3:=x.size;have I:Below w.heap.size w (wr.alloc (.cells #[.int .i64 g,.int .i64 z] 83)):=x.alloc a3 _;have J:=f6 d (.cells #[.int .i64 g,.int .i64 z] 83)
   go_wp2_with fail
   go_region_held3 (fun w'=>w'.cell? (am wr.heap.size 0)=some (ah g)/\w'.cell? (am wr.heap.size 1)=some (ah z)) (go_keep)
    (first
      |(refine(Q.o F t _ g W (o.below R.o I.drew)).mono ?_;rintro e w3 ⟨rfl,q⟩;have K:Below w.heap.size w w3:=I.drew.trans (q.mono (by simp;omega));have L:=cv J (fun k e=>q.block k (ce J k e).2);have bb:=q.size;simp at bb;have y1:w3.cell? (am wr.heap.size 0)=some (ah g):=(q.cell Z).trans Z;have Y:w3.cell? (am wr.heap.size 1)=some (ah z):=(q.cell Z).trans Z;have ab:wr.heap.size<w3.heap.size:=V)
      |(refine(Q.o F t _ z X (o.below R.o K)).mono ?_;rintro e i ⟨rfl,s⟩;have M:Below w.heap.size w i:=K.trans (s.mono V);have ad:=cv L (fun k e=>s.block k (ce L k e).2);have bt:=s.size;have ag:i.cell? (am wr.heap.size 0)=some (ah g):=(s.cell ab).trans y1;have ai:i.cell? (am wr.heap.size 1)=some (ah z):=(s.cell ab).trans Y;have al:wr.heap.size<i.heap.size:=V)
      |(refine step_append_lies _ rfl (.tmp 14) (.tmp 24) 126 rfl w.heap.size 83 aB (.agg #[ah 0,ah 0]) 2 16 underlying126 hi aF aR aT rfl aa (.slice n T.length p) T.length (ev T) (by simp[Act.eval]) (f6 ad _) ⟨i.heap.size,0,none⟩ 1 1 [ah (nw t g),ah (nw t z)] (by simp[Act.eval]) rfl ?_ ?_ aa (by unfold maxLen;omega) V (by simp;omega) _ rfl ?_;(intro j u m;match j,m with|0,m=>(simp at m;subst m;simp[Addr.add])|1,m=>(simp at m;subst m;simp[Addr.add]));(intro u A;simp at A;rcases A with A|A<;>(subst A;rfl));intro b6 ap N ar C bd be;have bg:N.cell? (am wr.heap.size 0)=some (ah g):=C.cell (((an i _).cell al).trans ag) (fun e=>absurd (ce d _ e).2 (Nat.lt_irrefl _));have bi:N.cell? (am wr.heap.size 1)=some (ah z):=C.cell (((an i _).cell al).trans ai) (fun e=>absurd (ce d _ e).2 (Nat.lt_irrefl _))))
   have bl:N.ownsRow w.heap.size 83 2 (.slice (ak b6) (T++[(nw t g,nw t z)]).length ap) (T++[(nw t g,nw t z)]).length (ev (T++[(nw t g,nw t z)])):=by rw[kQ];simpa[ev] using ar
   have bn:=(M.alloc M.size _).grown C (by simp;omega) (fun k e=>(ce d k e.symm).1)
   clear ar C bd be J L ad I K M d x q s y1 Y ag ai bg bi S U;go_wp2_with fail;go_roundw
   case rel=>exact⟨j+1,T++[(nw t g,nw t z)],ak b6,ap,V,af,H,Z,bl,bn⟩
   case measure=>simp[intOf];omega
  ·obtain rfl:j=l.length:=V;rw[a_] at v;have hl:T.length=l.length:=by rw[v.o,aQ]
   rw[hl] at d;have d:wr.ownsRow w.heap.size 83 2 (.slice n l.length p) l.length (ev (l.map fun e=>(nw t e.1,nw t e.2))):=by rw[<-v.o];exact d
   clear a0;go_wp2_with fail;go_ret;exact⟨n,p,by rw[hl];rfl,d,x⟩
structure fB (σ:Type) extends dP σ where
 p:Nat
 vr:Value
 wt:σ->List bZ
 put:σ->List bZ->σ
 side:∀{F s w},J F s w->∃ad cap,w.heap[p]?=some (.cells #[vr,.slice ad (wt s).length cap] 128 (0,0))/\it w ad (wt s) cap/\F p/\(0<(wt s).length->∀z,ad=some z->F z.block)
 set:∀{F s w},J F s w->∀{w1:au}{q:List bZ}{b1 gj:Nat},Below w.heap.size w w1->w1.ownsRow w.heap.size 83 2 (.slice (ak b1) q.length gj) q.length (ev q)->
  J (fun k=>F k\/k=b1) (put s q) (w1.setCell ⟨p,1,none⟩ (.slice (some ⟨b1,0,none⟩) q.length gj))
 p_:∀s q,wt (put s q)=q
theorem it.keep {w w':au}{b:Option Addr}{l:List bZ}{c:Nat}(h:it w b l c)(hs:w.heap.size<=w'.heap.size)(hk:0<l.length->∀a,b=some a->w'.heap[a.block]?=w.heap[a.block]?):it w' b l c:=⟨h.lp.keep hs hk,h.le,h.nil⟩
theorem it.below {w w':au}{b:Option Addr}{l:List bZ}{c:Nat}(h:it w b l c)(d:Below w.heap.size w w'):it w' b l c:=⟨h.lp.below d,h.le,h.nil⟩
def mD {d:Type}(o:fB d)(D:Int->Prop)(f:Nat)(b c:Array Value)(kp:d->Int->Int×d):Prop:=
 ∀F t w (x:Int),D x->(o.wt (kp t x).2).length<=90000->o.J F t w->Calls prog f (b.push (ah x)++c) w fun r w'=>∃e,r=.returned (ah (kp t x).1)/\o.J e (kp t x).2 w'/\Fr F w w'/\∀k,e k->F k\/w.heap.size<=k
structure fH where
 f:Nat
 b:Array Value
 c:Array Value
abbrev fH.v (x:fH):Value:=.func (.func x.f) x.b x.c
structure kW (w:au)(p bl Ds bs:Nat)(fa fk fn:fH):Prop where
 l:w.heap[bl]?=some (.cells #[fa.v,fk.v,fn.v] 120 (0,0))
 g:w.heap[Ds]?=some (.cells #[.func (.func 113) #[] #[aj bl]] 81 (0,0))
 s:w.heap[bs]?=some (.cells #[aj p] 52 (0,0))
theorem xh {i:Type}(o:dP i)(D:Int->Prop)(d:fH)(is:i->Int->Bool)(he:d3 d.f)(ha:ks o D d.f d.b d.c is)(F:Nat->Prop)(s:i)(w:au)(bl:Nat)(e:bZ)(hD:D e.1)(j:o.J F s w)(hc:w.cell? (am bl 0)=some d.v):
 Calls prog 113 #[en e,aj bl] w fun r w'=>r=.returned (.bool (is s e.1))/\Below w.heap.size w w':=by
 obtain⟨g,z⟩:=e;obtain⟨f,b,c⟩:=d;have l:av (_):=ha;have m:av (_):=j;have p:=aK w _ hc;have q:∀(args:Array Value)(w:au),_=_:=he;clear he ha j;go_enter func113,ntmps113;go_wp2_with fail;have k:=an w (.cells #[.int .i64 g,.int .i64 z] 83)
 refine(l.o F s _ g hD (o.below m.o k)).mono ?_;rintro r w1 ⟨rfl,n⟩
 go_wp2_with fail;go_ret;exact⟨rfl,k.trans (n.mono Z)⟩
theorem Dt {i:Type}(o:dP i)(D:Int->Prop)(d:fH)(is:i->Int->Bool)(he:d3 d.f)(ha:ks o D d.f d.b d.c is)(F:Nat->Prop)(s:i)(w:au)(bl:Nat)(e:bZ)(hD:D e.2)(j:o.J F s w)(hc:w.cell? (am bl 0)=some d.v):
 Calls prog 118 #[en e,aj bl] w fun r w'=>r=.returned (.bool (is s e.2))/\Below w.heap.size w w':=by
 obtain⟨g,z⟩:=e;obtain⟨f,b,c⟩:=d;have l:av (_):=ha;have m:av (_):=j;have p:=aK w _ hc;have q:∀(args:Array Value)(w:au),_=_:=he;clear he ha j;go_enter func118,ntmps118;go_wp2_with fail;have k:=an w (.cells #[.int .i64 g,.int .i64 z] 83)
 refine(l.o F s _ z hD (o.below m.o k)).mono ?_;rintro r w1 ⟨rfl,n⟩
 go_wp2_with fail;go_ret;exact⟨rfl,k.trans (n.mono Z)⟩
def cm {b:Type}(o:fB b)(is:b->Int->Bool)(kp:b->Int->Int×b)(s:b)(e:bZ):Bool×b:=
 if is s e.1 then(true,o.put (kp s e.2).2 (o.wt (kp s e.2).2++[(e.1,(kp s e.2).1)])) else(false,s)
theorem nu {b:Type}{o:fB b}{is:b->Int->Bool}{kp:b->Int->Int×b}{s:b}{e:bZ}(h:is s e.1=false):cm o is kp s e=(false,s):=by simp[cm,h]
theorem ny {b:Type}{o:fB b}{is:b->Int->Bool}{kp:b->Int->Int×b}{s:b}{e:bZ}(h:is s e.1=true):cm o is kp s e=(true,o.put (kp s e.2).2 (o.wt (kp s e.2).2++[(e.1,(kp s e.2).1)])):=by simp[cm,h]
theorem Du {m:Type}(o:fB m)(D:Int->Prop)(b fk ar:fH)(is:m->Int->Bool)(kp:m->Int->Int×m)(he:d3 b.f)(N:d3 fk.f)(ha:ks o.todP D b.f b.b b.c is)(hk:mD o D fk.f fk.b fk.c kp)
 (F:Nat->Prop)(s:m)(w:au)(bl v bs:Nat)(e:bZ)(hD:D e.1/\D e.2)(O:(o.wt (kp s e.2).2).length<=90000)(P:o.J F s w)(hB:kW w o.p bl v bs b fk ar)(hs:¬F bs):
 Calls prog 114 #[en e,aj v,aj bl,aj bs] w fun r w'=>∃Q,r=.returned (.bool (cm o is kp s e).1)/\o.J Q (cm o is kp s e).2 w'/\Fr F w w'/\∀k,Q k->F k\/w.heap.size<=k:=by
 obtain⟨g,z⟩:=e;have ax:av (ks o.todP D b.f b.b b.c is):=ha;have aB:av (mD o D fk.f fk.b fk.c kp):=hk;have I:av ((o.wt (kp s z).2).length<=90000):=O;have aF:av (d3 b.f):=he;have x:av (o.J F s w):=P;have c0:w.cell? (am bl 0)=some b.v:=ay hB.l
 have c1:w.cell? (am bl 1)=some (.func (.func fk.f) fk.b fk.c):=ay hB.l
 have c2:w.cell? (am v 0)=some (.func (.func 113) #[] #[aj bl]):=ay hB.g
 have c3:w.cell? (am bs 0)=some (aj o.p):=ay hB.s
 have l1:bl<w.heap.size:=lt_of_some hB.l;have l2:v<w.heap.size:=lt_of_some hB.g;have aR:bs<w.heap.size:=lt_of_some hB.s;have bx:∀(args:Array Value)(w:au),(callFunc fk.f args).run prog w=.ok (.enter fk.f args) w:=N;clear he ha P hk N O hB;go_enter func114,ntmps114;go_wp2_with fail;have A:=an w (.cells #[.int .i64 g,.int .i64 z] 83)
 refine(xh o.todP D b is aF.o ax.o F s _ bl (g,z) hD.1 (o.below x.o A) ((A.cell l1).trans c0)).mono ?_;rintro r w1 ⟨rfl,j⟩
 have d:=A.trans (j.mono Z)
 have aT:w.heap.size<w1.heap.size:=by have:=j.size;simp at this;omega
 have R:w1.cell? (am w.heap.size 0)=some (ah g):=(j.cell Z).trans Z;have y1:w1.cell? (am w.heap.size 1)=some (ah z):=(j.cell Z).trans Z;have aV:w1.cell? (am bl 1)=some (.func (.func fk.f) fk.b fk.c):=(d.cell l1).trans c1;have S:w1.cell? (am bs 0)=some (aj o.p):=(d.cell aR).trans c3;have U:w1.frozen? (am w.heap.size 1)=false:=(j.frozen Z).trans Z;clear j A;cases hg:is s g
 ·have n:av (cm o is kp s (g,z)=(false,s)):=nu hg;go_wp2_with fail;go_ret;rw[n.o];exact⟨F,rfl,o.below x.o d,Fr.of d,fun k h=>aJ h⟩
 ·have n:av (cm o is kp s (g,z)=(true,o.put (kp s z).2 (o.wt (kp s z).2++[(g,(kp s z).1)]))):=ny hg;go_wp2_with fail;refine(aB.o F s _ z hD.2 I.o (o.below x.o d)).mono ?_;rintro r w3 ⟨t,rfl,B,u,C⟩
  generalize (kp s z).1=y at n⊢;generalize (kp s z).2=s1 at n B I;have J:¬F w.heap.size:=fun h=>by have:=o.lt x.o _ h;omega
  have E:¬t w.heap.size:=fun h=>(C _ h).elim J (fun h=>by omega)
  have bY:=u.size;have b0:=d.size;obtain⟨K,L,hp,W,G,Y⟩:=o.side B;have ab:o.p≠w.heap.size:=fun e=>E (by rw[<-e];exact G)
  have b2:o.p<w3.heap.size:=lt_of_some hp;have b3:bs≠o.p:=fun e=>(C bs (by rw[e];exact G)).elim hs (fun h=>by omega)
  have b4:=I.o;have H:=u.block _ aT J;have ad:=u.block bs V hs;have z0:w3.cell? (am w.heap.size 0)=some (ah g):=(aU (a:=⟨w.heap.size,0,none⟩) H).trans R;have ag:w3.cell? (am w.heap.size 1)=some (ah z):=(aU (a:=⟨w.heap.size,1,none⟩) H).trans y1;have a0:w3.frozen? (am w.heap.size 1)=false:=(World.frozen?_of_block (a:=⟨w.heap.size,1,none⟩) H).trans U;have ai:w3.cell? (am bs 0)=some (aj o.p):=(aU (a:=⟨bs,0,none⟩) ad).trans S;have a1:bs≠w.heap.size:=V;have l:∀k:Nat,k≠w.heap.size->(w3.setCell ⟨w.heap.size,1,none⟩ (.int .i64 y)).heap[k]?=w3.heap[k]?:=fun k hk=>aN _ _ _ _ hk;have M:(w3.setCell ⟨w.heap.size,1,none⟩ (.int .i64 y)).heap.size=w3.heap.size:=by simp[World.setCell]
  have a2:(w3.setCell ⟨w.heap.size,1,none⟩ (.int .i64 y)).cell? (am w.heap.size 0)=some (ah g):=(a5 w3 ⟨w.heap.size,1,none⟩ ⟨w.heap.size,0,none⟩ (ah y) Z).trans z0;have a3:(w3.setCell ⟨w.heap.size,1,none⟩ (.int .i64 y)).cell? (am w.heap.size 1)=some (ah y):=a9 _ _ _ ag;have bb:(w3.setCell ⟨w.heap.size,1,none⟩ (.int .i64 y)).cell? (am bs 0)=some (aj o.p):=(aU (a:=⟨bs,0,none⟩) (l bs a1)).trans ai;have bd:(w3.setCell ⟨w.heap.size,1,none⟩ (.int .i64 y)).cell? (am o.p 1)=some (.slice K (o.wt s1).length L):=(aU (a:=⟨o.p,1,none⟩) (l o.p ab)).trans (by simp[World.cell?,hp])
  have be:(w3.setCell ⟨w.heap.size,1,none⟩ (.int .i64 y)).frozen? (am o.p 1)=false:=(World.frozen?_of_block (a:=⟨o.p,1,none⟩) (l o.p ab)).trans (by simp[World.frozen?,hp])
  have bg:o.J t s1 (w3.setCell ⟨w.heap.size,1,none⟩ (.int .i64 y)):=o.keep B (by rw[M];exact aA _) (fun k hk=>l k (fun e=>E (by rw[<-e];exact hk)))
  have bi:it (w3.setCell ⟨w.heap.size,1,none⟩ (.int .i64 y)) K (o.wt s1) L:=W.keep (by rw[M];exact aA _) (fun hq a e=>l _ (fun bn=>E (by rw[<-bn];exact Y hq a e)))
  have bo:Fr F w (w3.setCell ⟨w.heap.size,1,none⟩ (.int .i64 y)):=((Fr.of (X:=F) d).trans u (fun _ c=>aJ c)).trans ((Fr.refl (fun k=>k=w.heap.size) w3).set _ 1 _ rfl) (fun i c=>aI V)
  have al:av (∀k,t k->F k\/w.heap.size<=k):=fun k h=>(C k h).imp id (fun h=>by omega)
  have bp:av (t o.p):=G;have lo:bs<(w3.setCell ⟨w.heap.size,1,none⟩ (.int .i64 y)).heap.size:=V;have lp:o.p<(w3.setCell ⟨w.heap.size,1,none⟩ (.int .i64 y)).heap.size:=V;have lw:w.heap.size<(w3.setCell ⟨w.heap.size,1,none⟩ (.int .i64 y)).heap.size:=V;clear J E hp W G Y H ad ai l u B C R y1 aV S U M;go_wp2_with fail;generalize w3.setCell ⟨w.heap.size,1,none⟩ (.int .i64 y)=b5 at*;clear z0 ag a0
  go_region_with (go_at_call 79;refine(vJ _ K (o.wt s1) L g y (bi.below (bX.drew)) V).mono ?_;rintro e br ⟨b1,gj,rfl,ap,f⟩;have b6:=(f.cell (p:=am w.heap.size 0) lw).trans a2;have b7:=(f.cell (p:=am w.heap.size 1) lw).trans a3;have b8:=(f.cell (p:=am bs 0) lo).trans bb;have b9:=(f.cell (p:=am o.p 1) lp).trans bd;have ca:=(f.frozen (p:=am o.p 1) lp).trans be)
  all_goals
   go_wp2_with fail;go_ret;rw[n.o];have bt:=o.set (q:=o.wt s1++[(g,y)]) (b1:=b1) (gj:=gj) (o.below bg bX.drew) f (by simpa using ap)
   refine⟨fun k=>t k\/k=b1,rfl,by simpa using bt,(bo.drew.trans (Fr.of (X:=F) f) (fun _ c=>aJ c)).trans ((Fr.refl (fun k=>k=o.p) br).set o.p 1 _ rfl) (fun i c=>by rw[c];exact al.o _ bp.o),fun k h=>h.elim (al.o k) (fun h=>aI (by have:=(ce ap b1 rfl).1;simp at this;omega))⟩
def boxed {e:Type}(o:fB e)(bl d bs:Nat)(f fk g:fH):dP e where
 J F s w:=∃b,o.J b s w/\kW w o.p bl d bs f fk g/\¬b bl/\¬b d/\¬b bs/\∀k,F k↔(b k\/k=bl\/k=d\/k=bs)
 lt:=by
  rintro F t w ⟨b,h0,hB,_,_,_,c⟩ k hk;rcases(c k).1 hk with h|rfl|rfl|rfl
  ·exact o.lt h0 k h
  ·exact lt_of_some hB.l
  ·exact lt_of_some hB.g
  ·exact lt_of_some hB.s
 keep:=by rintro F t w w' ⟨b,h0,hB,i,j,l,c⟩ hs hk;exact⟨b,o.keep h0 hs (fun k h=>hk k ((c k).2 (aJ h))),⟨(hk bl ((c bl).2 Z)).trans hB.l,(hk d ((c d).2 Z)).trans hB.g,(hk bs ((c bs).2 Z)).trans hB.s⟩,i,j,l,c⟩
theorem Dv {c:Type}(o:fB c)(bl d bs:Nat)(D:Int->Prop)(b fk j:fH)(is:c->Int->Bool)(kp:c->Int->Int×c)(he:d3 b.f)(v:d3 fk.f)(ha:ks o.todP D b.f b.b b.c is)(hk:mD o D fk.f fk.b fk.c kp):
 Looks (boxed o bl d bs b fk j) (fun e=>D e.1/\D e.2) (fun s=>∀x,(o.wt (kp s x).2).length<=90000) 114 #[] #[aj d,aj bl,aj bs] (cm o is kp):=by
 intro F s w e hD A B;obtain⟨l,h0,hB,m,n,g,i⟩:=B;refine(Du o D b fk j is kp he v ha hk l s w bl d bs e hD (A e.2) h0 hB g).mono ?_;rintro r w' ⟨p,rfl,C,f,t⟩
 have q:∀k,k<w.heap.size->¬l k->_:=fun k hk E h=>(t k h).elim E (fun h=>by omega)
 have lb:=lt_of_some hB.l;have u:=lt_of_some hB.g;have ls:=lt_of_some hB.s;refine⟨fun k=>p k\/k=bl\/k=d\/k=bs,rfl,⟨p,C,⟨(f.block _ lb m).trans hB.l,(f.block _ u n).trans hB.g,(f.block _ ls g).trans hB.s⟩,q _ lb m,q _ u n,q _ ls g,fun k=>Iff.rfl⟩,f.mono (fun k h=>(i k).2 (aJ h)),fun k h=>?_⟩
 rcases h with h|h
 ·exact(t k h).imp (fun h=>(i k).2 (aJ h)) id
 ·exact aJ ((i k).2 (aI h))
def eD {c:Type}(lk:c->bZ->Bool×c):Nat->c->List bZ->c×List bZ
 |0,s,b=>(s,b)
 |n+1,s,b=>if(pts lk s b).1.length=0 then((pts lk s b).2.2,(pts lk s b).2.1) else eD lk n (pts lk s b).2.2 (pts lk s b).2.1
theorem lN {c:Type}(lk:c->bZ->Bool×c)(n:Nat)(s:c)(b:List bZ)(h:(pts lk s b).1.length=0):eD lk (n+1) s b=((pts lk s b).2.2,(pts lk s b).2.1):=by rw[eD,aH h]
theorem lO {c:Type}(lk:c->bZ->Bool×c)(n:Nat)(s:c)(b:List bZ)(h:¬(pts lk s b).1.length=0):eD lk (n+1) s b=eD lk n (pts lk s b).2.2 (pts lk s b).2.1:=by rw[eD,aE h]
theorem sy {b:Type}(lk:b->bZ->Bool×b)(t:b)(l:List bZ)(e:bZ):(e∈(pts lk t l).1\/e∈(pts lk t l).2.1)->e∈l:=by
 have key:∀(l:List bZ)(s:List bZ×List bZ×b),(e∈(l.foldl (ej lk) s).1\/e∈(l.foldl (ej lk) s).2.1)->e∈s.1\/e∈s.2.1\/e∈l:=by
  intro l
  induction l with
  |nil=>intro s h;rcases h with h|h<;>simp at h<;>simp[h]
  |cons x r c=>
   intro s h;have:=c _ h;unfold ej at this
   split at this<;>simp only [List.mem_append,List.mem_cons] at this⊢<;>grind
 intro h;have:=key l ([],[],t) h;simpa using this
abbrev mE (b bl bs:Nat):Value:=.func (.func 114) #[] #[aj b,aj bl,aj bs]
theorem sA {b:Type}(o:fB b)(is:b->Int->Bool)(kp:b->Int->Int×b)(hl:∀s x,(o.wt (kp s x).2).length=(o.wt s).length)(s:b)(l:List bZ):(o.wt (pts (cm o is kp) s l).2.2).length=(o.wt s).length+(pts (cm o is kp) s l).1.length:=by
 have key:∀(l:List bZ)(t:List bZ×List bZ×b),(o.wt (l.foldl (ej (cm o is kp)) t).2.2).length+t.1.length=(o.wt t.2.2).length+(l.foldl (ej (cm o is kp)) t).1.length:=by
  intro l
  induction l with
  |nil=>simp
  |cons e r d=>
   intro t;rw[a8];have h:=d (ej (cm o is kp) t e)
   cases hc:is t.2.2 e.1
   ·have c:ej (cm o is kp) t e=(t.1,t.2.1++[e],t.2.2):=by simp[ej,cm,hc]
    rw[c] at h⊢;exact h
   ·have c:ej (cm o is kp) t e=(t.1++[e],t.2.1,o.put (kp t.2.2 e.2).2 (o.wt (kp t.2.2 e.2).2++[(e.1,(kp t.2.2 e.2).1)])):=by simp[ej,cm,hc]
    rw[c] at h⊢;rw[o.p_,aW,aW,hl] at h;simp at h;omega
 have:=key l ([],[],s)
 simpa[pts] using this
def fi {b:Type}(o:fB b)(is:b->Int->Bool)(kp:b->Int->Int×b)(s:b)(r:List bZ):b:=(eD (cm o is kp) ((r.filter (fun e=>!is s e.2)).length+1) s (r.filter (fun e=>!is s e.2))).1
def eP {b:Type}(o:fB b)(is:b->Int->Bool)(kp:b->Int->Int×b)(nw:b->Int->Int)(s:b)(r:List bZ):List bZ:=((r.filter (fun e=>is s e.2)).filter (fun e=>is (fi o is kp s r) e.1)).map fun e=>(nw (fi o is kp s r) e.1,nw (fi o is kp s r) e.2)
def eQ {b:Type}(o:fB b)(is:b->Int->Bool)(kp:b->Int->Int×b)(nw:b->Int->Int)(s:b)(r:List bZ):List bZ:=((o.wt (fi o is kp s r)).filter (fun e=>is (fi o is kp s r) e.1)).map fun e=>(nw (fi o is kp s r) e.1,nw (fi o is kp s r) e.2)
structure lP {σ:Type}(o:fB σ)(D:Int->Prop)(fa fk fn:fH)(is:σ->Int->Bool)(kp:σ->Int->Int×σ)(nw:σ->Int->Int):Prop where
 ea:d3 fa.f
 eT:d3 fk.f
 en:d3 fn.f
 ha:ks o.todP D fa.f fa.b fa.c is
 hk:mD o D fk.f fk.b fk.c kp
 ht:lM o.todP D fn.f fn.b fn.c nw
 hl:∀s x,(o.wt (kp s x).2).length=(o.wt s).length
end Go.Proofs.YtjpjpjemibgjpaaGreat
