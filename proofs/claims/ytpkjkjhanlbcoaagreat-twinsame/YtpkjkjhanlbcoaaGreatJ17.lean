import Derived.Test.YtpkjkjhanlbcoaaGreatJ16
import Derived.Maps.RangeWalk
namespace Go.Proofs.YtpkjkjhanlbcoaaGreat
set_option maxRecDepth 100000
set_option maxHeartbeats 4000000
open Tryz
open Go.RowKit W Kp cf
theorem ui {P:Prop}(h:P:=by
 go_enter func232,ntmps232;go_wp2_with fail;refine P.mono ?_;clear P;rintro e w1 ⟨rfl,hb⟩
 have HB:ay (Below w.heap.size w w1):=((aH _ w).alloc bW _).trans (hb.mono Z)
 clear hb;go_wp2_with fail;go_ret2;exact⟨rfl,HB.o.alloc HB.o.size _⟩):P:=h
theorem zZ {P:Prop}(h:P:=by
 go_wp2_with fail;refine(q6 _ _).mono ?_;rintro e w2 ⟨rfl,hb2⟩
 have hq:=(hb2.block (w.heap.size+1+1) Z).trans (uj w _ _ _)
 obtain⟨e0,e1,f0,lw⟩:=di hq;have HN:=hide hq;have HB:=hide (b1.trans (hb2.mono b1.size))
 go_wp2_with fail;obtain⟨r0,r1,_,_⟩:=di (gy (v1:=ah 1) (v2:=ah 0) HN.o)
 exact a3 (v:=.agg #[ah 1,ah 0]) (by simp[results,results209,go_sem,r0,r1]) rfl ⟨rfl,(HB.o.setCell (by simp;omega) _).setCell (by simp;omega) _⟩):P:=h
theorem z3 {P:Prop}(h:P:=by
 go_enter func200,ntmps200;go_wp2_with fail;refine P.mono ?_;clear P;rintro e w1 ⟨rfl,hb⟩
 have HB:ay (Below w.heap.size w w1):=((aH _ w).alloc bW _).trans (hb.mono Z)
 clear hb;go_wp2_with fail;go_ret;exact⟨rfl,HB.o.alloc HB.o.size _⟩):P:=h
section
variable {T:List cD}{wt:List b7}
theorem ou.uniq {is a b:List Bool}(h:ou T wt is a)(c:ou T wt is b):a=b:=by
 refine List.ext_getElem (h.len.trans c.len.symm) (fun i d e=>?_)
 have key:ct a i↔ct b i:=⟨fun q=>h.lt _ c.cl c.up i q,fun q=>c.lt _ h.cl h.up i q⟩
 unfold ct at key;cases ha:a[i]<;>cases hb:b[i]<;>simp_all
end
def cL (L:List Bool)(x:Int):Bool:=L.getD x.toNat false
def fw (g:List Bool->List Bool)(L:List Bool)(x:Int):List Bool:=g (L.set x.toNat true)
def iD (T:List cD)(L:List Bool):Nat->Int
 |0=>0
 |i+1=>if L.getD i false=true then iD T L i+(1+(T.getD i t0).2.1.length) else iD T L i
def fz (L:List Bool)(i:Nat)(t:cD):cD:=
 if L.getD i false=true then
  (t.1,(if t.1=4/\dH L (t.2.1.getD 0 (0,0))=false then[(2,0),(2,0)] else if t.1=3/\dH L (t.2.1.getD 0 (0,0))=false then[(2,0),t.2.1.getD 1 (0,0)] else t.2.1),true,t.2.2.2)
 else(t.1,[],t.2.2.1,true)
def f6 (L:List Bool)(T:List cD):Nat->List cD
 |0=>T
 |i+1=>(f6 L T i).set i (fz L i (T.getD i t0))
def ck.c0 (g:List Bool->List Bool)(s:ck)(mj:Bool):List Bool:=g (jW s.T s.rs mj)
def ck.cR (g:List Bool->List Bool)(s:ck)(mj:Bool):List Bool×List b7×List b7:=
 turns cL (fw g) (s.rg.length+1) (s.rg.filter (fun e=>!cL (s.c0 g mj) e.2)) (s.c0 g mj) []
def ck.cF (g:List Bool->List Bool)(s:ck)(bZ:Int)(mj:Bool):Bool:=
 (!mj&&decide (bZ-(d_ s.T).2<(d_ s.T).1))||decide (bZ<iD s.T (s.cR g mj).1 s.T.length)
def ck.cut (g:List Bool->List Bool)(s:ck)(bZ:Int)(mj:Bool):ck:=
 if s.cF g bZ mj=true then s else
  {T:=f6 (s.cR g mj).1 s.T s.T.length,rs:=s.rs,rg:=s.rg.filter (fun e=>cL (s.c0 g mj) e.2&&cL (s.cR g mj).1 e.1),wt:=(s.wt++(s.cR g mj).2.1).filter (fun e=>cL (s.cR g mj).1 e.1)}
def ck.gN (g:List Bool->List Bool)(s:ck)(bZ:Int)(mj:Bool):Int:=if s.cF g bZ mj=true then 3 else 0
def dR (T:List cD)(wt:List b7)(g:List Bool->List Bool):Prop:=∀is:List Bool,is.length=T.length->(∀k,ct is k->cv T k)->ou T wt is (g is)
theorem jB (L:List Bool)(T:List cD):∀i,(f6 L T i).length=T.length
 |0=>rfl
 |i+1=>by rw[f6,a4];exact jB L T i
theorem q7 (L:List Bool)(T:List cD):∀(i j:Nat),i<=T.length->j<T.length->(f6 L T i).getD j t0=if j<i then fz L j (T.getD j t0) else T.getD j t0
 |0,j,_,_=>by rfl
 |i+1,j,hi,b=>by
  rw[f6,aE,List.getElem?_set];by_cases e:i=j
  ·subst e;rw[aI rfl,aI (by rw[jB];exact b),aI V];rfl
  ·rw[aG e,<-aE,(q7 L T i j V b)];by_cases c:j<i
   ·rw[aI c,aI V]
   ·rw[aG c,aG V]
theorem z4 (T:List cD)(L:List Bool)(h:∀i,(T.getD i t0).2.1.length<=12):∀i,0<=iD T L i/\iD T L i<=13*i
 |0=>by simp[iD]
 |i+1=>by
  have b:=z4 T L h i;have:=h i;unfold iD;split
  ·omega
  ·omega
section
variable {T:List cD}{wt:List b7}{g:List Bool->List Bool}
structure gD (T:List cD)(L:List Bool):Prop where
 len:L.length=T.length
 al:∀k,ct L k->cv T k
theorem dR.ok (hg:dR T wt g)(c:e4 T wt){L:List Bool}(h:gD T L):gD T (g L)/\∀k,ct L k->ct (g L) k:=by have b:=hg L h.len h.al;exact⟨⟨b.len.trans h.len,fun k hk=>b.lt _ c.cls h.al k hk⟩,b.up⟩
theorem gD.put {L:List Bool}(h:gD T L){x:Nat}(b:cv T x):gD T (L.set x true)/\ct (L.set x true) x/\∀k,ct L k->ct (L.set x true) k:=by
 have hl:x<L.length:=by rw[h.len];exact b.1
 refine⟨⟨by rw[a4];exact h.len,fun k hk=>?_⟩,?_,fun k hk=>?_⟩
 ·unfold ct at hk;rw[i7 _ _ _ hl] at hk;split at hk
  ·rename_i e;rw[<-e];exact b
  ·exact h.al k hk
 ·unfold ct;rw[i7 _ _ _ hl,aI rfl]
 ·unfold ct at hk⊢;rw[i7 _ _ _ hl];split
  ·rfl
  ·exact hk
theorem gD.fw (hg:dR T wt g)(c:e4 T wt){L:List Bool}(h:gD T L){x:Int}(d:cv T x.toNat):gD T (fw g L x)/\ct (fw g L x) x.toNat/\∀k,ct L k->ct (fw g L x) k:=by obtain⟨e,f,i⟩:=h.put d;obtain⟨q1,b⟩:=hg.ok c e;exact⟨q1,b _ f,fun k hk=>b _ (i k hk)⟩
end
structure fH (s:ck):Prop where
 iv:e4 s.T s.wt
 rv:∀v∈s.rs,v.1=3->0<=v.2/\cv s.T v.2.toNat
 gv:∀e∈s.rg,(0<=e.1/\cv s.T e.1.toNat)/\0<=e.2/\cv s.T e.2.toNat
 wg:∀e∈s.wt,0<=e.1/\cv s.T e.1.toNat
 tl:s.T.length<=10000
 gl:s.rg.length<=1000
 wl:s.wt.length<=1000
theorem fH.t12 {s:ck}(h:fH s):∀t∈s.T,t.2.1.length<=12:=fun t ht=>by
 obtain⟨i,hi,e⟩:=List.mem_iff_getElem.1 ht;have:=h.iv.tl i;rw[aE,aL hi,e] at this
 exact this
theorem fH.first {s:ck}(h:fH s)(mj:Bool):gD s.T (jW s.T s.rs mj):=
 ⟨zX _ _ _,fun k hk=>by
  obtain⟨c,b⟩:=(kt _ _ _ _).1 hk;rcases b with⟨_,b,_⟩|⟨v,hv,d,e⟩
  ·exact⟨c,b⟩
  ·rw[<-e];exact(h.rv v hv d).2⟩
abbrev gO:=List cD->List b7->List Bool->List Bool
def iE (T:List cD)(v:Int×Int):Bool:=v.1==3&&(T.getD v.2.toNat t0).1==5
def jC (T:List cD)(v:Int×Int):Bool:=v.1==3&&!((T.getD v.2.toNat t0).1==5)
theorem q8 {T:List cD}{v:Int×Int}:iE T v=true↔v.1=3/\(T.getD v.2.toNat t0).1=5:=by unfold iE;simp
theorem jD {T:List cD}{v:Int×Int}:jC T v=true↔v.1=3/\(T.getD v.2.toNat t0).1≠5:=by unfold jC;simp
abbrev i8 (T:List cD)(j i:Nat)(y:Int×Int):List cD:=T.set j ((T.getD j t0).1,(T.getD j t0).2.1.set i y,(T.getD j t0).2.2)
def ck.room (g:gO)(b_ bZ:Int)(s:ck)(m:Int):Int×ck:=
 if m<=b_-(d_ s.T).1 then(0,s) else(s.gN (g s.T s.wt) bZ (decide (bZ-(d_ s.T).2<(d_ s.T).1)),s.cut (g s.T s.wt) bZ (decide (bZ-(d_ s.T).2<(d_ s.T).1)))
def ck.put (s:ck)(kd:Int)(l:List (Int×Int)):ck:={s with T:=s.T++[(kd,l,false,false)]}
def ck.bZ (g:gO)(b_ bZ:Int)(s:ck)(kd:Int)(l:List (Int×Int)):(Int×Int)×Int×ck:=
 if(s.room g b_ bZ (1+l.length)).1=0 then((3,((s.room g b_ bZ (1+l.length)).2.T.length:Int)),0,(s.room g b_ bZ (1+l.length)).2.put kd l)
 else((0,0),(s.room g b_ bZ (1+l.length)).1,(s.room g b_ bZ (1+l.length)).2)
def ck.pop (s:ck)(v:Int×Int):(Int×Int)×Int×ck:=
 if iE s.T v=true then(if dO v.2 s.wt<s.wt.length then((3,(s.wt.getD (dO v.2 s.wt) (0,0)).2),0,{s with wt:=s.wt.take (dO v.2 s.wt)++s.wt.drop (dO v.2 s.wt+1)}) else((0,0),4,s)) else((0,0),2,s)
def ck.fc (s:ck)(v:Int×Int)(I:Int):Int:=if jC s.T v=true then(if I<0\/((s.T.getD v.2.toNat t0).2.1.length:Int)<=I then 1 else 0) else 2
def ck.rt (g:gO)(b_ bZ:Int)(s:ck)(k:Int)(A B:Nat)(I n:Int):(Int×Int)×Int×ck:=
 if k=1 then((1,n),0,s) else if k=3 then(s.rs.getD A (0,0),0,s) else if k=4 then s.bZ g b_ bZ 1 [s.rs.getD A (0,0),s.rs.getD B (0,0)] else if k=5 then s.bZ g b_ bZ 2 (List.replicate n.toNat (s.rs.getD A (0,0)))
 else if k=6 then s.bZ g b_ bZ 3 [s.rs.getD A (0,0),s.rs.getD B (0,0)] else if k=7 then s.bZ g b_ bZ 4 [s.rs.getD A (0,0),s.rs.getD B (0,0)] else if k=8 then s.bZ g b_ bZ 5 [] else if k=10 then s.pop (s.rs.getD A (0,0))
 else if k=11 then((if s.fc (s.rs.getD A (0,0)) I=0 then(s.T.getD (s.rs.getD A (0,0)).2.toNat t0).2.1.getD I.toNat (0,0) else(0,0)),s.fc (s.rs.getD A (0,0)) I,s)
 else if k=13 then(if jC s.T (s.rs.getD A (0,0))=true then((1,((s.T.getD (s.rs.getD A (0,0)).2.toNat t0).2.1.length:Int)),0,s) else((0,0),2,s))
 else if k=14 then((1,if s.rs.getD A (0,0)=s.rs.getD B (0,0) then 1 else 0),0,s) else((0,0),0,s)
def ck.reg (s:ck)(t b:Int×Int):Int×ck:=
 if t.1=3/\iE s.T b=true then(if 24<=s.rg.length+s.wt.length then(3,s) else(0,{s with rg:=s.rg++[(b.2,t.2)]})) else(2,s)
def ck.set (s:ck)(v:Int×Int)(I:Int)(y:Int×Int):Int×ck:=(s.fc v I,if s.fc v I=0 then {s with T:=i8 s.T v.2.toNat I.toNat y} else s)
def ck.ij (g:gO)(b_ bZ:Int)(s:ck)(k R A B I n:Int):Int×ck:=
 if dJ k R A B n=0 then(if k=9 then s.reg (s.rs.getD A.toNat (0,0)) (s.rs.getD B.toNat (0,0)) else if k=12 then s.set (s.rs.getD A.toNat (0,0)) I (s.rs.getD B.toNat (0,0))
  else if k=15 then(s.gN (g s.T s.wt) bZ false,s.cut (g s.T s.wt) bZ false) else if k=16 then(s.gN (g s.T s.wt) bZ true,s.cut (g s.T s.wt) bZ true)
  else if(s.rt g b_ bZ k A.toNat B.toNat I n).2.1=0 then(0,{(s.rt g b_ bZ k A.toNat B.toNat I n).2.2 with rs:=(s.rt g b_ bZ k A.toNat B.toNat I n).2.2.rs.set R.toNat (s.rt g b_ bZ k A.toNat B.toNat I n).1})
  else((s.rt g b_ bZ k A.toNat B.toNat I n).2.1,(s.rt g b_ bZ k A.toNat B.toNat I n).2.2))
 else(dJ k R A B n,s)
structure dw where
 A:List Bool
 td:List Int
 hd:Int->List (Int×Int)
 m:Nat
def dZ (s:dw)(v:Int×Int):dw:=if dH s.A v=true then s else {s with A:=s.A.set v.2.toNat true,td:=s.td++[v.2]}
def dm (s:dw)(l:List (Int×Int)):dw:=l.foldl dZ s
def kQ (s:dw)(k v:Int×Int):dw:=if dH s.A k=true then dZ s v else {s with hd:=fun x=>if x=k.2 then s.hd x++[v] else s.hd x,m:=s.m+1}
def gm (T:List cD)(wt:List b7)(s:dw)(i:Int):dw:=
 if(T.getD i.toNat t0).1=1\/(T.getD i.toNat t0).1=2 then dm s (T.getD i.toNat t0).2.1
 else if(T.getD i.toNat t0).1=3 then dZ s ((T.getD i.toNat t0).2.1.getD 1 (0,0))
 else if(T.getD i.toNat t0).1=4 then kQ s ((T.getD i.toNat t0).2.1.getD 0 (0,0)) ((T.getD i.toNat t0).2.1.getD 1 (0,0))
 else if(T.getD i.toNat t0).1=5 then dm s ((ef wt i).map fun x=>(3,x)) else s
def gE (T:List cD)(wt:List b7)(s:dw)(i:Int):dw:=dm (gm T wt s i) ((gm T wt s i).hd i)
theorem z5 (s:dw)(l:List (Int×Int))(v:Int×Int):dm s (l++[v])=dZ (dm s l) v:=by simp[dm,List.foldl_append]
def pE (T:List cD)(wt:List b7)(s:dw)(P:Int->Prop)(i:Nat):Prop:=
 ((T.getD i t0).1≠4->∀v,jA T wt (fun _=>True) i v->v.1=3->ct s.A v.2.toNat)/\
 ((
   T.getD i t0).1=4->(((T.getD i t0).2.1.getD 0 (0,0)).1=3/\(¬ct s.A ((T.getD i t0).2.1.getD 0 (0,0)).2.toNat\/P ((T.getD i t0).2.1.getD 0 (0,0)).2)/\(T.getD i t0).2.1.getD 1 (0,0)∈s.hd ((T.getD i t0).2.1.getD 0 (0,0)).2)\/
   (((T.getD i t0).2.1.getD 1 (0,0)).1=3->ct s.A ((T.getD i t0).2.1.getD 1 (0,0)).2.toNat))
structure eQ (T:List cD)(wt:List b7)(is:List Bool)(s:dw)(E:List Int):Prop where
 len:s.A.length=T.length
 al:∀k,ct s.A k->cv T k
 lt:∀X,gX T wt X->(∀k,ct is k->X k)->∀k,ct s.A k->X k
 td:∀x,x∈E\/x∈s.td->0<=x/\ct s.A x.toNat
 hd:∀x v,v∈s.hd x->∃i,ct s.A i/\(T.getD i t0).1=4/\(T.getD i t0).2.1.getD 0 (0,0)=(3,x)/\v=(T.getD i t0).2.1.getD 1 (0,0)
 de:∀i:Nat,ct s.A i->¬((i:Int)∈E\/(i:Int)∈s.td)->pE T wt s (fun x=>x∈E\/x∈s.td) i
section
variable {T:List cD}{wt:List b7}{is:List Bool}{s:dw}{E:List Int}
theorem z6 {L:List Bool}{i k:Nat}(h:ct L k):ct (L.set i true) k:=by
 by_cases hi:i<L.length
 ·unfold ct;rw[i7 _ _ _ hi];split
  ·rfl
  ·exact h
 ·rw[List.set_eq_of_length_le V];exact h
theorem ni (s:dw)(v:Int×Int){k:Nat}(h:ct s.A k):ct (dZ s v).A k:=by
 unfold dZ;split
 ·exact h
 ·exact z6 h
theorem uk (s:dw)(v:Int×Int)(b:v.1=3)(hl:v.2.toNat<s.A.length):ct (dZ s v).A v.2.toNat:=by
 unfold dZ;split
 ·exact ng ‹_› b
 ·unfold ct;rw[i7 _ _ _ hl,aI rfl]
theorem q9 (s:dw)(v:Int×Int):(dZ s v).A.length=s.A.length:=by
 unfold dZ;split
 ·rfl
 ·simp
theorem nk (s:dw)(v:Int×Int):(dZ s v).hd=s.hd/\(dZ s v).m=s.m:=by unfold dZ;split<;>exact⟨rfl,rfl⟩
theorem HG (s:dw)(v:Int×Int){x:Int}(h:x∈s.td):x∈(dZ s v).td:=by
 unfold dZ;split
 ·exact h
 ·exact aX _ h
theorem HH (s:dw)(v:Int×Int)(hv:v.1=3->0<=v.2){k:Nat}(h:ct (dZ s v).A k):ct s.A k\/(k:Int)∈(dZ s v).td:=by
 unfold dZ at h⊢;split at h
 ·exact aK h
 ·rename_i hn;have hn:dH s.A v=false:=by simpa using hn
  obtain⟨b,c⟩:=mc hn;rw[aG (by rw[hn];decide)];unfold ct at h;by_cases hl:v.2.toNat<s.A.length
  ·rw[i7 _ _ _ hl] at h;split at h
   ·rename_i e;refine aJ (a9 _ ?_)
    have:=hv b;simp;omega
   ·exact aK h
  ·rw[List.set_eq_of_length_le V] at h;exact aK h
theorem i9 (s:dw)(l:List _):(dm s l).hd=s.hd/\(dm s l).m=s.m/\(dm s l).A.length=s.A.length:=by
 induction l generalizing s with
 |nil=>exact⟨rfl,rfl,rfl⟩
 |cons v l b=>
  have h:=b (dZ s v)
  exact⟨h.1.trans (nk s v).1,h.2.1.trans (nk s v).2,h.2.2.trans (q9 s v)⟩
theorem ku (s:dw)(l:List _){k:Nat}(h:ct s.A k):ct (dm s l).A k:=by
 induction l generalizing s with
 |nil=>exact h
 |cons v l b=>exact b (dZ s v) (ni s v h)
theorem HI (s:dw)(l:List _){x:Int}(h:x∈s.td):x∈(dm s l).td:=by
 induction l generalizing s with
 |nil=>exact h
 |cons v l b=>exact b (dZ s v) (HG s v h)
theorem ul (s:dw)(l:List _)(hl:∀v∈l,v.1=3->v.2.toNat<s.A.length):∀v∈l,v.1=3->ct (dm s l).A v.2.toNat:=by
 induction l generalizing s with
 |nil=>intro v hv;cases hv
 |cons c l d=>
  intro v hv b;rcases List.mem_cons.1 hv with e|hv
  ·exact ku (dZ s c) l (by rw[e] at b⊢;exact uk s c b (hl c Z b))
  ·exact d (dZ s c) (fun v hv b=>by rw[q9];exact hl v (aO _ hv) b) v hv b
theorem HL (s:dw)(l:List _)(hl:∀v∈l,v.1=3->0<=v.2){k:Nat}(h:ct (dm s l).A k):ct s.A k\/(k:Int)∈(dm s l).td:=by
 induction l generalizing s with
 |nil=>exact aK h
 |cons v l b=>
  rcases b (dZ s v) (fun v hv d=>hl v (aO _ hv) d) h with c|c
  ·rcases HH s v (hl v Z) c with c|c
   ·exact aK c
   ·exact aJ (HI (dZ s v) l c)
  ·exact aJ c
theorem pE.mono {s d:dw}{P f:Int->Prop}{i:Nat}(h:pE T wt s P i)(g:∀k,ct s.A k->ct d.A k)(l:∀x:Int,0<=x->ct d.A x.toNat->¬ct s.A x.toNat->f x)(m:∀x,P x->f x)(n:∀x v,v∈s.hd x->v∈d.hd x)(h0:(T.getD i t0).1=4->((T.getD i t0).2.1.getD 0 (0,0)).1=3->0<=((T.getD i t0).2.1.getD 0 (0,0)).2):pE T wt d f i:=by
 refine⟨fun hk v hv o=>g _ (h.1 hk v hv o),fun hk=>?_⟩
 rcases h.2 hk with⟨a,b,c⟩|a
 ·refine aK ⟨a,?_,n _ _ c⟩
  by_cases j:ct d.A ((T.getD i t0).2.1.getD 0 (0,0)).2.toNat
  ·right;rcases b with b|b
   ·exact l _ (h0 hk a) j b
   ·exact m _ b
  ·exact aK j
 ·exact aJ (fun e=>g _ (a e))
theorem lD (b:e4 T wt){i:Nat}(hi:cv T i)(hk:(T.getD i t0).1=4)(j:Nat)(c:j<2):((T.getD i t0).2.1.getD j (0,0)).1=3->0<=((T.getD i t0).2.1.getD j (0,0)).2/\cv T ((T.getD i t0).2.1.getD j (0,0)).2.toNat:=fun d=>
 b.fv i hi _ (getD_in (by rw[b.fl i hi (aJ hk)];exact c)) d
theorem um {s:dw}{v:Int×Int}(h:dH s.A v=true):dZ s v=s:=by unfold dZ;rw[aI h]
theorem q_ {s:dw}{v:Int×Int}(h:dH s.A v=false):dZ s v={s with A:=s.A.set v.2.toNat true,td:=s.td++[v.2]}:=by unfold dZ;rw[h];rfl
theorem eQ.mark (h:eQ T wt is s E)(q:e4 T wt)(v:Int×Int)(hv:v.1=3->0<=v.2/\cv T v.2.toNat)(t:v.1=3->∀X,gX T wt X->(∀k,ct is k->X k)->X v.2.toNat):eQ T wt is (dZ s v) E:=by
 cases hi:dH s.A v
 ·obtain⟨j,w⟩:=mc hi;obtain⟨v0,m⟩:=hv j;have hl:v.2.toNat<s.A.length:=by rw[h.len];exact m.1
  have f:∀k,ct (dZ s v).A k↔v.2.toNat=k\/ct s.A k:=fun k=>by
   rw[q_ hi];unfold ct;rw[i7 _ _ _ hl];split
   ·rename_i e;exact⟨fun _=>aK e,fun _=>rfl⟩
   ·rename_i e;exact⟨aJ,fun c=>c.resolve_left e⟩
  have g:∀x,x∈(dZ s v).td↔x∈s.td\/x=v.2:=fun x=>by rw[q_ hi];simp
  refine⟨(q9 s v).trans h.len,fun k hk=>?_,fun X n hb k hk=>?_,fun x d=>?_,fun x o l=>?_,fun i u hn=>?_⟩
  ·rcases(f k).1 hk with e|hk
   ·rw[<-e];exact m
   ·exact h.al k hk
  ·rcases(f k).1 hk with e|hk
   ·rw[<-e];exact t j X n hb
   ·exact h.lt X n hb k hk
  ·rcases d with d|d
   ·exact⟨(h.td x (aK d)).1,ni s v (h.td x (aK d)).2⟩
   ·rcases(g x).1 d with d|d
    ·exact⟨(h.td x (aJ d)).1,ni s v (h.td x (aJ d)).2⟩
    ·rw[d];exact⟨v0,(f _).2 (aK rfl)⟩
  ·rw[(nk s v).1] at l;obtain⟨i,a,b⟩:=h.hd x o l;exact⟨i,ni s v a,b⟩
  ·have p:ct s.A i:=by
    rcases(f i).1 u with e|c
    ·exact absurd (aJ ((g _).2 (aJ V))) hn
    ·exact c
   refine(h.de i p (fun c=>hn (c.imp id (fun c=>(g _).2 (aK c))))).mono (fun k hk=>ni s v hk) (fun x A ha hb=>?_) (fun x d=>d.imp id (fun c=>(g _).2 (aK c))) (fun x o l=>by rw[(nk s v).1];exact l) (fun hk j=>(lD q (h.al i p) hk 0 aa j).1)
   rcases(f _).1 ha with e|c
   ·exact aJ ((g _).2 (aJ V))
   ·exact absurd c hb
 ·rw[um hi];exact h
theorem eQ.marks (h:eQ T wt is s E)(e:e4 T wt)(l:List _)(hv:∀v∈l,v.1=3->0<=v.2/\cv T v.2.toNat)(d:∀v∈l,v.1=3->∀X,gX T wt X->(∀k,ct is k->X k)->X v.2.toNat):eQ T wt is (dm s l) E:=by
 induction l generalizing s with
 |nil=>exact h
 |cons v l f=>exact f (h.mark e v (hv v Z) (d v Z)) (fun b c=>hv b (aO _ c)) (fun b c=>d b (aO _ c))
theorem z7 (s:dw)(v:Int×Int)(hv:v.1=3->v.2.toNat<s.A.length):(dZ s v).td.length+cnt (dZ s v).A=s.td.length+cnt s.A:=by
 cases hi:dH s.A v
 ·obtain⟨c,b⟩:=mc hi;have d:=ug s.A v.2.toNat (by rw[aE,aL (hv c)] at b⊢;exact b)
  rw[q_ hi];simp only [List.length_append,List.length_singleton];omega
 ·rw[um hi]
theorem pF (s:dw)(l:List _)(hl:∀v∈l,v.1=3->v.2.toNat<s.A.length):(dm s l).td.length+cnt (dm s l).A=s.td.length+cnt s.A:=by
 induction l generalizing s with
 |nil=>rfl
 |cons v l b=>exact(b (dZ s v) (fun c d e=>by rw[q9];exact hl c (aO _ d) e)).trans (z7 s v (hl v Z))
theorem eQ.pop {t:List Int}{x:Int}(h:eQ T wt is s [])(d:e4 T wt)(e:s.td=t++[x]):eQ T wt is {s with td:=t} [x]:=by
 have hm:∀y,(y∈[x]\/y∈t)↔(y∈([]:List Int)\/y∈s.td):=fun y=>by rw[e];simp[or_comm]
 exact⟨h.len,h.al,h.lt,fun y hy=>h.td y ((hm y).1 hy),h.hd,fun i hi hn=>(h.de i hi (fun c=>hn ((hm _).2 c))).mono (fun _ c=>c) (fun _ _ a b=>absurd a b) (fun y hy=>(hm y).2 hy) (fun _ _ c=>c) (fun hk f=>(lD d (h.al i hi) hk 0 aa f).1)⟩
theorem eQ.hold {i n:Nat}{x:Int}{d:Int×Int}(h:eQ T wt is s E)(g:e4 T wt)(hi:ct s.A i)(hk:(T.getD i t0).1=4)(h0:(T.getD i t0).2.1.getD 0 (0,0)=(3,x))(k:(T.getD i t0).2.1.getD 1 (0,0)=d):
 eQ T wt is {s with hd:=fun y=>if y=x then s.hd y++[d] else s.hd y,m:=n} E:=by
 refine⟨h.len,h.al,h.lt,h.td,fun y v hv=>?_,fun j f hn=>(h.de j f hn).mono (fun _ c=>c) (fun _ _ a b=>absurd a b) (fun _ c=>c) (fun y v hv=>?_) (fun hk l=>(lD g (h.al j f) hk 0 aa l).1)⟩
 ·dsimp only at hv;split at hv
  ·rename_i e;rcases List.mem_append.1 hv with hv|hv
   ·exact h.hd y v hv
   ·simp at hv;exact⟨i,hi,hk,by rw[h0,e],by rw[hv,k]⟩
  ·exact h.hd y v hv
 ·dsimp only;split
  ·exact aX _ hv
  ·exact hv
theorem eQ.drop {i:Nat}(h:eQ T wt is s [(i:Int)])(d:¬(i:Int)∈s.td->pE T wt s (fun x=>x∈s.td) i)(f:∀v∈s.hd i,v.1=3->ct s.A v.2.toNat):eQ T wt is s []:=by
 refine⟨h.len,h.al,h.lt,fun x g=>h.td x (g.imp (fun c=>by simp at c) id),h.hd,fun j k hn=>?_⟩
 have hn:_:=fun c=>hn (aJ c)
 by_cases e:j=i
 ·subst e;have:=d hn;exact⟨this.1,fun hk=>(this.2 hk).imp (fun⟨a,b,c⟩=>⟨a,b.imp id aJ,c⟩) id⟩
 ·have:=h.de j k (fun c=>c.elim (fun c=>by simp at c;omega) hn)
  refine⟨this.1,fun hk=>?_⟩
  rcases this.2 hk with⟨a,b,c⟩|a
  ·rcases b with b|b|b
   ·exact aK ⟨a,aK b,c⟩
   ·refine aJ (f _ ?_)
    simp at b;rw[<-b];simpa using c
   ·exact aK ⟨a,aJ (aJ b),c⟩
  ·exact aJ a
theorem un {i x:Int}:x∈ef wt i↔(∃e∈wt,e.1=i/\x=e.2):=by
 unfold ef;simp only [List.mem_map,List.mem_filter,beq_iff_eq];constructor
 ·rintro⟨e,⟨b,c⟩,rfl⟩
  exact⟨e,b,c,rfl⟩
 ·rintro⟨e,b,c,rfl⟩
  exact⟨e,⟨b,c⟩,rfl⟩
theorem eQ.list {i:Nat}(h:eQ T wt is s [(i:Int)])(c:e4 T wt)(hi:ct s.A i)(l:List _)(hl:∀v∈l,jA T wt (ct s.A) i v):eQ T wt is (dm s l) [(i:Int)]/\∀v∈l,v.1=3->ct (dm s l).A v.2.toNat:=
 ⟨h.marks c l (fun v hv b=>c.pD (h.al i hi) (hl v hv) b) (fun v hv b X d hb=>d i (h.al i hi).1 (h.lt X d hb i hi) v ((hl v hv).mono (fun k hk=>h.lt X d hb k hk)) b),
  ul s l (fun v hv b=>by rw[h.len];exact(c.pD (h.al i hi) (hl v hv) b).2.1)⟩
theorem eQ.free {i:Nat}(h:eQ T wt is s [(i:Int)])(g:e4 T wt)(hi:ct s.A i):eQ T wt is (dm s (s.hd i)) [(i:Int)]/\(∀v∈s.hd i,v.1=3->ct (dm s (s.hd i)).A v.2.toNat)/\(∀v∈s.hd i,v.1=3->0<=v.2/\v.2.toNat<s.A.length):=by
 have ho:∀v∈s.hd i,v.1=3->0<=v.2/\cv T v.2.toNat:=fun v hv d=>by obtain⟨j,a,b,c,e⟩:=h.hd _ _ hv;rw[e] at d⊢;exact lD g (h.al j a) b 1 aa d
 refine⟨h.marks g _ ho (fun v hv d X f hb=>?_),ul s _ (fun v hv d=>by rw[h.len];exact(ho v hv d).2.1),fun v hv d=>⟨(ho v hv d).1,by rw[h.len];exact(ho v hv d).2.1⟩⟩
 obtain⟨j,a,b,c,e⟩:=h.hd _ _ hv;refine f j (h.al j a).1 (h.lt X f hb j a) v (aJ (aJ (aK ⟨b,fun _=>?_,e⟩))) d;rw[c];exact h.lt X f hb _ (by simpa using hi)
end
section
variable {T:List cD}{wt:List b7}{is:List Bool}{s:dw}{E:List Int}
structure z8 (T:List cD)(wt:List b7)(is:List Bool)(s s':dw):Prop where
 mi:eQ T wt is s' []
 mm:s'.m<=s.m+1
 td:s'.td.length+cnt s'.A=s.td.length+cnt s.A
 up:∀k,ct s.A k->ct s'.A k
theorem rd {i:Nat}(h:eQ T wt is s [(i:Int)])(d:e4 T wt)(hi:ct s.A i)(hk:(T.getD i t0).1≠4)(l:List _)(e:∀v∈l,jA T wt (ct s.A) i v)(f:∀v,jA T wt (fun _=>True) i v->v∈l):
 z8 T wt is s (dm (dm s l) ((dm s l).hd i)):=by
 obtain⟨a1,a2⟩:=h.list d hi l e;obtain⟨b1,b2,b3⟩:=a1.free d (ku s l hi)
 refine⟨b1.drop (fun _=>⟨fun _ v hv b=>ku _ _ (a2 v (f v hv) b),fun c=>absurd c hk⟩) (fun v hv=>?_),?_,?_,fun k hk=>ku _ _ (ku _ _ hk)⟩
 ·rw[(i9 _ _).1] at hv;exact b2 v hv
 ·rw[(i9 _ _).2.1,(i9 _ _).2.1];omega
 ·rw[pF _ _ (fun v hv b=>(b3 v hv b).2),pF _ _ (fun v hv b=>by rw[h.len];exact(d.pD (h.al i hi) (e v hv) b).2.1)]
theorem eQ.look {i:Nat}(h:eQ T wt is s [(i:Int)])(b:e4 T wt)(hi:ct s.A i):z8 T wt is s (gE T wt s i):=by
 have o:=h.al i hi;unfold gE gm;rw[Int.toNat_natCast];by_cases k1:(T.getD i t0).1=1\/(T.getD i t0).1=2
 ·rw[aI k1];refine rd h b hi V _ (fun v hv=>aK ⟨k1,hv⟩) (fun v hv=>?_)
  rcases hv with c|c|c|c
  ·exact c.2
  ·exact absurd c.1 V
  ·exact absurd c.1 V
  ·exact absurd c.1 V
 rw[aG k1];by_cases g:(T.getD i t0).1=3
 ·rw[aI g];refine rd h b hi V [_] (fun v hv=>aJ (aK ⟨g,by simpa using hv⟩)) (fun v hv=>?_)
  rcases hv with c|c|c|c
  ·exact absurd c.1 V
  ·rw[c.2];simp
  ·exact absurd c.1 V
  ·exact absurd c.1 V
 rw[aG g];by_cases d:(T.getD i t0).1=4
 ·rw[aI d];unfold kQ;cases hk:dH s.A _
  ·obtain⟨q3,q⟩:=mc hk;rw[aG aa];have t:(T.getD i t0).2.1.getD 0 (0,0)=(3,((T.getD i t0).2.1.getD 0 (0,0)).2):=by rw[<-q3]
   obtain⟨b1,b2,b3⟩:=(h.hold (n:=s.m+1) b hi d t rfl).free b hi;refine⟨b1.drop (fun _=>⟨fun c=>absurd d c,fun _=>aK ⟨q3,?_,?_⟩⟩) (fun v hv=>?_),?_,?_,fun k hk=>ku _ _ hk⟩
   ·by_cases c:ct (dm {s with hd:=fun y=>if y=((T.getD i t0).2.1.getD 0 (0,0)).2 then s.hd y++[(T.getD i t0).2.1.getD 1 (0,0)] else s.hd y,m:=s.m+1} ((fun y=>if y=((T.getD i t0).2.1.getD 0 (0,0)).2 then s.hd y++[(T.getD i t0).2.1.getD 1 (0,0)] else s.hd y) (i:Int))).A ((T.getD i t0).2.1.getD 0 (0,0)).2.toNat
    ·right;rcases HL _ _ (fun v hv f=>(b3 v hv f).1) c with c|c
     ·exact absurd c (by unfold ct;rw[q];decide)
     ·have:=(lD b o d 0 aa q3).1;rwa [Int.toNat_of_nonneg this] at c
    ·exact aK c
   ·rw[(i9 _ _).1];dsimp only;rw[aI rfl];exact a9 _ Z
   ·rw[(i9 _ _).1] at hv;exact b2 v hv
   ·rw[(i9 _ _).2.1];exact aD _
   ·rw[pF _ _ (fun v hv f=>(b3 v hv f).2)]
  ·rw[aI rfl];have p:∀v∈[(T.getD i t0).2.1.getD 1 (0,0)],jA T wt (ct s.A) i v:=fun v hv=>aJ (aJ (aK ⟨d,fun c=>ng hk c,by simpa using hv⟩))
   obtain⟨a1,a2⟩:=h.list b hi _ p;obtain⟨b1,b2,b3⟩:=a1.free b (ku s _ hi)
   refine⟨b1.drop (fun _=>⟨fun c=>absurd d c,fun _=>aJ (fun c=>ku _ _ (a2 _ Z c))⟩) (fun v hv=>?_),?_,?_,fun k hk=>ku _ _ (ku s [_] hk)⟩
   ·rw[(i9 _ _).1] at hv;exact b2 v hv
   ·show(dm (dm s [_]) _).m<=_;rw[(i9 _ _).2.1,(i9 _ _).2.1];omega
   ·rw[show dZ s ((T.getD i t0).2.1.getD 1 (0,0))=dm s [(T.getD i t0).2.1.getD 1 (0,0)] from rfl];rw[pF _ _ (fun v hv f=>(b3 v hv f).2),pF _ _ (fun v hv f=>by rw[h.len];exact(b.pD o (p v hv) f).2.1)]
 rw[aG d];by_cases k5:(T.getD i t0).1=5
 ·rw[aI k5];refine rd h b hi d _ (fun v hv=>?_) (fun v hv=>?_)
  ·obtain⟨x,u,rfl⟩:=List.mem_map.1 hv;obtain⟨e,j,l,rfl⟩:=un.1 u;exact aJ (aJ (aJ ⟨k5,e,j,l,rfl⟩))
  ·rcases hv with c|c|c|c
   ·exact absurd c.1 V
   ·exact absurd c.1 V
   ·exact absurd c.1 V
   ·obtain⟨_,e,j,l,rfl⟩:=c;exact List.mem_map.2 ⟨e.2,un.2 ⟨e,j,l,rfl⟩,rfl⟩
 ·rw[aG k5];refine rd h b hi d [] (fun v hv=>by cases hv) (fun v hv=>?_)
  rcases hv with c|c|c|c
  ·exact absurd c.1 k1
  ·exact absurd c.1 g
  ·exact absurd c.1 d
  ·exact absurd c.1 k5
theorem eQ.done (h:eQ T wt is s [])(e:s.td=[])(hl:is.length=T.length)(g:∀k,ct is k->ct s.A k):ou T wt is s.A:=by
 refine⟨h.len.trans hl.symm,g,fun i _ j v hv d=>?_,h.lt⟩
 have hd:=h.de i j (by rw[e];simp)
 by_cases f:(T.getD i t0).1=4
 ·rcases hv with c|c|c|c
  ·exact absurd c.1 V
  ·exact absurd c.1 V
  ·rcases hd.2 f with⟨a,b,_⟩|a
   ·rcases b with b|b
    ·exact absurd (c.2.1 a) b
    ·rw[e] at b;simp at b
   ·rw[c.2.2] at d⊢;exact a d
  ·exact absurd c.1 V
 ·exact hd.1 f v (hv.mono (fun _ _=>trivial)) d
theorem eQ.base (h:eQ T wt is s []){b:List Bool}(c:∀k,ct s.A k->ct b k):eQ T wt b s []:=⟨h.len,h.al,fun _ _ hb k hk=>hb k (c k hk),h.td,h.hd,h.de⟩
theorem eQ.start (T:List cD)(wt:List b7)(is:List Bool):eQ T wt is ⟨List.replicate T.length false,[],fun _=>[],0⟩ []:=by
 have hn:∀k,¬ct (List.replicate T.length false) k:=fun k hk=>by unfold ct at hk;rw[aE,List.getElem?_replicate] at hk;split at hk<;>cases hk
 exact⟨Z,fun k hk=>absurd hk (hn k),fun _ _ _ k hk=>absurd hk (hn k),fun x b=>absurd b Z,fun x v hv=>absurd hv Z,fun i hi=>absurd hi (hn i)⟩
end
def hld (v:Value):Option (DataW Value×List MemPlace):=some (.held v,[])
theorem pG:Maps.Keyed prog 2:=Maps.int_keyed underlying2
theorem uo {a:Int}(h0:0<=a)(b:a<1152921504606846976):keyOf prog 2 (.int .i64 a)=some (.int .i64 a):=Maps.keyOf_int_mk underlying2 (WalkArith.wf_i64 ⟨V,V⟩)
def re (D:DataW Value)(f:Int->Option Value):Prop:=∀x:Int,Maps.has D (.int .i64 x)=(f x).isSome/\∀v,f x=some v->∀z,D.atKey (.int .i64 x) z=.held v
def es (w:ax)(b n:Nat)(f:Int->Option Value):Prop:=∃D,w.ownsMap prog 2 hld b n D/\re D f
def jE (f:Int->Option Value)(x:Int)(v:Value):Int->Option Value:=fun y=>if y=x then some v else f y
def gf (w:ax)(b r n:Nat)(f:Int->Option Value)(left:Int->Bool)(c:Nat):Prop:=∃D L,w.ranges prog 2 hld b r n D L c/\re D f/\∀x:Int,L (.int .i64 x)=left x
section
variable {w w':ax}{b r n c:Nat}{f:Int->Option Value}{t e:TypeId}{left:Int->Bool}
theorem es.made (w:ax):es (w.alloc (.map #[] 0)) w.heap.size 0 (fun _=>none):=⟨_,World.ownsMap_made w prog 2 hld,fun _=>⟨rfl,fun _ h=>by cases h⟩⟩
theorem es.lt (h:es w b n f):b<w.heap.size:=let⟨_,h,_⟩:=h;h.lt
theorem es.same (h:es w b n f)(e:w'.heap[b]?=w.heap[b]?):es w' b n f:=by obtain⟨D,⟨c,d,hb,r⟩,g⟩:=h;exact⟨D,⟨c,d,e.trans hb,r⟩,g⟩
theorem es.blk (h:es w b n f):∃c k,w.heap[b]?=some (.map c k):=let⟨_,⟨c,k,hb,_⟩,_⟩:=h;⟨c,k,hb⟩
theorem es.put (h:es w b n f)(ht:prog.underlying t=some (.map 2 e))(hn:n<100000){x:Int}(h0:0<=x)(j:x<1152921504606846976)(v:Value):
 ∃w',(Instr.mapUpdate t (.map (some b)) (ah x) v).run prog w=.ok () w'/\es w' b (n+1) (jE f x v)/\w.grownBy w' (some b):=by
 obtain⟨D,h,g⟩:=h;obtain⟨w',r1,l,r3⟩:=h.update pG ht (by unfold maxLen;omega) (uo h0 j) rfl;refine⟨w',r1,⟨_,l,fun y=>?_⟩,r3⟩
 unfold jE;by_cases c:y=x
 ·subst c;rw[aI rfl];exact⟨Maps.has_put_same (k:=.int .i64 y) h.isMap trivial _,fun i d z=>by cases d;exact Maps.atKey_put_same (k:=.int .i64 y) h.isMap trivial _ _⟩
 ·rw[aG c,Maps.has_put_other (by simpa using c)];exact⟨(g y).1,fun i d z=>by rw[Maps.atKey_put_other (by simpa using c)];exact(g y).2 i d z⟩
theorem re.val {D:DataW Value}(c:re D f){x:Int}{z v:Value}{ps:List MemPlace}(h:hld v=some (D.atKey (.int .i64 x) (.held z),ps)):v=(f x).getD z:=by
 have b:=(Prod.mk.inj (Option.some.inj h)).1;cases hf:f x with
 |none=>
  rw[Maps.atKey_of_not_has (by rw[(c x).1,hf];rfl)] at b;exact DataW.held.inj b
 |some d=>
  rw[(c x).2 d hf] at b;exact DataW.held.inj b
theorem es.look (h:es w b n f)(ht:prog.underlying t=some (.map 2 e)){z:Value}(hz:(zeroValue e).run prog w=.ok z w){x:Int}(h0:0<=x)(c:x<1152921504606846976):
 (Instr.lookup t (.map (some b)) (ah x) false).run prog w=.ok ((f x).getD z) w:=by
 obtain⟨D,h,d⟩:=h;obtain⟨v,ps,r1,g⟩:=h.lookup pG ht hz rfl (uo h0 c)
 rw[r1,d.val g]
theorem es.look_ok (h:es w b n f)(ht:prog.underlying t=some (.map 2 e)){z:Value}(hz:(zeroValue e).run prog w=.ok z w){x:Int}(h0:0<=x)(d:x<1152921504606846976):
 (Instr.lookup t (.map (some b)) (ah x) true).run prog w=.ok (.tuple #[(f x).getD z,.bool (f x).isSome]) w:=by
 obtain⟨D,h,c⟩:=h;obtain⟨v,ps,r1,g⟩:=h.look_ok pG ht hz rfl (uo h0 d)
 rw[r1,c.val g,(c x).1]
theorem gf.nl (h:gf w b r n f left c):es w b n f:=let⟨D,_,h,d,_⟩:=h;⟨D,h.owns,d⟩
theorem gf.left_eq (h:gf w b r n f left c):w.rangeLeft b r=c:=let⟨_,_,h,_⟩:=h;h.left_eq
theorem gf.lt (h:gf w b r n f left c):r<w.heap.size:=let⟨_,_,h,_⟩:=h;h.lt
theorem gf.same (h:gf w b r n f left c)(hb:w'.heap[b]?=w.heap[b]?)(hr:w'.heap[r]?=w.heap[r]?):gf w' b r n f left c:=by obtain⟨D,L,⟨d,e,g,seen,c0,i,j,k,l,m,o⟩,q⟩:=h;exact⟨D,L,⟨d,e,g,seen,c0,hb.trans i,j,k,l,hr.trans m,o⟩,q⟩
theorem es.range (h:es w b n f)(ht:prog.underlying t=some (.map 2 e)):
 ∃w' c,(Instr.range t (.map (some b))).run prog w=.ok (aj w.heap.size) w'/\gf w' b w.heap.size n f (fun x=>(f x).isSome) c/\w.grownBy w' none/\w'.heap.size=w.heap.size+1:=by
 obtain⟨D,h,d⟩:=h;obtain⟨w',r1,g,r3,i⟩:=h.range pG ht;exact⟨w',_,r1,⟨D,_,g,d,fun x=>(d x).1⟩,r3,i⟩
theorem gf.next (h:gf w b r n f left c)(ty:TypeId):(c=0/\(∀x,left x=false)/\(Instr.next (aj r) false ty).run prog w=.ok (.tuple #[.bool false]) w)\/
 ∃x v w' e,left x=true/\f x=some v/\(Instr.next (aj r) false ty).run prog w=.ok (.tuple #[.bool true,ah x,v]) w'/\
  gf w' b r n f (fun y=>left y&&!(y==x)) e/\e<c/\w.grownBy w' (some r)/\w'.heap.size=w.heap.size/\(Instr.entry (aj r)).run prog w'=.ok (.tuple #[ah x,v]) w':=by
 obtain⟨D,L,h,g,i⟩:=h;rcases h.next pG ty with⟨h0,hl,j⟩|⟨key,v,B,y,w',e,l,m,hv,k,j,o,p,q,s,t⟩
 ·exact aK ⟨h0,fun x=>(i x).symm.trans (hl _),j⟩
 ·obtain⟨x,rfl,rfl,C⟩:=Maps.keyOf_int_inv underlying2 l;have hy:y.1=.held v:=by cases hv;rfl
  have u:f x=some v:=by
   cases hf:f x with
   |none=>
    have d:=k (.lit (.int .i64 0))
    rw[Maps.atKey_of_not_has (by rw[(g x).1,hf];rfl),hy] at d;cases d
   |some A=>
    have d:=k (.lit (.int .i64 0))
    rw[(g x).2 A hf,hy] at d;rw[DataW.held.inj d]
  refine aJ ⟨x,v,w',e,(i x).symm.trans m,u,j,⟨D,_,o,g,fun z=>?_⟩,p,q,s,t⟩
  rw[i z,show(Lit.int .i64 z).sameKey (.int .i64 x)=(z==x) from(by show decide _=_;rw[Bool.eq_iff_iff];simp)]
end
def gq (v:Int×Int):Int:=ew v.1 v.2
def eZ (T:List cD)(v:Int×Int):Prop:=vc v.1 v.2=0/\(v.1=3->0<=v.2/\cv T v.2.toNat)
theorem eZ.lt {T:List cD}{v:Int×Int}(h:eZ T v)(b:v.1=3):0<=v.2/\v.2<T.length:=by obtain⟨h0,c⟩:=h.2 b;have:=c.1;exact⟨h0,V⟩
def tI (n:Nat):List Int:=(List.range n).map (fun i:Nat=>(i:Int))
theorem pH {n:Nat}{a:Int}:a∈tI n↔0<=a/\a<n:=by
 unfold tI;simp only [List.mem_map,List.mem_range];constructor
 ·rintro⟨i,hi,e⟩
  omega
 ·rintro⟨h0,b⟩
  exact⟨a.toNat,V,V⟩
theorem nm (n:Nat):(tI n).length=n:=by simp[tI]
def gP (T:List cD)(a:Int):Int:=(T.getD a.toNat t0).1
def gQ (T:List cD)(wt:List b7)(a:Int):List Int:=((T.getD a.toNat t0).2.1.map gq)++(if(T.getD a.toNat t0).1=5 then(wt.filter (fun e=>e.1==a)).map (fun e=>ew 3 e.2) else[])
structure nn (T:List cD)(wt:List b7):Prop where
 fv:∀i,cv T i->∀v∈(T.getD i t0).2.1,eZ T v
 wv:∀e∈wt,0<=e.1/\0<=e.2/\cv T e.2.toNat
 tl:∀i,(T.getD i t0).2.1.length<=12
 l1:T.length<=10000
 l2:wt.length<=10000
section
variable {T:List cD}{M:cQ->Int->cQ}{s:cQ}{v:Int×Int}
theorem nr (h:eZ T v):dk (gq v)=v.1/\de (gq v)=v.2:=(pT _ _ h.1).2
theorem HM (h:eZ T v)(b:v.1≠3):eg M (tI T.length) s (gq v)=(v,s):=by unfold eg;rw[(nr h).1,(nr h).2,aG b]
theorem HO (h:eZ T v)(b:v.1=3)(hs:s.1.contains v.2=true):eg M (tI T.length) s (gq v)=((3,(s.1.idxOf v.2:Int)),s):=by unfold eg;rw[(nr h).1,(nr h).2,aI b,aI (List.contains_iff_mem.2 (pH.2 (h.lt b))),aI hs]
theorem HQ (h:eZ T v)(b:v.1=3)(hs:s.1.contains v.2=false):eg M (tI T.length) s (gq v)=((3,(s.1.length:Int)),M s v.2):=by unfold eg;rw[(nr h).1,(nr h).2,aI b,aI (List.contains_iff_mem.2 (pH.2 (h.lt b))),aG (by rw[hs];simp)]
end
def dU.ez (T:List cD)(wt:List b7)(l:List (Int×Int)):List (Int×Int)×cQ:=dz (met (tI T.length) (gP T) (gQ T wt) T.length) (tI T.length) ([],[]) (l.map gq)
def pI (T:List cD)(x:Int):Bool:=decide (0<=x)&&(decide (x.toNat<T.length)&&!(T.getD x.toNat t0).2.2.2)
theorem z9 {T:List cD}{x:Int}:pI T x=true↔0<=x/\cv T x.toNat:=by unfold pI cv;simp
theorem HR {T:List cD}{x:Int}(h:¬(0<=x/\cv T x.toNat)):pI T x=false:=by
 cases e:pI T x
 ·rfl
 ·exact absurd (z9.1 e) h
abbrev Fm:=Nat->Option Addr×Nat
abbrev eD (T:List cD)(fm:Fm)(i:Nat):Value:=.slice (fm i).1 (T.getD i t0).2.1.length (fm i).2
abbrev fW (T:List cD)(fm:Fm)(i:Nat):Value:=.agg #[ah (T.getD i t0).1,eD T fm i]
def hI (T:List cD)(fm:Fm)(x:Int):Option Value:=if pI T x=true then some (fW T fm x.toNat) else none
theorem i_ {T:List cD}{fm:Fm}{x:Int}(h:0<=x/\cv T x.toNat):hI T fm x=some (fW T fm x.toNat):=by unfold hI;rw[aI (z9.2 h)]
theorem lE {T:List cD}{fm:Fm}{x:Int}(h:¬(0<=x/\cv T x.toNat)):hI T fm x=none:=by unfold hI;rw[HR h];rfl
structure gF where
 own:Nat->Nat
 mb:Nat
 bp:Nat
 rb:Nat
 fm:Fm
 fe:Nat
 n:Nat
 a0:Option Addr
 k0:Nat
 a1:Option Addr
 k1:Nat
structure G2 (l:gF)(T:List cD)(w:ax):Prop where
 mp:es w l.mb l.n (hI T l.fm)
 mn:l.n<=T.length
 dp:l.own l.mb=2
 fl:∀i,cv T i->w.ownsRow 0 97 2 (eD T l.fm i) (T.getD i t0).2.1.length (ev (T.getD i t0).2.1)
 eR:∀i,cv T i->∀k,some k=(eD T l.fm i).ownBlock->l.own k=10+i
 fe:∀i,cv T i->(T.getD i t0).2.2.1=decide (i<l.fe)
 al:l.fe<=T.length
structure G3 (l:gF)(r q:List b7)(w:ax):Prop where
 sd:fu w l.bp l.a0 l.k0 l.a1 l.k1 r q
 so:l.own l.bp=3
 ro:∀k,some k=(Value.slice l.a0 r.length l.k0).ownBlock->l.own k=5
 me:∀k,some k=(Value.slice l.a1 q.length l.k1).ownBlock->l.own k=6
structure G4 (l:gF)(rs:List (Int×Int))(w:ax):Prop where
 rt:w.heap[l.rb]?=some (.cells (ev rs).toArray 97 (0,0))
 rl:rs.length=12
 ro:l.own l.rb=4
structure dS (bY:Nat)(b_ bZ:Int)(l:gF)(s:ck)(w:ax):Prop where
 blk:w.heap[bY]?=some (.cells #[ah b_,ah bZ,.map (some l.mb),ah s.T.length,ah l.fe,aj l.bp,.slice (ak l.rb) 12 12] 187 (0,0))
 bo:l.own bY=1
 g2:G2 l s.T w
 g3:G3 l s.rg s.wt w
 g4:G4 l s.rs w
 lt:∀b,l.own b≠0->b<w.heap.size
section
variable {bY:Nat}{b_ bZ:Int}{l:gF}{s:ck}{w w':ax}{T:List cD}{r q:List b7}{rs:List (Int×Int)}
theorem G2.keep (h:G2 l T w)(hk:∀b,l.own b=2\/10<=l.own b->w'.heap[b]?=w.heap[b]?):G2 l T w':=
 {
  h with
  mp:=h.mp.same (hk _ (aK h.dp))
  fl:=fun i hi=>cH (h.fl i hi) (fun k e=>hk k (aJ (by rw[h.eR i hi k e];omega)))}
theorem G3.keep (h:G3 l r q w)(hk:∀b,l.own b=3\/l.own b=5\/l.own b=6->w'.heap[b]?=w.heap[b]?):G3 l r q w':=
 {h with sd:=h.sd.keep (hk _ (aK h.so)) (fun k e=>hk k (aJ (aK (h.ro k e)))) (fun k e=>hk k (aJ (aJ (h.me k e))))}
theorem G4.keep (h:G4 l rs w)(hk:∀b,l.own b=4->w'.heap[b]?=w.heap[b]?):G4 l rs w':={h with rt:=(hk _ h.ro).trans h.rt}
theorem dS.keep (h:dS bY b_ bZ l s w)(hs:w.heap.size<=w'.heap.size)(hk:∀b,l.own b≠0->w'.heap[b]?=w.heap[b]?):dS bY b_ bZ l s w':=
 {
  blk:=(hk _ (by rw[h.bo];decide)).trans h.blk
  bo:=h.bo
  g2:=h.g2.keep (fun b hb=>hk b V)
  g3:=h.g3.keep (fun b hb=>hk b V)
  g4:=h.g4.keep (fun b hb=>hk b V)
  lt:=fun b hb=>aM (h.lt b hb) hs}
end
def cx (bY:Nat)(b_ bZ:Int)(rb:Nat):dr ck where
 J F s w:=∃l,dS bY b_ bZ l s w/\l.rb=rb/\∀b,F b↔l.own b≠0
 lt:=by rintro F s w ⟨l,h,_,c⟩ b hb;exact h.lt b ((c b).1 hb)
 keep:=by rintro F s w w' ⟨l,h,hr,c⟩ hs hk;exact⟨l,h.keep hs (fun b hb=>hk b ((c b).2 hb)),hr,c⟩
section
variable {bY:Nat}{b_ bZ:Int}{l:gF}{F:Nat->Prop}{s:ck}{w w':ax}
theorem dS.below (h:dS bY b_ bZ l s w)(hb:Below w.heap.size w w'):dS bY b_ bZ l s w':=h.keep hb.size (fun b ho=>hb.block b (h.lt b ho))
theorem dS.cells (h:dS bY b_ bZ l s w):w.cell? (aq bY 0)=some (ah b_)/\w.cell? (aq bY 1)=some (ah bZ)/\w.cell? (aq bY 2)=some (.map (some l.mb))/\w.cell? (aq bY 3)=some (ah s.T.length)/\w.cell? (aq bY 4)=some (ah l.fe)/\
 w.cell? (aq bY 5)=some (aj l.bp)/\w.cell? (aq bY 6)=some (.slice (ak l.rb) 12 12)/\(∀o,w.frozen? (aq bY o)=false)/\bY<w.heap.size:=by
 have b:=h.blk;refine⟨?_,?_,?_,?_,?_,?_,?_,fun o=>by simp[World.frozen?,b],lt_of_some b⟩<;>simp[World.cell?,b]
theorem dS.HS {rb:Nat}(h:dS bY b_ bZ l s w)(e:w.cell? (aq bY 6)=some (.slice (ak rb) 12 12)):l.rb=rb:=by have c:=h.cells.2.2.2.2.2.2.1;rw[e] at c;cases c;rfl
theorem G4.cells {rs:List _}(h:G4 l rs w):l.rb<w.heap.size/\rs.length=12/\
 (∀i,i<12->w.cell? (aq l.rb (i*2))=some (ah (rs.getD i (0,0)).1)/\w.cell? (aq l.rb (i*2+1))=some (ah (rs.getD i (0,0)).2)/\w.frozen? (aq l.rb (i*2))=false/\w.frozen? (aq l.rb (i*2+1))=false):=by
 have b:=h.rt;have hl:=h.rl;refine⟨lt_of_some b,hl,fun i hi=>?_⟩
 obtain⟨c,d⟩:=nM rs i V;refine⟨?_,?_,by simp[World.frozen?,b],by simp[World.frozen?,b]⟩
 ·simp[World.cell?,b];simpa using c
 ·simp[World.cell?,b];simpa using d
end
theorem mf (w:ax):(zeroValue 220).run prog w=.ok (.agg #[ah 0,.slice none 0 0]) w:=by kernel_rfl
theorem iP (w:ax)(a o:Obj):((w.alloc a).alloc o).heap[w.heap.size+1]?=some o:=by have h:=aN (w.alloc a) o;rwa [show(w.alloc a).heap.size=w.heap.size+1 by simp] at h
theorem di {w:ax}{p:Nat}{a b:Value}{T:TypeId}(h:w.heap[p]?=some (.cells #[a,b] T (0,0))):w.cell? (aq p 0)=some a/\w.cell? (aq p 1)=some b/\(∀o,w.frozen? (aq p o)=false)/\p<w.heap.size:=
 ⟨by simp[World.cell?,h],by simp[World.cell?,h],fun o=>by simp[World.frozen?,h],lt_of_some h⟩
section
variable {bY:Nat}{b_ bZ:Int}{l:gF}{s:ck}{w:ax}
theorem uq (v:Int×Int)(hv:v.1≠3):
 Calls prog 199 #[aj bY,.agg #[ah v.1,ah v.2]] w fun e w'=>e=.returned (.tuple #[.agg #[ah 0,.slice none 0 0],.bool false])/\Below w.heap.size w w':=by
 obtain⟨k,x⟩:=v;dsimp only at hv⊢;go_enter func199,ntmps199;go_wp2_with fail;exact a3 (v:=.tuple #[.agg #[ah 0,.slice none 0 0],.bool false]) (by simp[results,results199,go_sem]) rfl ⟨rfl,(bX.alloc bW _).alloc Z _⟩
theorem rf (h:dS bY b_ bZ l s w)(x:Int)(b:0<=x/\cv s.T x.toNat)(d:s.T.length<=10000):
 Calls prog 199 #[aj bY,.agg #[ah 3,ah x]] w fun e w'=>e=.returned (.tuple #[fW s.T l.fm x.toNat,.bool true])/\Below w.heap.size w w':=by
 obtain⟨_,_,c2,_,_,_,_,_,f⟩:=h.cells;have hl:x<10000:=by have:=b.2.1;omega
 have L:∀W,Below w.heap.size w W->(Instr.lookup 184 (.map (some l.mb)) (ah x) true).run prog W=.ok (.tuple #[fW s.T l.fm x.toNat,.bool true]) W:=fun W hb=>by
  have:=(h.below hb).g2.mp.look_ok (t:=184) (e:=220) underlying184 (mf W) (x:=x) b.1 V;rw[i_ b] at this
  exact this
 have b1:Below w.heap.size w ((w.alloc (.cells #[.int .i64 3,.int .i64 x] 97)).alloc (.cells #[.int .i64 0,.slice none 0 0] 220)):=(bX.alloc bW _).alloc Z _;have k:=(b1.cell (p:=aq bY 2) f).trans c2;have m:((w.alloc (.cells #[.int .i64 3,.int .i64 x] 97)).alloc (.cells #[.int .i64 0,.slice none 0 0] 220)).cell? (aq w.heap.size 1)=some (ah x):=by simp[go_sem]
 have hn:=iP w (.cells #[.int .i64 3,.int .i64 x] 97) (.cells #[.int .i64 0,.slice none 0 0] 220)
 clear h d;dsimp only [fW,eD] at L⊢;generalize (s.T.getD x.toNat t0).1=kd at*;generalize (s.T.getD x.toNat t0).2.1.length=n at*;generalize (l.fm x.toNat).1=ad at*;generalize (l.fm x.toNat).2=cp at*;clear b;go_enter func199,ntmps199;go_wp2_with fail;generalize (w.alloc (.cells #[.int .i64 3,.int .i64 x] 97)).alloc (.cells #[.int .i64 0,.slice none 0 0] 220)=W at*;obtain⟨o,q,u,lw⟩:=di hn;have g:ay (_=_):=hn;have c:ay (Below w.heap.size w W):=b1;have i:=L _ b1.drew;have j:=L _ (b1.alloc b1.size (.cells #[.int .i64 0,.slice none 0 0] 220)).drew;clear L b1 hn
 go_region_held3 (fun w'=>w'.cell? (aq bY 2)=some (.map (some l.mb))/\w'.cell? (aq w.heap.size 1)=some (ah x)) (go_keep) (fail)
 all_goals
  clear i j;go_wp2_with fail;have hs:=c.o.size;obtain⟨r0,r1,_,_⟩:=di ((aS _ (.cells #[.int .i64 kd,.slice ad n cp] 220) _ (by simpa using lw)).trans (gy (v1:=ah kd) (v2:=.slice ad n cp) g.o))
  exact a3 (v:=.tuple #[.agg #[ah kd,.slice ad n cp],.bool true]) (by simp[results,results199,go_sem,r0,r1]) rfl ⟨rfl,(((c.o.setCell Z _).setCell Z _).alloc (by simpa using hs) _).drew⟩
theorem z_ (h:dS bY b_ bZ l s w)(v:Int×Int)(hv:v.1=3->0<=v.2/\cv s.T v.2.toNat)(b:s.T.length<=10000):
 Calls prog 200 #[aj bY,.agg #[ah v.1,ah v.2]] w fun e w'=>e=.returned (.bool (iE s.T v))/\Below w.heap.size w w':=by
 obtain⟨k,x⟩:=v;by_cases c:k=3
 ·subst c;have P:=rf (h.below ((aH _ w).alloc bW (.cells #[.int .i64 3,.int .i64 x] 97))) x (hv rfl) b;have e:iE s.T (3,x)=decide ((s.T.getD x.toNat t0).1=5):=by unfold iE;rw[Bool.eq_iff_iff];simp
  rw[e];clear h hv b e;dsimp only [fW,eD] at P⊢;generalize (s.T.getD x.toNat t0).1=kd at*;generalize (s.T.getD x.toNat t0).2.1.length=n at*;generalize (l.fm x.toNat).1=ad at*;generalize (l.fm x.toNat).2=cp at*;exact z3
 ·have P:=uq (bY:=bY) (w:=w.alloc (.cells #[.int .i64 k,.int .i64 x] 97)) (k,x) c;have e:iE s.T (k,x)=false:=by unfold iE;simp[c]
  rw[e];clear h hv b e;exact z3
theorem Aa (h:dS bY b_ bZ l s w)(v:Int×Int)(hv:v.1=3->0<=v.2/\cv s.T v.2.toNat)(b:s.T.length<=10000)(hk:v.1=3->(s.T.getD v.2.toNat t0).1=5):
 Calls prog 232 #[aj bY,.agg #[ah v.1,ah v.2]] w fun e w'=>e=.returned (.tuple #[.slice none 0 0,ah 2])/\Below w.heap.size w w':=by
 obtain⟨k,x⟩:=v;by_cases c:k=3
 ·subst c;have P:=rf (h.below ((aH _ w).alloc bW (.cells #[.int .i64 3,.int .i64 x] 97))) x (hv rfl) b;have hk:=hk rfl;clear h hv b;dsimp only [fW,eD] at P hk⊢;rw[hk] at P;clear hk;generalize (s.T.getD x.toNat t0).2.1.length=n at*;generalize (l.fm x.toNat).1=ad at*;generalize (l.fm x.toNat).2=cp at*;exact ui
 ·have P:=uq (bY:=bY) (w:=w.alloc (.cells #[.int .i64 k,.int .i64 x] 97)) (k,x) c;clear h hv b hk;exact ui
theorem ur (h:dS bY b_ bZ l s w)(x:Int)(hv:0<=x/\cv s.T x.toNat)(b:s.T.length<=10000)(hk:(s.T.getD x.toNat t0).1≠5):
 Calls prog 232 #[aj bY,.agg #[ah 3,ah x]] w fun e w'=>e=.returned (.tuple #[eD s.T l.fm x.toNat,ah 0])/\Below w.heap.size w w':=by
 have P:=rf (h.below ((aH _ w).alloc bW (.cells #[.int .i64 3,.int .i64 x] 97))) x hv b;clear h hv b;dsimp only [fW,eD] at P hk⊢;generalize (s.T.getD x.toNat t0).1=kd at*;generalize (s.T.getD x.toNat t0).2.1.length=n at*;generalize (l.fm x.toNat).1=ad at*;generalize (l.fm x.toNat).2=cp at*;exact ui
theorem Ab (h:dS bY b_ bZ l s w)(v:Int×Int)(i:Int)(hv:v.1=3->0<=v.2/\cv s.T v.2.toNat)(b:s.T.length<=10000)(hk:v.1=3->(s.T.getD v.2.toNat t0).1=5):
 Calls prog 201 #[aj bY,.agg #[ah v.1,ah v.2],ah i] w fun e w'=>e=.returned (.tuple #[.agg #[ah 0,ah 0],ah 2])/\Below w.heap.size w w':=by
 obtain⟨k,x⟩:=v;have b1:Below w.heap.size w ((w.alloc (.cells #[.int .i64 k,.int .i64 x] 97)).alloc (.cells #[.int .i64 0,.int .i64 0] 97)):=(bX.alloc bW _).alloc Z _;have P:=Aa (h.below b1) (k,x) hv b hk;clear h hv b hk;go_enter func201,ntmps201;go_wp2_with fail;refine P.mono ?_;clear P;rintro e w1 ⟨rfl,hb⟩
 have hq:=(hb.block (w.heap.size+1) Z).trans (iP w (.cells #[.int .i64 k,.int .i64 x] 97) (.cells #[.int .i64 0,.int .i64 0] 97))
 obtain⟨f,g,j,lw⟩:=di hq;have c:ay (_=_):=hq;have d:ay (Below w.heap.size w w1):=b1.trans (hb.mono (by simp;omega))
 clear hb b1 hq;go_wp2_with fail;obtain⟨r0,r1,_,_⟩:=di (gy (v1:=ah 0) (v2:=ah 0) c.o)
 exact a3 (v:=.tuple #[.agg #[ah 0,ah 0],ah 2]) (by simp[results,results201,go_sem,r0,r1]) rfl ⟨rfl,(d.o.setCell Z _).setCell Z _⟩
theorem Ac (h:dS bY b_ bZ l s w)(x i:Int)(hv:0<=x/\cv s.T x.toNat)(b:s.T.length<=10000)(hk:(s.T.getD x.toNat t0).1≠5)(hi:i<0\/((s.T.getD x.toNat t0).2.1.length:Int)<=i):
 Calls prog 201 #[aj bY,.agg #[ah 3,ah x],ah i] w fun e w'=>e=.returned (.tuple #[.agg #[ah 0,ah 0],ah 1])/\Below w.heap.size w w':=by
 have b1:Below w.heap.size w ((w.alloc (.cells #[.int .i64 3,.int .i64 x] 97)).alloc (.cells #[.int .i64 0,.int .i64 0] 97)):=(bX.alloc bW _).alloc Z _;have P:=ur (h.below b1) x hv b hk;clear h hv b hk;dsimp only [eD] at P;generalize (s.T.getD x.toNat t0).2.1.length=n at*;generalize (l.fm x.toNat).1=ad at*;generalize (l.fm x.toNat).2=cp at*;by_cases h0:i<0
 all_goals
  first
   |(have f:(n:Int)<=i:=by omega)
   |skip
  go_enter func201,ntmps201;go_wp2_with fail;refine P.mono ?_;clear P;rintro e w1 ⟨rfl,hb⟩
  have hq:=(hb.block (w.heap.size+1) Z).trans (iP w (.cells #[.int .i64 3,.int .i64 x] 97) (.cells #[.int .i64 0,.int .i64 0] 97))
  obtain⟨g,j,k,lw⟩:=di hq;have c:ay (_=_):=hq;have d:ay (Below w.heap.size w w1):=b1.trans (hb.mono (by simp;omega))
  clear hb b1 hq hi;go_wp2_with fail;obtain⟨r0,r1,_,_⟩:=di (gy (v1:=ah 0) (v2:=ah 0) c.o)
  exact a3 (v:=.tuple #[.agg #[ah 0,ah 0],ah 1]) (by simp[results,results201,go_sem,r0,r1]) rfl ⟨rfl,(d.o.setCell Z _).setCell Z _⟩
theorem Ad (h:dS bY b_ bZ l s w)(x:Int)(i:Nat)(hv:0<=x/\cv s.T x.toNat)(d:s.T.length<=10000)(hk:(s.T.getD x.toNat t0).1≠5)(hi:i<(s.T.getD x.toNat t0).2.1.length):
 Calls prog 201 #[aj bY,.agg #[ah 3,ah x],ah i] w fun e w'=>e=.returned (.tuple #[.agg #[ah ((s.T.getD x.toNat t0).2.1.getD i (0,0)).1,ah ((s.T.getD x.toNat t0).2.1.getD i (0,0)).2],ah 0])/\Below w.heap.size w w':=by
 have b1:Below w.heap.size w ((w.alloc (.cells #[.int .i64 3,.int .i64 x] 97)).alloc (.cells #[.int .i64 0,.int .i64 0] 97)):=(bX.alloc bW _).alloc Z _;have P:=ur (h.below b1) x hv d hk;have j:=g7 (h.g2.fl _ hv.2)
 obtain⟨b,o,f,lb,g⟩:=j V;have hc:=g i hi;clear h hv d hk g;dsimp only [eD] at P;rw[f] at P;generalize (s.T.getD x.toNat t0).2.1.getD i (0,0)=y at*;generalize (s.T.getD x.toNat t0).2.1.length=n at*;generalize (l.fm x.toNat).2=cp at*;clear f;go_enter func201,ntmps201;go_wp2_with fail;refine P.mono ?_;clear P;rintro e w1 ⟨rfl,hb⟩
 have hq:=(hb.block (w.heap.size+1) Z).trans (iP w (.cells #[.int .i64 3,.int .i64 x] 97) (.cells #[.int .i64 0,.int .i64 0] 97))
 obtain⟨m,q,t,lw⟩:=di hq;have k:ay (_=_):=hq;have c:ay (Below w.heap.size w w1):=b1.trans (hb.mono (by simp;omega))
 have g0:=(c.o.cell (p:=aq b (o+i*2)) lb).trans hc.1;have g1:=(c.o.cell (p:=aq b (o+i*2+1)) lb).trans hc.2;clear hb b1 hq hc;go_wp2_with fail;obtain⟨r0,r1,_,_⟩:=di (gy (v1:=ah y.1) (v2:=ah y.2) k.o)
 exact a3 (v:=.tuple #[.agg #[ah y.1,ah y.2],ah 0]) (by simp[results,results201,go_sem,r0,r1]) rfl ⟨rfl,(c.o.setCell Z _).setCell Z _⟩
theorem q6 (x:Int)(w:ax):Calls prog 205 #[ah x] w fun e w'=>e=.returned (.agg #[ah 1,ah x])/\Below w.heap.size w w':=by go_enter func205,ntmps205;go_wp2_with fail;exact a3 (v:=.agg #[ah 1,ah x]) (by simp[results,results205,go_sem]) rfl ⟨rfl,bX.alloc bW _⟩
theorem ow (x:Int)(w:ax):Calls prog 239 #[ah x] w fun e w'=>e=.returned (.agg #[ah 3,ah x])/\Below w.heap.size w w':=by go_enter func239,ntmps239;go_wp2_with fail;exact a3 (v:=.agg #[ah 3,ah x]) (by simp[results,results239,go_sem]) rfl ⟨rfl,bX.alloc bW _⟩
end
section
variable {bY:Nat}{b_ bZ:Int}{l:gF}{F:Nat->Prop}{s:ck}{w w':ax}{T T':List cD}
theorem HU {fm:Fm}(b:∀i,cv T' i↔cv T i)(d:∀i,(T'.getD i t0).1=(T.getD i t0).1/\(T'.getD i t0).2.1.length=(T.getD i t0).2.1.length):hI T' fm=hI T fm:=by
 funext x
 by_cases h:0<=x/\cv T x.toNat
 ·rw[i_ h,i_ ⟨h.1,(b _).2 h.2⟩];dsimp only [fW,eD];rw[(d _).1,(d _).2]
 ·rw[lE h,lE (fun c=>h ⟨c.1,(b _).1 c.2⟩)]
theorem rh (T:List cD)(j i:Nat)(y:Int×Int)(k:Nat):(i8 T j i y).getD k t0=if j=k/\j<T.length then((T.getD j t0).1,(T.getD j t0).2.1.set i y,(T.getD j t0).2.2) else T.getD k t0:=by
 by_cases b:j=k
 ·subst b;by_cases c:j<T.length
  ·simp[c]
  ·simp[c]
 ·simp[b]
theorem ri (T:List cD)(j i:Nat)(y:Int×Int)(k:Nat):cv (i8 T j i y) k↔cv T k:=by
 unfold cv;rw[a4,rh];split
 ·rename_i h;rw[<-h.1]
 ·exact Iff.rfl
theorem dS.field (h:dS bY b_ bZ l s w){j i:Nat}(n:cv s.T j)(hi:i<(s.T.getD j t0).2.1.length)(y:Int×Int):∃b cp,eD s.T l.fm j=.slice (ak b) (s.T.getD j t0).2.1.length cp/\
 w.cell? (aq b (i*2))=some (ah ((s.T.getD j t0).2.1.getD i (0,0)).1)/\w.cell? (aq b (i*2+1))=some (ah ((s.T.getD j t0).2.1.getD i (0,0)).2)/\(∀o,w.frozen? (aq b o)=false)/\b<w.heap.size/\l.own b=10+j/\
 ∀w' W:ax,(∀k,l.own k≠0->k≠b->w'.heap[k]?=w.heap[k]?)->w.heap.size<=w'.heap.size->W.heap[b]?=w.heap[b]?->w'.heap[b]?=((W.setCell ⟨b,i*2,none⟩ (.int .i64 y.1)).setCell ⟨b,i*2+1,none⟩ (.int .i64 y.2)).heap[b]?->dS bY b_ bZ l {s with T:=i8 s.T j i y} w':=by
 have hr:=h.g2.fl j n;obtain⟨b,cp,e⟩:=eT hr V;have ho:=h.g2.eR j n b (by rw[e];rfl)
 obtain⟨E,t⟩:=e5 hr b (by rw[e];rfl)
 obtain⟨F,o,u,lb,x⟩:=g7 hr V;have A:(l.fm j).1=ak b:=by injection e
 rw[A] at u;cases u;have hc:=x i hi;rw[Nat.zero_add] at hc;refine⟨b,cp,e,hc.1,hc.2,fun o=>by simp[World.frozen?,t],lt_of_some t,ho,fun w' W hk hs B hb=>?_⟩
 have v:((i8 s.T j i y).getD j t0)=((s.T.getD j t0).1,(s.T.getD j t0).2.1.set i y,(s.T.getD j t0).2.2):=by rw[rh,aI ⟨rfl,n.1⟩]
 have m:∀k,((i8 s.T j i y).getD k t0).1=(s.T.getD k t0).1/\((i8 s.T j i y).getD k t0).2.1.length=(s.T.getD k t0).2.1.length/\((i8 s.T j i y).getD k t0).2.2=(s.T.getD k t0).2.2:=fun k=>by
  rw[rh];split
  ·rename_i C;rw[<-C.1];exact⟨rfl,Z,rfl⟩
  ·exact⟨rfl,rfl,rfl⟩
 refine {blk:=?_,bo:=h.bo,g2:=?_,g3:=h.g3.keep (fun k d=>hk k V (fun c=>by rw[c] at d;omega)),g4:=h.g4.keep (fun k d=>hk k V (fun c=>by rw[c] at d;omega)),lt:=fun k d=>aM (h.lt k d) hs}
 ·rw[hk bY (by rw[h.bo];decide) (fun c=>by have:=h.bo;rw[c] at this;omega),h.blk];rw[a4]
 ·refine {mp:=?_,mn:=by rw[a4];exact h.g2.mn,dp:=h.g2.dp,fl:=fun k d=>?_,eR:=fun k d=>?_,fe:=fun k d=>?_,al:=by rw[a4];exact h.g2.al}
  ·rw[HU (fun k=>ri _ _ _ _ k) (fun k=>⟨(m k).1,(m k).2.1⟩)];exact h.g2.mp.same (hk _ (by rw[h.g2.dp];decide) (fun c=>by have:=h.g2.dp;rw[c] at this;omega))
  ·have p:=(ri _ _ _ _ k).1 d;by_cases e6:k=j
   ·rw[e6,v];dsimp only [eD] at hr e⊢;rw[v];rw[a4,s9];have q:=nP (nP (cH (e▸hr) (fun g f=>by cases f;exact B)) (i*2) (ah y.1)) (i*2+1) (ah y.2)
    rw[e];exact cH q (fun g f=>by cases f;exact hb)
   ·have D:(i8 s.T j i y).getD k t0=s.T.getD k t0:=by rw[rh,aG (fun c=>e6 c.1.symm)]
    dsimp only [eD];rw[D];exact cH (h.g2.fl k p) (fun g f=>hk g (by rw[h.g2.eR k p g f];omega) (fun c=>by have q:=h.g2.eR k p g f;rw[c,ho] at q;omega))
  ·intro g f;refine h.g2.eR k ((ri _ _ _ _ k).1 d) g ?_;dsimp only [eD] at f⊢;rw[(m k).2.1] at f;exact f
  ·rw[(m k).2.2];exact h.g2.fe k ((ri _ _ _ _ k).1 d)
end
structure Cp where
 w0:ax
 bY:Nat
 b_:Int
 bZ:Int
 l:gF
 s:ck
 cp:Nat
 ab:Nat
 hb:Nat
def eS (T:List cD)(fm:Fm)(A:List Bool)(x:Int):Option Value:=if 0<=x/\A.getD x.toNat false=true then some (fW T fm x.toNat) else none
def hdF (hd:Int->List (Int×Int))(hm:Int->Option Addr×Nat)(x:Int):Option Value:=if(hd x).isEmpty=true then none else some (.slice (hm x).1 (hd x).length (hm x).2)
structure cU (c:Cp)(own:Nat->Nat)(vt:Value)(n1 n2:Nat)(hm:Int->Option Addr×Nat)(st:dw)(w:ax):Prop where
 ol:∀k,k<c.w0.heap.size->w.heap[k]?=c.w0.heap[k]?
 sz:c.w0.heap.size<=w.heap.size
 cb:w.heap[c.cp]?=some (.cells #[aj c.bY,.map (some c.ab),vt,.map (some c.hb)] 252 (0,0))
 co:own c.cp=1
 am:es w c.ab n1 (eS c.s.T c.l.fm st.A)
 ao:own c.ab=2
 an:n1+cnt st.A<=c.s.T.length
 tr:w.ownsRow 0 2 1 vt st.td.length (st.td.map (Value.int .i64))
 tw:∀k,some k=vt.ownBlock->own k=3
 tn:st.td.length+cnt st.A<=c.s.T.length
 hq:es w c.hb n2 (hdF st.hd hm)
 ho:own c.hb=4
 hn:n2<=st.m
 hr:∀x,st.hd x≠[]->0<=x/\w.ownsRow 0 97 2 (.slice (hm x).1 (st.hd x).length (hm x).2) (st.hd x).length (ev (st.hd x))
 hro:∀x,st.hd x≠[]->∀k,some k=(Value.slice (hm x).1 (st.hd x).length (hm x).2).ownBlock->own k=10+x.toNat
 lt:∀b,own b≠0->c.w0.heap.size<=b/\b<w.heap.size
section
variable {c:Cp}{own:Nat->Nat}{vt:Value}{n1 n2:Nat}{hm:Int->Option Addr×Nat}{st:dw}{w w':ax}
theorem cU.keep (h:cU c own vt n1 n2 hm st w)(hs:w.heap.size<=w'.heap.size)(hk:∀b,b<c.w0.heap.size\/own b≠0->w'.heap[b]?=w.heap[b]?):cU c own vt n1 n2 hm st w':=
 {
  h with
  ol:=fun k f=>(hk k (aK f)).trans (h.ol k f)
  sz:=aT h.sz hs
  cb:=(hk _ (aJ (by rw[h.co];decide))).trans h.cb
  am:=h.am.same (hk _ (aJ (by rw[h.ao];decide)))
  tr:=cH h.tr (fun k e=>hk k (aJ (by rw[h.tw k e];decide)))
  hq:=h.hq.same (hk _ (aJ (by rw[h.ho];decide)))
  hr:=fun x d=>⟨(h.hr x d).1,cH (h.hr x d).2 (fun k e=>hk k (aJ (by rw[h.hro x d k e];omega)))⟩
  lt:=fun b hb=>⟨(h.lt b hb).1,aM (h.lt b hb).2 hs⟩}
theorem cU.below (h:cU c own vt n1 n2 hm st w)(hb:Below w.heap.size w w'):cU c own vt n1 n2 hm st w':=h.keep hb.size (fun b ho=>hb.block b (ho.elim (fun c=>aM c h.sz) (fun c=>(h.lt b c).2)))
end
def rj (c:Cp):dr dw where
 J F st w:=∃own vt n1 d hm,cU c own vt n1 d hm st w/\∀b,F b↔b<c.w0.heap.size\/own b≠0
 lt:=by
  rintro F st w ⟨own,vt,n1,d,hm,h,f⟩ b hb;rcases(f b).1 hb with e|e
  ·exact aM e h.sz
  ·exact(h.lt b e).2
 keep:=by rintro F st w w' ⟨own,vt,n1,d,hm,h,f⟩ hs hk;exact⟨own,vt,n1,d,hm,h.keep hs (fun b hb=>hk b ((f b).2 hb)),f⟩
structure fA (own:Nat->Nat)(w:ax)(own':Nat->Nat)(w':ax):Prop where
 fr:Fr (fun b=>own b=1\/own b=2\/own b=3) w w'
 old:∀b,b<w.heap.size->own' b=own b
 nw:∀b,w.heap.size<=b->own' b≠0->own' b=3
section
variable {c:Cp}{own own' mr:Nat->Nat}{vt:Value}{n1 n2:Nat}{hm:Int->Option Addr×Nat}{st:dw}{w w' w'':ax}
theorem fA.of (h:Below w.heap.size w w')(hl:∀b,own b≠0->b<w.heap.size):fA own w own w':=⟨Fr.of h,fun _ _=>rfl,fun b hb ho=>by have:=hl b ho;omega⟩
theorem fA.trans (h:fA own w own' w')(k:fA own' w' mr w''):fA own w mr w'':=by
 refine⟨h.fr.trans k.fr (fun i hi=>?_),fun b hb=>(k.old b (aM hb h.fr.size)).trans (h.old b hb),fun b hb ho=>?_⟩
 ·by_cases c:i<w.heap.size
  ·rw[h.old i c] at hi;exact aK hi
  ·exact aJ V
 ·by_cases d:b<w'.heap.size
  ·rw[k.old b d] at ho⊢;exact h.nw b hb ho
  ·exact k.nw b V ho
theorem cU.cells (h:cU c own vt n1 n2 hm st w):w.cell? (aq c.cp 0)=some (aj c.bY)/\w.cell? (aq c.cp 1)=some (.map (some c.ab))/\w.cell? (aq c.cp 2)=some vt/\w.cell? (aq c.cp 3)=some (.map (some c.hb))/\(∀o,w.frozen? (aq c.cp o)=false)/\c.cp<w.heap.size:=by have b:=h.cb;refine⟨?_,?_,?_,?_,fun o=>by simp[World.frozen?,b],lt_of_some b⟩<;>simp[World.cell?,b]
theorem cU.gv (h:cU c own vt n1 n2 hm st w)(hg:dS c.bY c.b_ c.bZ c.l c.s c.w0):dS c.bY c.b_ c.bZ c.l c.s w:=hg.keep h.sz (fun b hb=>h.ol b (hg.lt b hb))
theorem HV (T:List cD)(fm:Fm)(A:List Bool){x:Int}(h0:0<=x)(hl:x.toNat<A.length):jE (eS T fm A) x (fW T fm x.toNat)=eS T fm (A.set x.toNat true):=by
 funext y
 unfold jE eS;by_cases e:y=x
 ·subst e;rw[aI rfl,aI ⟨h0,by rw[i7 _ _ _ hl,aI rfl]⟩]
 ·rw[aG e];by_cases b:0<=y
  ·rw[i7 _ _ _ hl,aG (show¬x.toNat=y.toNat by omega)]
  ·rw[aG (fun c=>b c.1),aG (fun c=>b c.1)]
theorem ut {T:List cD}{fm:Fm}{A:List Bool}{x:Int}(h0:0<=x):(eS T fm A x).isSome=cL A x:=by
 unfold eS cL;cases h:A.getD x.toNat false
 ·rw[aG Z];rfl
 ·rw[aI ⟨h0,rfl⟩];rfl
theorem cU.fX {cM:Value}{v:Int×Int}(h:cU c own vt n1 n2 hm st w)(hi:dH st.A v=false)(h0:0<=v.2)(hl:v.2.toNat<st.A.length)(fr:Fr (fun b=>own b=1\/own b=2\/own b=3) w w')
 (hM:es w' c.ab (n1+1) (jE (eS c.s.T c.l.fm st.A) v.2 (fW c.s.T c.l.fm v.2.toNat)))
 (f:w'.ownsRow 0 2 1 cM (st.td.length+1) ((st.td++[v.2]).map (Value.int .i64)))(hb:w'.heap[c.cp]?=some (.cells #[aj c.bY,.map (some c.ab),cM,.map (some c.hb)] 252 (0,0)))
 (ht:∀k,some k=cM.ownBlock->own k=3\/w.heap.size<=k):∃own',cU c own' cM (n1+1) n2 hm (dZ st v) w'/\fA own w own' w':=by
 obtain⟨j,g⟩:=mc hi;have hc:=ug st.A v.2.toNat (by rw[aE,aL hl] at g⊢;exact g)
 have he:∀b,own b≠0->(if w.heap.size<=b then(if some b=cM.ownBlock then 3 else 0) else own b)=own b:=fun b hb=>aG (by have:=(h.lt b hb).2;omega)
 have hk:∀b,own b=4\/10<=own b->_=_:=fun b hb=>fr.block b (h.lt b V).2 V;have hs:=h.sz;refine⟨fun b=>if w.heap.size<=b then(if some b=cM.ownBlock then 3 else 0) else own b,?_,fr,fun b hb=>aG V,fun b hb ho=>?_⟩
 ·rw[q_ hi];refine {
   ol:=fun k i=>(fr.block k V (fun cc=>?_)).trans (h.ol k i),sz:=aT h.sz fr.size,cb:=hb,co:=(he _ (by rw[h.co];decide)).trans h.co,am:=?_,ao:=(he _ (by rw[h.ao];decide)).trans h.ao,an:=?_,tr:=by simpa using f,tw:=fun k e=>?_,tn:=?_
   hq:=h.hq.same (hk _ (aK h.ho)),ho:=(he _ (by rw[h.ho];decide)).trans h.ho,hn:=h.hn,hr:=fun x d=>⟨(h.hr x d).1,cH (h.hr x d).2 (fun k e=>hk k (aJ (by rw[h.hro x d k e];omega)))⟩,hro:=fun x d k e=>(he k (by rw[h.hro x d k e];omega)).trans (h.hro x d k e),lt:=fun b hb=>?_}
  ·have:=(h.lt k V).1;omega
  ·rw[<-HV _ _ _ h0 hl];exact hM
  ·have:=h.an;dsimp only;omega
  ·rcases ht k e with cc|cc
   ·exact(he k (by rw[cc];decide)).trans cc
   ·show(if _ then _ else _)=_;rw[aI cc,aI e]
  ·have:=h.tn;simp only [List.length_append,List.length_singleton];omega
  ·split at hb
   ·rename_i hw;split at hb
    ·rename_i e;exact⟨V,(cn f b e).2⟩
    ·exact absurd rfl hb
   ·exact⟨(h.lt b hb).1,aM (h.lt b hb).2 fr.size⟩
 ·rw[aI hb] at ho⊢;split at ho
  ·rename_i e;rw[aI e]
  ·exact absurd rfl ho
end
theorem HW (k:Int)(ad:Option Addr)(n c:Nat)(w:ax):(Instr.field 220 (.agg #[ah k,.slice ad n c]) 1).run prog w=.ok (.slice ad n c) w:=ae
theorem uj (w:ax)(a b o:Obj):(((w.alloc a).alloc b).alloc o).heap[w.heap.size+1+1]?=some o:=by have h:=aN ((w.alloc a).alloc b) o;rwa [show((w.alloc a).alloc b).heap.size=w.heap.size+1+1 by simp] at h
section
variable {bY:Nat}{b_ bZ:Int}{l:gF}{F:Nat->Prop}{s:ck}{w:ax}
theorem HX (h:dS bY b_ bZ l s w)(v:Int×Int)(hv:v.1=3->0<=v.2/\cv s.T v.2.toNat)(b:s.T.length<=10000)(hk:v.1=3->(s.T.getD v.2.toNat t0).1=5):
 Calls prog 208 #[aj bY,.agg #[ah v.1,ah v.2]] w fun e w'=>e=.returned (.tuple #[.agg #[ah 0,ah 0],ah 2])/\Below w.heap.size w w':=by
 obtain⟨k,x⟩:=v;have b1:Below w.heap.size w ((w.alloc (.cells #[.int .i64 k,.int .i64 x] 97)).alloc (.cells #[.int .i64 0,.int .i64 0] 97)):=(bX.alloc bW _).alloc Z _;have P:=Aa (h.below b1) (k,x) hv b hk;go_enter func208,ntmps208;go_wp2_with fail;refine P.mono ?_;rintro e w1 ⟨rfl,hb⟩
 have hq:=(hb.block (w.heap.size+1) Z).trans (iP w (.cells #[.int .i64 k,.int .i64 x] 97) (.cells #[.int .i64 0,.int .i64 0] 97))
 obtain⟨f,g,i,lw⟩:=di hq;have c:=hide hq;have d:=hide (b1.trans (hb.mono (by simp;omega)))
 go_wp2_with fail;obtain⟨r0,r1,_,_⟩:=di (gy (v1:=ah 0) (v2:=ah 0) c.o)
 exact a3 (v:=.tuple #[.agg #[ah 0,ah 0],ah 2]) (by simp[results,results208,go_sem,r0,r1]) rfl ⟨rfl,(d.o.setCell Z _).setCell Z _⟩
theorem HY (h:dS bY b_ bZ l s w)(x:Int)(hv:0<=x/\cv s.T x.toNat)(d:s.T.length<=10000)(hk:(s.T.getD x.toNat t0).1≠5):
 Calls prog 208 #[aj bY,.agg #[ah 3,ah x]] w fun e w'=>e=.returned (.tuple #[.agg #[ah 1,ah (s.T.getD x.toNat t0).2.1.length],ah 0])/\Below w.heap.size w w':=by
 have b1:Below w.heap.size w ((w.alloc (.cells #[.int .i64 3,.int .i64 x] 97)).alloc (.cells #[.int .i64 0,.int .i64 0] 97)):=(bX.alloc bW _).alloc Z _;have P:=ur (h.below b1) x hv d hk;dsimp only [eD] at P;generalize (s.T.getD x.toNat t0).2.1.length=n at*;go_enter func208,ntmps208;go_wp2_with fail;refine P.mono ?_;clear P;rintro e w1 ⟨rfl,hb⟩
 have hq:=(hb.block (w.heap.size+1) Z).trans (iP w (.cells #[.int .i64 3,.int .i64 x] 97) (.cells #[.int .i64 0,.int .i64 0] 97))
 have b:=hide (b1.trans (hb.mono (by simp;omega)))
 clear hb b1;go_wp2_with fail;refine(q6 n w1).mono ?_;rintro e f ⟨rfl,c⟩
 have hq:=(c.block _ (lt_of_some hq)).trans hq;obtain⟨g,i,j,lw⟩:=di hq;go_wp2_with fail;obtain⟨r0,r1,_,_⟩:=di (gy (v1:=ah 1) (v2:=ah n) (hide hq).o)
 exact a3 (by simp[results,results208,go_sem,r0,r1]) rfl ⟨rfl,((hide (b.o.trans (c.mono b.o.size))).o.setCell Z _).setCell Z _⟩
theorem HZ (x y:Int×Int)(w:ax):
 Calls prog 209 #[.agg #[ah x.1,ah x.2],.agg #[ah y.1,ah y.2]] w fun e w'=>e=.returned (.agg #[ah 1,ah (if x=y then 1 else 0)])/\Below w.heap.size w w':=by
 obtain⟨b,g⟩:=x;obtain⟨d,y1⟩:=y;have b1:Below w.heap.size w (((w.alloc (.cells #[.int .i64 b,.int .i64 g] 97)).alloc (.cells #[.int .i64 d,.int .i64 y1] 97)).alloc (.cells #[.int .i64 0,.int .i64 0] 97)):=((bX.alloc bW _).alloc Z _).alloc (by simp;omega) _;by_cases h0:b=d/\g=y1
 ·obtain⟨h0,f⟩:=h0;subst h0 f;rw[aI rfl];go_enter func209,ntmps209;go_wp2_with fail;refine(q6 _ _).mono ?_;rintro e w2 ⟨rfl,hb2⟩
  have hq:=(hb2.block (w.heap.size+1+1) Z).trans (uj w _ _ _)
  obtain⟨e0,e1,f0,lw⟩:=di hq;have HN:=hide hq;have HB:=hide (b1.trans (hb2.mono b1.size))
  go_wp2_with fail;obtain⟨r0,r1,_,_⟩:=di (gy (v1:=ah 1) (v2:=ah 1) HN.o)
  exact a3 (v:=.agg #[ah 1,ah 1]) (by simp[results,results209,go_sem,r0,r1]) rfl ⟨rfl,(HB.o.setCell (by simp;omega) _).setCell (by simp;omega) _⟩
 ·rw[aG (fun c=>h0 (by cases c;exact⟨rfl,rfl⟩))];by_cases f:b=d
  ·subst f;go_enter func209,ntmps209;exact zZ
  ·go_enter func209,ntmps209;exact zZ
theorem H0 (h:dS bY b_ bZ l s w)(x:Int)(i:Nat)(y:Int×Int)(hv:0<=x/\cv s.T x.toNat)(v:s.T.length<=10000)(hk:(s.T.getD x.toNat t0).1≠5)(hi:i<(s.T.getD x.toNat t0).2.1.length)(F:i<12):
 Calls prog 133 #[aj bY,.agg #[ah 3,ah x],ah i,.agg #[ah y.1,ah y.2]] w fun e w'=>e=.returned (ah 0)/\dS bY b_ bZ l {s with T:=i8 s.T x.toNat i y} w'/\Fr (fun b=>l.own b≠0) w w':=by
 obtain⟨f,y1⟩:=y;have b1:Below w.heap.size w ((w.alloc (.cells #[.int .i64 3,.int .i64 x] 97)).alloc (.cells #[.int .i64 f,.int .i64 y1] 97)):=(bX.alloc bW _).alloc Z _;have P:=Ad (h.below b1) x i hv v hk hi;obtain⟨b,cp,A,g0,g1,B,lb,m,q⟩:=h.field hv.2 hi (f,y1)
 obtain⟨_,_,c2,_,_,_,_,_,C⟩:=h.cells;have hl:x<10000:=by have:=hv.2.1;omega
 have L:∀W,Below w.heap.size w W->(Instr.lookup 184 (.map (some l.mb)) (ah x) false).run prog W=.ok (fW s.T l.fm x.toNat) W:=fun W hb=>by
  have:=(h.below hb).g2.mp.look (t:=184) (e:=220) underlying184 (mf W) (x:=x) hv.1 V;rw[i_ hv] at this
  exact this
 have G:=hv.1;dsimp only [fW] at L;rw[A] at L;have q:=hide q;have D:=hide m;have E:=hide h.lt;have H:b≠bY:=fun c=>by have:=h.bo;rw[<-c,m] at this;omega
 have m1:b≠w.heap.size:=V;have I:b≠w.heap.size+1:=V;clear h hv v hk A m;generalize (s.T.getD x.toNat t0).2.1.getD i (0,0)=z at*;generalize (s.T.getD x.toNat t0).2.1.length=n at*;generalize (s.T.getD x.toNat t0).1=kd at*;go_enter func133,ntmps133;go_wp2_with fail;refine P.mono ?_;clear P;rintro e w1 ⟨rfl,hb⟩
 have d:=hide (b1.trans (hb.mono (by simp;omega)))
 have g:=(hb.block w.heap.size (by simp;omega)).trans ((aS _ _ _ Z).trans (aN w (.cells #[.int .i64 3,.int .i64 x] 97)))
 have j:=(hb.block (w.heap.size+1) Z).trans (iP w (.cells #[.int .i64 3,.int .i64 x] 97) (.cells #[.int .i64 f,.int .i64 y1] 97))
 have b2:=d.o.alloc d.o.size (.cells #[.int .i64 z.1,.int .i64 z.2] 97)
 have g:=(aS w1 (.cells #[.int .i64 z.1,.int .i64 z.2] 97) _ (lt_of_some g)).trans g;have j:=(aS w1 (.cells #[.int .i64 z.1,.int .i64 z.2] 97) _ (lt_of_some j)).trans j;clear hb b1 d;go_wp2_with fail;generalize w1.alloc (.cells #[.int .i64 z.1,.int .i64 z.2] 97)=W at*;obtain⟨_,J,_,_⟩:=di g;obtain⟨q0,q1,_,_⟩:=di j;have K:=(b2.cell (p:=aq bY 2) C).trans c2;have k0:=(b2.cell (p:=aq b (i*2)) lb).trans g0;have k1:=(b2.cell (p:=aq b (i*2+1)) lb).trans g1;have kf:∀o,W.frozen? (aq b o)=false:=fun o=>(b2.frozen (p:=aq b o) lb).trans (B o)
 have M:=L _ b2.drew;have N:=HW kd (ak b) n cp;have n1:(0:Int)<=i:=V;have O:(i:Int)<n:=V;have d:ay (Below w.heap.size w W):=b2;clear g j L g0 g1 B c2 b2
 go_region_held3 (fun w'=>w'.cell? (aq bY 2)=some (.map (some l.mb))/\w'.cell? (aq w.heap.size 1)=some (ah x)/\w'.cell? (aq (w.heap.size+1) 0)=some (ah f)/\w'.cell? (aq (w.heap.size+1) 1)=some (ah y1)) (go_keep) (fail)
 go_wp2_with fail;go_ret;have hs:=d.o.size;have fr:Fr (fun k=>k=b) W ((W.setCell ⟨b,i*2,none⟩ (.int .i64 f)).setCell ⟨b,i*2+1,none⟩ (.int .i64 y1)).drew:=(((Fr.refl (fun k=>k=b) W).set b _ _ rfl).set b _ _ rfl).drew;have u:=(Fr.of d.o).trans fr (fun _ c=>aK c)
 exact⟨rfl,q.o _ W (fun k hk hn=>u.block k (E.o k hk) hn) u.size (d.o.block b lb) rfl,u.mono (fun k e=>by rw[e,D.o];omega)⟩
theorem H2 (v y:Int×Int)(i c:Int)(hc:c≠0)
 (P:∀w',Below w.heap.size w w'->Calls prog 201 #[aj bY,.agg #[ah v.1,ah v.2],ah i] w' fun e d=>e=.returned (.tuple #[.agg #[ah 0,ah 0],ah c])/\Below w'.heap.size w' d):
 Calls prog 133 #[aj bY,.agg #[ah v.1,ah v.2],ah i,.agg #[ah y.1,ah y.2]] w fun e w'=>e=.returned (ah c)/\Below w.heap.size w w':=by
 obtain⟨f,y1⟩:=y;obtain⟨k,x⟩:=v;have b1:Below w.heap.size w ((w.alloc (.cells #[.int .i64 k,.int .i64 x] 97)).alloc (.cells #[.int .i64 f,.int .i64 y1] 97)):=(bX.alloc bW _).alloc Z _;go_enter func133,ntmps133;go_wp2_with fail;refine(P _ b1).mono ?_;rintro e w1 ⟨rfl,hb⟩
 have b:=hide (b1.trans (hb.mono b1.size))
 go_wp2_with fail;go_ret;exact⟨rfl,b.o.alloc b.o.size _⟩
end
end Go.Proofs.YtpkjkjhanlbcoaaGreat
