import Derived.Test.YtpkjkjhanlbcoaaGreatJ30
import Derived.Maps.RangeWalk
namespace Go.Proofs.YtpkjkjhanlbcoaaGreat
open Tryz
open Go.RowKit W Kp cf
structure fH (s:ck):Prop where
 iv:e4 s.T s.wt
 rv:∀v∈s.rs,v.1=3->0<=v.2/\cv s.T v.2.toNat
 gv:∀e∈s.rg,(0<=e.1/\cv s.T e.1.toNat)/\0<=e.2/\cv s.T e.2.toNat
 wg:∀e∈s.wt,0<=e.1/\cv s.T e.1.toNat
 tl:s.T.length<=10000
 gl:s.rg.length<=1000
 wl:s.wt.length<=1000
theorem fH.t12 {s:ck}(h:fH s):∀t∈s.T,t.2.1.length<=12:=fun t ht=>by
 obtain⟨i,hi,e⟩:=List.mem_iff_getElem.1 ht;have:=h.iv.tl i;rw[aE,aL hi,e] at this
 exact this
theorem fH.first {s:ck}(h:fH s)(mj:Bool):gD s.T (jX s.T s.rs mj):=
 ⟨zS _ _ _,fun k hk=>by
  obtain⟨c,b⟩:=(ku _ _ _ _).1 hk;rcases b with⟨_,b,_⟩|⟨v,hv,d,e⟩
  ·exact⟨c,b⟩
  ·rw[<-e];exact(h.rv v hv d).2⟩
abbrev gO:=List cD->List b7->List Bool->List Bool
def iF (T:List cD)(v:Int×Int):Bool:=v.1==3&&(T.getD v.2.toNat t0).1==5
def jE (T:List cD)(v:Int×Int):Bool:=v.1==3&&!((T.getD v.2.toNat t0).1==5)
theorem qW {T:List cD}{v:Int×Int}:iF T v=true↔v.1=3/\(T.getD v.2.toNat t0).1=5:=by unfold iF;simp
theorem jF {T:List cD}{v:Int×Int}:jE T v=true↔v.1=3/\(T.getD v.2.toNat t0).1≠5:=by unfold jE;simp
abbrev i_ (T:List cD)(j i:Nat)(y:Int×Int):List cD:=T.set j ((T.getD j t0).1,(T.getD j t0).2.1.set i y,(T.getD j t0).2.2)
def ck.room (g:gO)(b_ bZ:Int)(s:ck)(m:Int):Int×ck:=
 if m<=b_-(d_ s.T).1 then(0,s) else(s.gN (g s.T s.wt) bZ (decide (bZ-(d_ s.T).2<(d_ s.T).1)),s.cut (g s.T s.wt) bZ (decide (bZ-(d_ s.T).2<(d_ s.T).1)))
def ck.put (s:ck)(kd:Int)(l:List (Int×Int)):ck:={s with T:=s.T++[(kd,l,false,false)]}
def ck.bZ (g:gO)(b_ bZ:Int)(s:ck)(kd:Int)(l:List (Int×Int)):(Int×Int)×Int×ck:=
 if(s.room g b_ bZ (1+l.length)).1=0 then((3,((s.room g b_ bZ (1+l.length)).2.T.length:Int)),0,(s.room g b_ bZ (1+l.length)).2.put kd l)
 else((0,0),(s.room g b_ bZ (1+l.length)).1,(s.room g b_ bZ (1+l.length)).2)
def ck.pop (s:ck)(v:Int×Int):(Int×Int)×Int×ck:=
 if iF s.T v=true then(if dO v.2 s.wt<s.wt.length then((3,(s.wt.getD (dO v.2 s.wt) (0,0)).2),0,{s with wt:=s.wt.take (dO v.2 s.wt)++s.wt.drop (dO v.2 s.wt+1)}) else((0,0),4,s)) else((0,0),2,s)
def ck.fc (s:ck)(v:Int×Int)(I:Int):Int:=if jE s.T v=true then(if I<0\/((s.T.getD v.2.toNat t0).2.1.length:Int)<=I then 1 else 0) else 2
def ck.rt (g:gO)(b_ bZ:Int)(s:ck)(k:Int)(A B:Nat)(I n:Int):(Int×Int)×Int×ck:=
 if k=1 then((1,n),0,s) else if k=3 then(s.rs.getD A (0,0),0,s) else if k=4 then s.bZ g b_ bZ 1 [s.rs.getD A (0,0),s.rs.getD B (0,0)] else if k=5 then s.bZ g b_ bZ 2 (List.replicate n.toNat (s.rs.getD A (0,0)))
 else if k=6 then s.bZ g b_ bZ 3 [s.rs.getD A (0,0),s.rs.getD B (0,0)] else if k=7 then s.bZ g b_ bZ 4 [s.rs.getD A (0,0),s.rs.getD B (0,0)] else if k=8 then s.bZ g b_ bZ 5 [] else if k=10 then s.pop (s.rs.getD A (0,0))
 else if k=11 then((if s.fc (s.rs.getD A (0,0)) I=0 then(s.T.getD (s.rs.getD A (0,0)).2.toNat t0).2.1.getD I.toNat (0,0) else(0,0)),s.fc (s.rs.getD A (0,0)) I,s)
 else if k=13 then(if jE s.T (s.rs.getD A (0,0))=true then((1,((s.T.getD (s.rs.getD A (0,0)).2.toNat t0).2.1.length:Int)),0,s) else((0,0),2,s))
 else if k=14 then((1,if s.rs.getD A (0,0)=s.rs.getD B (0,0) then 1 else 0),0,s) else((0,0),0,s)
def ck.reg (s:ck)(t b:Int×Int):Int×ck:=
 if t.1=3/\iF s.T b=true then(if 24<=s.rg.length+s.wt.length then(3,s) else(0,{s with rg:=s.rg++[(b.2,t.2)]})) else(2,s)
def ck.set (s:ck)(v:Int×Int)(I:Int)(y:Int×Int):Int×ck:=(s.fc v I,if s.fc v I=0 then {s with T:=i_ s.T v.2.toNat I.toNat y} else s)
def ck.ik (g:gO)(b_ bZ:Int)(s:ck)(k R A B I n:Int):Int×ck:=
 if dJ k R A B n=0 then(if k=9 then s.reg (s.rs.getD A.toNat (0,0)) (s.rs.getD B.toNat (0,0)) else if k=12 then s.set (s.rs.getD A.toNat (0,0)) I (s.rs.getD B.toNat (0,0))
  else if k=15 then(s.gN (g s.T s.wt) bZ false,s.cut (g s.T s.wt) bZ false) else if k=16 then(s.gN (g s.T s.wt) bZ true,s.cut (g s.T s.wt) bZ true)
  else if(s.rt g b_ bZ k A.toNat B.toNat I n).2.1=0 then(0,{(s.rt g b_ bZ k A.toNat B.toNat I n).2.2 with rs:=(s.rt g b_ bZ k A.toNat B.toNat I n).2.2.rs.set R.toNat (s.rt g b_ bZ k A.toNat B.toNat I n).1})
  else((s.rt g b_ bZ k A.toNat B.toNat I n).2.1,(s.rt g b_ bZ k A.toNat B.toNat I n).2.2))
 else(dJ k R A B n,s)
structure dw where
 A:List Bool
 td:List Int
 hd:Int->List (Int×Int)
 m:Nat
def dZ (s:dw)(v:Int×Int):dw:=if dH s.A v=true then s else {s with A:=s.A.set v.2.toNat true,td:=s.td++[v.2]}
def dm (s:dw)(l:List (Int×Int)):dw:=l.foldl dZ s
def kR (s:dw)(k v:Int×Int):dw:=if dH s.A k=true then dZ s v else {s with hd:=fun x=>if x=k.2 then s.hd x++[v] else s.hd x,m:=s.m+1}
def gm (T:List cD)(wt:List b7)(s:dw)(i:Int):dw:=
 if(T.getD i.toNat t0).1=1\/(T.getD i.toNat t0).1=2 then dm s (T.getD i.toNat t0).2.1
 else if(T.getD i.toNat t0).1=3 then dZ s ((T.getD i.toNat t0).2.1.getD 1 (0,0))
 else if(T.getD i.toNat t0).1=4 then kR s ((T.getD i.toNat t0).2.1.getD 0 (0,0)) ((T.getD i.toNat t0).2.1.getD 1 (0,0))
 else if(T.getD i.toNat t0).1=5 then dm s ((ef wt i).map fun x=>(3,x)) else s
def gE (T:List cD)(wt:List b7)(s:dw)(i:Int):dw:=dm (gm T wt s i) ((gm T wt s i).hd i)
theorem zV (s:dw)(l:List (Int×Int))(v:Int×Int):dm s (l++[v])=dZ (dm s l) v:=by simp[dm,List.foldl_append]
def pE (T:List cD)(wt:List b7)(s:dw)(P:Int->Prop)(i:Nat):Prop:=
 ((T.getD i t0).1≠4->∀v,jC T wt (fun _=>True) i v->v.1=3->ct s.A v.2.toNat)/\
 ((
   T.getD i t0).1=4->(((T.getD i t0).2.1.getD 0 (0,0)).1=3/\(¬ct s.A ((T.getD i t0).2.1.getD 0 (0,0)).2.toNat\/P ((T.getD i t0).2.1.getD 0 (0,0)).2)/\(T.getD i t0).2.1.getD 1 (0,0)∈s.hd ((T.getD i t0).2.1.getD 0 (0,0)).2)\/
   (((T.getD i t0).2.1.getD 1 (0,0)).1=3->ct s.A ((T.getD i t0).2.1.getD 1 (0,0)).2.toNat))
structure eQ (T:List cD)(wt:List b7)(is:List Bool)(s:dw)(E:List Int):Prop where
 len:s.A.length=T.length
 al:∀k,ct s.A k->cv T k
 lt:∀X,gX T wt X->(∀k,ct is k->X k)->∀k,ct s.A k->X k
 td:∀x,x∈E\/x∈s.td->0<=x/\ct s.A x.toNat
 hd:∀x v,v∈s.hd x->∃i,ct s.A i/\(T.getD i t0).1=4/\(T.getD i t0).2.1.getD 0 (0,0)=(3,x)/\v=(T.getD i t0).2.1.getD 1 (0,0)
 de:∀i:Nat,ct s.A i->¬((i:Int)∈E\/(i:Int)∈s.td)->pE T wt s (fun x=>x∈E\/x∈s.td) i
section
variable {T:List cD}{wt:List b7}{is:List Bool}{s:dw}{E:List Int}
theorem zW {L:List Bool}{i k:Nat}(h:ct L k):ct (L.set i true) k:=by
 by_cases hi:i<L.length
 ·unfold ct;rw[i9 _ _ _ hi];split
  ·rfl
  ·exact h
 ·rw[List.set_eq_of_length_le V];exact h
theorem ni (s:dw)(v:Int×Int){k:Nat}(h:ct s.A k):ct (dZ s v).A k:=by
 unfold dZ;split
 ·exact h
 ·exact zW h
theorem uc (s:dw)(v:Int×Int)(b:v.1=3)(hl:v.2.toNat<s.A.length):ct (dZ s v).A v.2.toNat:=by
 unfold dZ;split
 ·exact ng ‹_› b
 ·unfold ct;rw[i9 _ _ _ hl,aI rfl]
theorem qX (s:dw)(v:Int×Int):(dZ s v).A.length=s.A.length:=by
 unfold dZ;split
 ·rfl
 ·simp
theorem nk (s:dw)(v:Int×Int):(dZ s v).hd=s.hd/\(dZ s v).m=s.m:=by unfold dZ;split<;>exact⟨rfl,rfl⟩
theorem Hw (s:dw)(v:Int×Int){x:Int}(h:x∈s.td):x∈(dZ s v).td:=by
 unfold dZ;split
 ·exact h
 ·exact aY _ h
theorem Hx (s:dw)(v:Int×Int)(hv:v.1=3->0<=v.2){k:Nat}(h:ct (dZ s v).A k):ct s.A k\/(k:Int)∈(dZ s v).td:=by
 unfold dZ at h⊢;split at h
 ·exact aK h
 ·rename_i hn;have hn:dH s.A v=false:=by simpa using hn
  obtain⟨b,c⟩:=me hn;rw[aG (by rw[hn];decide)];unfold ct at h;by_cases hl:v.2.toNat<s.A.length
  ·rw[i9 _ _ _ hl] at h;split at h
   ·rename_i e;refine aJ (a9 _ ?_)
    have:=hv b;simp;omega
   ·exact aK h
  ·rw[List.set_eq_of_length_le V] at h;exact aK h
theorem ja (s:dw)(l:List _):(dm s l).hd=s.hd/\(dm s l).m=s.m/\(dm s l).A.length=s.A.length:=by
 induction l generalizing s with
 |nil=>exact⟨rfl,rfl,rfl⟩
 |cons v l b=>
  have h:=b (dZ s v)
  exact⟨h.1.trans (nk s v).1,h.2.1.trans (nk s v).2,h.2.2.trans (qX s v)⟩
theorem kw (s:dw)(l:List _){k:Nat}(h:ct s.A k):ct (dm s l).A k:=by
 induction l generalizing s with
 |nil=>exact h
 |cons v l b=>exact b (dZ s v) (ni s v h)
theorem Hy (s:dw)(l:List _){x:Int}(h:x∈s.td):x∈(dm s l).td:=by
 induction l generalizing s with
 |nil=>exact h
 |cons v l b=>exact b (dZ s v) (Hw s v h)
theorem ud (s:dw)(l:List _)(hl:∀v∈l,v.1=3->v.2.toNat<s.A.length):∀v∈l,v.1=3->ct (dm s l).A v.2.toNat:=by
 induction l generalizing s with
 |nil=>intro v hv;cases hv
 |cons c l d=>
  intro v hv b;rcases List.mem_cons.1 hv with e|hv
  ·exact kw (dZ s c) l (by rw[e] at b⊢;exact uc s c b (hl c Z b))
  ·exact d (dZ s c) (fun v hv b=>by rw[qX];exact hl v (aO _ hv) b) v hv b
theorem Hz (s:dw)(l:List _)(hl:∀v∈l,v.1=3->0<=v.2){k:Nat}(h:ct (dm s l).A k):ct s.A k\/(k:Int)∈(dm s l).td:=by
 induction l generalizing s with
 |nil=>exact aK h
 |cons v l b=>
  rcases b (dZ s v) (fun v hv d=>hl v (aO _ hv) d) h with c|c
  ·rcases Hx s v (hl v Z) c with c|c
   ·exact aK c
   ·exact aJ (Hy (dZ s v) l c)
  ·exact aJ c
theorem pE.mono {s d:dw}{P f:Int->Prop}{i:Nat}(h:pE T wt s P i)(g:∀k,ct s.A k->ct d.A k)(l:∀x:Int,0<=x->ct d.A x.toNat->¬ct s.A x.toNat->f x)(m:∀x,P x->f x)(n:∀x v,v∈s.hd x->v∈d.hd x)(h0:(T.getD i t0).1=4->((T.getD i t0).2.1.getD 0 (0,0)).1=3->0<=((T.getD i t0).2.1.getD 0 (0,0)).2):pE T wt d f i:=by
 refine⟨fun hk v hv o=>g _ (h.1 hk v hv o),fun hk=>?_⟩
 rcases h.2 hk with⟨a,b,c⟩|a
 ·refine aK ⟨a,?_,n _ _ c⟩
  by_cases j:ct d.A ((T.getD i t0).2.1.getD 0 (0,0)).2.toNat
  ·right;rcases b with b|b
   ·exact l _ (h0 hk a) j b
   ·exact m _ b
  ·exact aK j
 ·exact aJ (fun e=>g _ (a e))
theorem lE (b:e4 T wt){i:Nat}(hi:cv T i)(hk:(T.getD i t0).1=4)(j:Nat)(c:j<2):((T.getD i t0).2.1.getD j (0,0)).1=3->0<=((T.getD i t0).2.1.getD j (0,0)).2/\cv T ((T.getD i t0).2.1.getD j (0,0)).2.toNat:=fun d=>
 b.fv i hi _ (getD_in (by rw[b.fl i hi (aJ hk)];exact c)) d
theorem ue {s:dw}{v:Int×Int}(h:dH s.A v=true):dZ s v=s:=by unfold dZ;rw[aI h]
theorem qY {s:dw}{v:Int×Int}(h:dH s.A v=false):dZ s v={s with A:=s.A.set v.2.toNat true,td:=s.td++[v.2]}:=by unfold dZ;rw[h];rfl
theorem eQ.mark (h:eQ T wt is s E)(q:e4 T wt)(v:Int×Int)(hv:v.1=3->0<=v.2/\cv T v.2.toNat)(t:v.1=3->∀X,gX T wt X->(∀k,ct is k->X k)->X v.2.toNat):eQ T wt is (dZ s v) E:=by
 cases hi:dH s.A v
 ·obtain⟨j,w⟩:=me hi;obtain⟨v0,m⟩:=hv j;have hl:v.2.toNat<s.A.length:=by rw[h.len];exact m.1
  have f:∀k,ct (dZ s v).A k↔v.2.toNat=k\/ct s.A k:=fun k=>by
   rw[qY hi];unfold ct;rw[i9 _ _ _ hl];split
   ·rename_i e;exact⟨fun _=>aK e,fun _=>rfl⟩
   ·rename_i e;exact⟨aJ,fun c=>c.resolve_left e⟩
  have g:∀x,x∈(dZ s v).td↔x∈s.td\/x=v.2:=fun x=>by rw[qY hi];simp
  refine⟨(qX s v).trans h.len,fun k hk=>?_,fun X n hb k hk=>?_,fun x d=>?_,fun x o l=>?_,fun i u hn=>?_⟩
  ·rcases(f k).1 hk with e|hk
   ·rw[<-e];exact m
   ·exact h.al k hk
  ·rcases(f k).1 hk with e|hk
   ·rw[<-e];exact t j X n hb
   ·exact h.lt X n hb k hk
  ·rcases d with d|d
   ·exact⟨(h.td x (aK d)).1,ni s v (h.td x (aK d)).2⟩
   ·rcases(g x).1 d with d|d
    ·exact⟨(h.td x (aJ d)).1,ni s v (h.td x (aJ d)).2⟩
    ·rw[d];exact⟨v0,(f _).2 (aK rfl)⟩
  ·rw[(nk s v).1] at l;obtain⟨i,a,b⟩:=h.hd x o l;exact⟨i,ni s v a,b⟩
  ·have p:ct s.A i:=by
    rcases(f i).1 u with e|c
    ·exact absurd (aJ ((g _).2 (aJ V))) hn
    ·exact c
   refine(h.de i p (fun c=>hn (c.imp id (fun c=>(g _).2 (aK c))))).mono (fun k hk=>ni s v hk) (fun x A ha hb=>?_) (fun x d=>d.imp id (fun c=>(g _).2 (aK c))) (fun x o l=>by rw[(nk s v).1];exact l) (fun hk j=>(lE q (h.al i p) hk 0 aa j).1)
   rcases(f _).1 ha with e|c
   ·exact aJ ((g _).2 (aJ V))
   ·exact absurd c hb
 ·rw[ue hi];exact h
theorem eQ.marks (h:eQ T wt is s E)(e:e4 T wt)(l:List _)(hv:∀v∈l,v.1=3->0<=v.2/\cv T v.2.toNat)(d:∀v∈l,v.1=3->∀X,gX T wt X->(∀k,ct is k->X k)->X v.2.toNat):eQ T wt is (dm s l) E:=by
 induction l generalizing s with
 |nil=>exact h
 |cons v l f=>exact f (h.mark e v (hv v Z) (d v Z)) (fun b c=>hv b (aO _ c)) (fun b c=>d b (aO _ c))
theorem zX (s:dw)(v:Int×Int)(hv:v.1=3->v.2.toNat<s.A.length):(dZ s v).td.length+cnt (dZ s v).A=s.td.length+cnt s.A:=by
 cases hi:dH s.A v
 ·obtain⟨c,b⟩:=me hi;have d:=ua s.A v.2.toNat (by rw[aE,aL (hv c)] at b⊢;exact b)
  rw[qY hi];simp only [List.length_append,List.length_singleton];omega
 ·rw[ue hi]
theorem pF (s:dw)(l:List _)(hl:∀v∈l,v.1=3->v.2.toNat<s.A.length):(dm s l).td.length+cnt (dm s l).A=s.td.length+cnt s.A:=by
 induction l generalizing s with
 |nil=>rfl
 |cons v l b=>exact(b (dZ s v) (fun c d e=>by rw[qX];exact hl c (aO _ d) e)).trans (zX s v (hl v Z))
theorem eQ.pop {t:List Int}{x:Int}(h:eQ T wt is s [])(d:e4 T wt)(e:s.td=t++[x]):eQ T wt is {s with td:=t} [x]:=by
 have hm:∀y,(y∈[x]\/y∈t)↔(y∈([]:List Int)\/y∈s.td):=fun y=>by rw[e];simp[or_comm]
 exact⟨h.len,h.al,h.lt,fun y hy=>h.td y ((hm y).1 hy),h.hd,fun i hi hn=>(h.de i hi (fun c=>hn ((hm _).2 c))).mono (fun _ c=>c) (fun _ _ a b=>absurd a b) (fun y hy=>(hm y).2 hy) (fun _ _ c=>c) (fun hk f=>(lE d (h.al i hi) hk 0 aa f).1)⟩
theorem eQ.hold {i n:Nat}{x:Int}{d:Int×Int}(h:eQ T wt is s E)(g:e4 T wt)(hi:ct s.A i)(hk:(T.getD i t0).1=4)(h0:(T.getD i t0).2.1.getD 0 (0,0)=(3,x))(k:(T.getD i t0).2.1.getD 1 (0,0)=d):
 eQ T wt is {s with hd:=fun y=>if y=x then s.hd y++[d] else s.hd y,m:=n} E:=by
 refine⟨h.len,h.al,h.lt,h.td,fun y v hv=>?_,fun j f hn=>(h.de j f hn).mono (fun _ c=>c) (fun _ _ a b=>absurd a b) (fun _ c=>c) (fun y v hv=>?_) (fun hk l=>(lE g (h.al j f) hk 0 aa l).1)⟩
 ·dsimp only at hv;split at hv
  ·rename_i e;rcases List.mem_append.1 hv with hv|hv
   ·exact h.hd y v hv
   ·simp at hv;exact⟨i,hi,hk,by rw[h0,e],by rw[hv,k]⟩
  ·exact h.hd y v hv
 ·dsimp only;split
  ·exact aY _ hv
  ·exact hv
theorem eQ.drop {i:Nat}(h:eQ T wt is s [(i:Int)])(d:¬(i:Int)∈s.td->pE T wt s (fun x=>x∈s.td) i)(f:∀v∈s.hd i,v.1=3->ct s.A v.2.toNat):eQ T wt is s []:=by
 refine⟨h.len,h.al,h.lt,fun x g=>h.td x (g.imp (fun c=>by simp at c) id),h.hd,fun j k hn=>?_⟩
 have hn:_:=fun c=>hn (aJ c)
 by_cases e:j=i
 ·subst e;have:=d hn;exact⟨this.1,fun hk=>(this.2 hk).imp (fun⟨a,b,c⟩=>⟨a,b.imp id aJ,c⟩) id⟩
 ·have:=h.de j k (fun c=>c.elim (fun c=>by simp at c;omega) hn)
  refine⟨this.1,fun hk=>?_⟩
  rcases this.2 hk with⟨a,b,c⟩|a
  ·rcases b with b|b|b
   ·exact aK ⟨a,aK b,c⟩
   ·refine aJ (f _ ?_)
    simp at b;rw[<-b];simpa using c
   ·exact aK ⟨a,aJ (aJ b),c⟩
  ·exact aJ a
theorem uf {i x:Int}:x∈ef wt i↔(∃e∈wt,e.1=i/\x=e.2):=by
 unfold ef;simp only [List.mem_map,List.mem_filter,beq_iff_eq];constructor
 ·rintro⟨e,⟨b,c⟩,rfl⟩
  exact⟨e,b,c,rfl⟩
 ·rintro⟨e,b,c,rfl⟩
  exact⟨e,⟨b,c⟩,rfl⟩
theorem eQ.list {i:Nat}(h:eQ T wt is s [(i:Int)])(c:e4 T wt)(hi:ct s.A i)(l:List _)(hl:∀v∈l,jC T wt (ct s.A) i v):eQ T wt is (dm s l) [(i:Int)]/\∀v∈l,v.1=3->ct (dm s l).A v.2.toNat:=
 ⟨h.marks c l (fun v hv b=>c.pD (h.al i hi) (hl v hv) b) (fun v hv b X d hb=>d i (h.al i hi).1 (h.lt X d hb i hi) v ((hl v hv).mono (fun k hk=>h.lt X d hb k hk)) b),
  ud s l (fun v hv b=>by rw[h.len];exact(c.pD (h.al i hi) (hl v hv) b).2.1)⟩
theorem eQ.free {i:Nat}(h:eQ T wt is s [(i:Int)])(g:e4 T wt)(hi:ct s.A i):eQ T wt is (dm s (s.hd i)) [(i:Int)]/\(∀v∈s.hd i,v.1=3->ct (dm s (s.hd i)).A v.2.toNat)/\(∀v∈s.hd i,v.1=3->0<=v.2/\v.2.toNat<s.A.length):=by
 have ho:∀v∈s.hd i,v.1=3->0<=v.2/\cv T v.2.toNat:=fun v hv d=>by obtain⟨j,a,b,c,e⟩:=h.hd _ _ hv;rw[e] at d⊢;exact lE g (h.al j a) b 1 aa d
 refine⟨h.marks g _ ho (fun v hv d X f hb=>?_),ud s _ (fun v hv d=>by rw[h.len];exact(ho v hv d).2.1),fun v hv d=>⟨(ho v hv d).1,by rw[h.len];exact(ho v hv d).2.1⟩⟩
 obtain⟨j,a,b,c,e⟩:=h.hd _ _ hv;refine f j (h.al j a).1 (h.lt X f hb j a) v (aJ (aJ (aK ⟨b,fun _=>?_,e⟩))) d;rw[c];exact h.lt X f hb _ (by simpa using hi)
end
section
variable {T:List cD}{wt:List b7}{is:List Bool}{s:dw}{E:List Int}
structure zY (T:List cD)(wt:List b7)(is:List Bool)(s s':dw):Prop where
 mi:eQ T wt is s' []
 mm:s'.m<=s.m+1
 td:s'.td.length+cnt s'.A=s.td.length+cnt s.A
 up:∀k,ct s.A k->ct s'.A k
theorem qZ {i:Nat}(h:eQ T wt is s [(i:Int)])(d:e4 T wt)(hi:ct s.A i)(hk:(T.getD i t0).1≠4)(l:List _)(e:∀v∈l,jC T wt (ct s.A) i v)(f:∀v,jC T wt (fun _=>True) i v->v∈l):
 zY T wt is s (dm (dm s l) ((dm s l).hd i)):=by
 obtain⟨a1,a2⟩:=h.list d hi l e;obtain⟨b1,b2,b3⟩:=a1.free d (kw s l hi)
 refine⟨b1.drop (fun _=>⟨fun _ v hv b=>kw _ _ (a2 v (f v hv) b),fun c=>absurd c hk⟩) (fun v hv=>?_),?_,?_,fun k hk=>kw _ _ (kw _ _ hk)⟩
 ·rw[(ja _ _).1] at hv;exact b2 v hv
 ·rw[(ja _ _).2.1,(ja _ _).2.1];omega
 ·rw[pF _ _ (fun v hv b=>(b3 v hv b).2),pF _ _ (fun v hv b=>by rw[h.len];exact(d.pD (h.al i hi) (e v hv) b).2.1)]
theorem eQ.look {i:Nat}(h:eQ T wt is s [(i:Int)])(b:e4 T wt)(hi:ct s.A i):zY T wt is s (gE T wt s i):=by
 have o:=h.al i hi;unfold gE gm;rw[Int.toNat_natCast];by_cases k1:(T.getD i t0).1=1\/(T.getD i t0).1=2
 ·rw[aI k1];refine qZ h b hi V _ (fun v hv=>aK ⟨k1,hv⟩) (fun v hv=>?_)
  rcases hv with c|c|c|c
  ·exact c.2
  ·exact absurd c.1 V
  ·exact absurd c.1 V
  ·exact absurd c.1 V
 rw[aG k1];by_cases g:(T.getD i t0).1=3
 ·rw[aI g];refine qZ h b hi V [_] (fun v hv=>aJ (aK ⟨g,by simpa using hv⟩)) (fun v hv=>?_)
  rcases hv with c|c|c|c
  ·exact absurd c.1 V
  ·rw[c.2];simp
  ·exact absurd c.1 V
  ·exact absurd c.1 V
 rw[aG g];by_cases d:(T.getD i t0).1=4
 ·rw[aI d];unfold kR;cases hk:dH s.A _
  ·obtain⟨q3,q⟩:=me hk;rw[aG aa];have t:(T.getD i t0).2.1.getD 0 (0,0)=(3,((T.getD i t0).2.1.getD 0 (0,0)).2):=by rw[<-q3]
   obtain⟨b1,b2,b3⟩:=(h.hold (n:=s.m+1) b hi d t rfl).free b hi;refine⟨b1.drop (fun _=>⟨fun c=>absurd d c,fun _=>aK ⟨q3,?_,?_⟩⟩) (fun v hv=>?_),?_,?_,fun k hk=>kw _ _ hk⟩
   ·by_cases c:ct (dm {s with hd:=fun y=>if y=((T.getD i t0).2.1.getD 0 (0,0)).2 then s.hd y++[(T.getD i t0).2.1.getD 1 (0,0)] else s.hd y,m:=s.m+1} ((fun y=>if y=((T.getD i t0).2.1.getD 0 (0,0)).2 then s.hd y++[(T.getD i t0).2.1.getD 1 (0,0)] else s.hd y) (i:Int))).A ((T.getD i t0).2.1.getD 0 (0,0)).2.toNat
    ·right;rcases Hz _ _ (fun v hv f=>(b3 v hv f).1) c with c|c
     ·exact absurd c (by unfold ct;rw[q];decide)
     ·have:=(lE b o d 0 aa q3).1;rwa [Int.toNat_of_nonneg this] at c
    ·exact aK c
   ·rw[(ja _ _).1];dsimp only;rw[aI rfl];exact a9 _ Z
   ·rw[(ja _ _).1] at hv;exact b2 v hv
   ·rw[(ja _ _).2.1];exact aD _
   ·rw[pF _ _ (fun v hv f=>(b3 v hv f).2)]
  ·rw[aI rfl];have p:∀v∈[(T.getD i t0).2.1.getD 1 (0,0)],jC T wt (ct s.A) i v:=fun v hv=>aJ (aJ (aK ⟨d,fun c=>ng hk c,by simpa using hv⟩))
   obtain⟨a1,a2⟩:=h.list b hi _ p;obtain⟨b1,b2,b3⟩:=a1.free b (kw s _ hi)
   refine⟨b1.drop (fun _=>⟨fun c=>absurd d c,fun _=>aJ (fun c=>kw _ _ (a2 _ Z c))⟩) (fun v hv=>?_),?_,?_,fun k hk=>kw _ _ (kw s [_] hk)⟩
   ·rw[(ja _ _).1] at hv;exact b2 v hv
   ·show(dm (dm s [_]) _).m<=_;rw[(ja _ _).2.1,(ja _ _).2.1];omega
   ·rw[show dZ s ((T.getD i t0).2.1.getD 1 (0,0))=dm s [(T.getD i t0).2.1.getD 1 (0,0)] from rfl];rw[pF _ _ (fun v hv f=>(b3 v hv f).2),pF _ _ (fun v hv f=>by rw[h.len];exact(b.pD o (p v hv) f).2.1)]
 rw[aG d];by_cases k5:(T.getD i t0).1=5
 ·rw[aI k5];refine qZ h b hi d _ (fun v hv=>?_) (fun v hv=>?_)
  ·obtain⟨x,u,rfl⟩:=List.mem_map.1 hv;obtain⟨e,j,l,rfl⟩:=uf.1 u;exact aJ (aJ (aJ ⟨k5,e,j,l,rfl⟩))
  ·rcases hv with c|c|c|c
   ·exact absurd c.1 V
   ·exact absurd c.1 V
   ·exact absurd c.1 V
   ·obtain⟨_,e,j,l,rfl⟩:=c;exact List.mem_map.2 ⟨e.2,uf.2 ⟨e,j,l,rfl⟩,rfl⟩
 ·rw[aG k5];refine qZ h b hi d [] (fun v hv=>by cases hv) (fun v hv=>?_)
  rcases hv with c|c|c|c
  ·exact absurd c.1 k1
  ·exact absurd c.1 g
  ·exact absurd c.1 d
  ·exact absurd c.1 k5
theorem eQ.done (h:eQ T wt is s [])(e:s.td=[])(hl:is.length=T.length)(g:∀k,ct is k->ct s.A k):ou T wt is s.A:=by
 refine⟨h.len.trans hl.symm,g,fun i _ j v hv d=>?_,h.lt⟩
 have hd:=h.de i j (by rw[e];simp)
 by_cases f:(T.getD i t0).1=4
 ·rcases hv with c|c|c|c
  ·exact absurd c.1 V
  ·exact absurd c.1 V
  ·rcases hd.2 f with⟨a,b,_⟩|a
   ·rcases b with b|b
    ·exact absurd (c.2.1 a) b
    ·rw[e] at b;simp at b
   ·rw[c.2.2] at d⊢;exact a d
  ·exact absurd c.1 V
 ·exact hd.1 f v (hv.mono (fun _ _=>trivial)) d
theorem eQ.base (h:eQ T wt is s []){b:List Bool}(c:∀k,ct s.A k->ct b k):eQ T wt b s []:=⟨h.len,h.al,fun _ _ hb k hk=>hb k (c k hk),h.td,h.hd,h.de⟩
theorem eQ.start (T:List cD)(wt:List b7)(is:List Bool):eQ T wt is ⟨List.replicate T.length false,[],fun _=>[],0⟩ []:=by
 have hn:∀k,¬ct (List.replicate T.length false) k:=fun k hk=>by unfold ct at hk;rw[aE,List.getElem?_replicate] at hk;split at hk<;>cases hk
 exact⟨Z,fun k hk=>absurd hk (hn k),fun _ _ _ k hk=>absurd hk (hn k),fun x b=>absurd b Z,fun x v hv=>absurd hv Z,fun i hi=>absurd hi (hn i)⟩
end
def hld (v:Value):Option (DataW Value×List MemPlace):=some (.held v,[])
theorem pG:Maps.Keyed prog 2:=Maps.int_keyed Tryz.underlying2
theorem ug {a:Int}(h0:0<=a)(b:a<1152921504606846976):keyOf prog 2 (.int .i64 a)=some (.int .i64 a):=Maps.keyOf_int_mk Tryz.underlying2 (WalkArith.wf_i64 ⟨V,V⟩)
def q6 (D:DataW Value)(f:Int->Option Value):Prop:=∀x:Int,Maps.has D (.int .i64 x)=(f x).isSome/\∀v,f x=some v->∀z,D.atKey (.int .i64 x) z=.held v
def es (w:ax)(b n:Nat)(f:Int->Option Value):Prop:=∃D,w.ownsMap prog 2 hld b n D/\q6 D f
def jG (f:Int->Option Value)(x:Int)(v:Value):Int->Option Value:=fun y=>if y=x then some v else f y
def gf (w:ax)(b r n:Nat)(f:Int->Option Value)(left:Int->Bool)(c:Nat):Prop:=∃D L,w.ranges prog 2 hld b r n D L c/\q6 D f/\∀x:Int,L (ah x)=left x
section
variable {w w':ax}{b r n c:Nat}{f:Int->Option Value}{t e:TypeId}{left:Int->Bool}
theorem es.made (w:ax):es (w.alloc (.map #[] 0)) w.heap.size 0 (fun _=>none):=⟨_,World.ownsMap_made w prog 2 hld,fun _=>⟨rfl,fun _ h=>by cases h⟩⟩
theorem es.lt (h:es w b n f):b<w.heap.size:=let⟨_,h,_⟩:=h;h.lt
theorem es.same (h:es w b n f)(e:w'.heap[b]?=w.heap[b]?):es w' b n f:=by obtain⟨D,⟨c,d,hb,r⟩,g⟩:=h;exact⟨D,⟨c,d,e.trans hb,r⟩,g⟩
theorem es.blk (h:es w b n f):∃c k,w.heap[b]?=some (.map c k):=let⟨_,⟨c,k,hb,_⟩,_⟩:=h;⟨c,k,hb⟩
theorem es.put (h:es w b n f)(ht:prog.underlying t=some (.map 2 e))(hn:n<100000){x:Int}(h0:0<=x)(j:x<1152921504606846976)(v:Value):
 ∃w',(Instr.mapUpdate t (.map (some b)) (ah x) v).run prog w=.ok () w'/\es w' b (n+1) (jG f x v)/\w.grownBy w' (some b):=by
 obtain⟨D,h,g⟩:=h;obtain⟨w',r1,l,r3⟩:=h.update pG ht (by unfold maxLen;omega) (ug h0 j) rfl;refine⟨w',r1,⟨_,l,fun y=>?_⟩,r3⟩
 unfold jG;by_cases c:y=x
 ·subst c;rw[aI rfl];exact⟨Maps.has_put_same (k:=.int .i64 y) h.isMap trivial _,fun i d z=>by cases d;exact Maps.atKey_put_same (k:=.int .i64 y) h.isMap trivial _ _⟩
 ·rw[aG c,Maps.has_put_other (by simpa using c)];exact⟨(g y).1,fun i d z=>by rw[Maps.atKey_put_other (by simpa using c)];exact(g y).2 i d z⟩
theorem q6.val {D:DataW Value}(c:q6 D f){x:Int}{z v:Value}{ps:List MemPlace}(h:hld v=some (D.atKey (.int .i64 x) (.held z),ps)):v=(f x).getD z:=by
 have b:=(Prod.mk.inj (Option.some.inj h)).1;cases hf:f x with
 |none=>
  rw[Maps.atKey_of_not_has (by rw[(c x).1,hf];rfl)] at b;exact DataW.held.inj b
 |some d=>
  rw[(c x).2 d hf] at b;exact DataW.held.inj b
theorem es.look (h:es w b n f)(ht:prog.underlying t=some (.map 2 e)){z:Value}(hz:(zeroValue e).run prog w=.ok z w){x:Int}(h0:0<=x)(c:x<1152921504606846976):
 (Instr.lookup t (.map (some b)) (ah x) false).run prog w=.ok ((f x).getD z) w:=by
 obtain⟨D,h,d⟩:=h;obtain⟨v,ps,r1,g⟩:=h.lookup pG ht hz rfl (ug h0 c)
 rw[r1,d.val g]
theorem es.look_ok (h:es w b n f)(ht:prog.underlying t=some (.map 2 e)){z:Value}(hz:(zeroValue e).run prog w=.ok z w){x:Int}(h0:0<=x)(d:x<1152921504606846976):
 (Instr.lookup t (.map (some b)) (ah x) true).run prog w=.ok (.tuple #[(f x).getD z,.bool (f x).isSome]) w:=by
 obtain⟨D,h,c⟩:=h;obtain⟨v,ps,r1,g⟩:=h.look_ok pG ht hz rfl (ug h0 d)
 rw[r1,c.val g,(c x).1]
theorem gf.nl (h:gf w b r n f left c):es w b n f:=let⟨D,_,h,d,_⟩:=h;⟨D,h.owns,d⟩
theorem gf.left_eq (h:gf w b r n f left c):w.rangeLeft b r=c:=let⟨_,_,h,_⟩:=h;h.left_eq
theorem gf.lt (h:gf w b r n f left c):r<w.heap.size:=let⟨_,_,h,_⟩:=h;h.lt
theorem gf.same (h:gf w b r n f left c)(hb:w'.heap[b]?=w.heap[b]?)(hr:w'.heap[r]?=w.heap[r]?):gf w' b r n f left c:=by obtain⟨D,L,⟨d,e,g,seen,c0,i,j,k,l,m,o⟩,q⟩:=h;exact⟨D,L,⟨d,e,g,seen,c0,hb.trans i,j,k,l,hr.trans m,o⟩,q⟩
theorem es.range (h:es w b n f)(ht:prog.underlying t=some (.map 2 e)):
 ∃w' c,(Instr.range t (.map (some b))).run prog w=.ok (aj w.heap.size) w'/\gf w' b w.heap.size n f (fun x=>(f x).isSome) c/\w.grownBy w' none/\w'.heap.size=w.heap.size+1:=by
 obtain⟨D,h,d⟩:=h;obtain⟨w',r1,g,r3,i⟩:=h.range pG ht;exact⟨w',_,r1,⟨D,_,g,d,fun x=>(d x).1⟩,r3,i⟩
theorem gf.next (h:gf w b r n f left c)(ty:TypeId):(c=0/\(∀x,left x=false)/\(Instr.next (aj r) false ty).run prog w=.ok (.tuple #[.bool false]) w)\/
 ∃x v w' e,left x=true/\f x=some v/\(Instr.next (aj r) false ty).run prog w=.ok (.tuple #[.bool true,ah x,v]) w'/\
  gf w' b r n f (fun y=>left y&&!(y==x)) e/\e<c/\w.grownBy w' (some r)/\w'.heap.size=w.heap.size/\(Instr.entry (aj r)).run prog w'=.ok (.tuple #[ah x,v]) w':=by
 obtain⟨D,L,h,g,i⟩:=h;rcases h.next pG ty with⟨h0,hl,j⟩|⟨key,v,B,y,w',e,l,m,hv,k,j,o,p,q,s,t⟩
 ·exact aK ⟨h0,fun x=>(i x).symm.trans (hl _),j⟩
 ·obtain⟨x,rfl,rfl,C⟩:=Maps.keyOf_int_inv Tryz.underlying2 l;have hy:y.1=.held v:=by cases hv;rfl
  have u:f x=some v:=by
   cases hf:f x with
   |none=>
    have d:=k (.lit (.int .i64 0))
    rw[Maps.atKey_of_not_has (by rw[(g x).1,hf];rfl),hy] at d;cases d
   |some A=>
    have d:=k (.lit (.int .i64 0))
    rw[(g x).2 A hf,hy] at d;rw[DataW.held.inj d]
  refine aJ ⟨x,v,w',e,(i x).symm.trans m,u,j,⟨D,_,o,g,fun z=>?_⟩,p,q,s,t⟩
  rw[i z,show(Lit.int .i64 z).sameKey (.int .i64 x)=(z==x) from(by show decide _=_;rw[Bool.eq_iff_iff];simp)]
end
def gq (v:Int×Int):Int:=ew v.1 v.2
def eZ (T:List cD)(v:Int×Int):Prop:=vc v.1 v.2=0/\(v.1=3->0<=v.2/\cv T v.2.toNat)
theorem eZ.lt {T:List cD}{v:Int×Int}(h:eZ T v)(b:v.1=3):0<=v.2/\v.2<T.length:=by obtain⟨h0,c⟩:=h.2 b;have:=c.1;exact⟨h0,V⟩
def tI (n:Nat):List Int:=(List.range n).map (fun i:Nat=>(i:Int))
theorem pH {n:Nat}{a:Int}:a∈tI n↔0<=a/\a<n:=by
 unfold tI;simp only [List.mem_map,List.mem_range];constructor
 ·rintro⟨i,hi,e⟩
  omega
 ·rintro⟨h0,b⟩
  exact⟨a.toNat,V,V⟩
theorem nm (n:Nat):(tI n).length=n:=by simp[tI]
def gP (T:List cD)(a:Int):Int:=(T.getD a.toNat t0).1
def gQ (T:List cD)(wt:List b7)(a:Int):List Int:=((T.getD a.toNat t0).2.1.map gq)++(if(T.getD a.toNat t0).1=5 then(wt.filter (fun e=>e.1==a)).map (fun e=>ew 3 e.2) else[])
structure nn (T:List cD)(wt:List b7):Prop where
 fv:∀i,cv T i->∀v∈(T.getD i t0).2.1,eZ T v
 wv:∀e∈wt,0<=e.1/\0<=e.2/\cv T e.2.toNat
 tl:∀i,(T.getD i t0).2.1.length<=12
 l1:T.length<=10000
 l2:wt.length<=10000
section
variable {T:List cD}{M:cQ->Int->cQ}{s:cQ}{v:Int×Int}
theorem nr (h:eZ T v):dk (gq v)=v.1/\de (gq v)=v.2:=(pT _ _ h.1).2
theorem HD (h:eZ T v)(b:v.1≠3):eg M (tI T.length) s (gq v)=(v,s):=by unfold eg;rw[(nr h).1,(nr h).2,aG b]
theorem HE (h:eZ T v)(b:v.1=3)(hs:s.1.contains v.2=true):eg M (tI T.length) s (gq v)=((3,(s.1.idxOf v.2:Int)),s):=by unfold eg;rw[(nr h).1,(nr h).2,aI b,aI (List.contains_iff_mem.2 (pH.2 (h.lt b))),aI hs]
theorem HG (h:eZ T v)(b:v.1=3)(hs:s.1.contains v.2=false):eg M (tI T.length) s (gq v)=((3,(s.1.length:Int)),M s v.2):=by unfold eg;rw[(nr h).1,(nr h).2,aI b,aI (List.contains_iff_mem.2 (pH.2 (h.lt b))),aG (by rw[hs];simp)]
end
def dU.ez (T:List cD)(wt:List b7)(l:List (Int×Int)):List (Int×Int)×cQ:=dz (met (tI T.length) (gP T) (gQ T wt) T.length) (tI T.length) ([],[]) (l.map gq)
def pI (T:List cD)(x:Int):Bool:=decide (0<=x)&&(decide (x.toNat<T.length)&&!(T.getD x.toNat t0).2.2.2)
theorem zZ {T:List cD}{x:Int}:pI T x=true↔0<=x/\cv T x.toNat:=by unfold pI cv;simp
theorem HH {T:List cD}{x:Int}(h:¬(0<=x/\cv T x.toNat)):pI T x=false:=by
 cases e:pI T x
 ·rfl
 ·exact absurd (zZ.1 e) h
abbrev Fm:=Nat->Option Addr×Nat
abbrev eD (T:List cD)(fm:Fm)(i:Nat):Value:=.slice (fm i).1 (T.getD i t0).2.1.length (fm i).2
abbrev fW (T:List cD)(fm:Fm)(i:Nat):Value:=.agg #[ah (T.getD i t0).1,eD T fm i]
def hJ (T:List cD)(fm:Fm)(x:Int):Option Value:=if pI T x=true then some (fW T fm x.toNat) else none
theorem jb {T:List cD}{fm:Fm}{x:Int}(h:0<=x/\cv T x.toNat):hJ T fm x=some (fW T fm x.toNat):=by unfold hJ;rw[aI (zZ.2 h)]
theorem lH {T:List cD}{fm:Fm}{x:Int}(h:¬(0<=x/\cv T x.toNat)):hJ T fm x=none:=by unfold hJ;rw[HH h];rfl
structure gF where
 own:Nat->Nat
 mb:Nat
 bp:Nat
 rb:Nat
 fm:Fm
 fe:Nat
 n:Nat
 a0:Option Addr
 k0:Nat
 a1:Option Addr
 k1:Nat
structure G2 (l:gF)(T:List cD)(w:ax):Prop where
 mp:es w l.mb l.n (hJ T l.fm)
 mn:l.n<=T.length
 dp:l.own l.mb=2
 fl:∀i,cv T i->w.ownsRow 0 97 2 (eD T l.fm i) (T.getD i t0).2.1.length (ev (T.getD i t0).2.1)
 eR:∀i,cv T i->∀k,some k=(eD T l.fm i).ownBlock->l.own k=10+i
 fe:∀i,cv T i->(T.getD i t0).2.2.1=decide (i<l.fe)
 al:l.fe<=T.length
structure G3 (l:gF)(r q:List b7)(w:ax):Prop where
 sd:fu w l.bp l.a0 l.k0 l.a1 l.k1 r q
 so:l.own l.bp=3
 ro:∀k,some k=(Value.slice l.a0 r.length l.k0).ownBlock->l.own k=5
 mf:∀k,some k=(Value.slice l.a1 q.length l.k1).ownBlock->l.own k=6
structure G4 (l:gF)(rs:List (Int×Int))(w:ax):Prop where
 rt:w.heap[l.rb]?=some (.cells (ev rs).toArray 97 (0,0))
 rl:rs.length=12
 ro:l.own l.rb=4
structure dS (bY:Nat)(b_ bZ:Int)(l:gF)(s:ck)(w:ax):Prop where
 blk:w.heap[bY]?=some (.cells #[ah b_,ah bZ,.map (some l.mb),ah s.T.length,ah l.fe,aj l.bp,.slice (ak l.rb) 12 12] 187 (0,0))
 bo:l.own bY=1
 g2:G2 l s.T w
 g3:G3 l s.rg s.wt w
 g4:G4 l s.rs w
 lt:∀b,l.own b≠0->b<w.heap.size
section
variable {bY:Nat}{b_ bZ:Int}{l:gF}{s:ck}{w w':ax}{T:List cD}{r q:List b7}{rs:List (Int×Int)}
theorem G2.keep (h:G2 l T w)(hk:∀b,l.own b=2\/10<=l.own b->w'.heap[b]?=w.heap[b]?):G2 l T w':=
 {
  h with
  mp:=h.mp.same (hk _ (aK h.dp))
  fl:=fun i hi=>cH (h.fl i hi) (fun k e=>hk k (aJ (by rw[h.eR i hi k e];omega)))}
theorem G3.keep (h:G3 l r q w)(hk:∀b,l.own b=3\/l.own b=5\/l.own b=6->w'.heap[b]?=w.heap[b]?):G3 l r q w':=
 {h with sd:=h.sd.keep (hk _ (aK h.so)) (fun k e=>hk k (aJ (aK (h.ro k e)))) (fun k e=>hk k (aJ (aJ (h.mf k e))))}
theorem G4.keep (h:G4 l rs w)(hk:∀b,l.own b=4->w'.heap[b]?=w.heap[b]?):G4 l rs w':={h with rt:=(hk _ h.ro).trans h.rt}
theorem dS.keep (h:dS bY b_ bZ l s w)(hs:w.heap.size<=w'.heap.size)(hk:∀b,l.own b≠0->w'.heap[b]?=w.heap[b]?):dS bY b_ bZ l s w':=
 {
  blk:=(hk _ (by rw[h.bo];decide)).trans h.blk
  bo:=h.bo
  g2:=h.g2.keep (fun b hb=>hk b V)
  g3:=h.g3.keep (fun b hb=>hk b V)
  g4:=h.g4.keep (fun b hb=>hk b V)
  lt:=fun b hb=>aM (h.lt b hb) hs}
end
def cx (bY:Nat)(b_ bZ:Int)(rb:Nat):dr ck where
 J F s w:=∃l,dS bY b_ bZ l s w/\l.rb=rb/\∀b,F b↔l.own b≠0
 lt:=by rintro F s w ⟨l,h,_,c⟩ b hb;exact h.lt b ((c b).1 hb)
 keep:=by rintro F s w w' ⟨l,h,hr,c⟩ hs hk;exact⟨l,h.keep hs (fun b hb=>hk b ((c b).2 hb)),hr,c⟩
section
variable {bY:Nat}{b_ bZ:Int}{l:gF}{F:Nat->Prop}{s:ck}{w w':ax}
theorem dS.below (h:dS bY b_ bZ l s w)(hb:aw w w'):dS bY b_ bZ l s w':=h.keep hb.size (fun b ho=>hb.block b (h.lt b ho))
theorem dS.cells (h:dS bY b_ bZ l s w):w.cell? (aq bY 0)=some (ah b_)/\w.cell? (aq bY 1)=some (ah bZ)/\w.cell? (aq bY 2)=some (.map (some l.mb))/\w.cell? (aq bY 3)=some (ah s.T.length)/\w.cell? (aq bY 4)=some (ah l.fe)/\
 w.cell? (aq bY 5)=some (aj l.bp)/\w.cell? (aq bY 6)=some (.slice (ak l.rb) 12 12)/\(∀o,w.frozen? (aq bY o)=false)/\bY<w.heap.size:=by
 have b:=h.blk;refine⟨?_,?_,?_,?_,?_,?_,?_,fun o=>by simp[World.frozen?,b],lt_of_some b⟩<;>simp[World.cell?,b]
theorem dS.HI {rb:Nat}(h:dS bY b_ bZ l s w)(e:w.cell? (aq bY 6)=some (.slice (ak rb) 12 12)):l.rb=rb:=by have c:=h.cells.2.2.2.2.2.2.1;rw[e] at c;cases c;rfl
theorem G4.cells {rs:List _}(h:G4 l rs w):l.rb<w.heap.size/\rs.length=12/\
 (∀i,i<12->w.cell? (aq l.rb (i*2))=some (ah (rs.getD i (0,0)).1)/\w.cell? (aq l.rb (i*2+1))=some (ah (rs.getD i (0,0)).2)/\w.frozen? (aq l.rb (i*2))=false/\w.frozen? (aq l.rb (i*2+1))=false):=by
 have b:=h.rt;have hl:=h.rl;refine⟨lt_of_some b,hl,fun i hi=>?_⟩
 obtain⟨c,d⟩:=nN rs i V;refine⟨?_,?_,by simp[World.frozen?,b],by simp[World.frozen?,b]⟩
 ·simp[World.cell?,b];simpa using c
 ·simp[World.cell?,b];simpa using d
end
end Go.Proofs.YtpkjkjhanlbcoaaGreat
