import Derived.Test.YtjckpdepffejnaaGreatDoorJ10
open Array renaming getElem?_modify->bE,size->I
open Bool renaming false->OU,true->C
open Go renaming Addr->bB,Calls->M,Value->a7,below_drewN->sS
open Go.Ending renaming returned->OL
open Go.IntKind renaming i64->OM
open Go.Obj renaming cells->E
open Go.Proofs.Tryz renaming prog->OX
open Go.RowKit renaming Below->J
open Go.Value renaming ownBlock->P,pointer->bq,slice->Z
open Go.World renaming alloc->bu,cell?->V,heap->OJ,ownsRow->aC,setCell->A
open Int renaming toNat->K,zero_add->Mh
open List renaming filter_cons_of_neg->Jl,filter_cons_of_pos->Jo,getD->U,length->L,mem_append->bw,mem_cons->bQ,nodup_cons->zg
open Option renaming map_some->bH,none->OQ,some->OH
namespace Go.Proofs.YtjckpdepffejnaaGreatDoor
set_option maxRecDepth 100000
set_option maxHeartbeats 4000000
open Tryz
open Go.RowKit W Kp ch
theorem Ar {P:Prop}(h:P:=by unfold dN;rw[aJ c];show((k.ma t.1.1 _,t.1.2.set i ((t.1.2.getD i (0,0)).1,(t.1.2.getD i (0,0)).2)),true)=_;rw[(Ie _ _ _)]):P:=h
theorem As {P:Prop}(h:P:=by
 obtain⟨j1,j2,cI⟩:=h1.ma _;refine⟨j1,h2.trans j2,λi hi=>?_⟩
 by_cases e:i=n
 ·rw[e];exact cI
 ·exact j2.dd (by grind)):P:=h
structure lC (k:b_)(s:cy)(a:Int):Prop where
 p:pk (k.ld a)=1\/pk (k.ld a)=2->k.pC s a
 w:pk (k.ld a)=3->k.dd s (k.ld (a+2))=OU
 e:pk (k.ld a)=4->a∈s.ep\/k.dd s (k.ld (a+2))=OU
structure dh (k:b_)(X:Int->Prop)(s:cy):Prop where
 fF:c8 k s
 self:∀a∈k.T,s.f a≠-1->s.f a=a
 td:∀a∈s.td,s.f a≠-1
 cmp:∀a∈k.T,s.f a≠-1->a∈s.td\/X a\/lC k s a
section
variable {k:b_}{X:Int->Prop}{s t:cy}
theorem lC.le {a:Int}(h:lC k s a)(l:dx k s t)(he:∀b∈s.ep,b∈t.ep):lC k t a:=
 ⟨λq=>l.pC (h.p q),λq=>l.dd (h.w q),λq=>(by grind [dx.dd,e])⟩
theorem vV (k:b_)(s:cy)(x:Int):(k.ma s x).ep=s.ep:=by grind [b_.ma]
theorem dh.ma (h:dh k X s)(x:Int):dh k X (k.ma s x)/\dx k s (k.ma s x)/\k.dd (k.ma s x) x=OU:=by
 by_cases c:k.dd s x=C
 ·obtain⟨m,i,n⟩:=b_.sr c;have hp:=(h.fF.ps _ i).1;have o:k.jt x=C:=by grind [b_.dd]
  have e:k.ma s x={s with f:=ia s.f (cq x) (cq x),td:=s.td++[cq x]}:=by grind [b_.ma]
  have j:∀b,(k.ma s x).f b=if b=cq x then cq x else s.f b:=λb=>by rw[e];rfl
  have l:(k.ma s x).td=s.td++[cq x]:=by grind
  have le:dx k s (k.ma s x):=⟨λb hb=>by grind⟩
  refine⟨⟨(h.fF.ma x).1,λb hb g=>?_,λb hb=>?_,λb hb g=>?_⟩,le,?_⟩
  ·grind [self]
  ·grind [td]
  ·rw[l];by_cases d:b=cq x
   ·grind
   ·rw[j,aJ d] at g;rcases h.cmp b hb g with q|q|q
    ·grind
    ·grind
    grind [lC.le]
  grind [b_.sx]
 grind [dx.refl,b_.ma]
theorem If (k:b_)(s:cy)(a:Int):∀n,(k.fP s a n).ep=s.ep
 |0=>rfl
 |n+1=>(vV _ _ _).trans (If k s a n)
theorem dh.fP (h:dh k X s)(a:Int):∀n:Nat,dh k X (k.fP s a n)/\dx k s (k.fP s a n)/\∀i:Nat,i<n->k.dd (k.fP s a n) (k.ld (a+1+i))=OU
 |0=>⟨h,dx.refl _,λi hi=>aa⟩
 |n+1=>by obtain⟨h1,h2,b⟩:=dh.fP h a n;exact As
theorem dh.lk {x:Int}(h:dh k (λb=>b=x) s)(m:x∈k.T)(hr:k.lost s+L s.td+L s.ep+1<=L k.T):dh k (λ_=>False) (k.lk s x)/\dx k s (k.lk s x):=by
 have d:∀u:cy,dh k (λb=>b=x) u->lC k u x->dh k (λ_=>False) u:=λu e n=>⟨e.fF,e.self,e.td,λa ha g=>by grind [cmp]⟩
 have c:=(h.fF.lk m hr).1;unfold b_.lk at c⊢;by_cases c1:pk (k.ld x)=1\/pk (k.ld x)=2
 ·rw[aM c1];obtain⟨m1,f,j⟩:=h.fP x _;exact⟨d _ m1 ⟨λ_ i hi=>(by grind),λq=>aa,λq=>aa⟩,f⟩
 ·rw[aJ c1] at c⊢;by_cases c3:pk (k.ld x)=3
  ·rw[aM c3];obtain⟨m1,f,j⟩:=h.ma _;exact⟨d _ m1 ⟨λq=>aa,λ_=>j,λq=>aa⟩,f⟩
  ·rw[aJ c3] at c⊢;by_cases l:pk (k.ld x)=4
   ·rw[aM l] at c⊢;have le:dx k s {s with ep:=s.ep++[x]}:=⟨λ_ _=>rfl⟩
    refine⟨d _ ⟨c,h.self,h.td,λa ha g=>?_⟩ ⟨λq=>aa,λq=>aa,λ_=>aK ac⟩,le⟩
    exact(h.cmp a ha g).imp id (by grind [lC.le])
   ·rw[aJ l];exact⟨d _ h ⟨λq=>aa,λq=>aa,λq=>aa⟩,dx.refl _⟩
theorem dh.l1 (h:dh k (λ_=>False) s)(hl:0<L s.td):dh k (λ_=>False) (k.l1 s)/\dx k s (k.l1 s):=by
 obtain⟨x,g⟩:∃x,U s.td (L s.td-1) 0=x:=(by grind)
 have hm:x∈s.td:=by grind
 have i:∀b,b∈s.td->b∈s.td.take (L s.td-1)\/b=x:=λb hb=>by
  have e:=h7 s.td (L s.td-1) aa 0
  grind
 have hs:=h.fF.sum;have j:L (s.td.take (L s.td-1))=L s.td-1:=by simp_all
 have j0:c8 k {s with td:=s.td.take (L s.td-1)}:=⟨h.fF.nd,h.fF.ps,λa ha=>h.fF.td a (by grind),h.fF.ep,h.fF.tl,by show k.lost s+L (s.td.take _)+L s.ep<=_;omega⟩
 have h0:dh k (λb=>b=x) {s with td:=s.td.take (L s.td-1)}:=⟨j0,h.self,λa ha=>h.td a (by grind),λa ha c=>by
  rcases h.cmp a ha c with q|q|q
  ·grind
  ·grind
  ·exact aI (aI ⟨q.p,q.w,q.e⟩)⟩
 obtain⟨m1,d⟩:=h0.lk (h.fF.td x hm) (by show k.lost s+L (s.td.take _)+L s.ep+1<=_;omega)
 have f:k.l1 s=k.lk {s with td:=s.td.take (L s.td-1)} x:=by grind [b_.l1]
 rw[f];exact⟨m1,⟨λb hb=>d.f b hb⟩⟩
theorem dh.lm:∀(n:Nat){s:cy},dh k (λ_=>False) s->dh k (λ_=>False) (k.lm n s)/\dx k s (k.lm n s)
 |0,s,h=>⟨h,dx.refl _⟩
 |n+1,s,h=>by
  unfold b_.lm;by_cases c:0<L s.td
  ·rw[aM c];obtain⟨b,d⟩:=h.l1 c;obtain⟨e,j2⟩:=dh.lm n b
   grind [dx.trans]
  grind [dx.refl]
theorem dh.e8 (h:dh k (λ_=>False) s):dh k (λ_=>False) (k.e8 s)/\dx k s (k.e8 s)/\(k.e8 s).td=[]:=by obtain⟨b,c⟩:=dh.lm _ h;exact⟨b,c,Hq h.fF⟩
theorem dh.jb:∀(l:List Int){t:List Int×cy},dh k X t.2->dh k X (l.foldl k.cW t).2/\dx k t.2 (l.foldl k.cW t).2/\(l.foldl k.cW t).2.ep=t.2.ep/\(∀a∈t.1,a∈(l.foldl k.cW t).1)/\∀a∈l,a∈(l.foldl k.cW t).1\/k.dd (l.foldl k.cW t).2 (k.ld (a+2))=OU
 |[],t,h=>(by grind [dx.refl])
 |a::l,t,h=>by
  have key:dh k X (k.cW t a).2/\dx k t.2 (k.cW t a).2/\(k.cW t a).2.ep=t.2.ep/\(∀b∈t.1,b∈(k.cW t a).1)/\(a∈(k.cW t a).1\/k.dd (k.cW t a).2 (k.ld (a+2))=OU):=by grind [ma,vV,dx.refl,b_.cW]
  obtain⟨k1,k2,k3,k4,k5⟩:=key;obtain⟨c,d,e,f,g⟩:=dh.jb l k1
  grind [dx.trans,dx.dd]
theorem dh.kv (h:dh k (λ_=>False) s):dh k (λ_=>False) (k.kv s).2/\dx k s (k.kv s).2:=by
 obtain⟨b,e,f,_,g⟩:=dh.jb s.ep (t:=([],s)) h;have b:=b;have le:dx k (k.em s s.ep).2 (k.kv s).2:=⟨λ_ _=>rfl⟩
 refine⟨⟨h.fF.kv.1,b.self,b.td,λa ha i=>?_⟩,e.trans le⟩
 rcases b.cmp a ha i with q|q|q
 ·exact aK q
 ·grind
 ·refine aI (aI ⟨λc=>le.pC (q.p c),λc=>le.dd (q.w c),λc=>?_⟩)
  rcases q.e c with d|d
  ·rw[f] at d;exact(g a d).imp id le.dd
  ·exact aI (le.dd d)
theorem Au:∀(l:List Int)(t:List Int×cy),L t.1+L l<=L (l.foldl k.cW t).1->l.foldl k.cW t=(t.1++l,t.2)/\∀a∈l,k.dd t.2 (k.ld (a+1))=C
 |[],t,_=>(by grind)
 |a::l,t,h=>by
  have g:∀(l:List Int)(t:List Int×cy),L (l.foldl k.cW t).1<=L t.1+L l:=λl=>by
   induction l with
   |nil=>grind
   |cons b l d=>
    intro t;rw[a8];have q:=d (k.cW t b)
    have f:L (k.cW t b).1<=L t.1+1:=by
     unfold b_.cW;split
     ·simp
     ·simp
    grind
  rw[a8] at h⊢;simp only [List.length_cons] at h;by_cases c:k.dd t.2 (k.ld (a+1))=C
  ·have e:k.cW t a=(t.1++[a],t.2):=by grind [b_.cW]
   rw[e] at h⊢;obtain⟨q1,f⟩:=Au l (t.1++[a],t.2) (by grind)
   grind
  grind [b_.cW]
theorem Ig (h:(k.kv s).1=OU):(k.kv s).2=s/\∀a∈s.ep,k.dd s (k.ld (a+1))=C:=by
 have b:=of_decide_eq_false h;obtain⟨q1,c⟩:=Au s.ep ([],s) (by show 0+L s.ep<=L (k.em s s.ep).1;omega)
 have q1:k.em s s.ep=(s.ep,s):=by assumption
 simp_all [b_.kv]
end
structure fR (k:b_)(s:cy)(q:List b8):Prop where
 kV:dh k (λ_=>False) s
 td:s.td=[]
 ep:∀a∈s.ep,k.dd s (k.ld (a+1))=C
 wq:∀e∈q,k.al s e.2=C\/k.al s e.1=OU
section
variable {k:b_}{s:cy}
theorem Av {t:cy}(l:dx k s t){x:Int}(h:k.al s x=C):k.al t x=C:=by grind [dx.dd,b_.al]
theorem Ie {b:Type}(l:List b)(i:Nat)(d:b):l.set i (U l i d)=l:=by grind [List.set_getElem_self,List.set_eq_of_length_le]
theorem dh.lE:∀(l:List Nat)(t:(cy×List b8)×Bool),dh k (λ_=>False) t.1.1->dh k (λ_=>False) (l.foldl (dN k.al k.mp) t).1.1/\dx k t.1.1 (l.foldl (dN k.al k.mp) t).1.1/\(l.foldl (dN k.al k.mp) t).1.2=t.1.2/\
 ((l.foldl (dN k.al k.mp) t).2=OU->t.2=OU/\l.foldl (dN k.al k.mp) t=t/\∀i∈l,k.al t.1.1 (U t.1.2 i (0,0)).2=C\/k.al t.1.1 (U t.1.2 i (0,0)).1=OU)
 |[],t,h=>(by grind [dx.refl])
 |i::l,t,h=>by
  rw[a8];by_cases c:(k.al t.1.1 (U t.1.2 i (0,0)).2||!k.al t.1.1 (U t.1.2 i (0,0)).1)=C
  ·have e:dN k.al k.mp t i=t:=by grind [dN]
   rw[e];obtain⟨b,d,f,g⟩:=dh.lE l t h
   grind
  ·have e:dN k.al k.mp t i=((k.ma t.1.1 (U t.1.2 i (0,0)).2,t.1.2),C):=by exact Ar
   rw[e];obtain⟨m1,j,_⟩:=h.ma _;obtain⟨b,d,f,g⟩:=dh.lE l ((k.ma t.1.1 _,t.1.2),C) m1;refine⟨b,j.trans d,f,λq=>?_⟩
   grind
theorem dh.wa {t:cy×List b8}(h:dh k (λ_=>False) t.1):dh k (λ_=>False) (k.wa t).1.1/\dx k t.1 (k.wa t).1.1/\(k.wa t).1.2=t.2/\((k.wa t).2=OU->(k.wa t).1=t/\∀e∈t.2,k.al t.1 e.2=C\/k.al t.1 e.1=OU):=by
 obtain⟨b,c,d,f⟩:=dh.lE _ (t,OU) h;refine⟨b,c,d,λq=>?_⟩
 obtain⟨_,g,q3⟩:=f q;refine⟨?_,λe he=>?_⟩
 ·show(ip k.al k.mp t _).1=t;unfold ip;rw[g]
 ·obtain⟨i,hi,l⟩:=List.mem_iff_getElem.1 he;have:=q3 i (by simpa using hi)
  have j:U t.2 i (0,0)=e:=by simp_all
  rw[j] at this
  exact this
theorem dh.de:∀(n:Nat)(t:cy×List b8),dh k (λ_=>False) t.1->dh k (λ_=>False) (k.de n t).1/\dx k t.1 (k.de n t).1/\(k.de n t).2=t.2/\(k.mu t.1<n->fR k (k.de n t).1 (k.de n t).2)
 |0,t,h=>⟨h,dx.refl _,rfl,λe=>aa⟩
 |n+1,t,h=>by
  obtain⟨l1,l2,b⟩:=h.e8;obtain⟨v1,v2⟩:=l1.kv;have m1:=(dC.e8 h.fF).mu;obtain⟨p,q⟩:=dC.kv l1.fF;unfold b_.de;by_cases c:(k.kv (k.e8 t.1)).1=C
  ·rw[aM c];obtain⟨f,g,i,j⟩:=dh.de n ((k.kv _).2,t.2) v1
   grind [dx.trans]
  ·rw[aJ c];have c2:(k.kv (k.e8 t.1)).1=OU:=by grind
   obtain⟨s1,s2⟩:=Ig c2;rw[s1];obtain⟨w1,s,u,l⟩:=dh.wa (t:=(k.e8 t.1,t.2)) l1;by_cases d:(k.wa (k.e8 t.1,t.2)).2=C
   ·rw[aM d];obtain⟨f,g,i,j⟩:=dh.de n _ w1;have:=(dC.wa l1.fF).2.2 d
    grind [dx.trans]
   ·rw[aJ d];have m:(k.wa (k.e8 t.1,t.2)).2=OU:=by grind
    obtain⟨q1,o⟩:=l m;rw[q1];exact⟨l1,l2,rfl,λ_=>⟨l1,b,s2,o⟩⟩
theorem dh.sp {t:cy×List b8}(h:dh k (λ_=>False) t.1):fR k (k.sp t).1 (k.sp t).2/\dx k t.1 (k.sp t).1/\(k.sp t).2=t.2:=by obtain⟨e,b,c,d⟩:=dh.de _ t h;exact⟨d aa,b,c⟩
theorem dh.ke {t:cy×List b8}(h:dh k (λ_=>False) t.1)(x:Int):fR k (k.ke t x).2.1 (k.ke t x).2.2/\dx k t.1 (k.ke t x).2.1/\(k.ke t x).2.2=t.2/\k.al (k.ke t x).2.1 x=C:=by
 obtain⟨m1,b,f⟩:=h.ma x;obtain⟨c,d,e⟩:=dh.sp (t:=(k.ma t.1 x,t.2)) m1;refine⟨c,b.trans d,e,?_⟩
 show(!k.dd (k.sp (k.ma t.1 x,t.2)).1 x)=C
 grind [dx.dd]
def b_.gx (k:b_):cy×List b8->b8->Bool×(cy×List b8):=cm (et cy) (λs x=>k.al s.1 x) k.ke
theorem fR.cm {t:cy×List b8}(h:fR k t.1 t.2)(e:b8):fR k (k.gx t e).2.1 (k.gx t e).2.2/\dx k t.1 (k.gx t e).2.1:=by
 unfold b_.gx;cases c:k.al t.1 e.1
 ·grind [oa,dx.refl]
 ·rw[ob (o:=et cy) (is:=λs x=>k.al s.1 x) (kp:=k.ke) (s:=t) (e:=e) c];obtain⟨b,f,g,i⟩:=h.kV.ke e.2;show fR k (k.ke t e.2).2.1 ((k.ke t e.2).2.2++[(e.1,e.2)])/\dx k t.1 (k.ke t e.2).2.1;refine⟨⟨b.kV,b.td,b.ep,λd hd=>?_⟩,f⟩
  grind [wq]
theorem fR.pl:∀(l:List b8)(u:List b8×List b8×(cy×List b8)),fR k u.2.2.1 u.2.2.2->fR k (l.foldl (eX k.gx) u).2.2.1 (l.foldl (eX k.gx) u).2.2.2/\dx k u.2.2.1 (l.foldl (eX k.gx) u).2.2.1
 |[],u,h=>⟨h,dx.refl _⟩
 |e::l,u,h=>by
  have key:(eX k.gx u e).2.2=(k.gx u.2.2 e).2:=by grind [eX]
  obtain⟨c1,c2⟩:=h.cm e;rw[<-key] at c1 c2;obtain⟨b,c⟩:=fR.pl l _ c1
  grind [dx.trans]
theorem fR.e4:∀(n:Nat)(t:cy×List b8)(d:List b8),fR k t.1 t.2->fR k (e4 k.gx n t d).1.1 (e4 k.gx n t d).1.2/\dx k t.1 (e4 k.gx n t d).1.1
 |0,t,d,h=>⟨h,dx.refl _⟩
 |n+1,t,d,h=>by
  obtain⟨b,e⟩:=fR.pl d ([],[],t) h;have b:fR k (dF k.gx t d).2.2.1 (dF k.gx t d).2.2.2:=b;have e:dx k t.1 (dF k.gx t d).2.2.1:=e;by_cases c:L (dF k.gx t d).1=0
  ·grind [oc]
  ·rw[ng _ _ _ _ c];obtain⟨f,g⟩:=fR.e4 n (dF k.gx t d).2.2 (dF k.gx t d).2.1 b
   grind [dx.trans]
theorem fR.fA {t:cy×List b8}(h:fR k t.1 t.2)(r:List b8):fR k (k.fA t r).1 (k.fA t r).2/\dx k t.1 (k.fA t r).1:=fR.e4 _ t _ h
theorem dh.start (h:c8 k ir){X:Int->Prop}:dh k X ir:=⟨h,λ_ _ b=>absurd rfl b,λ_ ha=>by simp[ir] at ha,λ_ _ b=>absurd rfl b⟩
theorem dh.cO {X:Int->Prop}(h:dh k X s):∀n,dh k X (k.cO s n)/\dx k s (k.cO s n)/\∀i,i<n->k.dd (k.cO s n) (U k.s.rs i 0)=OU
 |0=>⟨h,dx.refl _,λi hi=>aa⟩
 |n+1=>by obtain⟨h1,h2,b⟩:=dh.cO h n;exact As
end
theorem pD {a:Wc}{S:cv}(c:c8 (S.s.j0 a) ir):fR (S.s.j0 a) (S.cI a) ((S.s.j0 a).fA (S.j2 a) S.r).2/\dx (S.s.j0 a) (S.j2 a).1 (S.cI a)/\∀i,i<12->(S.s.j0 a).dd (S.cI a) (U S.s.rs i 0)=OU:=by obtain⟨d,_,e⟩:=(dh.start c).cO 12;obtain⟨f,g,_⟩:=dh.sp (t:=((S.s.j0 a).cO ir 12,S.q)) d;obtain⟨j,b⟩:=fR.fA f S.r;exact⟨j,b,λi hi=>b.dd (g.dd (e i hi))⟩
theorem Ih {p q N O y g:Nat}{ws:List Int}(w:az)(h:At w p q N O y g ws):
 M OX 116 #[aq p] w λe w'=>∃v1 v2,e=OL (.tuple #[v1,v2])/\aC w' (I (OJ w)) 3 1 v1 (L (eP N y g ws)) ((eP N y g ws).map (Value.int OM))/\aC w' (I (OJ w)) 3 1 v2 (L (dM N y g ws)) ((dM N y g ws).map (Value.int OM))/\(∀b,OH b=P v1->OH b≠P v2)/\J (I (OJ w)) w w':=by
 obtain⟨c0,c1,c2,c3,j,k,l⟩:=h.cells;have lp:=h.fu;have S:=h.fw;have k1:=h.hN';have k2:=h.hy;have k3:=h.hO;have k4:=h.hg;go_enter func116,ntmps116;go_wp2_with fail;refine(yz 0 N y (I (OJ w)) _ ((h.alloc _).alloc _) ((aU _ _ _ ac).trans (aO _ _)) aa aa aa aa aa aa).mono ?_;rintro e w1 ⟨rfl,v1,m,i,c⟩
 have n:=((h.alloc _).alloc _).same (c.block p (by simp;omega) aa) (c.block q (by simp;omega) aa)
 have d:=(c.block (I (OJ w)+1) ac aa).trans (uA _ ac)
 have t:=cg m;have u:=cg d;have v:=c.size;simp only [World.size_alloc] at v;clear m d c0 c1 c2 c3 j k l;obtain⟨c0,c1,c2,c3,j,k,l⟩:=n.cells;go_wp2_with fail;refine(yA N O g (I (OJ w)+1) _ n u.o aa aa aa aa aa aa).mono ?_;rintro e o ⟨rfl,v2,d,s,f⟩
 have W:V o (av (I (OJ w)) 0)=OH v1:=by have:=(f.block (I (OJ w)) aa aa).trans t.o;simp[World.cell?,this]
 have ab:V o (av (I (OJ w)+1) 0)=OH v2:=aD d
 have ad:=f.size;clear d;go_wp2_with fail
 go_quiet (fail)
 go_wp2_with fail;go_ret2;have x:∀b,OH b=P v1->OH b≠P v2:=λb e B=>by have q1:=(cu i b e).2;have ag:=(cu s b B).1;omega
 simp only [World.size_alloc] at i c;have F:eP N y g ws=e3 N y g ws (0+(y:Int)) 2000 0:=by rw[Mh];rfl
 refine⟨v1,v2,rfl,?_,?_,x,?_⟩
 ·rw[F];exact nf (o_ (base:=I (OJ w)+1+1) (yq i f bY aa) aa) (sS bZ _)
 ·exact nf (o_ s aa) (sS bZ _)
 ·exact sS (((bZ.alloc bY _).alloc ac _).trans ((c.below aa bY).trans (f.below aa aa))) _
theorem Ii (f:Nat)(c:Array a7)(p:Int->Bool)(b:eh f)(w:az):
 M OX 302 #[Z OQ 0 0,.func (.func f) #[] c] w λr w'=>r=OL (Z OQ 0 0)/\J (I (OJ w)) w w':=by
 go_enter func302,ntmps302;go_wp2_with fail;refine(Am f c p b w [] (λw' x d _=>by cases d) OQ 0 ac (λh=>by simp at h)).mono ?_;rintro r w1 ⟨e,⟨rfl,_⟩|⟨i,_,g,_⟩⟩
 ·go_wp2;go_ret;exact⟨rfl,e⟩
 ·simp at g
theorem Ij (f:Nat)(c:Array a7)(p:Int->Bool)(d:eh f)(w:az)(l:List Int)(ad:Option bB)(cap B:Nat)
 (hl:∀(w':az)(x:Int),x∈l->Fr (λb=>OH b=P (Value.slice ad (L l) cap)) w w'->M OX f (#[ak x]++c) w' λr i=>r=OL (.bool (p x))/\J (I (OJ w')) w' i)
 (hm:L l<=100000)(hr:aC w B 3 1 (Z ad (L l) cap) (L l) (l.map (Value.int OM))):
 M OX 302 #[Z ad (L l) cap,.func (.func f) #[] c] w λr w'=>r=OL (Z ad (L (eL p l)) cap)/\aC w' B 3 1 (Z ad (L (eL p l)) cap) (L (eL p l)) ((eL p l).map (Value.int OM))/\Fr (λb=>OH b=P (Value.slice ad (L l) cap)) w w':=by
 rcases hr.2 with⟨hv,hn⟩|⟨g,k,m,hv,_⟩
 ·have j:=List.eq_nil_of_length_eq_zero hn;subst j;simp at hv;obtain⟨rfl,rfl⟩:=hv;refine(Ii f c p d w).mono ?_;rintro r w' ⟨rfl,hb⟩
  exact⟨rfl,a9 _ _ _ _,Fr.of hb⟩
 ·obtain⟨rfl,rfl⟩:=hv;have e:∀n cap,(λb=>OH b=P (Value.slice (au g) n cap))=(λb=>b=g):=λn cap=>by simp[Value.ownBlock]
  rw[e] at hl⊢;exact Ic f c p d w l g cap B hl hm hr
theorem Aw {pk pw p q N O y g:Nat}{ws:List Int}(w:az)(f:At w p q N O y g ws)(c1:V w (av pk 0)=OH (aq pw))(c2:V w (av pw 0)=OH (aq p))(l:List Int)(ad:Option bB)(cap B:Nat)(e:Int)(hl:L l<=100000)(m:∀x∈l,0<=x/\x<=100000)
 (hr:aC w B 3 1 (Z ad (L l) cap) (L l) (l.map (Value.int OM)))(hB:pk<B/\pw<B/\p<B/\q<B):
 M OX 259 #[aq pk,Z ad (L l) cap,ak e] w λr w'=>r=OL (Z ad (L (eL (λx=>decide (e<=x+pf (ld N y g ws x))) l)) cap)/\aC w' B 3 1 (Z ad (L (eL (λx=>decide (e<=x+pf (ld N y g ws x))) l)) cap) (L (eL (λx=>decide (e<=x+pf (ld N y g ws x))) l)) ((eL (λx=>decide (e<=x+pf (ld N y g ws x))) l).map (Value.int OM))/\Fr (λb=>OH b=(Value.slice ad (L l) cap).ownBlock) w w':=by
 obtain⟨W,c⟩:∃W,W=bu (bu w (E #[bq (OH ⟨pk,0,OQ⟩)] 260)) (E #[.int OM e] 3):=⟨_,rfl⟩
 have i:J (I (OJ w)) w W:=by rw[c];exact((aH _ w).alloc bY _).alloc ac _
 have n:W.heap[I (OJ w)]?=OH (E #[aq pk] 260 (0,0)):=by rw[c,aU _ _ _ ac];exact aO _ _
 have o:W.heap[I (OJ w)+1]?=OH (E #[ak e] 3 (0,0)):=by rw[c];simpa using aO (bu w (E #[bq (OH ⟨pk,0,OQ⟩)] 260)) _
 have v:I (OJ W)=I (OJ w)+2:=by rw[c];simp
 have P:=Ij 303 #[aq (I (OJ w)),aq (I (OJ w)+1)] (λx=>decide (e<=x+pf (ld N y g ws x))) Ia W l ad cap B (λw' x s d=>by
  have hn:∀b,OH b=(Value.slice ad (L l) cap).ownBlock->_:=λb e=>cu hr b e;have k0:∀b,b<B->b<I (OJ w)->_=_:=λb hb j=>(d.block b aa (λe=>by have:=(hn b e).1;omega)).trans (i.block b j)
  have k1:∀b,I (OJ w)<=b->b<I (OJ W)->_=_:=λb hb j=>d.block b j (λe=>by have:=(hn b e).2;omega)
  exact Ib w' (f.same (k0 p hB.2.2.1 f.fu) (k0 q hB.2.2.2 f.fw)) (by simp[World.cell?,((k1 (I (OJ w)) _ aa).trans n)]) ((aQ (k0 pk hB.1 (aT w _ c1))).trans c1) ((aQ (k0 pw hB.2.1 (aT w _ c2))).trans c2) (by simp[World.cell?,((k1 _ aa aa).trans o)]) x (m x s)) hl (cK hr (λb e=>i.block b (cu hr b e).2))
 have t:aA (_/\∀b,OH b=(Value.slice ad (L l) cap).ownBlock->b<I (OJ w)):=⟨i,λb e=>(cu hr b e).2⟩
 go_enter func259,ntmps259;go_wp2_with fail;rw[<-(cg c).o];refine P.mono ?_;rintro r w1 ⟨rfl,u,d⟩
 have k:=cY u ((Fr.of t.o.1).trans d (λb e=>aK e))
 go_wp2_with fail;go_ret;exact⟨rfl,k.o.1,k.o.2⟩
theorem Ik (w:az)(pk:Nat)(G Y:List Int)(c f:Option bB)(gc g:Nat)(l:V w (av pk 1)=OH (Z f (L Y) g))(q:V w (av pk 2)=OH (Z c (L G) gc))(yr:aC w 0 3 1 (Z f (L Y) g) (L Y) (Y.map (Value.int OM)))(gr:aC w 0 3 1 (Z c (L G) gc) (L G) (G.map (Value.int OM)))(hl:L G+L Y<=4000):
 M OX 260 #[aq pk] w λe w'=>∃a d,e=OL (Z a (L G+L Y) d)/\aC w' (I (OJ w)) 3 1 (Z a (L G+L Y) d) (L G+L Y) ((G++Y).map (Value.int OM))/\J (I (OJ w)) w w':=by
 have lk:=aT w _ l;have s:=aw w.drew (E #[Z c (L G) gc,Z f (L Y) g] 136)
 have i:=(ax w).drew.trans (s.mono bY)
 have m:=aO w.drew (E #[Z c (L G) gc,Z f (L Y) g] 136)
 have P:=Af (bu w.drew (E #[Z c (L G) gc,Z f (L Y) g] 136)) (I (OJ w)) G Y c f gc g (by simp only [World.cell?];rw[show I (OJ w)=I (OJ w.drew) from rfl,m];rfl) (by simp only [World.cell?];rw[show I (OJ w)=I (OJ w.drew) from rfl,m];rfl) (cK gr (λb e=>i.block b (cu gr b e).2)) (cK yr (λb e=>i.block b (cu yr b e).2)) aa;have j:=cg i;go_enter func260,ntmps260;go_wp2_with fail
 go_region_held3 (λw'=>V w' (av pk 1)=OH (Z f (L Y) g)/\V w' (av pk 2)=OH (Z c (L G) gc)) (go_keep)
  (first
    |(go_at_call 304;refine P.mono ?_;rintro e t ⟨a,d,rfl,n,hb⟩;have k:=j.o.trans (hb.mono j.o.size);have y1:=(k.cell (p:=av pk 1) lk).trans l;have u:=(k.cell (p:=av pk 2) lk).trans q;have o:=cY (fz n (λb e=>aS j.o.size (cu n b e).1)) k))
 go_wp2_with fail;go_ret;exact⟨a,d,rfl,o.o.1,o.o.2⟩
theorem Ax (w:az)(p:Nat)(a0 a1:Option bB)(k0 k1:Nat)(r q:List b8)(h:fE w p a0 k0 a1 k1 r q)(h0:L r<=90000)(W:L q<=90000):
 M OX 258 #[aq p] w λe w'=>∃g i c0 b1 c1,e=OL (aq g)/\I (OJ w)<=g/\fE w' g i c0 b1 c1 r q/\(∀z,i=OH z->I (OJ w)<=z.block)/\(∀z,b1=OH z->I (OJ w)<=z.block)/\(∀k,OH k=P (Value.slice i (L r) c0)->OH k≠P (Value.slice b1 (L q) c1))/\J (I (OJ w)) w w':=by
 obtain⟨c0,c1,n,o,lp⟩:=h.cells;have s:=cg (sg h.r0)
 have t:=cg (sg h.q0)
 clear h n o;go_enter func258,ntmps258;go_wp2_with fail;have hd:=(ax w).drew
 go_region_held3 (λw'=>V w' (av p 0)=OH (Z a0 (L r) k0)/\V w' (av p 1)=OH (Z a1 (L q) k1)) (first|exact⟨c0,c1⟩|exact⟨u0,l⟩|exact⟨v0,v1⟩|go_keep)
  (first
    |(have ab:=b;go_at_call 299;refine(uy _ a1 q k1 (t.o.below b) aa).mono ?_;rintro e u ⟨v,x,rfl,j,d⟩;have m:=d.size;have v0:=(d.cell (p:=av p 0) (aL lp c)).trans u0;have v1:=(d.cell (p:=av p 1) (aL lp c)).trans l)
    |(go_at_call 299;refine(uy _ a0 r k0 (s.o.below hd) aa).mono ?_;rintro e ad ⟨B,F,rfl,f,N⟩;have b:=hd.trans N;have c:=b.size;have u0:=(b.cell (p:=av p 0) lp).trans c0;have l:=(b.cell (p:=av p 1) lp).trans c1))
 go_wp2_with fail;go_ret;refine⟨I (OJ u),B,F,v,x,rfl,aS c m,⟨aO _ _,fz (gq (cK f (λk e=>d.block k (cu f k e).2)) _) (λ_ _=>a4 _),fz (gq j _) (λ_ _=>a4 _)⟩,λz e=>(cu f z.block (by rw[e];rfl)).1,λz e=>aS c (cu j z.block (by rw[e];rfl)).1,λk e S=>?_,(b.trans (d.mono c)).alloc (aS c m) _⟩
 have q1:=(cu f k e).2;have ag:=(cu j k S).1;omega
abbrev Ay (a:Wc)(ct ps:Nat)(yv ov:a7):Obj:=E #[aq a.pw,yv,ov,.map (OH ct),aq ps,Z OQ 0 0,Z OQ 0 0] 263 (0,0)
structure gy (a:Wc)(S:cv)(w:az)(pk ct ps:Nat)(b0:Option bB)(d0:Nat)(b1:Option bB)(d1:Nat)(yv ov:a7)(T:List Int)(w':az):Prop where
 bl:J (I (OJ w)) w w'
 cb:w'.heap[pk]?=OH (Ay a ct ps yv ov)
 sd:fE w' ps b0 d0 b1 d1 S.r S.q
 mp:Mp w' ct T (λ_=>-1)
 lH:I (OJ w)=ct
 ky:ct<ps
 pp:ps<pk
 l0:∀k,OH k=P (Value.slice b0 (L S.r) d0)->ct<k/\k<pk
 l1:∀k,OH k=P (Value.slice b1 (L S.q) d1)->ct<k/\k<pk
 ln:∀k,OH k=P (Value.slice b0 (L S.r) d0)->OH k≠P (Value.slice b1 (L S.q) d1)
section
variable {a:Wc}{S:cv}{w w' w'':az}{pk ct ps:Nat}{b0 b1:Option bB}{d0 d1:Nat}{yv ov:a7}{T:List Int}
theorem gy.fr {X:Nat->Prop}(h:gy a S w pk ct ps b0 d0 b1 d1 yv ov T w')(f:Fr X w' w'')(hX:∀b,X b->pk<b):gy a S w pk ct ps b0 d0 b1 d1 yv ov T w'':=by
 have c:=h.lH;have g:=h.ky;have i:=h.pp;have j:=ck h.cb;have hk:∀b,b<=pk->_=_:=λb hb=>f.block b aa (λd=>by have:=hX b d;omega)
 exact {
  bl:=⟨f.os.trans h.bl.os,f.tape.trans h.bl.tape,f.output.trans h.bl.output,(by grind),λb hb=>(hk b aa).trans (h.bl.block b hb)⟩
  cb:=(hk pk aa).trans h.cb
  sd:=⟨(by grind [fE.cX,sd]),cK h.sd.r0 (λb e=>hk b (by have:=(h.l0 b e).2;omega)),cK h.sd.q0 (λb e=>hk b (by have:=(h.l1 b e).2;omega))⟩
  mp:=h.mp.same (by grind)
  lH:=h.lH,ky:=h.ky,pp:=h.pp,l0:=h.l0,l1:=h.l1,ln:=h.ln}
theorem gy.below (h:gy a S w pk ct ps b0 d0 b1 d1 yv ov T w')(f:J (I (OJ w')) w' w''):gy a S w pk ct ps b0 d0 b1 d1 yv ov T w'':=h.fr (Fr.of (X:=λ_=>False) f) (λ_ d=>d.elim)
theorem gy.set (h:gy a S w pk ct ps b0 d0 b1 d1 yv ov T w')(i:Nat)(v:a7){c d:a7}(e:(A w' ⟨pk,i,OQ⟩ v).heap[pk]?=OH (Ay a ct ps c d)):gy a S w pk ct ps b0 d0 b1 d1 c d T (A w' ⟨pk,i,OQ⟩ v):=by
 have g:=h.lH;have j:=h.ky;have k:=h.pp;have f:=(Fr.refl _ w').set pk i v rfl;have hk:∀b,b<pk->_=_:=λb hb=>f.block b (by have:=ck h.cb;omega) aa;exact {
  bl:=⟨f.os.trans h.bl.os,f.tape.trans h.bl.tape,f.output.trans h.bl.output,(by grind),λb hb=>(hk b aa).trans (h.bl.block b hb)⟩
  cb:=e
  sd:=⟨(by grind [fE.cX,sd]),cK h.sd.r0 (λb e=>hk b (h.l0 b e).2),cK h.sd.q0 (λb e=>hk b (h.l1 b e).2)⟩
  mp:=h.mp.same (by grind)
  lH:=h.lH,ky:=h.ky,pp:=h.pp,l0:=h.l0,l1:=h.l1,ln:=h.ln}
theorem gy.set1 (h:gy a S w pk ct ps b0 d0 b1 d1 yv ov T w')(v:a7):gy a S w pk ct ps b0 d0 b1 d1 v ov T (A w' ⟨pk,1,OQ⟩ v):=h.set 1 v (by simp only [World.setCell,bE,if_true,h.cb,bH];simp)
theorem gy.set2 (h:gy a S w pk ct ps b0 d0 b1 d1 yv ov T w')(v:a7):gy a S w pk ct ps b0 d0 b1 d1 yv v T (A w' ⟨pk,2,OQ⟩ v):=h.set 2 v (by simp only [World.setCell,bE,if_true,h.cb,bH];simp)
theorem gy.add {x:Int}(h:gy a S w pk ct ps b0 d0 b1 d1 yv ov T w')(f:Fr (λb=>b=ct) w' w'')(hm:Mp w'' ct (T++[x]) (λ_=>-1)):gy a S w pk ct ps b0 d0 b1 d1 yv ov (T++[x]) w'':=by
 have c:=h.lH;have g:=h.ky;have i:=h.pp;have j:=ck h.cb;have hk:∀b,b<=pk->b≠ct->_=_:=λb hb hn=>f.block b aa (λd=>hn d)
 exact {
  bl:=⟨f.os.trans h.bl.os,f.tape.trans h.bl.tape,f.output.trans h.bl.output,(by grind),λb hb=>(hk b aa aa).trans (h.bl.block b hb)⟩
  cb:=(hk pk aa aa).trans h.cb
  sd:=⟨(by grind [fE.cX,sd]),cK h.sd.r0 (λb e=>hk b (by have:=(h.l0 b e).2;omega) (by have:=(h.l0 b e).1;omega)),cK h.sd.q0 (λb e=>hk b (by have:=(h.l1 b e).2;omega) (by have:=(h.l1 b e).1;omega))⟩
  mp:=hm
  lH:=h.lH,ky:=h.ky,pp:=h.pp,l0:=h.l0,l1:=h.l1,ln:=h.ln}
theorem gy.cells (h:gy a S w pk ct ps b0 d0 b1 d1 yv ov T w'):V w' (av pk 0)=OH (aq a.pw)/\V w' (av pk 1)=OH yv/\V w' (av pk 2)=OH ov/\V w' (av pk 3)=OH (.map (OH ct))/\(∀i,w'.frozen? (av pk i)=OU)/\pk<I (OJ w'):=by
 have b:=h.cb;refine⟨?_,?_,?_,?_,λi=>?_,ck b⟩
 all_goals first|simp[World.cell?,b]|simp[World.frozen?,b]
theorem gy.done {c:Nat->Prop}{f g:Option bB}{i gc:Nat}(hw:(eF a).J c S.s w)(m:c8 (S.s.j0 a) ir)(h:gy a S w pk ct ps b0 d0 b1 d1 (Z f (L (S.s.j0 a).Y) i) (Z g (L (S.s.j0 a).G) gc) (S.s.j0 a).T w')
 (yr:aC w' (pk+1) 3 1 (Z f (L (S.s.j0 a).Y) i) (L (S.s.j0 a).Y) ((S.s.j0 a).Y.map (Value.int OM)))(gr:aC w' (pk+1) 3 1 (Z g (L (S.s.j0 a).G) gc) (L (S.s.j0 a).G) ((S.s.j0 a).G.map (Value.int OM)))(hn:∀b,OH b=P (Value.slice f (L (S.s.j0 a).Y) i)->OH b≠P (Value.slice g (L (S.s.j0 a).G) gc)):
 ∃j,(dj (eu ⟨pk,ct,ps,Z f (L (S.s.j0 a).Y) i,Z g (L (S.s.j0 a).G) gc⟩ (S.s.j0 a)) ps (Z b0 (L S.r) d0)).J j (ir,S.q) w'/\(∀b,OH b=P (Value.slice b0 (L S.r) d0)->¬j b/\I (OJ w)<=b)/\(∀b,j b->c b\/I (OJ w)<=b):=by
 have N:=h.lH;have m1:=h.ky;have W:=h.pp;have lk:=ck h.cb;have ab:=(eF a).lt hw
 classical
 obtain⟨own,n⟩:∃own:Nat->Nat,own=λb=>if c b then 1 else if b=pk then 5 else if b=ct then 6 else if OH b=P (Value.slice f (L (S.s.j0 a).Y) i) then 9 else if OH b=P (Value.slice g (L (S.s.j0 a).G) gc) then 10 else 0:=(by grind)
 have ad:∀b,I (OJ w)<=b->¬c b:=λb hb d=>by grind
 have o1:∀b,c b↔own b=1:=λb=>by grind
 have ok:own pk=5:=by grind
 have o:own ct=6:=by grind
 have p:∀b,OH b=P (Value.slice f (L (S.s.j0 a).Y) i)->own b=9:=λb e=>by
  have q:=(cu yr b e).1
  grind
 have s:∀b,OH b=P (Value.slice g (L (S.s.j0 a).G) gc)->own b=10:=λb e=>by
  have q:=(cu gr b e).1
  grind
 have ol:∀b,own b≠0->b<I (OJ w')/\(c b\/b=pk\/b=ct\/pk<b):=λb hb=>by
  rw[n] at hb;dsimp only at hb;by_cases d:c b
  ·grind
  ·rw[aJ d] at hb;by_cases t:b=pk
   ·omega
   ·rw[aJ t] at hb;by_cases u:b=ct
    ·omega
    ·rw[aJ u] at hb;by_cases l:OH b=P (Value.slice f (L (S.s.j0 a).Y) i)
     ·have:=cu yr b l;omega
     ·rw[aJ l] at hb;by_cases v:OH b=P (Value.slice g (L (S.s.j0 a).G) gc)
      ·have:=cu gr b v;omega
      grind
 have x:(eu ⟨pk,ct,ps,Z f (L (S.s.j0 a).Y) i,Z g (L (S.s.j0 a).G) gc⟩ (S.s.j0 a)).J (λb=>own b≠0) ir w':=by
  refine⟨⟨Z OQ 0 0,Z OQ 0 0,c,own,?_,λb=>Iff.rfl⟩,m⟩
  exact {
   wd:=(eF a).keep hw aa (λb hb=>h.bl.block b (by grind))
   w1:=o1
   cb:=h.cb
   k1:=ok
   mp:=h.mp
   m1:=o
   tr:=a9 _ _ _ _
   iD:=λb e=>by simp[Value.ownBlock] at e
   er:=a9 _ _ _ _
   eo:=λb e=>by simp[Value.ownBlock] at e
   yr:=fz yr aa
   i1:=p
   gr:=fz gr aa
   go:=s
   lt:=λb hb=>(by grind)}
 have B:¬own ps≠0:=λd=>by grind
 have n1:∀k,ct<k->k<pk->¬own k≠0:=λk k1 k2 d=>by grind
 have ag:∀k,OH k=P (Value.slice b0 (L S.r) d0)->k≠ps:=λk e F=>by
  obtain⟨ai,hc⟩:=fI h.sd.r0 k e;rw[F,h.sd.cX] at hc
  grind
 refine⟨λb=>own b≠0\/b=ps\/OH b=P (Value.slice b1 (L S.q) d1),⟨λb=>own b≠0,b1,d1,x,h.sd.cX,h.sd.q0,λk hk=>aa,aI (aK rfl),B,λk e=>(by grind [l1]),λk hk=>?_⟩,λb e=>⟨λd=>?_,by grind [l0]⟩,λb d=>?_⟩
 ·grind [l1]
 ·grind [l0,ln]
 grind [l1]
end
theorem Il {a:Wc}{bd:Nat->Prop}{S:cv}{w:az}{a0 a1:Option bB}{k0 k1:Nat}(hw:(eF a).J bd S.s w)(hs:fE w a.sd a0 k0 a1 k1 S.r S.q)(h0:L S.r<=90000)(ce:L S.q<=90000):
 M OX 186 #[aq a.pw] w λe w'=>∃(c:fQ)(ar:Option bB)(b0:Nat)(o:Nat->Prop),e=OL (aq c.pk)/\(dj (eu c (S.s.j0 a)) c.bs (Z ar (L S.r) b0)).J o (ir,S.q) w'/\aC w' 0 247 2 (Z ar (L S.r) b0) (L S.r) (ev S.r)/\(∀b,OH b=P (Value.slice ar (L S.r) b0)->¬o b/\I (OJ w)<=b)/\(∀b,o b->bd b\/I (OJ w)<=b)/\Below (I (OJ w)) w w':=by
 have db:=@run_makeMap OX;obtain⟨c0,_,c2,_,aF,_⟩:=kR hw;have am:=(l8 hw).1;have n1:=am.hN';have cF:=am.hO;have cG:=am.hg;have n4:=am.hy;have b2:=cg (c8.start n1 cF n4 cG)
 have N:aA ((eF a).J bd S.s w/\At w a.p a.q a.N a.O S.s.y S.s.g S.s.ws):=⟨hw,am⟩
 have cf:=ck hs.cX;have be:Below (I (OJ w)) w (bu w (.map #[] 0)):=(aH _ w).alloc bY _;have cH:=Ax (bu w (.map #[] 0)) a.sd a0 a1 k0 k1 S.r S.q ⟨(be.block _ cf).trans hs.cX,cK hs.r0 (λb e=>be.block b (cu hs.r0 b e).2),cK hs.q0 (λb e=>be.block b (cu hs.q0 b e).2)⟩ h0 ce;have cI:aA (Mp (bu w (.map #[] 0)) (I (OJ w)) [] (λ_=>-1)):=⟨_,World.ownsMap_made w OX 3 (plainElem (H:=Unit) OX 3),λ_=>rfl,λa ha=>by simp at ha⟩
 clear hw hs am be cf h0 ce;go_enter func186,ntmps186;go_wp2_with fail;refine cH.mono ?_;rintro e w1 ⟨ps,l,m,b1,W,rfl,cJ,v,g0,g1,cL,b3⟩
 have cM:=b3.size;simp only [World.size_alloc] at cM cJ g0 g1;have bg:aA (gy a S w (I (OJ w1)) (I (OJ w)) ps l m b1 W (Z OQ 0 0) (Z OQ 0 0) [] (bu w1 (E #[bq (OH ⟨a.pw,0,OQ⟩),Z OQ 0 0,Z OQ 0 0,.map (OH (I (OJ w))),bq (OH ⟨ps,0,OQ⟩),Z OQ 0 0,Z OQ 0 0] 263))/\I (OJ (bu w1 (E #[bq (OH ⟨a.pw,0,OQ⟩),Z OQ 0 0,Z OQ 0 0,.map (OH (I (OJ w))),bq (OH ⟨ps,0,OQ⟩),Z OQ 0 0,Z OQ 0 0] 263)))=I (OJ w1)+1):=by
  have aR:=aw w1 (E #[bq (OH ⟨a.pw,0,OQ⟩),Z OQ 0 0,Z OQ 0 0,.map (OH (I (OJ w))),bq (OH ⟨ps,0,OQ⟩),Z OQ 0 0,Z OQ 0 0] 263)
  have cN:=((aH _ w).alloc bY (.map #[] 0)).trans (b3.mono ac)
  refine⟨{bl:=cN.trans (aR.mono aa),cb:=aO _ _,sd:=⟨(aR.block _ (ck v.cX)).trans v.cX,cK v.r0 (λb e=>aR.block b (cu v.r0 b e).2),cK v.q0 (λb e=>aR.block b (cu v.q0 b e).2)⟩,mp:=(cI.o.same (b3.block _ ac)).same (aR.block _ aa),lH:=rfl,ky:=aa,pp:=ck v.cX,l0:=λk e=>⟨?_,(cu v.r0 k e).2⟩,l1:=λk e=>⟨?_,(cu v.q0 k e).2⟩,ln:=cL},ac⟩
  ·cases hb:l with
   |none=>rw[hb] at e;simp[Value.ownBlock] at e
   |some z=>
    rw[hb] at e;have cO:k=z.block:=by simpa[Value.ownBlock] using e
    have:=g0 z hb;omega
  ·cases hb:b1 with
   |none=>rw[hb] at e;simp[Value.ownBlock] at e
   |some z=>
    rw[hb] at e;have cO:k=z.block:=by simpa[Value.ownBlock] using e
    have:=g1 z hb;omega
 have an:=(bg.o.1.bl.cell (p:=av a.pw 0) aF).trans c0;have i:=n6 _ (N.o.2.below bg.o.1.bl bY)
 go_wp2_with fail;refine i.mono ?_;rintro e ch ⟨rfl,ci⟩
 have bi:aA (gy a S w (I (OJ w1)) (I (OJ w)) ps l m b1 W (Z OQ 0 0) (Z OQ 0 0) [] ch/\I (OJ w1)+1<=I (OJ ch)):=⟨bg.o.1.below ci,by have:=ci.size;have:=bg.o.2;omega⟩
 have an:=(bi.o.1.bl.cell (p:=av a.pw 0) aF).trans c0;have i:=lW _ (N.o.2.below bi.o.1.bl bY)
 go_wp2_with fail;refine i.mono ?_;rintro e cj ⟨rfl,cl⟩
 have aV:aA (gy a S w (I (OJ w1)) (I (OJ w)) ps l m b1 W (Z OQ 0 0) (Z OQ 0 0) [] cj/\I (OJ w1)+1<=I (OJ cj)):=⟨bi.o.1.below cl,by have:=cl.size;have:=bi.o.2;omega⟩
 have an:=(aV.o.1.bl.cell (p:=av a.pw 0) aF).trans c0;have i:=Ih _ (N.o.2.below aV.o.1.bl bY)
 go_wp2_with fail;refine i.mono ?_;rintro e cP ⟨v1,v2,rfl,b4,b5,cQ,cR⟩
 obtain⟨y1,m1,rfl⟩:=e5 b4;obtain⟨d,g,rfl⟩:=e5 b5;have B:=jk (aV.o.1.below cR) (fz b4 (λb e=>aS aV.o.2 (cu b4 b e).1)) (fz b5 (λb e=>aS aV.o.2 (cu b5 b e).1)) cQ;have bn:aA (L (eP a.N S.s.y S.s.g S.s.ws)<=2000/\L (dM a.N S.s.y S.s.g S.s.ws)<=2000/\(∀x∈eP a.N S.s.y S.s.g S.s.ws,0<=x/\x<=2000)/\∀x∈dM a.N S.s.y S.s.g S.s.ws,0<=x/\x<=2000):=⟨jo _ _,jo _ _,λx s=>by have:=po x s;omega,λx s=>by have:=r4 x s;omega⟩
 have cm:I (OJ w1)<I (OJ w1)+1/\a.pw<I (OJ w1)+1/\a.p<I (OJ w1)+1/\a.q<I (OJ w1)+1:=by have q1:=N.o.2.fu;have bo:=N.o.2.fw;omega
 obtain⟨u0,b6,b7,b8,ao,b9⟩:=B.o.1.cells;have an:=(B.o.1.bl.cell (p:=av a.pw 0) aF).trans c0;have ca:=ao 1;have i:=Aw cP (N.o.2.below B.o.1.bl bY) u0 an (eP a.N S.s.y S.s.g S.s.ws) y1 m1 (I (OJ w1)+1) (0+S.s.y) (by have:=bn.o.1;omega) (λx s=>by have:=bn.o.2.2.1 x s;omega) B.o.2.1 cm;rw[Mh] at i;have cS:aA (eL (λx=>decide ((S.s.y:Int)<=x+pf (ld a.N S.s.y S.s.g S.s.ws x))) (eP a.N S.s.y S.s.g S.s.ws)=(S.s.j0 a).Y):=rfl;rw[cS.o] at i;go_wp2_with fail;refine i.mono ?_;rintro r F ⟨rfl,cT,cn⟩
 have cU:∀b,OH b=P (Value.slice y1 (L (eP a.N S.s.y S.s.g S.s.ws)) m1)->I (OJ w1)<b:=λb e=>(cu B.o.2.1 b e).1;have ad:aA (gy a S w (I (OJ w1)) (I (OJ w)) ps l m b1 W (Z OQ 0 0) (Z OQ 0 0) [] F/\aC F (I (OJ w1)+1) 3 1 (Z y1 (L (S.s.j0 a).Y) m1) (L (S.s.j0 a).Y) ((S.s.j0 a).Y.map (Value.int OM))/\aC F (I (OJ w1)+1) 3 1 (Z d (L (dM a.N S.s.y S.s.g S.s.ws)) g) (L (dM a.N S.s.y S.s.g S.s.ws)) ((dM a.N S.s.y S.s.g S.s.ws).map (Value.int OM))/\(∀n co b,OH b=P (Value.slice y1 n m1)->OH b≠P (Value.slice d co g))):=by
  refine⟨B.o.1.fr cn cU,cT,il B.o.2.2.1 cn (λb e ag=>B.o.2.2.2 b ag e),λn co b e=>?_⟩
  have q:=B.o.2.2.2 b (by
   cases y1 with
   |none=>simp[Value.ownBlock] at e
   |some z=>simpa[Value.ownBlock] using e)
  cases d with
  |none=>simp[Value.ownBlock]
  |some z=>simpa[Value.ownBlock] using q
 obtain⟨u0,b6,b7,b8,ao,b9⟩:=ad.o.1.cells;have ca:=ao 1;have ai:aA (gy a S w (I (OJ w1)) (I (OJ w)) ps l m b1 W (Z y1 (L (S.s.j0 a).Y) m1) (Z OQ 0 0) [] (A F ⟨I (OJ w1),1,OQ⟩ (Z y1 (L (S.s.j0 a).Y) m1))/\aC (A F ⟨I (OJ w1),1,OQ⟩ (Z y1 (L (S.s.j0 a).Y) m1)) (I (OJ w1)+1) 3 1 (Z y1 (L (S.s.j0 a).Y) m1) (L (S.s.j0 a).Y) ((S.s.j0 a).Y.map (Value.int OM))/\aC (A F ⟨I (OJ w1),1,OQ⟩ (Z y1 (L (S.s.j0 a).Y) m1)) (I (OJ w1)+1) 3 1 (Z d (L (dM a.N S.s.y S.s.g S.s.ws)) g) (L (dM a.N S.s.y S.s.g S.s.ws)) ((dM a.N S.s.y S.s.g S.s.ws).map (Value.int OM))):=by have f:Fr (λb=>b=I (OJ w1)) F (A F ⟨I (OJ w1),1,OQ⟩ (Z y1 (L (S.s.j0 a).Y) m1)):=(Fr.refl _ F).set _ 1 _ rfl;exact⟨ad.o.1.set1 _,il ad.o.2.1 f (λb e ag=>by have:=(cu ad.o.2.1 b e).1;omega),il ad.o.2.2.1 f (λb e ag=>by have:=(cu ad.o.2.2.1 b e).1;omega)⟩
 have cp:=cg ad.o.2.2.2;obtain⟨s0,s1,s2,bp,s4,s5⟩:=ai.o.1.cells;have an:=(ai.o.1.bl.cell (p:=av a.pw 0) aF).trans c0;have s6:=s4 2;have i:=Aw _ (N.o.2.below ai.o.1.bl bY) s0 an (dM a.N S.s.y S.s.g S.s.ws) d g (I (OJ w1)+1) ((a.N:Int)+S.s.g) (by have:=bn.o.2.1;omega) (λx s=>by have:=bn.o.2.2.2 x s;omega) ai.o.2.2 cm;have cV:aA (eL (λx=>decide ((a.N:Int)+S.s.g<=x+pf (ld a.N S.s.y S.s.g S.s.ws x))) (dM a.N S.s.y S.s.g S.s.ws)=(S.s.j0 a).G):=rfl;rw[cV.o] at i;go_wp2_with fail;refine i.mono ?_;rintro r ap ⟨rfl,cW,cq⟩
 have cX:∀b,OH b=P (Value.slice d (L (dM a.N S.s.y S.s.g S.s.ws)) g)->I (OJ w1)<b:=λb e=>(cu ai.o.2.2 b e).1;have al:=ge (ai.o.1.fr cq cX) (il ai.o.2.1 cq (λb e ag=>cp.o _ _ b e ag)) cW;obtain⟨u0,b6,b7,b8,ao,b9⟩:=al.o.1.cells;have ca:=ao 2;have t:aA (gy a S w (I (OJ w1)) (I (OJ w)) ps l m b1 W (Z y1 (L (S.s.j0 a).Y) m1) (Z d (L (S.s.j0 a).G) g) [] (A ap ⟨I (OJ w1),2,OQ⟩ (Z d (L (S.s.j0 a).G) g))/\aC (A ap ⟨I (OJ w1),2,OQ⟩ (Z d (L (S.s.j0 a).G) g)) (I (OJ w1)+1) 3 1 (Z y1 (L (S.s.j0 a).Y) m1) (L (S.s.j0 a).Y) ((S.s.j0 a).Y.map (Value.int OM))/\aC (A ap ⟨I (OJ w1),2,OQ⟩ (Z d (L (S.s.j0 a).G) g)) (I (OJ w1)+1) 3 1 (Z d (L (S.s.j0 a).G) g) (L (S.s.j0 a).G) ((S.s.j0 a).G.map (Value.int OM))):=by have f:Fr (λb=>b=I (OJ w1)) ap (A ap ⟨I (OJ w1),2,OQ⟩ (Z d (L (S.s.j0 a).G) g)):=(Fr.refl _ ap).set _ 2 _ rfl;exact⟨al.o.1.set2 _,il al.o.2.1 f (λb e ag=>by have:=(cu al.o.2.1 b e).1;omega),il al.o.2.2 f (λb e ag=>by have:=(cu al.o.2.2 b e).1;omega)⟩
 clear al u0 b6 b8 ao;obtain⟨s0,s1,s2,bp,s4,s5⟩:=t.o.1.cells;have br:aA ((S.s.j0 a).T=(S.s.j0 a).G++(S.s.j0 a).Y/\L (S.s.j0 a).T=L (S.s.j0 a).G+L (S.s.j0 a).Y/\_/\_):=⟨rfl,by unfold b_.T;rw[aX],b2.o.tl,b2.o.ps⟩
 have cr:=br.o.2.1;have dc:=br.o.2.2.1;have i:=Ik _ (I (OJ w1)) (S.s.j0 a).G (S.s.j0 a).Y d y1 g m1 s1 s2 (fz t.o.2.1 (λ_ _=>a4 _)) (fz t.o.2.2 (λ_ _=>a4 _)) aa;rw[<-cr,<-br.o.1] at i;clear s0 s1 s2 bp s4 cr;go_wp2_with fail;refine i.mono ?_;clear i s5 b7 b9 ca;rintro e a2 ⟨cY,cZ,rfl,cc,bs⟩
 have ab:aA (_/\_/\aC a2 (I (OJ w1)+1) 3 1 (Z d (L (S.s.j0 a).G) g) (L (S.s.j0 a).G) ((S.s.j0 a).G.map (Value.int OM))/\aC a2 (I (OJ w1)+1) 3 1 (Z cY (L (S.s.j0 a).T) cZ) (L (S.s.j0 a).T) ((S.s.j0 a).T.map (Value.int OM))):=⟨t.o.1.below bs,cK t.o.2.1 (λb e=>bs.block b (cu t.o.2.1 b e).2),cK t.o.2.2 (λb e=>bs.block b (cu t.o.2.2 b e).2),fz cc (λb e=>by have:=(cu cc b e).1;have q:=t.o.1.cells.2.2.2.2.2;omega)⟩
 clear cc bs t;go_wp2_with fail
 go_loopw [66] (λiv wr=>∃j:Nat,j<=L (S.s.j0 a).T/\iv=ak j/\aA (gy a S w (I (OJ w1)) (I (OJ w)) ps l m b1 W (Z y1 (L (S.s.j0 a).Y) m1) (Z d (L (S.s.j0 a).G) g) ((S.s.j0 a).T.take j) wr/\Fr (λb=>b=I (OJ w)) a2 wr)) (λiv _=>L (S.s.j0 a).T-K (intOf iv))
 case atStart=>exact⟨0,a4 _,rfl,ab.o.1,Fr.refl _ _⟩
 ·
   obtain⟨j,dd,rfl,u⟩:=hrel;by_cases bt:j<L (S.s.j0 a).T
   ·obtain⟨bb,c1,cs,c3,hc⟩:=im ab.o.2.2.2 aa;have c4:I (OJ w1)<bb/\bb<I (OJ a2):=by
     have:=cu ab.o.2.2.2 bb (by rw[cs];rfl)
     omega
    have ct:=(aQ (a:=⟨bb,c1+j,OQ⟩) (u.o.2.block bb c4.2 (λe=>by have:=u.o.1.ky;have:=u.o.1.pp;omega))).trans (hc j bt)
    have hm:U (S.s.j0 a).T j 0∈(S.s.j0 a).T:=by rw[aN,aP bt];exact a_ bt
    have s:=br.o.2.2.2 _ hm;have cw:=cg (h7 _ j bt 0)
    generalize U (S.s.j0 a).T j 0=x at ct s cw;obtain⟨D,o1,cx,cy⟩:=u.o.1.mp;obtain⟨s0,s1,s2,bp,s4,s5⟩:=u.o.1.cells;have cz:=j6 (a:=x) s.1 aa;have hv:=oi (-1) ae;have ht:L ((S.s.j0 a).T.take j)=j:=by rw[List.length_take];omega
    have bx:=ge o1 cx cy;have j0:(0:Int)<=(j:Int):=aa;have de:(j:Int)<(L (S.s.j0 a).T:Int):=aa;clear cx cy hc c3 hm s0 s1 s2 s4;subst cs;go_wp2_with (first
     |(at_mapUpdate;refine wpList_mapUpdate_own _ rfl _ _ _ 158 rfl 3 3 jr underlying158 (plainElem (H:=Unit) OX 3) (I (OJ w)) (L ((S.s.j0 a).T.take j)) D rfl o1 (by unfold maxLen;omega) _ _ _ rfl rfl cz _ [] hv ?_;intro cd cA cB)
     |go_in)
    have c5:aA (gy a S w (I (OJ w1)) (I (OJ w)) ps l m b1 W (Z y1 (L (S.s.j0 a).Y) m1) (Z d (L (S.s.j0 a).G) g) ((S.s.j0 a).T.take (j+1)) cd/\Fr (λb=>b=I (OJ w)) a2 cd):=by
     have cC:Fr (λb=>b=I (OJ w)) wr cd:=(Fr.refl _ wr).grown cB (λb e=>aK (by cases e;rfl))
     have c6:=Mp.add (f:=λ_=>-1) bx.o.1 bx.o.2.1 bx.o.2.2 rfl rfl cA;have cD:=u.o.1.add cC c6;rw[<-cw.o] at cD;exact⟨cD,u.o.2.trans cC (λb e=>aK e)⟩
    clear u bx cA cB o1 ct bp s5 cz hv;go_roundw;exact⟨j+1,aa,aj,c5⟩
    simp[intOf];omega
   ·obtain rfl:j=L (S.s.j0 a).T:=aa;have c7:aA (∃(o:Nat->Prop),(dj (eu ⟨I (OJ w1),I (OJ w),ps,Z y1 (L (S.s.j0 a).Y) m1,Z d (L (S.s.j0 a).G) g⟩ (S.s.j0 a)) ps (Z l (L S.r) m)).J o (ir,S.q) wr/\aC wr 0 247 2 (Z l (L S.r) m) (L S.r) (ev S.r)/\(∀b,OH b=P (Value.slice l (L S.r) m)->¬o b/\I (OJ w)<=b)/\(∀b,o b->bd b\/I (OJ w)<=b)/\Below (I (OJ w)) w wr):=by
     obtain⟨aB,cE⟩:=u.o;rw[bc] at aB;have ne:∀b,I (OJ w1)+1<=b->¬b=I (OJ w):=λb hb e=>by have:=aB.ky;have:=aB.pp;omega
     obtain⟨o,q1,bo,q3⟩:=aB.done N.o.1 b2.o (il ab.o.2.1 cE (λb e=>ne b (cu ab.o.2.1 b e).1)) (il ab.o.2.2.1 cE (λb e=>ne b (cu ab.o.2.2.1 b e).1)) (λb e=>cp.o _ _ b e)
     exact⟨o,q1,aB.sd.r0,bo,q3,aB.bl⟩
    clear u ab;go_wp2_with fail;go_ret;obtain⟨o,q1,bo,q3,c9,da⟩:=c7.o;exact⟨⟨I (OJ w1),I (OJ w),ps,Z y1 (L (S.s.j0 a).Y) m1,Z d (L (S.s.j0 a).G) g⟩,l,m,o,rfl,q1,bo,q3,c9,da⟩
def iF (g:Int->Nat)(l:List Int):Nat:=(l.map g).sum
theorem Az (g:Int->Nat)(a:Int)(l:List Int):iF g (a::l)=g a+iF g l:=af
theorem Im (g:Int->Nat)(l m:List Int):iF g (l++m)=iF g l+iF g m:=by simp[iF]
open Go.RowKit W
section
variable {N O y g:Nat}{ws:List Int}{Y G:List Int}
theorem ou {x i:Int}(h:eU N y g ws x i=0):tB N y g ws x=C/\pk (ld N y g ws (cq x))≠5/\0<=i/\i<jp N y g (cq x) (pf (ld N y g ws (cq x))):=by
 unfold eU at h
 grind
theorem In {x:Int}(h:ey N y g ws Y G)(hN:N<=256)(hy:y<=N)(hO:O<=1024)(hg:g<=O)(ht:tB N y g ws x=C):di x=C/\(cq x∈Y\/cq x∈G):=by grind [ey.lists,tB]
theorem ey.g8 (h:ey N y g ws Y G)(hl:L ws=N+O)(hN:N<=256)(hy:y<=N)(hO:O<=1024)(hg:g<=O)(x i z:Int):ey N y g (Proofs.YtjckpdepffejnaaGreatDoor.g8 N y g ws x i z) Y G:=by
 unfold Proofs.YtjckpdepffejnaaGreatDoor.g8;by_cases h0:eU N y g ws x i=0
 ·rw[aM h0];obtain⟨ht,_,c,b⟩:=ou h0;obtain⟨_,hv⟩:=In h hN hy hO hg ht;rw[h.mM hy hv] at b;split
  all_goals simp_all [set]
 grind
theorem Io (x i z c:Int)(M:List Int):L (stM N y g ws x i z c M)<=L M+1:=by grind [EY,stM,mO]
end
open Go.RowKit W qs
structure i6 (N y g:Nat)(ws Y G rs:List Int):Prop where
 full:ey N y g ws Y G
 rt:∀x∈rs,di x=C->cq x∈Y\/cq x∈G
 fd:∀v,(v∈Y\/v∈G)->∀i,0<=i->i<pf (ld N y g ws v)->di (ld N y g ws (v+1+i))=C->cq (ld N y g ws (v+1+i))∈Y\/cq (ld N y g ws (v+1+i))∈G
section
variable {N O y g:Nat}{ws Y G rs:List Int}
theorem ow (n:Nat)(h:n<1000000):di (ew 3 n)=C/\cq (ew 3 n)=n:=by grind [oY,oZ]
theorem i6.root (h:i6 N y g ws Y G rs)(k:Nat)(x:Int)(b:di x=C->cq x∈Y\/cq x∈G):i6 N y g ws Y G (rs.set k x):=
 ⟨h.full,λz hz=>by grind [rt],h.fd⟩
theorem i6.at (h:i6 N y g ws Y G rs)(k:Nat)(hk:k<L rs)(ha:di (U rs k 0)=C):cq (U rs k 0)∈Y\/cq (U rs k 0)∈G:=
 h.rt _ (by simp_all) ha
theorem ox (h:ey N y g ws Y G){v i:Int}(hv:v∈Y)(b:0<=i)(c:i<pf (ld N y g ws v)):0<=v+1+i/\v+1+i<y:=by have d:=h.ty.mem v hv;omega
theorem oy (h:ey N y g ws Y G){v i:Int}(hv:v∈G)(b:0<=i)(c:i<pf (ld N y g ws v)):(N:Int)<=v+1+i/\v+1+i<(N:Int)+g:=by have d:=h.eB.mem v hv;omega
theorem lI (h:ey N y g ws Y G){v i:Int}(hv:v∈Y\/v∈G)(b:0<=i)(c:i<pf (ld N y g ws v)):dB N y g (v+1+i)=C:=by grind [ox,jE,oy,iX]
theorem i6.make (h:i6 N y g ws Y G rs)(hl:L ws=N+O){k f:Int}(hm:jn N y k f=C):i6 N (jM N y k f) g (gG N y k f ws) (Y++[(y:Int)]) G rs:=by
 have e:=h.full.make hl hm;obtain⟨j,q⟩:=qq hm;have s:=jK k f j;have m:jM N y k f=y+1+K f:=by grind [jM]
 have n:gG N y k f ws=gs ws y (hw k f) (K f):=by grind [gG]
 have o:y+K f<L ws:=aa;rw[m,n] at e⊢;have mem:∀{z:Int},(z∈Y\/z∈G)->(z∈Y++[(y:Int)]\/z∈G):=λhz=>(by grind)
 refine⟨e,λx p ha=>mem (h.rt x p ha),λv hv i l b ha=>?_⟩
 rcases hv with hv|hv
 ·rcases bw.1 hv with hv|hv
  ·have hi:=h.full.jq v hv;have c:ld N (y+1+K f) g (gs ws y (hw k f) (K f)) v=ld N y g ws v:=by grind [gg,jE,jZ]
   rw[c] at b;have hb:=ox h.full hv l b;have d:ld N (y+1+K f) g (gs ws y (hw k f) (K f)) (v+1+i)=ld N y g ws (v+1+i):=by grind [gg,jE,jZ]
   grind [fd]
  ·simp at hv;subst hv;rw[(yF _ _ o),(rJ k f j).2.1] at b;have d:ld N (y+1+K f) g (gs ws y (hw k f) (K f)) ((y:Int)+1+i)=2:=by grind [gg,jE,jZ]
   rw[d] at ha;exact absurd ha ae
 ·have hi:=h.full.io v hv;have c:ld N (y+1+K f) g (gs ws y (hw k f) (K f)) v=ld N y g ws v:=by grind [gg,iX,jZ]
  rw[c] at b;have hb:=oy h.full hv l b;have d:ld N (y+1+K f) g (gs ws y (hw k f) (K f)) (v+1+i)=ld N y g ws (v+1+i):=by grind [gg,iX,jZ]
  grind [fd]
theorem i6.set (h:i6 N y g ws Y G rs)(hl:L ws=N+O)(hy:y<=N)(hg:g<=O){v i z:Int}(hv:v∈Y\/v∈G)(b:0<=i)(c:i<pf (ld N y g ws v))(hz:di z=C->cq z∈Y\/cq z∈G):i6 N y g (ws.set (K (v+1+i)) z) Y G rs:=by
 obtain⟨d,hk⟩:=h.full.set hl hy hg hv b c;have hb:=ks (lI h.full hv b c) hy hg;refine⟨d,h.rt,λu e j j0 f ha=>?_⟩
 grind [fd,ld]
theorem i6.tb (h:i6 N y g ws Y G rs)(hN:N<=256)(hy:y<=N)(hO:O<=1024)(hg:g<=O)(k:Nat)(hk:k<L rs):tB N y g ws (U rs k 0)=di (U rs k 0):=by
 obtain⟨b,c⟩:=h.full.lists hN hy hO hg;unfold tB;rw[b,c];cases ha:di _
 ·rfl
 ·have:=h.at k hk ha
  grind
end
open Go.RowKit W Kp ch qs
structure C0 where
 g:Nat
 ws:List Int
 G:List Int
def cf.l0 (k:cf)(z:C0)(a:Int):Int:=Proofs.YtjckpdepffejnaaGreatDoor.ld k.N k.y z.g z.ws a
def cf.or (k:cf)(z:C0)(s:cn)(a b:Int):Prop:=(a=b/\b∈z.G)\/(a∈k.T/\s.f a=b/\b≠-1)
def cf.ml (k:cf)(s:cn)(b x:Int):Prop:=x=b\/(k.cP b=C/\s.f (cq b)≠-1/\x=ew 3 (s.f (cq b)))
structure dK (k:cf)(z:C0)(s:cn)(H:List Int):Prop where
 ci:CI k s
 sy:z.g<=s.g
 full:ey k.N k.y s.g s.ws k.T (z.G++H)
 mc:∀b∈z.G,b<(k.N:Int)+z.g
 oz:∀b,0<=b->b<(k.y:Int)->k.ld s b=k.l0 z b
 fh:∀a∈k.T,s.f a≠-1->s.f a∈H
 inj:∀a∈k.T,∀b∈k.T,s.f a≠-1->s.f a=s.f b->a=b
 gR:∀b∈H,∃a∈k.T,s.f a=b
 hlo:∀b∈H,(k.N:Int)+z.g<=b
 hd:∀a b,k.or z s a b->k.ld s b=k.l0 z a
 fd:∀a b,k.or z s a b->∀i,0<=i->i<pf (k.l0 z a)->k.ml s (k.l0 z (a+1+i)) (k.ld s (b+1+i))
structure c_ (k:cf)(s t:cn):Prop where
 f:∀a,s.f a≠-1->t.f a=s.f a
 g:s.g<=t.g
 cl:∀b,(k.N:Int)<=b->b<(k.N:Int)+s.g->k.cP (k.ld s b)=OU->k.cP (k.ld t b)=OU
section
variable {k:cf}{z:C0}{s t u:cn}{H:List Int}
theorem c_.refl (k:cf)(s:cn):c_ k s s:=⟨λ_ _=>rfl,aG _,λ_ _ _ h=>h⟩
theorem c_.trans (h:c_ k s t)(j:c_ k t u):c_ k s u:=
 ⟨λa ha=>(j.f a (by grind [f])).trans (h.f a ha),aS h.g j.g,λb c d e=>j.cl b c (by have:=h.g;omega) (by grind [cl])⟩
theorem c_.or (h:c_ k s t){a b:Int}(ho:k.or z s a b):k.or z t a b:=by
 rcases ho with ho|⟨c,d,e⟩
 ·exact aK ho
 ·exact aI ⟨c,(h.f a aa).trans d,e⟩
theorem c_.ml (h:c_ k s t){c x:Int}(ho:k.ml s c x):k.ml t c x:=by
 rcases ho with ho|⟨d,b,e⟩
 ·exact aK ho
 ·exact aI ⟨d,(h.f _ b▸b),(h.f _ b▸e)⟩
theorem dK.mem (h:dK k z s H){a b:Int}(ho:k.or z s a b):b∈z.G++H:=by
 rcases ho with⟨_,hb⟩|⟨c,d,e⟩
 ·grind
 grind [fh]
theorem dK.from (h:dK k z s H){b:Int}(hb:b∈z.G++H):∃a,k.or z s a b:=by
 rcases bw.1 hb with hb|hb
 ·exact⟨b,aK ⟨rfl,hb⟩⟩
 ·obtain⟨a,ha,e⟩:=h.gR b hb;have:=h.hlo b hb;exact⟨a,aI ⟨ha,e,aa⟩⟩
theorem dK.bd (h:dK k z s H){b:Int}(hb:b∈z.G++H):(k.N:Int)<=b/\b+(1+pf (k.ld s b))<=(k.N:Int)+s.g/\pc (k.ld s b)=0:=h.full.eB.mem b hb
theorem dK.jR (h:dK k z s H){b:Int}(hb:b∈H):(k.N:Int)<=b/\b<(k.N:Int)+s.g:=by
 have c:=h.bd (List.mem_append_right _ hb)
 have:=du (k.ld s b)
 omega
theorem CI.AA (h:CI k s){a:Int}(ha:(k.N:Int)<=a):a∉k.T:=λc=>by
 have b:=h.uP c
 grind [hy]
theorem oA (h:CI k s){n:Int}(h0:(k.N:Int)<=n)(b:n<1000000):k.cP (ew 3 n)=OU:=by grind [oY,oZ,CI.AA,cf.cP]
theorem dK.cp (h:dK k z s H){a:Int}(ha:a∈k.T)(o:s.f a=-1):dK k z (k.cp s a) (H++[((k.N+s.g:Nat):Int)])/\c_ k s (k.cp s a)/\(k.cp s a).f a=((k.N+s.g:Nat):Int):=by
 have ci:=h.ci;have hc:=ci.i_ ha o;obtain⟨p,B,t3⟩:=ci.th a ha;have hp:=du (k.ld s a)
 have hz:=h.sy;have hl:=cf.uR ci.len ci.hy ci.hg p t3 hc;obtain⟨u,_⟩:=ci.cp ha o;obtain⟨v,F⟩:=h.full.copy ci.len ci.hy ci.hg hc (by grind)
 have N:(k.cp s a).f=ia s.f a ((k.N+s.g:Nat):Int):=by rw[cf.pj hc]
 have S:(k.cp s a).g=s.g+(1+K (pf (k.ld s a))):=by rw[cf.pj hc]
 have d:∀b,b≠a->(k.cp s a).f b=s.f b:=λb hb=>by simp_all [ia]
 have n:(k.cp s a).f a=((k.N+s.g:Nat):Int):=by simp_all [ia]
 have lo:∀b,b<(k.N:Int)+s.g->k.ld (k.cp s a) b=k.ld s b:=λb hb=>by grind
 have kz:c_ k s (k.cp s a):=⟨λb hb=>(by grind),aa,λb f g W=>(by grind)⟩
 have q:∀c b,k.or z (k.cp s a) c b->k.or z s c b\/(c=a/\b=((k.N+s.g:Nat):Int)):=λc b ho=>by
  rcases ho with ho|⟨o1,t,w⟩
  ·exact aK (aK ho)
  ·by_cases e:c=a
   ·grind
   ·rw[d c e] at t;exact aK (aI ⟨o1,t,w⟩)
 refine⟨⟨u,aa,by rw[<-bf];exact v,h.mc,λb h0 f=>?_,λc l f=>?_,λc l b hb f g=>?_,λb hb=>?_,λb hb=>?_,λc b ho=>?_,λc b ho i ab x=>?_⟩,kz,n⟩
 ·grind [CI.hy,oz]
 ·grind [fh]
 ·by_cases j:c=a
  ·by_cases m:b=a
   ·omega
   ·rw[j,n,d b m] at g;have:=h.jR (h.fh b hb aa)
    omega
  ·by_cases m:b=a
   ·rw[m,n,d c j] at g;rw[d c j] at f;have:=h.jR (h.fh c l f)
    omega
   ·rw[d c j,d b m] at g;rw[d c j] at f;exact h.inj c l b hb f g
 ·rcases bw.1 hb with hb|hb
  ·obtain⟨c,l,e⟩:=h.gR b hb;have hn:s.f c≠-1:=by have:=h.jR hb;omega
   grind
  grind
 ·rcases bw.1 hb with hb|hb
  ·exact h.hlo b hb
  grind
 ·rcases q c b ho with ho|⟨rfl,rfl⟩
  ·have hm:=h.bd (h.mem ho)
   rw[lo b (by have:=du (k.ld s b);omega)]
   grind [hd]
  grind [oz]
 ·rcases q c b ho with ho|⟨rfl,rfl⟩
  ·have hm:=h.bd (h.mem ho)
   grind [hd,c_.ml,fd]
  ·rw[<-(h.oz c p aa)] at x;refine aK ?_
   grind [oz]
theorem dK.st (h:dK k z s H){a b i x:Int}(ho:k.or z s a b)(n:0<=i)(v:i<pf (k.l0 z a))(q:k.ml s (k.l0 z (a+1+i)) x):dK k z (k.st s (b+1+i) x) H/\k.ld (k.st s (b+1+i) x) (b+1+i)=x/\(∀c,c≠b+1+i->k.ld (k.st s (b+1+i) x) c=k.ld s c):=by
 have ci:=h.ci;have hm:=h.mem ho;have hb:=h.bd hm;have e:=h.hd a b ho;rw[e] at hb;have hi:dB k.N k.y s.g (b+1+i)=C:=iX aa aa;have hl:=cf.pi ci.len ci.hy ci.hg (b+1+i) x;have same:k.ld (k.st s (b+1+i) x) (b+1+i)=x:=by simp_all
 have iO:∀c,c≠b+1+i->k.ld (k.st s (b+1+i) x) c=k.ld s c:=λc hc=>by simp_all
 have ew:k.st s (b+1+i) x={s with ws:=s.ws.set (K (b+1+i)) x}:=by grind [cf.st]
 have ap:∀c d,k.or z s c d->∀j,0<=j->j<pf (k.l0 z c)->d+1+j=b+1+i->c=a/\d=b/\j=i:=λc d f j j0 m g=>by
  have hd:=h.mem f;have o:d=b:=by
   rcases Int.lt_trichotomy d b with l|l|l
   ·have:=h.full.eB.apart d hd b hm l;have this:d+(1+pf (k.ld s d))<=b:=this
    grind [hd]
   ·omega
   ·have:=h.full.eB.apart b hm d hd l;have this:b+(1+pf (k.ld s b))<=d:=this
    grind
  refine⟨?_,o,aa⟩
  rw[o] at f;rcases f with⟨c1,c2⟩|⟨c1,c2,c3⟩<;>rcases ho with⟨o1,p⟩|⟨o1,p,w⟩
  ·omega
  ·have t:=h.hlo b (by grind [fh])
   have u:=h.mc b c2;omega
  ·have t:=h.hlo b (by grind [fh])
   have u:=h.mc b p;omega
  ·exact h.inj c c1 a o1 aa aa
 have fl:ey k.N k.y (k.st s (b+1+i) x).g (k.st s (b+1+i) x).ws k.T (z.G++H):=(ew▸(h.full.set ci.len ci.hy ci.hg (by grind) n (by show i<pf (k.ld s b);grind)).1)
 refine⟨⟨ci.st aa x,h.sy,fl,h.mc,λc h0 B=>?_,h.fh,h.inj,h.gR,h.hlo,λc d f=>?_,λc d f j j0 m=>?_⟩,same,iO⟩
 ·grind [CI.hy,oz]
 ·have f:=f;rw[iO d (λg=>?_)]
  ·exact h.hd c d f
  ·exact h.full.eB.field hm n (by show i<pf (k.ld s b);grind) (g▸h.mem f)
 ·have f:=f;by_cases g:d+1+j=b+1+i
  ·obtain⟨rfl,rfl,rfl⟩:=ap c d f j j0 m g;rw[same];exact q
  ·rw[iO _ g];exact h.fd c d f j j0 m
theorem c_.st (ci:CI k s){a x:Int}(c:k.cP x=OU):c_ k s (k.st s a x):=
 ⟨λ_ _=>rfl,aG _,λb _ _ d=>by grind [cf.pi,CI.len,CI.hy,CI.hg]⟩
theorem dK.br (h:dK k z s H)(x:Int):∃d,dK k z (k.br s x).2 d/\c_ k s (k.br s x).2/\k.cP (k.br s x).1=OU/\(∃i,d=H++i)/\(∀b,k.ml s b x->k.ml (k.br s x).2 b (k.br s x).1)/\(k.cP x=C->(k.br s x).2.f (cq x)≠-1)/\(k.br s x).1=k.nw (k.br s x).2 x:=by
 have ci:=h.ci;have n1:=ci.hN';have n:=ci.hO;have key:∀(t:cn)(f:List Int),dK k z t f->c_ k s t->(k.cP x=C->t.f (cq x)≠-1)->k.cP (k.nw t x)=OU/\∀b,k.ml s b x->k.ml t b (k.nw t x):=λt f ht kz hy=>by
  by_cases c:k.cP x=C
  ·have hn:=hy c;have j:cq x∈k.T:=by grind [cf.cP]
   have e:k.nw t x=ew 3 (t.f (cq x)):=by grind [cf.nw]
   have hb:=ht.jR (ht.fh _ j hn)
   have hg:=ht.ci.hg;rw[e];refine⟨oA ht.ci hb.1 aa,λb hm=>?_⟩
   rcases hm with rfl|⟨m1,g,l⟩
   ·exact aI ⟨c,hn,rfl⟩
   ·exfalso;have m:cq b∈k.T:=by grind [cf.cP]
    have o:=h.jR (h.fh _ m g)
    have p:=ci.hg
    grind [oA]
  grind [c_.ml,cf.nw]
 unfold cf.br;by_cases c:k.ls s x=C
 ·obtain⟨c1,c2,c3⟩:=cf.og c;obtain⟨m1,g,l⟩:=h.cp c2 c3
  grind
 ·have hn:k.cP x=C->s.f (cq x)≠-1:=λhy e=>(by grind [cf.ls])
  obtain⟨k1,k2⟩:=key s H h (c_.refl _ _) hn;rw[aJ c];exact⟨H,h,c_.refl _ _,k1,⟨[],ac⟩,k2,hn,rfl⟩
theorem dK.kf (h:dK k z s H){a b i:Int}(ho:k.or z s a b)(d:0<=i)(e:i<pf (k.l0 z a)):∃c,dK k z (k.kf s (b+1+i)) c/\c_ k s (k.kf s (b+1+i))/\k.cP (k.ld (k.kf s (b+1+i)) (b+1+i))=OU/\∃f,c=H++f:=by
 obtain⟨c,m1,g,l,m,j,_,_⟩:=h.br _;obtain⟨s1,s2,n⟩:=m1.st (g.or ho) d e (j _ (h.fd a b ho i d e))
 grind [c_.trans,c_.st,ci,cf.kf]
theorem dK.g9 (h:dK k z s H){a b:Int}(ho:k.or z s a b):∀n:Nat,(n:Int)<=pf (k.l0 z a)->∃f,dK k z (k.g9 s b n) f/\c_ k s (k.g9 s b n)/\(∀i:Nat,i<n->k.cP (k.ld (k.g9 s b n) (b+1+i))=OU)/\∃d,f=H++d
 |0,_=>⟨H,h,c_.refl _ _,λi hi=>aa,⟨[],ac⟩⟩
 |n+1,hn=>by
  obtain⟨m,m1,c,o,⟨d,p⟩⟩:=dK.g9 h ho n aa;obtain⟨g,j,j2,cI,⟨l,cM⟩⟩:=m1.kf (c.or ho) (i:=n) aa aa;refine⟨g,j,c.trans j2,λi hi=>?_,⟨d++l,by simp_all⟩⟩
  by_cases e:i=n
  ·rw[e];exact cI
  ·have hb:=m1.bd (m1.mem (c.or ho))
   rw[(m1.hd _ _ (c.or ho))] at hb;exact j2.cl _ aa aa (by grind)
theorem iG {x:Int}(h:pc x=0)(b:pk x=1\/pk x=3\/pk x=4):pf x=2:=by
 unfold pc at h;unfold pk at b;unfold pf;split at h
 ·rename_i e;rw[aM e] at b⊢;generalize x%16=a at*;generalize x/16=f at*;unfold hc at e;rcases b with b|b|b
  ·rw[aM b] at e;split at e
   ·assumption
   ·omega
  ·rw[aJ aa,aM b] at e;split at e
   ·assumption
   ·omega
  ·rw[aJ aa,aJ aa,aM b] at e;split at e
   ·assumption
   ·omega
 ·omega
theorem AB {x:Int}(h:pc x=0):(pk x=1\/pk x=2)\/pk x=3\/pk x=4\/(pk x=5/\pf x=0):=by grind [pc,pk,pf,hc]
theorem mW (k:cf)(s:cn)(a:Int):(k.kf s a).wk=s.wk/\(k.kf s a).ep=s.ep/\(k.kf s a).nx=s.nx/\(k.kf s a).rs=s.rs:=by unfold cf.kf cf.st cf.br;split<;>exact⟨rfl,rfl,rfl,rfl⟩
theorem qJ (k:cf)(s:cn)(a:Int):∀n,(k.g9 s a n).wk=s.wk/\(k.g9 s a n).ep=s.ep/\(k.g9 s a n).nx=s.nx/\(k.g9 s a n).rs=s.rs
 |0=>⟨rfl,rfl,rfl,rfl⟩
 |n+1=>by obtain⟨b,c,d,e⟩:=qJ k s a n;obtain⟨f,j2,cI,cM⟩:=mW k _ _;exact⟨f.trans b,j2.trans c,cI.trans d,cM.trans e⟩
theorem sA (k:cf)(s:cn)(a:Int):(k.lk s a).nx=s.nx/\(k.lk s a).rs=s.rs:=by grind [mW,qJ,cf.lk]
theorem dK.turn (h:dK k z s H)(wk ep rs:List Int)(nx:Int)(hw:∀a∈wk,(k.N:Int)<=a/\a<=2000)(he:∀a∈ep,(k.N:Int)<=a/\a<=2000)(h0:(k.N:Int)<=nx)(b:nx<=(k.N:Int)+k.O+13):dK k z {s with wk:=wk,ep:=ep,rs:=rs,nx:=nx} H:=
 {
  ci:={hN:=h.ci.hN,hN':=h.ci.hN',hO:=h.ci.hO,hy:=h.ci.hy,hg:=h.ci.hg,len:=h.ci.len,th:=h.ci.th,nd:=h.ci.nd,room:=h.ci.room,iY:=h0,kt:=b,ja:=hw,iZ:=he,tl:=h.ci.tl}
  sy:=h.sy,full:=h.full,mc:=h.mc,oz:=h.oz,fh:=h.fh,inj:=h.inj,gR:=h.gR,hlo:=h.hlo,hd:=h.hd,fd:=h.fd}
theorem c_.turn (k:cf)(s:cn)(wk ep rs:List Int)(nx:Int):c_ k s {s with wk:=wk,ep:=ep,rs:=rs,nx:=nx}:=⟨λ_ _=>rfl,aG _,λ_ _ _ h=>h⟩
def Lo (k:cf)(s:cn)(b:Int):Prop:=∀i,0<=i->i<pf (k.ld s b)->k.cP (k.ld s (b+1+i))=OU\/(pk (k.ld s b)=3/\i=0/\b∈s.wk)\/(pk (k.ld s b)=4/\b∈s.ep)
theorem dK.lk (h:dK k z s H){a b:Int}(ho:k.or z s a b):∃e,dK k z (k.lk s b) e/\c_ k s (k.lk s b)/\(∃q,e=H++q)/\Lo k (k.lk s b) b/\(∀c∈s.wk,c∈(k.lk s b).wk)/\∀c∈s.ep,c∈(k.lk s b).ep:=by
 have hb:=h.bd (h.mem ho)
 have hg:=h.ci.hg;have hN:=h.ci.hN';have hO:=h.ci.hO;have t:=h.hd a b ho;have v:=du (k.ld s b)
 unfold cf.lk;by_cases c1:pk (k.ld s b)=1\/pk (k.ld s b)=2
 ·rw[aM c1];obtain⟨e,m1,f,j,l⟩:=h.g9 ho (K (pf (k.ld s b))) (by grind)
  have p:=m1.hd a b (f.or ho)
  refine⟨e,m1,f,l,λi m g=>aK ?_,λc hc=>by grind [qJ],λc hc=>by grind [qJ]⟩
  rw[p,<-t] at g;have w:=j (K i) aa
  grind
 ·rw[aJ c1];by_cases c3:pk (k.ld s b)=3
  ·rw[aM c3];have B:=iG hb.2.2 aa;have u:=h.turn (s.wk++[b]) s.ep s.rs s.nx (λx n=>by
    rcases bw.1 n with d|d
    ·exact h.ci.ja x d
    grind) h.ci.iZ h.ci.iY h.ci.kt
   obtain⟨e,m1,f,j,l⟩:=u.kf (i:=1) ho aa (by grind)
   have ea:b+1+1=b+2:=aa;rw[ea] at m1 f j;have p:=m1.hd a b (f.or ho)
   refine⟨e,m1,(c_.turn k s (s.wk++[b]) s.ep s.rs s.nx).trans f,l,λi m g=>?_,λc hc=>by grind [mW],λc hc=>by grind [mW]⟩
   grind [mW]
  ·rw[aJ c3];by_cases o:pk (k.ld s b)=4
   ·rw[aM o];refine⟨H,h.turn s.wk _ s.rs s.nx h.ci.ja (λx n=>by
     rcases bw.1 n with d|d
     ·exact h.ci.iZ x d
     grind) h.ci.iY h.ci.kt,c_.turn k s s.wk _ s.rs s.nx,⟨[],ac⟩,λi m g=>aI (aI ⟨o,ac⟩),λc hc=>hc,λc hc=>(by grind)⟩
   ·rw[aJ o];refine⟨H,h,c_.refl _ _,⟨[],ac⟩,λi m g=>?_,λc hc=>hc,λc hc=>hc⟩
    grind [AB]
theorem Lo.go {b:Int}{K:List Int}(h:Lo k s b)(hs:dK k z s H)(ht:dK k z t K)(p:c_ k s t){a:Int}(ho:k.or z s a b)(hw:b∈s.wk->b∈t.wk)(he:b∈s.ep->b∈t.ep):Lo k t b:=by
 have c:=hs.hd a b ho;have e:=ht.hd a b (p.or ho)
 have hb:=hs.bd (hs.mem ho)
 intro i g f;rw[e,<-c] at f;rw[e,<-c];rcases h i g f with d|⟨j,l,m⟩|⟨j,l⟩
 all_goals grind [c_.cl]
end
theorem AC {g h:Int->Nat}(R:Int->Int->Prop)(i:∀a b c,R a c->R b c->a=b):∀(l T:List Int),l.Nodup->T.Nodup->(∀b∈l,∃a∈T,R b a/\g b=h a)->iF g l<=iF h T
 |[],T,_,_,_=>a4 _
 |b::l,T,hl,j,f=>by
  obtain⟨a,ha,r,e⟩:=f b ac;rw[zg] at hl;have n:=qt h T a j ha;have o:=AC R i l (T.filter (λc=>!(c==a))) hl.2 (by grind) (λc hc=>by
   obtain⟨d,hd,k,m⟩:=f c (by grind)
   refine⟨d,List.mem_filter.2 ⟨hd,?_⟩,k,m⟩
   grind)
  grind [iF]
theorem AD {g:Int->Nat}{l T:List Int}(hl:l.Nodup)(c:T.Nodup)(hs:∀a∈l,a∈T):iF g l<=iF g T:=
 AC (λa b=>a=b) aa l T hl c (by grind)
def oC (L:Int->Int)(a:Int):Nat:=1+K (pf (L a))
theorem eQ.sum {L:Int->Int}{hi:Int}:∀{l:List Int}{a:Int},eQ L hi a l->(iF (oC L) l:Int)=hi-a
 |[],a,h=>by have h:a=hi:=h;simp[iF,h]
 |x::l,a,h=>by
  obtain⟨rfl,_,b,ht⟩:=h;have c:=eQ.sum ht;have hp:=du (L x)
  grind [Az,oC]
theorem eQ.nodup {L:Int->Int}{hi:Int}:∀{l:List Int}{a:Int},eQ L hi a l->l.Nodup
 |[],_,_=>List.nodup_nil
 |x::l,a,h=>by
  obtain⟨rfl,_,_,ht⟩:=h;rw[zg];refine⟨λc=>?_,eQ.nodup ht⟩
  have:=(ht.mem x c).1;have hp:=du (L x)
  omega
section
variable {N y g:Nat}{ws Y G:List Int}
theorem AE (h:ey N y g ws Y G)(hy:y<=N)(Q:List b8){a:Int}(ha:a∈Y\/a∈G)(b:pk (ld N y g ws a)≠5):(L (fJ N y g ws Q a):Int)=pf (ld N y g ws a):=by
 have hp:=du (ld N y g ws a)
 grind [ey.mM,fJ]
end
def Pos (z:Int->Int)(al:Int->Bool)(f:Int->Int):Int->List Int->Int->Prop
 |n,[],m=>n=m
 |n,a::l,m=>(al a=C->f a=n/\Pos z al f (n+(1+z a)) l m)/\(al a=OU->f a=-1/\Pos z al f n l m)
section
variable {z:Int->Int}{al:Int->Bool}{f:Int->Int}
theorem Pos.le (hz:∀a,0<=z a):∀{l:List Int}{n m:Int},Pos z al f n l m->n<=m
 |[],n,m,h=>Int.le_of_eq h
 |a::l,n,m,h=>by
  have:=hz a;cases c:al a
  ·exact Pos.le hz (h.2 c).2
  ·have:=Pos.le hz (h.1 c).2;omega
theorem Pos.app:∀{l e:List Int}{n m:Int},Pos z al f n (l++e) m->∃b,Pos z al f n l b/\Pos z al f b e m
 |[],e,n,m,h=>⟨n,rfl,h⟩
 |a::l,e,n,m,h=>by
  cases c:al a
  ·obtain⟨b,g,i⟩:=Pos.app (h.2 c).2;exact⟨b,⟨λd=>(by grind),λ_=>⟨(h.2 c).1,g⟩⟩,i⟩
  ·obtain⟨b,g,i⟩:=Pos.app (h.1 c).2;exact⟨b,⟨λ_=>⟨(h.1 c).1,g⟩,λd=>(by grind)⟩,i⟩
theorem Pos.bd (hz:∀a,0<=z a):∀{l:List Int}{n m:Int},Pos z al f n l m->∀a∈l,al a=C->n<=f a/\f a+(1+z a)<=m
 |[],n,m,h,a,ha,_=>by grind
 |b::l,n,m,h,a,ha,hl=>by
  rcases bQ.1 ha with e|ha
  ·rw[e] at hl⊢;obtain⟨g,d⟩:=h.1 hl;have:=d.le hz;omega
  ·have:=hz b;cases c:al b
   ·exact Pos.bd hz (h.2 c).2 a ha hl
   ·have:=Pos.bd hz (h.1 c).2 a ha hl;omega
theorem Pos.no:∀{l:List Int}{n m:Int},Pos z al f n l m->∀a∈l,al a=OU->f a=-1
 |[],n,m,h,a,ha,_=>by grind
 |b::l,n,m,h,a,ha,hl=>by
  rcases bQ.1 ha with e|ha
  ·rw[e] at hl⊢;exact(h.2 hl).1
  ·cases c:al b
   ·exact Pos.no (h.2 c).2 a ha hl
   ·exact Pos.no (h.1 c).2 a ha hl
theorem Pos.inj (hz:∀a,0<=z a):∀{l:List Int}{n m:Int},Pos z al f n l m->∀a∈l,∀b∈l,al a=C->al b=C->f a=f b->a=b
 |[],n,m,h,a,ha,_,_,_,_,_=>by grind
 |x::l,n,m,h,a,ha,b,hb,d,lb,e=>by
  have k:=hz x;rcases bQ.1 ha with ea|ha
  ·rcases bQ.1 hb with i|hb
   ·omega
   ·rw[ea] at d e;obtain⟨j,g⟩:=h.1 d;have:=g.bd hz b hb lb;omega
  ·rcases bQ.1 hb with i|hb
   ·rw[i] at lb e;obtain⟨j,g⟩:=h.1 lb;have:=g.bd hz a ha d;omega
   ·cases c:al x
    ·exact Pos.inj hz (h.2 c).2 a ha b hb d lb e
    ·exact Pos.inj hz (h.1 c).2 a ha b hb d lb e
theorem Pos.vW (hz:∀a,0<=z a){L:Int->Int}:∀{l:List Int}{n m:Int},Pos z al f n l m->(∀a∈l,al a=C->pc (L (f a))=0/\pf (L (f a))=z a)->eQ L m n ((l.filter al).map f)
 |[],n,m,h,_=>by assumption
 |a::l,n,m,h,hl=>by
  cases c:al a
  ·rw[Jl (by grind)];exact Pos.vW hz (h.2 c).2 (by grind)
  ·rw[Jo c,List.map_cons];obtain⟨e,d⟩:=h.1 c;obtain⟨q1,b⟩:=hl a ac c;rw[e] at q1 b⊢;refine eQ.step q1 (by rw[b];exact d.le hz) ?_;rw[b];exact Pos.vW hz d (by grind)
theorem Pos.sum:∀{l:List Int}{n m:Int},Pos z al f n l m->(∀a,0<=z a)->(iF (λa=>1+K (z a)) (l.filter al):Int)=m-n
 |[],n,m,h,_=>by have h:n=m:=h;simp[iF,h]
 |a::l,n,m,h,hz=>by
  have:=hz a;cases c:al a
  ·rw[Jl (by grind)];exact Pos.sum (h.2 c).2 hz
  ·rw[Jo c,Az];have:=Pos.sum (h.1 c).2 hz;omega
end
theorem qK (k:b_)(al:Int->Bool):∀(l:List Int)(t:cy×Int),l.Nodup->(∀a∈l,al a=!(t.1.f a==-1))->Pos (λa=>pf (k.ld a)) al (k.ny t l).1.f t.2 l (k.ny t l).2/\(∀b,b∉l->(k.ny t l).1.f b=t.1.f b)/\(k.ny t l).1.td=t.1.td/\(k.ny t l).1.ep=t.1.ep
 |[],t,_,_=>⟨rfl,λ_ _=>rfl,rfl,rfl⟩
 |a::l,t,hn,ha=>by
  rw[zg] at hn;have j:k.ny t (a::l)=k.ny (fW (λt a=>t.1.f a) k.nu t a) l:=rfl;have n:=ha a ac;by_cases c:t.1.f a=-1
  ·have d:fW (λt a=>t.1.f a) k.nu t a=t:=by grind [fW]
   rw[j,d];obtain⟨m,f,g,i⟩:=qK k al l t hn.2 (by grind)
   have ea:al a=OU:=by grind
   exact⟨⟨λh=>(by grind),λ_=>(by grind)⟩,λb hb=>(by grind),g,i⟩
  ·have d:fW (λt a=>t.1.f a) k.nu t a=k.nu t a:=by grind [fW]
   rw[j,d];obtain⟨m,f,g,i⟩:=qK k al l (k.nu t a) hn.2 (λb hb=>by
    have o:b≠a:=λe=>(by grind)
    show al b=!(ia t.1.f a t.2 b==-1)
    grind [ia])
   have ea:al a=C:=by grind
   refine⟨⟨λ_=>⟨?_,m⟩,λh=>(by grind)⟩,λb hb=>?_,g,i⟩
   ·rw[f a hn.1];show ia t.1.f a t.2 a=_
    grind [ia]
   ·rw[f b (by grind)];show ia t.1.f a t.2 b=_
    grind [ia]
end Go.Proofs.YtjckpdepffejnaaGreatDoor
