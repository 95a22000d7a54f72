import Derived.Test.YtjckpdepffejnaaGreatDoorJ10
open Array renaming getElem?_modify->bE,size->I
open Bool renaming false->O4,true->C
open Go renaming Addr->bB,Calls->M,Value->a7,below_drewN->tF
open Go.Ending renaming returned->OV
open Go.IntKind renaming i64->OW
open Go.Obj renaming cells->E
open Go.Proofs.Tryz renaming prog->J
open Go.RowKit renaming Below->O7
open Go.Value renaming ownBlock->A,pointer->bq,slice->Z
open Go.World renaming alloc->bu,cell?->V,heap->OT,ownsRow->aC,setCell->P
open Int renaming toNat->K,zero_add->Mo
open List renaming filter_cons_of_neg->Jo,filter_cons_of_pos->Js,getD->OZ,length->L,mem_append->bw,mem_cons->bQ,nodup_cons->yB
open Option renaming map_some->bH,none->O0,some->OR
namespace Go.Proofs.YtjckpdepffejnaaGreatDoor
set_option maxRecDepth 100000
set_option maxHeartbeats 4000000
open Tryz
open Go.RowKit W Kp ch
theorem Ay {P:Prop}(h:P:=by unfold dN;rw[aJ c];show((k.ma t.1.1 _,t.1.2.set i ((t.1.2.getD i (0,0)).1,(t.1.2.getD i (0,0)).2)),true)=_;rw[(Il _ _ _)]):P:=h
theorem Az {P:Prop}(h:P:=by
 obtain⟨j1,j2,cI⟩:=h1.ma _;refine⟨j1,h2.trans j2,λi hi=>?_⟩
 by_cases e:i=n
 ·rw[e];exact cI
 ·exact j2.dd (by grind)):P:=h
structure lH (k:b_)(s:cy)(a:Int):Prop where
 p:pk (k.ld a)=1\/pk (k.ld a)=2->k.pE s a
 w:pk (k.ld a)=3->k.dd s (k.ld (a+2))=O4
 e:pk (k.ld a)=4->a∈s.ep\/k.dd s (k.ld (a+2))=O4
structure dh (k:b_)(X:Int->Prop)(s:cy):Prop where
 fG:c8 k s
 self:∀a∈k.T,s.f a≠-1->s.f a=a
 td:∀a∈s.td,s.f a≠-1
 cmp:∀a∈k.T,s.f a≠-1->a∈s.td\/X a\/lH k s a
section
variable {k:b_}{X:Int->Prop}{s t:cy}
theorem lH.le {a:Int}(h:lH k s a)(l:dx k s t)(he:∀b∈s.ep,b∈t.ep):lH k t a:=
 ⟨λq=>l.pE (h.p q),λq=>l.dd (h.w q),λq=>(by grind [dx.dd,e])⟩
theorem v4 (k:b_)(s:cy)(x:Int):(k.ma s x).ep=s.ep:=by grind [b_.ma]
theorem dh.ma (h:dh k X s)(x:Int):dh k X (k.ma s x)/\dx k s (k.ma s x)/\k.dd (k.ma s x) x=O4:=by
 by_cases c:k.dd s x=C
 ·obtain⟨m,i,n⟩:=b_.su c;have hp:=(h.fG.ps _ i).1;have o:k.jt x=C:=by grind [b_.dd]
  have e:k.ma s x={s with f:=ic s.f (cq x) (cq x),td:=s.td++[cq x]}:=by grind [b_.ma]
  have j:∀b,(k.ma s x).f b=if b=cq x then cq x else s.f b:=λb=>by rw[e];rfl
  have l:(k.ma s x).td=s.td++[cq x]:=by grind
  have le:dx k s (k.ma s x):=⟨λb hb=>by grind⟩
  refine⟨⟨(h.fG.ma x).1,λb hb g=>?_,λb hb=>?_,λb hb g=>?_⟩,le,?_⟩
  ·grind [self]
  ·grind [td]
  ·rw[l];by_cases d:b=cq x
   ·grind
   ·rw[j,aJ d] at g;rcases h.cmp b hb g with q|q|q
    ·grind
    ·grind
    grind [lH.le]
  grind [b_.sA]
 grind [dx.refl,b_.ma]
theorem Im (k:b_)(s:cy)(a:Int):∀n,(k.fQ s a n).ep=s.ep
 |0=>rfl
 |n+1=>(v4 _ _ _).trans (Im k s a n)
theorem dh.fQ (h:dh k X s)(a:Int):∀n:Nat,dh k X (k.fQ s a n)/\dx k s (k.fQ s a n)/\∀i:Nat,i<n->k.dd (k.fQ s a n) (k.ld (a+1+i))=O4
 |0=>⟨h,dx.refl _,λi hi=>aa⟩
 |n+1=>by obtain⟨h1,h2,b⟩:=dh.fQ h a n;exact Az
theorem dh.lk {x:Int}(h:dh k (λb=>b=x) s)(m:x∈k.T)(hr:k.lost s+L s.td+L s.ep+1<=L k.T):dh k (λ_=>False) (k.lk s x)/\dx k s (k.lk s x):=by
 have d:∀u:cy,dh k (λb=>b=x) u->lH k u x->dh k (λ_=>False) u:=λu e n=>⟨e.fG,e.self,e.td,λa ha g=>by grind [cmp]⟩
 have c:=(h.fG.lk m hr).1;unfold b_.lk at c⊢;by_cases c1:pk (k.ld x)=1\/pk (k.ld x)=2
 ·rw[aN c1];obtain⟨m1,f,j⟩:=h.fQ x _;exact⟨d _ m1 ⟨λ_ i hi=>(by grind),λq=>aa,λq=>aa⟩,f⟩
 ·rw[aJ c1] at c⊢;by_cases c3:pk (k.ld x)=3
  ·rw[aN c3];obtain⟨m1,f,j⟩:=h.ma _;exact⟨d _ m1 ⟨λq=>aa,λ_=>j,λq=>aa⟩,f⟩
  ·rw[aJ c3] at c⊢;by_cases l:pk (k.ld x)=4
   ·rw[aN l] at c⊢;have le:dx k s {s with ep:=s.ep++[x]}:=⟨λ_ _=>rfl⟩
    refine⟨d _ ⟨c,h.self,h.td,λa ha g=>?_⟩ ⟨λq=>aa,λq=>aa,λ_=>aK ac⟩,le⟩
    exact(h.cmp a ha g).imp id (by grind [lH.le])
   ·rw[aJ l];exact⟨d _ h ⟨λq=>aa,λq=>aa,λq=>aa⟩,dx.refl _⟩
theorem dh.l1 (h:dh k (λ_=>False) s)(hl:0<L s.td):dh k (λ_=>False) (k.l1 s)/\dx k s (k.l1 s):=by
 obtain⟨x,g⟩:∃x,OZ s.td (L s.td-1) 0=x:=(by grind)
 have hm:x∈s.td:=by grind
 have i:∀b,b∈s.td->b∈s.td.take (L s.td-1)\/b=x:=λb hb=>by
  have e:=h_ s.td (L s.td-1) aa 0
  grind
 have hs:=h.fG.sum;have j:L (s.td.take (L s.td-1))=L s.td-1:=by simp_all
 have j0:c8 k {s with td:=s.td.take (L s.td-1)}:=⟨h.fG.nd,h.fG.ps,λa ha=>h.fG.td a (by grind),h.fG.ep,h.fG.tl,by show k.lost s+L (s.td.take _)+L s.ep<=_;omega⟩
 have h0:dh k (λb=>b=x) {s with td:=s.td.take (L s.td-1)}:=⟨j0,h.self,λa ha=>h.td a (by grind),λa ha c=>by
  rcases h.cmp a ha c with q|q|q
  ·grind
  ·grind
  ·exact aI (aI ⟨q.p,q.w,q.e⟩)⟩
 obtain⟨m1,d⟩:=h0.lk (h.fG.td x hm) (by show k.lost s+L (s.td.take _)+L s.ep+1<=_;omega)
 have f:k.l1 s=k.lk {s with td:=s.td.take (L s.td-1)} x:=by grind [b_.l1]
 rw[f];exact⟨m1,⟨λb hb=>d.f b hb⟩⟩
theorem dh.lm:∀(n:Nat){s:cy},dh k (λ_=>False) s->dh k (λ_=>False) (k.lm n s)/\dx k s (k.lm n s)
 |0,s,h=>⟨h,dx.refl _⟩
 |n+1,s,h=>by
  unfold b_.lm;by_cases c:0<L s.td
  ·rw[aN c];obtain⟨b,d⟩:=h.l1 c;obtain⟨e,j2⟩:=dh.lm n b
   grind [dx.trans]
  grind [dx.refl]
theorem dh.fe (h:dh k (λ_=>False) s):dh k (λ_=>False) (k.fe s)/\dx k s (k.fe s)/\(k.fe s).td=[]:=by obtain⟨b,c⟩:=dh.lm _ h;exact⟨b,c,Hx h.fG⟩
theorem dh.jd:∀(l:List Int){t:List Int×cy},dh k X t.2->dh k X (l.foldl k.cX t).2/\dx k t.2 (l.foldl k.cX t).2/\(l.foldl k.cX t).2.ep=t.2.ep/\(∀a∈t.1,a∈(l.foldl k.cX t).1)/\∀a∈l,a∈(l.foldl k.cX t).1\/k.dd (l.foldl k.cX t).2 (k.ld (a+2))=O4
 |[],t,h=>(by grind [dx.refl])
 |a::l,t,h=>by
  have key:dh k X (k.cX t a).2/\dx k t.2 (k.cX t a).2/\(k.cX t a).2.ep=t.2.ep/\(∀b∈t.1,b∈(k.cX t a).1)/\(a∈(k.cX t a).1\/k.dd (k.cX t a).2 (k.ld (a+2))=O4):=by grind [ma,v4,dx.refl,b_.cX]
  obtain⟨k1,k2,k3,k4,k5⟩:=key;obtain⟨c,d,e,f,g⟩:=dh.jd l k1
  grind [dx.trans,dx.dd]
theorem dh.kv (h:dh k (λ_=>False) s):dh k (λ_=>False) (k.kv s).2/\dx k s (k.kv s).2:=by
 obtain⟨b,e,f,_,g⟩:=dh.jd s.ep (t:=([],s)) h;have b:=b;have le:dx k (k.em s s.ep).2 (k.kv s).2:=⟨λ_ _=>rfl⟩
 refine⟨⟨h.fG.kv.1,b.self,b.td,λa ha i=>?_⟩,e.trans le⟩
 rcases b.cmp a ha i with q|q|q
 ·exact aK q
 ·grind
 ·refine aI (aI ⟨λc=>le.pE (q.p c),λc=>le.dd (q.w c),λc=>?_⟩)
  rcases q.e c with d|d
  ·rw[f] at d;exact(g a d).imp id le.dd
  ·exact aI (le.dd d)
theorem AA:∀(l:List Int)(t:List Int×cy),L t.1+L l<=L (l.foldl k.cX t).1->l.foldl k.cX t=(t.1++l,t.2)/\∀a∈l,k.dd t.2 (k.ld (a+1))=C
 |[],t,_=>(by grind)
 |a::l,t,h=>by
  have g:∀(l:List Int)(t:List Int×cy),L (l.foldl k.cX t).1<=L t.1+L l:=λl=>by
   induction l with
   |nil=>grind
   |cons b l d=>
    intro t;rw[a8];have q:=d (k.cX t b)
    have f:L (k.cX t b).1<=L t.1+1:=by
     unfold b_.cX;split
     ·simp
     ·simp
    grind
  rw[a8] at h⊢;simp only [List.length_cons] at h;by_cases c:k.dd t.2 (k.ld (a+1))=C
  ·have e:k.cX t a=(t.1++[a],t.2):=by grind [b_.cX]
   rw[e] at h⊢;obtain⟨q1,f⟩:=AA l (t.1++[a],t.2) (by grind)
   grind
  grind [b_.cX]
theorem In (h:(k.kv s).1=O4):(k.kv s).2=s/\∀a∈s.ep,k.dd s (k.ld (a+1))=C:=by
 have b:=of_decide_eq_false h;obtain⟨q1,c⟩:=AA s.ep ([],s) (by show 0+L s.ep<=L (k.em s s.ep).1;omega)
 have q1:k.em s s.ep=(s.ep,s):=by assumption
 simp_all [b_.kv]
end
structure fS (k:b_)(s:cy)(q:List b8):Prop where
 kY:dh k (λ_=>False) s
 td:s.td=[]
 ep:∀a∈s.ep,k.dd s (k.ld (a+1))=C
 wq:∀e∈q,k.al s e.2=C\/k.al s e.1=O4
section
variable {k:b_}{s:cy}
theorem AB {t:cy}(l:dx k s t){x:Int}(h:k.al s x=C):k.al t x=C:=by grind [dx.dd,b_.al]
theorem Il {b:Type}(l:List b)(i:Nat)(d:b):l.set i (OZ l i d)=l:=by grind [List.set_getElem_self,List.set_eq_of_length_le]
theorem dh.lI:∀(l:List Nat)(t:(cy×List b8)×Bool),dh k (λ_=>False) t.1.1->dh k (λ_=>False) (l.foldl (dN k.al k.mp) t).1.1/\dx k t.1.1 (l.foldl (dN k.al k.mp) t).1.1/\(l.foldl (dN k.al k.mp) t).1.2=t.1.2/\
 ((l.foldl (dN k.al k.mp) t).2=O4->t.2=O4/\l.foldl (dN k.al k.mp) t=t/\∀i∈l,k.al t.1.1 (OZ t.1.2 i (0,0)).2=C\/k.al t.1.1 (OZ t.1.2 i (0,0)).1=O4)
 |[],t,h=>(by grind [dx.refl])
 |i::l,t,h=>by
  rw[a8];by_cases c:(k.al t.1.1 (OZ t.1.2 i (0,0)).2||!k.al t.1.1 (OZ t.1.2 i (0,0)).1)=C
  ·have e:dN k.al k.mp t i=t:=by grind [dN]
   rw[e];obtain⟨b,d,f,g⟩:=dh.lI l t h
   grind
  ·have e:dN k.al k.mp t i=((k.ma t.1.1 (OZ t.1.2 i (0,0)).2,t.1.2),C):=by exact Ay
   rw[e];obtain⟨m1,j,_⟩:=h.ma _;obtain⟨b,d,f,g⟩:=dh.lI l ((k.ma t.1.1 _,t.1.2),C) m1;refine⟨b,j.trans d,f,λq=>?_⟩
   grind
theorem dh.wa {t:cy×List b8}(h:dh k (λ_=>False) t.1):dh k (λ_=>False) (k.wa t).1.1/\dx k t.1 (k.wa t).1.1/\(k.wa t).1.2=t.2/\((k.wa t).2=O4->(k.wa t).1=t/\∀e∈t.2,k.al t.1 e.2=C\/k.al t.1 e.1=O4):=by
 obtain⟨b,c,d,f⟩:=dh.lI _ (t,O4) h;refine⟨b,c,d,λq=>?_⟩
 obtain⟨_,g,q3⟩:=f q;refine⟨?_,λe he=>?_⟩
 ·show(it k.al k.mp t _).1=t;unfold it;rw[g]
 ·obtain⟨i,hi,l⟩:=List.mem_iff_getElem.1 he;have:=q3 i (by simpa using hi)
  have j:OZ t.2 i (0,0)=e:=by simp_all
  rw[j] at this
  exact this
theorem dh.de:∀(n:Nat)(t:cy×List b8),dh k (λ_=>False) t.1->dh k (λ_=>False) (k.de n t).1/\dx k t.1 (k.de n t).1/\(k.de n t).2=t.2/\(k.mu t.1<n->fS k (k.de n t).1 (k.de n t).2)
 |0,t,h=>⟨h,dx.refl _,rfl,λe=>aa⟩
 |n+1,t,h=>by
  obtain⟨l1,l2,b⟩:=h.fe;obtain⟨v1,v2⟩:=l1.kv;have m1:=(dC.fe h.fG).mu;obtain⟨p,q⟩:=dC.kv l1.fG;unfold b_.de;by_cases c:(k.kv (k.fe t.1)).1=C
  ·rw[aN c];obtain⟨f,g,i,j⟩:=dh.de n ((k.kv _).2,t.2) v1
   grind [dx.trans]
  ·rw[aJ c];have c2:(k.kv (k.fe t.1)).1=O4:=by grind
   obtain⟨s1,s2⟩:=In c2;rw[s1];obtain⟨w1,s,u,l⟩:=dh.wa (t:=(k.fe t.1,t.2)) l1;by_cases d:(k.wa (k.fe t.1,t.2)).2=C
   ·rw[aN d];obtain⟨f,g,i,j⟩:=dh.de n _ w1;have:=(dC.wa l1.fG).2.2 d
    grind [dx.trans]
   ·rw[aJ d];have m:(k.wa (k.fe t.1,t.2)).2=O4:=by grind
    obtain⟨q1,o⟩:=l m;rw[q1];exact⟨l1,l2,rfl,λ_=>⟨l1,b,s2,o⟩⟩
theorem dh.sp {t:cy×List b8}(h:dh k (λ_=>False) t.1):fS k (k.sp t).1 (k.sp t).2/\dx k t.1 (k.sp t).1/\(k.sp t).2=t.2:=by obtain⟨e,b,c,d⟩:=dh.de _ t h;exact⟨d aa,b,c⟩
theorem dh.ke {t:cy×List b8}(h:dh k (λ_=>False) t.1)(x:Int):fS k (k.ke t x).2.1 (k.ke t x).2.2/\dx k t.1 (k.ke t x).2.1/\(k.ke t x).2.2=t.2/\k.al (k.ke t x).2.1 x=C:=by
 obtain⟨m1,b,f⟩:=h.ma x;obtain⟨c,d,e⟩:=dh.sp (t:=(k.ma t.1 x,t.2)) m1;refine⟨c,b.trans d,e,?_⟩
 show(!k.dd (k.sp (k.ma t.1 x,t.2)).1 x)=C
 grind [dx.dd]
def b_.gx (k:b_):cy×List b8->b8->Bool×(cy×List b8):=cm (et cy) (λs x=>k.al s.1 x) k.ke
theorem fS.cm {t:cy×List b8}(h:fS k t.1 t.2)(e:b8):fS k (k.gx t e).2.1 (k.gx t e).2.2/\dx k t.1 (k.gx t e).2.1:=by
 unfold b_.gx;cases c:k.al t.1 e.1
 ·grind [oc,dx.refl]
 ·rw[oe (o:=et cy) (is:=λs x=>k.al s.1 x) (kp:=k.ke) (s:=t) (e:=e) c];obtain⟨b,f,g,i⟩:=h.kY.ke e.2;show fS k (k.ke t e.2).2.1 ((k.ke t e.2).2.2++[(e.1,e.2)])/\dx k t.1 (k.ke t e.2).2.1;refine⟨⟨b.kY,b.td,b.ep,λd hd=>?_⟩,f⟩
  grind [wq]
theorem fS.pl:∀(l:List b8)(u:List b8×List b8×(cy×List b8)),fS k u.2.2.1 u.2.2.2->fS k (l.foldl (eZ k.gx) u).2.2.1 (l.foldl (eZ k.gx) u).2.2.2/\dx k u.2.2.1 (l.foldl (eZ k.gx) u).2.2.1
 |[],u,h=>⟨h,dx.refl _⟩
 |e::l,u,h=>by
  have key:(eZ k.gx u e).2.2=(k.gx u.2.2 e).2:=by grind [eZ]
  obtain⟨c1,c2⟩:=h.cm e;rw[<-key] at c1 c2;obtain⟨b,c⟩:=fS.pl l _ c1
  grind [dx.trans]
theorem fS.e5:∀(n:Nat)(t:cy×List b8)(d:List b8),fS k t.1 t.2->fS k (e5 k.gx n t d).1.1 (e5 k.gx n t d).1.2/\dx k t.1 (e5 k.gx n t d).1.1
 |0,t,d,h=>⟨h,dx.refl _⟩
 |n+1,t,d,h=>by
  obtain⟨b,e⟩:=fS.pl d ([],[],t) h;have b:fS k (dF k.gx t d).2.2.1 (dF k.gx t d).2.2.2:=b;have e:dx k t.1 (dF k.gx t d).2.2.1:=e;by_cases c:L (dF k.gx t d).1=0
  ·grind [og]
  ·rw[nh _ _ _ _ c];obtain⟨f,g⟩:=fS.e5 n (dF k.gx t d).2.2 (dF k.gx t d).2.1 b
   grind [dx.trans]
theorem fS.fB {t:cy×List b8}(h:fS k t.1 t.2)(r:List b8):fS k (k.fB t r).1 (k.fB t r).2/\dx k t.1 (k.fB t r).1:=fS.e5 _ t _ h
theorem dh.start (h:c8 k iw){X:Int->Prop}:dh k X iw:=⟨h,λ_ _ b=>absurd rfl b,λ_ ha=>by simp[iw] at ha,λ_ _ b=>absurd rfl b⟩
theorem dh.cO {X:Int->Prop}(h:dh k X s):∀n,dh k X (k.cO s n)/\dx k s (k.cO s n)/\∀i,i<n->k.dd (k.cO s n) (OZ k.s.rs i 0)=O4
 |0=>⟨h,dx.refl _,λi hi=>aa⟩
 |n+1=>by obtain⟨h1,h2,b⟩:=dh.cO h n;exact Az
end
theorem pF {a:Wc}{S:cv}(c:c8 (S.s.j0 a) iw):fS (S.s.j0 a) (S.cI a) ((S.s.j0 a).fB (S.j2 a) S.r).2/\dx (S.s.j0 a) (S.j2 a).1 (S.cI a)/\∀i,i<12->(S.s.j0 a).dd (S.cI a) (OZ S.s.rs i 0)=O4:=by obtain⟨d,_,e⟩:=(dh.start c).cO 12;obtain⟨f,g,_⟩:=dh.sp (t:=((S.s.j0 a).cO iw 12,S.q)) d;obtain⟨j,b⟩:=fS.fB f S.r;exact⟨j,b,λi hi=>b.dd (g.dd (e i hi))⟩
theorem Io {p q N O y g:Nat}{ws:List Int}(w:az)(h:At w p q N O y g ws):
 M J 116 #[aq p] w λe w'=>∃v1 v2,e=OV (.tuple #[v1,v2])/\aC w' (I (OT w)) 3 1 v1 (L (eQ N y g ws)) ((eQ N y g ws).map (Value.int OW))/\aC w' (I (OT w)) 3 1 v2 (L (dM N y g ws)) ((dM N y g ws).map (Value.int OW))/\(∀b,OR b=A v1->OR b≠A v2)/\O7 (I (OT w)) w w':=by
 obtain⟨c0,c1,c2,c3,j,k,l⟩:=h.cells;have lp:=h.fw;have S:=h.fz;have k1:=h.hN';have k2:=h.hy;have k3:=h.hO;have k4:=h.hg;go_enter func116,ntmps116;go_wp2_with fail;refine(yH 0 N y (I (OT w)) _ ((h.alloc _).alloc _) ((aU _ _ _ ac).trans (aO _ _)) aa aa aa aa aa aa).mono ?_;rintro e w1 ⟨rfl,v1,m,i,c⟩
 have n:=((h.alloc _).alloc _).same (c.block p (by simp;omega) aa) (c.block q (by simp;omega) aa)
 have d:=(c.block (I (OT w)+1) ac aa).trans (uG _ ac)
 have t:=cg m;have u:=cg d;have v:=c.size;simp only [World.size_alloc] at v;clear m d c0 c1 c2 c3 j k l;obtain⟨c0,c1,c2,c3,j,k,l⟩:=n.cells;go_wp2_with fail;refine(yI N O g (I (OT w)+1) _ n u.o aa aa aa aa aa aa).mono ?_;rintro e o ⟨rfl,v2,d,s,f⟩
 have W:V o (av (I (OT w)) 0)=OR v1:=by have:=(f.block (I (OT w)) aa aa).trans t.o;simp[World.cell?,this]
 have ab:V o (av (I (OT w)+1) 0)=OR v2:=aD d
 have ad:=f.size;clear d;go_wp2_with fail
 go_quiet (fail)
 go_wp2_with fail;go_ret2;have x:∀b,OR b=A v1->OR b≠A v2:=λb e B=>by have q1:=(cu i b e).2;have ag:=(cu s b B).1;omega
 simp only [World.size_alloc] at i c;have F:eQ N y g ws=e4 N y g ws (0+(y:Int)) 2000 0:=by rw[Mo];rfl
 refine⟨v1,v2,rfl,?_,?_,x,?_⟩
 ·rw[F];exact ng (pb (base:=I (OT w)+1+1) (yA i f bY aa) aa) (tF bZ _)
 ·exact ng (pb s aa) (tF bZ _)
 ·exact tF (((bZ.alloc bY _).alloc ac _).trans ((c.below aa bY).trans (f.below aa aa))) _
theorem Ip (f:Nat)(c:Array a7)(p:Int->Bool)(b:ef f)(w:az):
 M J 302 #[Z O0 0 0,.func (.func f) #[] c] w λr w'=>r=OV (Z O0 0 0)/\O7 (I (OT w)) w w':=by
 go_enter func302,ntmps302;go_wp2_with fail;refine(As f c p b w [] (λw' x d _=>by cases d) O0 0 ac (λh=>by simp at h)).mono ?_;rintro r w1 ⟨e,⟨rfl,_⟩|⟨i,_,g,_⟩⟩
 ·go_wp2;go_ret;exact⟨rfl,e⟩
 ·simp at g
theorem Iq (f:Nat)(c:Array a7)(p:Int->Bool)(d:ef f)(w:az)(l:List Int)(ad:Option bB)(cap B:Nat)
 (hl:∀(w':az)(x:Int),x∈l->Fr (λb=>OR b=A (Value.slice ad (L l) cap)) w w'->M J f (#[ak x]++c) w' λr i=>r=OV (.bool (p x))/\O7 (I (OT w')) w' i)
 (hm:L l<=100000)(hr:aC w B 3 1 (Z ad (L l) cap) (L l) (l.map (Value.int OW))):
 M J 302 #[Z ad (L l) cap,.func (.func f) #[] c] w λr w'=>r=OV (Z ad (L (eM p l)) cap)/\aC w' B 3 1 (Z ad (L (eM p l)) cap) (L (eM p l)) ((eM p l).map (Value.int OW))/\Fr (λb=>OR b=A (Value.slice ad (L l) cap)) w w':=by
 rcases hr.2 with⟨hv,hn⟩|⟨g,k,m,hv,_⟩
 ·have j:=List.eq_nil_of_length_eq_zero hn;subst j;simp at hv;obtain⟨rfl,rfl⟩:=hv;refine(Ip f c p d w).mono ?_;rintro r w' ⟨rfl,hb⟩
  exact⟨rfl,a9 _ _ _ _,Fr.of hb⟩
 ·obtain⟨rfl,rfl⟩:=hv;have e:∀n cap,(λb=>OR b=A (Value.slice (au g) n cap))=(λb=>b=g):=λn cap=>by simp[Value.ownBlock]
  rw[e] at hl⊢;exact Ik f c p d w l g cap B hl hm hr
theorem AC {pk pw p q N O y g:Nat}{ws:List Int}(w:az)(f:At w p q N O y g ws)(c1:V w (av pk 0)=OR (aq pw))(c2:V w (av pw 0)=OR (aq p))(l:List Int)(ad:Option bB)(cap B:Nat)(e:Int)(hl:L l<=100000)(m:∀x∈l,0<=x/\x<=100000)
 (hr:aC w B 3 1 (Z ad (L l) cap) (L l) (l.map (Value.int OW)))(hB:pk<B/\pw<B/\p<B/\q<B):
 M J 259 #[aq pk,Z ad (L l) cap,ak e] w λr w'=>r=OV (Z ad (L (eM (λx=>decide (e<=x+pf (ld N y g ws x))) l)) cap)/\aC w' B 3 1 (Z ad (L (eM (λx=>decide (e<=x+pf (ld N y g ws x))) l)) cap) (L (eM (λx=>decide (e<=x+pf (ld N y g ws x))) l)) ((eM (λx=>decide (e<=x+pf (ld N y g ws x))) l).map (Value.int OW))/\Fr (λb=>OR b=A (Value.slice ad (L l) cap)) w w':=by
 obtain⟨W,c⟩:∃W,W=bu (bu w (E #[bq (OR ⟨pk,0,O0⟩)] 260)) (E #[.int OW e] 3):=⟨_,rfl⟩
 have i:O7 (I (OT w)) w W:=by rw[c];exact((aH _ w).alloc bY _).alloc ac _
 have n:W.heap[I (OT w)]?=OR (E #[aq pk] 260 (0,0)):=by rw[c,aU _ _ _ ac];exact aO _ _
 have o:W.heap[I (OT w)+1]?=OR (E #[ak e] 3 (0,0)):=by rw[c];simpa using aO (bu w (E #[bq (OR ⟨pk,0,O0⟩)] 260)) _
 have v:I (OT W)=I (OT w)+2:=by rw[c];simp
 have P:=Iq 303 #[aq (I (OT w)),aq (I (OT w)+1)] (λx=>decide (e<=x+pf (ld N y g ws x))) Ii W l ad cap B (λw' x s d=>by
  have hn:∀b,OR b=A (Value.slice ad (L l) cap)->_:=λb e=>cu hr b e;have k0:∀b,b<B->b<I (OT w)->_=_:=λb hb j=>(d.block b aa (λe=>by have:=(hn b e).1;omega)).trans (i.block b j)
  have k1:∀b,I (OT w)<=b->b<I (OT W)->_=_:=λb hb j=>d.block b j (λe=>by have:=(hn b e).2;omega)
  exact Ij w' (f.same (k0 p hB.2.2.1 f.fw) (k0 q hB.2.2.2 f.fz)) (by simp[World.cell?,((k1 (I (OT w)) _ aa).trans n)]) ((aS (k0 pk hB.1 (aT w _ c1))).trans c1) ((aS (k0 pw hB.2.1 (aT w _ c2))).trans c2) (by simp[World.cell?,((k1 _ aa aa).trans o)]) x (m x s)) hl (cK hr (λb e=>i.block b (cu hr b e).2))
 have t:aA (_/\∀b,OR b=A (Value.slice ad (L l) cap)->b<I (OT w)):=⟨i,λb e=>(cu hr b e).2⟩
 go_enter func259,ntmps259;go_wp2_with fail;rw[<-(cg c).o];refine P.mono ?_;rintro r w1 ⟨rfl,u,d⟩
 have k:=cU u ((Fr.of t.o.1).trans d (λb e=>aK e))
 go_wp2_with fail;go_ret;exact⟨rfl,k.o.1,k.o.2⟩
theorem Ir (w:az)(pk:Nat)(G Y:List Int)(c f:Option bB)(gc g:Nat)(l:V w (av pk 1)=OR (Z f (L Y) g))(q:V w (av pk 2)=OR (Z c (L G) gc))(yr:aC w 0 3 1 (Z f (L Y) g) (L Y) (Y.map (Value.int OW)))(gr:aC w 0 3 1 (Z c (L G) gc) (L G) (G.map (Value.int OW)))(hl:L G+L Y<=4000):
 M J 260 #[aq pk] w λe w'=>∃a d,e=OV (Z a (L G+L Y) d)/\aC w' (I (OT w)) 3 1 (Z a (L G+L Y) d) (L G+L Y) ((G++Y).map (Value.int OW))/\O7 (I (OT w)) w w':=by
 have lk:=aT w _ l;have s:=aw w.drew (E #[Z c (L G) gc,Z f (L Y) g] 136)
 have i:=(ax w).drew.trans (s.mono bY)
 have m:=aO w.drew (E #[Z c (L G) gc,Z f (L Y) g] 136)
 have P:=Al (bu w.drew (E #[Z c (L G) gc,Z f (L Y) g] 136)) (I (OT w)) G Y c f gc g (by simp only [World.cell?];rw[show I (OT w)=I (OT w.drew) from rfl,m];rfl) (by simp only [World.cell?];rw[show I (OT w)=I (OT w.drew) from rfl,m];rfl) (cK gr (λb e=>i.block b (cu gr b e).2)) (cK yr (λb e=>i.block b (cu yr b e).2)) aa;have j:=cg i;go_enter func260,ntmps260;go_wp2_with fail
 go_region_held3 (λw'=>V w' (av pk 1)=OR (Z f (L Y) g)/\V w' (av pk 2)=OR (Z c (L G) gc)) (go_keep)
  (first
    |(go_at_call 304;refine P.mono ?_;rintro e t ⟨a,d,rfl,n,hb⟩;have k:=j.o.trans (hb.mono j.o.size);have y1:=(k.cell (p:=av pk 1) lk).trans l;have u:=(k.cell (p:=av pk 2) lk).trans q;have o:=cU (fA n (λb e=>aQ j.o.size (cu n b e).1)) k))
 go_wp2_with fail;go_ret;exact⟨a,d,rfl,o.o.1,o.o.2⟩
theorem AD (w:az)(p:Nat)(a0 a1:Option bB)(k0 k1:Nat)(r q:List b8)(h:fF w p a0 k0 a1 k1 r q)(h0:L r<=90000)(W:L q<=90000):
 M J 258 #[aq p] w λe w'=>∃g i c0 b1 c1,e=OV (aq g)/\I (OT w)<=g/\fF w' g i c0 b1 c1 r q/\(∀z,i=OR z->I (OT w)<=z.block)/\(∀z,b1=OR z->I (OT w)<=z.block)/\(∀k,OR k=A (Value.slice i (L r) c0)->OR k≠A (Value.slice b1 (L q) c1))/\O7 (I (OT w)) w w':=by
 obtain⟨c0,c1,n,o,lp⟩:=h.cells;have s:=cg (sj h.r0)
 have t:=cg (sj h.q0)
 clear h n o;go_enter func258,ntmps258;go_wp2_with fail;have hd:=(ax w).drew
 go_region_held3 (λw'=>V w' (av p 0)=OR (Z a0 (L r) k0)/\V w' (av p 1)=OR (Z a1 (L q) k1)) (first|exact⟨c0,c1⟩|exact⟨u0,l⟩|exact⟨v0,v1⟩|go_keep)
  (first
    |(have ab:=b;go_at_call 299;refine(uE _ a1 q k1 (t.o.below b) aa).mono ?_;rintro e u ⟨v,x,rfl,j,d⟩;have m:=d.size;have v0:=(d.cell (p:=av p 0) (aL lp c)).trans u0;have v1:=(d.cell (p:=av p 1) (aL lp c)).trans l)
    |(go_at_call 299;refine(uE _ a0 r k0 (s.o.below hd) aa).mono ?_;rintro e ad ⟨B,F,rfl,f,N⟩;have b:=hd.trans N;have c:=b.size;have u0:=(b.cell (p:=av p 0) lp).trans c0;have l:=(b.cell (p:=av p 1) lp).trans c1))
 go_wp2_with fail;go_ret;refine⟨I (OT u),B,F,v,x,rfl,aQ c m,⟨aO _ _,fA (gq (cK f (λk e=>d.block k (cu f k e).2)) _) (λ_ _=>a4 _),fA (gq j _) (λ_ _=>a4 _)⟩,λz e=>(cu f z.block (by rw[e];rfl)).1,λz e=>aQ c (cu j z.block (by rw[e];rfl)).1,λk e S=>?_,(b.trans (d.mono c)).alloc (aQ c m) _⟩
 have q1:=(cu f k e).2;have ag:=(cu j k S).1;omega
abbrev AE (a:Wc)(ct ps:Nat)(yv ov:a7):Obj:=E #[aq a.pw,yv,ov,.map (OR ct),aq ps,Z O0 0 0,Z O0 0 0] 263 (0,0)
structure gy (a:Wc)(S:cv)(w:az)(pk ct ps:Nat)(b0:Option bB)(d0:Nat)(b1:Option bB)(d1:Nat)(yv ov:a7)(T:List Int)(w':az):Prop where
 bl:O7 (I (OT w)) w w'
 cb:w'.heap[pk]?=OR (AE a ct ps yv ov)
 sd:fF w' ps b0 d0 b1 d1 S.r S.q
 mp:Mp w' ct T (λ_=>-1)
 lJ:I (OT w)=ct
 kA:ct<ps
 pp:ps<pk
 l0:∀k,OR k=A (Value.slice b0 (L S.r) d0)->ct<k/\k<pk
 l1:∀k,OR k=A (Value.slice b1 (L S.q) d1)->ct<k/\k<pk
 ln:∀k,OR k=A (Value.slice b0 (L S.r) d0)->OR k≠A (Value.slice b1 (L S.q) d1)
section
variable {a:Wc}{S:cv}{w w' w'':az}{pk ct ps:Nat}{b0 b1:Option bB}{d0 d1:Nat}{yv ov:a7}{T:List Int}
theorem gy.fr {X:Nat->Prop}(h:gy a S w pk ct ps b0 d0 b1 d1 yv ov T w')(f:Fr X w' w'')(hX:∀b,X b->pk<b):gy a S w pk ct ps b0 d0 b1 d1 yv ov T w'':=by
 have c:=h.lJ;have g:=h.kA;have i:=h.pp;have j:=cj h.cb;have hk:∀b,b<=pk->_=_:=λb hb=>f.block b aa (λd=>by have:=hX b d;omega)
 exact {
  bl:=⟨f.os.trans h.bl.os,f.tape.trans h.bl.tape,f.output.trans h.bl.output,(by grind),λb hb=>(hk b aa).trans (h.bl.block b hb)⟩
  cb:=(hk pk aa).trans h.cb
  sd:=⟨(by grind [fF.cY,sd]),cK h.sd.r0 (λb e=>hk b (by have:=(h.l0 b e).2;omega)),cK h.sd.q0 (λb e=>hk b (by have:=(h.l1 b e).2;omega))⟩
  mp:=h.mp.same (by grind)
  lJ:=h.lJ,kA:=h.kA,pp:=h.pp,l0:=h.l0,l1:=h.l1,ln:=h.ln}
theorem gy.below (h:gy a S w pk ct ps b0 d0 b1 d1 yv ov T w')(f:O7 (I (OT w')) w' w''):gy a S w pk ct ps b0 d0 b1 d1 yv ov T w'':=h.fr (Fr.of (X:=λ_=>False) f) (λ_ d=>d.elim)
theorem gy.set (h:gy a S w pk ct ps b0 d0 b1 d1 yv ov T w')(i:Nat)(v:a7){c d:a7}(e:(P w' ⟨pk,i,O0⟩ v).heap[pk]?=OR (AE a ct ps c d)):gy a S w pk ct ps b0 d0 b1 d1 c d T (P w' ⟨pk,i,O0⟩ v):=by
 have g:=h.lJ;have j:=h.kA;have k:=h.pp;have f:=(Fr.refl _ w').set pk i v rfl;have hk:∀b,b<pk->_=_:=λb hb=>f.block b (by have:=cj h.cb;omega) aa;exact {
  bl:=⟨f.os.trans h.bl.os,f.tape.trans h.bl.tape,f.output.trans h.bl.output,(by grind),λb hb=>(hk b aa).trans (h.bl.block b hb)⟩
  cb:=e
  sd:=⟨(by grind [fF.cY,sd]),cK h.sd.r0 (λb e=>hk b (h.l0 b e).2),cK h.sd.q0 (λb e=>hk b (h.l1 b e).2)⟩
  mp:=h.mp.same (by grind)
  lJ:=h.lJ,kA:=h.kA,pp:=h.pp,l0:=h.l0,l1:=h.l1,ln:=h.ln}
theorem gy.set1 (h:gy a S w pk ct ps b0 d0 b1 d1 yv ov T w')(v:a7):gy a S w pk ct ps b0 d0 b1 d1 v ov T (P w' ⟨pk,1,O0⟩ v):=h.set 1 v (by simp only [World.setCell,bE,if_true,h.cb,bH];simp)
theorem gy.set2 (h:gy a S w pk ct ps b0 d0 b1 d1 yv ov T w')(v:a7):gy a S w pk ct ps b0 d0 b1 d1 yv v T (P w' ⟨pk,2,O0⟩ v):=h.set 2 v (by simp only [World.setCell,bE,if_true,h.cb,bH];simp)
theorem gy.add {x:Int}(h:gy a S w pk ct ps b0 d0 b1 d1 yv ov T w')(f:Fr (λb=>b=ct) w' w'')(hm:Mp w'' ct (T++[x]) (λ_=>-1)):gy a S w pk ct ps b0 d0 b1 d1 yv ov (T++[x]) w'':=by
 have c:=h.lJ;have g:=h.kA;have i:=h.pp;have j:=cj h.cb;have hk:∀b,b<=pk->b≠ct->_=_:=λb hb hn=>f.block b aa (λd=>hn d)
 exact {
  bl:=⟨f.os.trans h.bl.os,f.tape.trans h.bl.tape,f.output.trans h.bl.output,(by grind),λb hb=>(hk b aa aa).trans (h.bl.block b hb)⟩
  cb:=(hk pk aa aa).trans h.cb
  sd:=⟨(by grind [fF.cY,sd]),cK h.sd.r0 (λb e=>hk b (by have:=(h.l0 b e).2;omega) (by have:=(h.l0 b e).1;omega)),cK h.sd.q0 (λb e=>hk b (by have:=(h.l1 b e).2;omega) (by have:=(h.l1 b e).1;omega))⟩
  mp:=hm
  lJ:=h.lJ,kA:=h.kA,pp:=h.pp,l0:=h.l0,l1:=h.l1,ln:=h.ln}
theorem gy.cells (h:gy a S w pk ct ps b0 d0 b1 d1 yv ov T w'):V w' (av pk 0)=OR (aq a.pw)/\V w' (av pk 1)=OR yv/\V w' (av pk 2)=OR ov/\V w' (av pk 3)=OR (.map (OR ct))/\(∀i,w'.frozen? (av pk i)=O4)/\pk<I (OT w'):=by
 have b:=h.cb;refine⟨?_,?_,?_,?_,λi=>?_,cj b⟩
 all_goals first|simp[World.cell?,b]|simp[World.frozen?,b]
theorem gy.done {c:Nat->Prop}{f g:Option bB}{i gc:Nat}(hw:(eH a).J c S.s w)(m:c8 (S.s.j0 a) iw)(h:gy a S w pk ct ps b0 d0 b1 d1 (Z f (L (S.s.j0 a).Y) i) (Z g (L (S.s.j0 a).G) gc) (S.s.j0 a).T w')
 (yr:aC w' (pk+1) 3 1 (Z f (L (S.s.j0 a).Y) i) (L (S.s.j0 a).Y) ((S.s.j0 a).Y.map (Value.int OW)))(gr:aC w' (pk+1) 3 1 (Z g (L (S.s.j0 a).G) gc) (L (S.s.j0 a).G) ((S.s.j0 a).G.map (Value.int OW)))(hn:∀b,OR b=A (Value.slice f (L (S.s.j0 a).Y) i)->OR b≠A (Value.slice g (L (S.s.j0 a).G) gc)):
 ∃j,(dj (eu ⟨pk,ct,ps,Z f (L (S.s.j0 a).Y) i,Z g (L (S.s.j0 a).G) gc⟩ (S.s.j0 a)) ps (Z b0 (L S.r) d0)).J j (iw,S.q) w'/\(∀b,OR b=A (Value.slice b0 (L S.r) d0)->¬j b/\I (OT w)<=b)/\(∀b,j b->c b\/I (OT w)<=b):=by
 have N:=h.lJ;have m1:=h.kA;have W:=h.pp;have lk:=cj h.cb;have ab:=(eH a).lt hw
 classical
 obtain⟨own,n⟩:∃own:Nat->Nat,own=λb=>if c b then 1 else if b=pk then 5 else if b=ct then 6 else if OR b=A (Value.slice f (L (S.s.j0 a).Y) i) then 9 else if OR b=A (Value.slice g (L (S.s.j0 a).G) gc) then 10 else 0:=(by grind)
 have ad:∀b,I (OT w)<=b->¬c b:=λb hb d=>by grind
 have o1:∀b,c b↔own b=1:=λb=>by grind
 have ok:own pk=5:=by grind
 have o:own ct=6:=by grind
 have p:∀b,OR b=A (Value.slice f (L (S.s.j0 a).Y) i)->own b=9:=λb e=>by
  have q:=(cu yr b e).1
  grind
 have s:∀b,OR b=A (Value.slice g (L (S.s.j0 a).G) gc)->own b=10:=λb e=>by
  have q:=(cu gr b e).1
  grind
 have ol:∀b,own b≠0->b<I (OT w')/\(c b\/b=pk\/b=ct\/pk<b):=λb hb=>by
  rw[n] at hb;dsimp only at hb;by_cases d:c b
  ·grind
  ·rw[aJ d] at hb;by_cases t:b=pk
   ·omega
   ·rw[aJ t] at hb;by_cases u:b=ct
    ·omega
    ·rw[aJ u] at hb;by_cases l:OR b=A (Value.slice f (L (S.s.j0 a).Y) i)
     ·have:=cu yr b l;omega
     ·rw[aJ l] at hb;by_cases v:OR b=A (Value.slice g (L (S.s.j0 a).G) gc)
      ·have:=cu gr b v;omega
      grind
 have x:(eu ⟨pk,ct,ps,Z f (L (S.s.j0 a).Y) i,Z g (L (S.s.j0 a).G) gc⟩ (S.s.j0 a)).J (λb=>own b≠0) iw w':=by
  refine⟨⟨Z O0 0 0,Z O0 0 0,c,own,?_,λb=>Iff.rfl⟩,m⟩
  exact {
   wd:=(eH a).keep hw aa (λb hb=>h.bl.block b (by grind))
   w1:=o1
   cb:=h.cb
   k1:=ok
   mp:=h.mp
   m1:=o
   tr:=a9 _ _ _ _
   iG:=λb e=>by simp[Value.ownBlock] at e
   er:=a9 _ _ _ _
   eo:=λb e=>by simp[Value.ownBlock] at e
   yr:=fA yr aa
   i3:=p
   gr:=fA gr aa
   go:=s
   lt:=λb hb=>(by grind)}
 have B:¬own ps≠0:=λd=>by grind
 have n1:∀k,ct<k->k<pk->¬own k≠0:=λk k1 k2 d=>by grind
 have ag:∀k,OR k=A (Value.slice b0 (L S.r) d0)->k≠ps:=λk e F=>by
  obtain⟨ai,hc⟩:=fI h.sd.r0 k e;rw[F,h.sd.cY] at hc
  grind
 refine⟨λb=>own b≠0\/b=ps\/OR b=A (Value.slice b1 (L S.q) d1),⟨λb=>own b≠0,b1,d1,x,h.sd.cY,h.sd.q0,λk hk=>aa,aI (aK rfl),B,λk e=>(by grind [l1]),λk hk=>?_⟩,λb e=>⟨λd=>?_,by grind [l0]⟩,λb d=>?_⟩
 ·grind [l1]
 ·grind [l0,ln]
 grind [l1]
end
theorem Is {a:Wc}{bd:Nat->Prop}{S:cv}{w:az}{a0 a1:Option bB}{k0 k1:Nat}(hw:(eH a).J bd S.s w)(hs:fF w a.sd a0 k0 a1 k1 S.r S.q)(h0:L S.r<=90000)(ce:L S.q<=90000):
 M prog 186 #[aq a.pw] w λe w'=>∃(c:fR)(ar:Option bB)(b0:Nat)(o:Nat->Prop),e=OV (aq c.pk)/\(dj (eu c (S.s.j0 a)) c.bs (Z ar (L S.r) b0)).J o (iw,S.q) w'/\aC w' 0 247 2 (Z ar (L S.r) b0) (L S.r) (ev S.r)/\(∀b,OR b=A (Value.slice ar (L S.r) b0)->¬o b/\I (OT w)<=b)/\(∀b,o b->bd b\/I (OT w)<=b)/\O7 (I (OT w)) w w':=by
 have db:=@run_makeMap prog;obtain⟨c0,_,c2,_,aF,_⟩:=kU hw;have am:=(l_ hw).1;have n1:=am.hN';have cF:=am.hO;have cG:=am.hg;have n4:=am.hy;have b2:=cg (c8.start n1 cF n4 cG)
 have N:aA ((eH a).J bd S.s w/\At w a.p a.q a.N a.O S.s.y S.s.g S.s.ws):=⟨hw,am⟩
 have cf:=cj hs.cY;have be:O7 (I (OT w)) w (bu w (.map #[] 0)):=(aH _ w).alloc bY _;have cH:=AD (bu w (.map #[] 0)) a.sd a0 a1 k0 k1 S.r S.q ⟨(be.block _ cf).trans hs.cY,cK hs.r0 (λb e=>be.block b (cu hs.r0 b e).2),cK hs.q0 (λb e=>be.block b (cu hs.q0 b e).2)⟩ h0 ce;have cI:aA (Mp (bu w (.map #[] 0)) (I (OT w)) [] (λ_=>-1)):=⟨_,World.ownsMap_made w prog 3 (plainElem (H:=Unit) prog 3),λ_=>rfl,λa ha=>by simp at ha⟩
 clear hw hs am be cf h0 ce;go_enter func186,ntmps186;go_wp2_with fail;refine cH.mono ?_;rintro e w1 ⟨ps,l,m,b1,W,rfl,cJ,v,g0,g1,cL,b3⟩
 have cM:=b3.size;simp only [World.size_alloc] at cM cJ g0 g1;have bg:aA (gy a S w (I (OT w1)) (I (OT w)) ps l m b1 W (Z O0 0 0) (Z O0 0 0) [] (bu w1 (E #[bq (OR ⟨a.pw,0,O0⟩),Z O0 0 0,Z O0 0 0,.map (OR (I (OT w))),bq (OR ⟨ps,0,O0⟩),Z O0 0 0,Z O0 0 0] 263))/\I (OT (bu w1 (E #[bq (OR ⟨a.pw,0,O0⟩),Z O0 0 0,Z O0 0 0,.map (OR (I (OT w))),bq (OR ⟨ps,0,O0⟩),Z O0 0 0,Z O0 0 0] 263)))=I (OT w1)+1):=by
  have aR:=aw w1 (E #[bq (OR ⟨a.pw,0,O0⟩),Z O0 0 0,Z O0 0 0,.map (OR (I (OT w))),bq (OR ⟨ps,0,O0⟩),Z O0 0 0,Z O0 0 0] 263)
  have cN:=((aH _ w).alloc bY (.map #[] 0)).trans (b3.mono ac)
  refine⟨{bl:=cN.trans (aR.mono aa),cb:=aO _ _,sd:=⟨(aR.block _ (cj v.cY)).trans v.cY,cK v.r0 (λb e=>aR.block b (cu v.r0 b e).2),cK v.q0 (λb e=>aR.block b (cu v.q0 b e).2)⟩,mp:=(cI.o.same (b3.block _ ac)).same (aR.block _ aa),lJ:=rfl,kA:=aa,pp:=cj v.cY,l0:=λk e=>⟨?_,(cu v.r0 k e).2⟩,l1:=λk e=>⟨?_,(cu v.q0 k e).2⟩,ln:=cL},ac⟩
  ·cases hb:l with
   |none=>rw[hb] at e;simp[Value.ownBlock] at e
   |some z=>
    rw[hb] at e;have cO:k=z.block:=by simpa[Value.ownBlock] using e
    have:=g0 z hb;omega
  ·cases hb:b1 with
   |none=>rw[hb] at e;simp[Value.ownBlock] at e
   |some z=>
    rw[hb] at e;have cO:k=z.block:=by simpa[Value.ownBlock] using e
    have:=g1 z hb;omega
 have an:=(bg.o.1.bl.cell (p:=av a.pw 0) aF).trans c0;have i:=n8 _ (N.o.2.below bg.o.1.bl bY)
 go_wp2_with fail;refine i.mono ?_;rintro e ch ⟨rfl,ci⟩
 have bi:aA (gy a S w (I (OT w1)) (I (OT w)) ps l m b1 W (Z O0 0 0) (Z O0 0 0) [] ch/\I (OT w1)+1<=I (OT ch)):=⟨bg.o.1.below ci,by have:=ci.size;have:=bg.o.2;omega⟩
 have an:=(bi.o.1.bl.cell (p:=av a.pw 0) aF).trans c0;have i:=lZ _ (N.o.2.below bi.o.1.bl bY)
 go_wp2_with fail;refine i.mono ?_;rintro e ck ⟨rfl,cl⟩
 have aV:aA (gy a S w (I (OT w1)) (I (OT w)) ps l m b1 W (Z O0 0 0) (Z O0 0 0) [] ck/\I (OT w1)+1<=I (OT ck)):=⟨bi.o.1.below cl,by have:=cl.size;have:=bi.o.2;omega⟩
 have an:=(aV.o.1.bl.cell (p:=av a.pw 0) aF).trans c0;have i:=Io _ (N.o.2.below aV.o.1.bl bY)
 go_wp2_with fail;refine i.mono ?_;rintro e cP ⟨v1,v2,rfl,b4,b5,cQ,cR⟩
 obtain⟨y1,m1,rfl⟩:=e7 b4;obtain⟨d,g,rfl⟩:=e7 b5;have B:=jm (aV.o.1.below cR) (fA b4 (λb e=>aQ aV.o.2 (cu b4 b e).1)) (fA b5 (λb e=>aQ aV.o.2 (cu b5 b e).1)) cQ;have bn:aA (L (eQ a.N S.s.y S.s.g S.s.ws)<=2000/\L (dM a.N S.s.y S.s.g S.s.ws)<=2000/\(∀x∈eQ a.N S.s.y S.s.g S.s.ws,0<=x/\x<=2000)/\∀x∈dM a.N S.s.y S.s.g S.s.ws,0<=x/\x<=2000):=⟨jp _ _,jp _ _,λx s=>by have:=pt x s;omega,λx s=>by have:=r6 x s;omega⟩
 have cm:I (OT w1)<I (OT w1)+1/\a.pw<I (OT w1)+1/\a.p<I (OT w1)+1/\a.q<I (OT w1)+1:=by have q1:=N.o.2.fw;have bo:=N.o.2.fz;omega
 obtain⟨u0,b6,b7,b8,ao,b9⟩:=B.o.1.cells;have an:=(B.o.1.bl.cell (p:=av a.pw 0) aF).trans c0;have ca:=ao 1;have i:=AC cP (N.o.2.below B.o.1.bl bY) u0 an (eQ a.N S.s.y S.s.g S.s.ws) y1 m1 (I (OT w1)+1) (0+S.s.y) (by have:=bn.o.1;omega) (λx s=>by have:=bn.o.2.2.1 x s;omega) B.o.2.1 cm;rw[Mo] at i;have cS:aA (eM (λx=>decide ((S.s.y:Int)<=x+pf (ld a.N S.s.y S.s.g S.s.ws x))) (eQ a.N S.s.y S.s.g S.s.ws)=(S.s.j0 a).Y):=rfl;rw[cS.o] at i;go_wp2_with fail;refine i.mono ?_;rintro r F ⟨rfl,cT,cn⟩
 have cU:∀b,OR b=A (Value.slice y1 (L (eQ a.N S.s.y S.s.g S.s.ws)) m1)->I (OT w1)<b:=λb e=>(cu B.o.2.1 b e).1;have ad:aA (gy a S w (I (OT w1)) (I (OT w)) ps l m b1 W (Z O0 0 0) (Z O0 0 0) [] F/\aC F (I (OT w1)+1) 3 1 (Z y1 (L (S.s.j0 a).Y) m1) (L (S.s.j0 a).Y) ((S.s.j0 a).Y.map (Value.int OW))/\aC F (I (OT w1)+1) 3 1 (Z d (L (dM a.N S.s.y S.s.g S.s.ws)) g) (L (dM a.N S.s.y S.s.g S.s.ws)) ((dM a.N S.s.y S.s.g S.s.ws).map (Value.int OW))/\(∀n co b,OR b=A (Value.slice y1 n m1)->OR b≠A (Value.slice d co g))):=by
  refine⟨B.o.1.fr cn cU,cT,iq B.o.2.2.1 cn (λb e ag=>B.o.2.2.2 b ag e),λn co b e=>?_⟩
  have q:=B.o.2.2.2 b (by
   cases y1 with
   |none=>simp[Value.ownBlock] at e
   |some z=>simpa[Value.ownBlock] using e)
  cases d with
  |none=>simp[Value.ownBlock]
  |some z=>simpa[Value.ownBlock] using q
 obtain⟨u0,b6,b7,b8,ao,b9⟩:=ad.o.1.cells;have ca:=ao 1;have ai:aA (gy a S w (I (OT w1)) (I (OT w)) ps l m b1 W (Z y1 (L (S.s.j0 a).Y) m1) (Z O0 0 0) [] (P F ⟨I (OT w1),1,O0⟩ (Z y1 (L (S.s.j0 a).Y) m1))/\aC (P F ⟨I (OT w1),1,O0⟩ (Z y1 (L (S.s.j0 a).Y) m1)) (I (OT w1)+1) 3 1 (Z y1 (L (S.s.j0 a).Y) m1) (L (S.s.j0 a).Y) ((S.s.j0 a).Y.map (Value.int OW))/\aC (P F ⟨I (OT w1),1,O0⟩ (Z y1 (L (S.s.j0 a).Y) m1)) (I (OT w1)+1) 3 1 (Z d (L (dM a.N S.s.y S.s.g S.s.ws)) g) (L (dM a.N S.s.y S.s.g S.s.ws)) ((dM a.N S.s.y S.s.g S.s.ws).map (Value.int OW))):=by have f:Fr (λb=>b=I (OT w1)) F (P F ⟨I (OT w1),1,O0⟩ (Z y1 (L (S.s.j0 a).Y) m1)):=(Fr.refl _ F).set _ 1 _ rfl;exact⟨ad.o.1.set1 _,iq ad.o.2.1 f (λb e ag=>by have:=(cu ad.o.2.1 b e).1;omega),iq ad.o.2.2.1 f (λb e ag=>by have:=(cu ad.o.2.2.1 b e).1;omega)⟩
 have cp:=cg ad.o.2.2.2;obtain⟨s0,s1,s2,bp,s4,s5⟩:=ai.o.1.cells;have an:=(ai.o.1.bl.cell (p:=av a.pw 0) aF).trans c0;have s6:=s4 2;have i:=AC _ (N.o.2.below ai.o.1.bl bY) s0 an (dM a.N S.s.y S.s.g S.s.ws) d g (I (OT w1)+1) ((a.N:Int)+S.s.g) (by have:=bn.o.2.1;omega) (λx s=>by have:=bn.o.2.2.2 x s;omega) ai.o.2.2 cm;have cV:aA (eM (λx=>decide ((a.N:Int)+S.s.g<=x+pf (ld a.N S.s.y S.s.g S.s.ws x))) (dM a.N S.s.y S.s.g S.s.ws)=(S.s.j0 a).G):=rfl;rw[cV.o] at i;go_wp2_with fail;refine i.mono ?_;rintro r ap ⟨rfl,cW,cq⟩
 have cX:∀b,OR b=A (Value.slice d (L (dM a.N S.s.y S.s.g S.s.ws)) g)->I (OT w1)<b:=λb e=>(cu ai.o.2.2 b e).1;have al:=ge (ai.o.1.fr cq cX) (iq ai.o.2.1 cq (λb e ag=>cp.o _ _ b e ag)) cW;obtain⟨u0,b6,b7,b8,ao,b9⟩:=al.o.1.cells;have ca:=ao 2;have t:aA (gy a S w (I (OT w1)) (I (OT w)) ps l m b1 W (Z y1 (L (S.s.j0 a).Y) m1) (Z d (L (S.s.j0 a).G) g) [] (P ap ⟨I (OT w1),2,O0⟩ (Z d (L (S.s.j0 a).G) g))/\aC (P ap ⟨I (OT w1),2,O0⟩ (Z d (L (S.s.j0 a).G) g)) (I (OT w1)+1) 3 1 (Z y1 (L (S.s.j0 a).Y) m1) (L (S.s.j0 a).Y) ((S.s.j0 a).Y.map (Value.int OW))/\aC (P ap ⟨I (OT w1),2,O0⟩ (Z d (L (S.s.j0 a).G) g)) (I (OT w1)+1) 3 1 (Z d (L (S.s.j0 a).G) g) (L (S.s.j0 a).G) ((S.s.j0 a).G.map (Value.int OW))):=by have f:Fr (λb=>b=I (OT w1)) ap (P ap ⟨I (OT w1),2,O0⟩ (Z d (L (S.s.j0 a).G) g)):=(Fr.refl _ ap).set _ 2 _ rfl;exact⟨al.o.1.set2 _,iq al.o.2.1 f (λb e ag=>by have:=(cu al.o.2.1 b e).1;omega),iq al.o.2.2 f (λb e ag=>by have:=(cu al.o.2.2 b e).1;omega)⟩
 clear al u0 b6 b8 ao;obtain⟨s0,s1,s2,bp,s4,s5⟩:=t.o.1.cells;have br:aA ((S.s.j0 a).T=(S.s.j0 a).G++(S.s.j0 a).Y/\L (S.s.j0 a).T=L (S.s.j0 a).G+L (S.s.j0 a).Y/\_/\_):=⟨rfl,by unfold b_.T;rw[aX],b2.o.tl,b2.o.ps⟩
 have cr:=br.o.2.1;have dc:=br.o.2.2.1;have i:=Ir _ (I (OT w1)) (S.s.j0 a).G (S.s.j0 a).Y d y1 g m1 s1 s2 (fA t.o.2.1 (λ_ _=>a4 _)) (fA t.o.2.2 (λ_ _=>a4 _)) aa;rw[<-cr,<-br.o.1] at i;clear s0 s1 s2 bp s4 cr;go_wp2_with fail;refine i.mono ?_;clear i s5 b7 b9 ca;rintro e a2 ⟨cY,cZ,rfl,cc,bs⟩
 have ab:aA (_/\_/\aC a2 (I (OT w1)+1) 3 1 (Z d (L (S.s.j0 a).G) g) (L (S.s.j0 a).G) ((S.s.j0 a).G.map (Value.int OW))/\aC a2 (I (OT w1)+1) 3 1 (Z cY (L (S.s.j0 a).T) cZ) (L (S.s.j0 a).T) ((S.s.j0 a).T.map (Value.int OW))):=⟨t.o.1.below bs,cK t.o.2.1 (λb e=>bs.block b (cu t.o.2.1 b e).2),cK t.o.2.2 (λb e=>bs.block b (cu t.o.2.2 b e).2),fA cc (λb e=>by have:=(cu cc b e).1;have q:=t.o.1.cells.2.2.2.2.2;omega)⟩
 clear cc bs t;go_wp2_with fail
 go_loopw [66] (λiv wr=>∃j:Nat,j<=L (S.s.j0 a).T/\iv=ak j/\aA (gy a S w (I (OT w1)) (I (OT w)) ps l m b1 W (Z y1 (L (S.s.j0 a).Y) m1) (Z d (L (S.s.j0 a).G) g) ((S.s.j0 a).T.take j) wr/\Fr (λb=>b=I (OT w)) a2 wr)) (λiv _=>L (S.s.j0 a).T-K (intOf iv))
 case atStart=>exact⟨0,a4 _,rfl,ab.o.1,Fr.refl _ _⟩
 ·
   obtain⟨j,dd,rfl,u⟩:=hrel;by_cases bt:j<L (S.s.j0 a).T
   ·obtain⟨bb,c1,cs,c3,hc⟩:=ir ab.o.2.2.2 aa;have c4:I (OT w1)<bb/\bb<I (OT a2):=by
     have:=cu ab.o.2.2.2 bb (by rw[cs];rfl)
     omega
    have ct:=(aS (a:=⟨bb,c1+j,O0⟩) (u.o.2.block bb c4.2 (λe=>by have:=u.o.1.kA;have:=u.o.1.pp;omega))).trans (hc j bt)
    have hm:OZ (S.s.j0 a).T j 0∈(S.s.j0 a).T:=by rw[aM,aP bt];exact a_ bt
    have s:=br.o.2.2.2 _ hm;have cw:=cg (h_ _ j bt 0)
    generalize OZ (S.s.j0 a).T j 0=x at ct s cw;obtain⟨D,o1,cx,cy⟩:=u.o.1.mp;obtain⟨s0,s1,s2,bp,s4,s5⟩:=u.o.1.cells;have cz:=j7 (a:=x) s.1 aa;have hv:=om (-1) ae;have ht:L ((S.s.j0 a).T.take j)=j:=by rw[List.length_take];omega
    have bx:=ge o1 cx cy;have j0:(0:Int)<=(j:Int):=aa;have de:(j:Int)<(L (S.s.j0 a).T:Int):=aa;clear cx cy hc c3 hm s0 s1 s2 s4;subst cs;go_wp2_with (first
     |(at_mapUpdate;refine wpList_mapUpdate_own _ rfl _ _ _ 158 rfl 3 3 js underlying158 (plainElem (H:=Unit) prog 3) (I (OT w)) (L ((S.s.j0 a).T.take j)) D rfl o1 (by unfold maxLen;omega) _ _ _ rfl rfl cz _ [] hv ?_;intro cd cA cB)
     |go_in)
    have c5:aA (gy a S w (I (OT w1)) (I (OT w)) ps l m b1 W (Z y1 (L (S.s.j0 a).Y) m1) (Z d (L (S.s.j0 a).G) g) ((S.s.j0 a).T.take (j+1)) cd/\Fr (λb=>b=I (OT w)) a2 cd):=by
     have cC:Fr (λb=>b=I (OT w)) wr cd:=(Fr.refl _ wr).grown cB (λb e=>aK (by cases e;rfl))
     have c6:=Mp.add (f:=λ_=>-1) bx.o.1 bx.o.2.1 bx.o.2.2 rfl rfl cA;have cD:=u.o.1.add cC c6;rw[<-cw.o] at cD;exact⟨cD,u.o.2.trans cC (λb e=>aK e)⟩
    clear u bx cA cB o1 ct bp s5 cz hv;go_roundw;exact⟨j+1,aa,aj,c5⟩
    simp[intOf];omega
   ·obtain rfl:j=L (S.s.j0 a).T:=aa;have c7:aA (∃(o:Nat->Prop),(dj (eu ⟨I (OT w1),I (OT w),ps,Z y1 (L (S.s.j0 a).Y) m1,Z d (L (S.s.j0 a).G) g⟩ (S.s.j0 a)) ps (Z l (L S.r) m)).J o (iw,S.q) wr/\aC wr 0 247 2 (Z l (L S.r) m) (L S.r) (ev S.r)/\(∀b,OR b=A (Value.slice l (L S.r) m)->¬o b/\I (OT w)<=b)/\(∀b,o b->bd b\/I (OT w)<=b)/\O7 (I (OT w)) w wr):=by
     obtain⟨aB,cE⟩:=u.o;rw[ba] at aB;have ne:∀b,I (OT w1)+1<=b->¬b=I (OT w):=λb hb e=>by have:=aB.kA;have:=aB.pp;omega
     obtain⟨o,q1,bo,q3⟩:=aB.done N.o.1 b2.o (iq ab.o.2.1 cE (λb e=>ne b (cu ab.o.2.1 b e).1)) (iq ab.o.2.2.1 cE (λb e=>ne b (cu ab.o.2.2.1 b e).1)) (λb e=>cp.o _ _ b e)
     exact⟨o,q1,aB.sd.r0,bo,q3,aB.bl⟩
    clear u ab;go_wp2_with fail;go_ret;obtain⟨o,q1,bo,q3,c9,da⟩:=c7.o;exact⟨⟨I (OT w1),I (OT w),ps,Z y1 (L (S.s.j0 a).Y) m1,Z d (L (S.s.j0 a).G) g⟩,l,m,o,rfl,q1,bo,q3,c9,da⟩
def iI (g:Int->Nat)(l:List Int):Nat:=(l.map g).sum
theorem AF (g:Int->Nat)(a:Int)(l:List Int):iI g (a::l)=g a+iI g l:=af
theorem It (g:Int->Nat)(l m:List Int):iI g (l++m)=iI g l+iI g m:=by simp[iI]
open Go.RowKit W
section
variable {N O y g:Nat}{ws:List Int}{Y G:List Int}
theorem ox {x i:Int}(h:eV N y g ws x i=0):tB N y g ws x=C/\pk (ld N y g ws (cq x))≠5/\0<=i/\i<jq N y g (cq x) (pf (ld N y g ws (cq x))):=by
 unfold eV at h
 grind
theorem Iu {x:Int}(h:ey N y g ws Y G)(hN:N<=256)(hy:y<=N)(hO:O<=1024)(hg:g<=O)(ht:tB N y g ws x=C):di x=C/\(cq x∈Y\/cq x∈G):=by grind [ey.lists,tB]
theorem ey.hI (h:ey N y g ws Y G)(hl:L ws=N+O)(hN:N<=256)(hy:y<=N)(hO:O<=1024)(hg:g<=O)(x i z:Int):ey N y g (Proofs.YtjckpdepffejnaaGreatDoor.hI N y g ws x i z) Y G:=by
 unfold Proofs.YtjckpdepffejnaaGreatDoor.hI;by_cases h0:eV N y g ws x i=0
 ·rw[aN h0];obtain⟨ht,_,c,b⟩:=ox h0;obtain⟨_,hv⟩:=Iu h hN hy hO hg ht;rw[h.mN hy hv] at b;split
  all_goals simp_all [set]
 grind
theorem Iv (x i z c:Int)(M:List Int):L (stM N y g ws x i z c M)<=L M+1:=by grind [E9,stM,mP]
end
open Go.RowKit W qx
structure i8 (N y g:Nat)(ws Y G rs:List Int):Prop where
 full:ey N y g ws Y G
 rt:∀x∈rs,di x=C->cq x∈Y\/cq x∈G
 fd:∀v,(v∈Y\/v∈G)->∀i,0<=i->i<pf (ld N y g ws v)->di (ld N y g ws (v+1+i))=C->cq (ld N y g ws (v+1+i))∈Y\/cq (ld N y g ws (v+1+i))∈G
section
variable {N O y g:Nat}{ws Y G rs:List Int}
theorem oy (n:Nat)(h:n<1000000):di (ew 3 n)=C/\cq (ew 3 n)=n:=by grind [o4,o5]
theorem i8.root (h:i8 N y g ws Y G rs)(k:Nat)(x:Int)(b:di x=C->cq x∈Y\/cq x∈G):i8 N y g ws Y G (rs.set k x):=
 ⟨h.full,λz hz=>by grind [rt],h.fd⟩
theorem i8.at (h:i8 N y g ws Y G rs)(k:Nat)(hk:k<L rs)(ha:di (OZ rs k 0)=C):cq (OZ rs k 0)∈Y\/cq (OZ rs k 0)∈G:=
 h.rt _ (by simp_all) ha
theorem oz (h:ey N y g ws Y G){v i:Int}(hv:v∈Y)(b:0<=i)(c:i<pf (ld N y g ws v)):0<=v+1+i/\v+1+i<y:=by have d:=h.ty.mem v hv;omega
theorem oA (h:ey N y g ws Y G){v i:Int}(hv:v∈G)(b:0<=i)(c:i<pf (ld N y g ws v)):(N:Int)<=v+1+i/\v+1+i<(N:Int)+g:=by have d:=h.eC.mem v hv;omega
theorem lK (h:ey N y g ws Y G){v i:Int}(hv:v∈Y\/v∈G)(b:0<=i)(c:i<pf (ld N y g ws v)):dB N y g (v+1+i)=C:=by grind [oz,jE,oA,iZ]
theorem i8.make (h:i8 N y g ws Y G rs)(hl:L ws=N+O){k f:Int}(hm:jo N y k f=C):i8 N (jM N y k f) g (gH N y k f ws) (Y++[(y:Int)]) G rs:=by
 have e:=h.full.make hl hm;obtain⟨j,q⟩:=qv hm;have s:=jK k f j;have m:jM N y k f=y+1+K f:=by grind [jM]
 have n:gH N y k f ws=gs ws y (hw k f) (K f):=by grind [gH]
 have o:y+K f<L ws:=aa;rw[m,n] at e⊢;have mem:∀{z:Int},(z∈Y\/z∈G)->(z∈Y++[(y:Int)]\/z∈G):=λhz=>(by grind)
 refine⟨e,λx p ha=>mem (h.rt x p ha),λv hv i l b ha=>?_⟩
 rcases hv with hv|hv
 ·rcases bw.1 hv with hv|hv
  ·have hi:=h.full.jr v hv;have c:ld N (y+1+K f) g (gs ws y (hw k f) (K f)) v=ld N y g ws v:=by grind [gg,jE,j6]
   rw[c] at b;have hb:=oz h.full hv l b;have d:ld N (y+1+K f) g (gs ws y (hw k f) (K f)) (v+1+i)=ld N y g ws (v+1+i):=by grind [gg,jE,j6]
   grind [fd]
  ·simp at hv;subst hv;rw[(yM _ _ o),(rL k f j).2.1] at b;have d:ld N (y+1+K f) g (gs ws y (hw k f) (K f)) ((y:Int)+1+i)=2:=by grind [gg,jE,j6]
   rw[d] at ha;exact absurd ha ae
 ·have hi:=h.full.io v hv;have c:ld N (y+1+K f) g (gs ws y (hw k f) (K f)) v=ld N y g ws v:=by grind [gg,iZ,j6]
  rw[c] at b;have hb:=oA h.full hv l b;have d:ld N (y+1+K f) g (gs ws y (hw k f) (K f)) (v+1+i)=ld N y g ws (v+1+i):=by grind [gg,iZ,j6]
  grind [fd]
theorem i8.set (h:i8 N y g ws Y G rs)(hl:L ws=N+O)(hy:y<=N)(hg:g<=O){v i z:Int}(hv:v∈Y\/v∈G)(b:0<=i)(c:i<pf (ld N y g ws v))(hz:di z=C->cq z∈Y\/cq z∈G):i8 N y g (ws.set (K (v+1+i)) z) Y G rs:=by
 obtain⟨d,hk⟩:=h.full.set hl hy hg hv b c;have hb:=ku (lK h.full hv b c) hy hg;refine⟨d,h.rt,λu e j j0 f ha=>?_⟩
 grind [fd,ld]
theorem i8.tb (h:i8 N y g ws Y G rs)(hN:N<=256)(hy:y<=N)(hO:O<=1024)(hg:g<=O)(k:Nat)(hk:k<L rs):tB N y g ws (OZ rs k 0)=di (OZ rs k 0):=by
 obtain⟨b,c⟩:=h.full.lists hN hy hO hg;unfold tB;rw[b,c];cases ha:di _
 ·rfl
 ·have:=h.at k hk ha
  grind
end
open Go.RowKit W Kp ch qx
structure C0 where
 g:Nat
 ws:List Int
 G:List Int
def cf.l0 (k:cf)(z:C0)(a:Int):Int:=Proofs.YtjckpdepffejnaaGreatDoor.ld k.N k.y z.g z.ws a
def cf.or (k:cf)(z:C0)(s:cn)(a b:Int):Prop:=(a=b/\b∈z.G)\/(a∈k.T/\s.f a=b/\b≠-1)
def cf.ml (k:cf)(s:cn)(b x:Int):Prop:=x=b\/(k.cP b=C/\s.f (cq b)≠-1/\x=ew 3 (s.f (cq b)))
structure dK (k:cf)(z:C0)(s:cn)(H:List Int):Prop where
 ci:CI k s
 sB:z.g<=s.g
 full:ey k.N k.y s.g s.ws k.T (z.G++H)
 mf:∀b∈z.G,b<(k.N:Int)+z.g
 oC:∀b,0<=b->b<(k.y:Int)->k.ld s b=k.l0 z b
 fh:∀a∈k.T,s.f a≠-1->s.f a∈H
 inj:∀a∈k.T,∀b∈k.T,s.f a≠-1->s.f a=s.f b->a=b
 gV:∀b∈H,∃a∈k.T,s.f a=b
 hlo:∀b∈H,(k.N:Int)+z.g<=b
 hd:∀a b,k.or z s a b->k.ld s b=k.l0 z a
 fd:∀a b,k.or z s a b->∀i,0<=i->i<pf (k.l0 z a)->k.ml s (k.l0 z (a+1+i)) (k.ld s (b+1+i))
structure c_ (k:cf)(s t:cn):Prop where
 f:∀a,s.f a≠-1->t.f a=s.f a
 g:s.g<=t.g
 cl:∀b,(k.N:Int)<=b->b<(k.N:Int)+s.g->k.cP (k.ld s b)=O4->k.cP (k.ld t b)=O4
section
variable {k:cf}{z:C0}{s t u:cn}{H:List Int}
theorem c_.refl (k:cf)(s:cn):c_ k s s:=⟨λ_ _=>rfl,aG _,λ_ _ _ h=>h⟩
theorem c_.trans (h:c_ k s t)(j:c_ k t u):c_ k s u:=
 ⟨λa ha=>(j.f a (by grind [f])).trans (h.f a ha),aQ h.g j.g,λb c d e=>j.cl b c (by have:=h.g;omega) (by grind [cl])⟩
theorem c_.or (h:c_ k s t){a b:Int}(ho:k.or z s a b):k.or z t a b:=by
 rcases ho with ho|⟨c,d,e⟩
 ·exact aK ho
 ·exact aI ⟨c,(h.f a aa).trans d,e⟩
theorem c_.ml (h:c_ k s t){c x:Int}(ho:k.ml s c x):k.ml t c x:=by
 rcases ho with ho|⟨d,b,e⟩
 ·exact aK ho
 ·exact aI ⟨d,(h.f _ b▸b),(h.f _ b▸e)⟩
theorem dK.mem (h:dK k z s H){a b:Int}(ho:k.or z s a b):b∈z.G++H:=by
 rcases ho with⟨_,hb⟩|⟨c,d,e⟩
 ·grind
 grind [fh]
theorem dK.from (h:dK k z s H){b:Int}(hb:b∈z.G++H):∃a,k.or z s a b:=by
 rcases bw.1 hb with hb|hb
 ·exact⟨b,aK ⟨rfl,hb⟩⟩
 ·obtain⟨a,ha,e⟩:=h.gV b hb;have:=h.hlo b hb;exact⟨a,aI ⟨ha,e,aa⟩⟩
theorem dK.bd (h:dK k z s H){b:Int}(hb:b∈z.G++H):(k.N:Int)<=b/\b+(1+pf (k.ld s b))<=(k.N:Int)+s.g/\pc (k.ld s b)=0:=h.full.eC.mem b hb
theorem dK.jR (h:dK k z s H){b:Int}(hb:b∈H):(k.N:Int)<=b/\b<(k.N:Int)+s.g:=by
 have c:=h.bd (List.mem_append_right _ hb)
 have:=du (k.ld s b)
 omega
theorem CI.AG (h:CI k s){a:Int}(ha:(k.N:Int)<=a):a∉k.T:=λc=>by
 have b:=h.uV c
 grind [hy]
theorem oD (h:CI k s){n:Int}(h0:(k.N:Int)<=n)(b:n<1000000):k.cP (ew 3 n)=O4:=by grind [o4,o5,CI.AG,cf.cP]
theorem dK.cp (h:dK k z s H){a:Int}(ha:a∈k.T)(o:s.f a=-1):dK k z (k.cp s a) (H++[((k.N+s.g:Nat):Int)])/\c_ k s (k.cp s a)/\(k.cp s a).f a=((k.N+s.g:Nat):Int):=by
 have ci:=h.ci;have hc:=ci.jb ha o;obtain⟨p,B,t3⟩:=ci.th a ha;have hp:=du (k.ld s a)
 have hz:=h.sB;have hl:=cf.uX ci.len ci.hy ci.hg p t3 hc;obtain⟨u,_⟩:=ci.cp ha o;obtain⟨v,F⟩:=h.full.copy ci.len ci.hy ci.hg hc (by grind)
 have N:(k.cp s a).f=ic s.f a ((k.N+s.g:Nat):Int):=by rw[cf.pn hc]
 have S:(k.cp s a).g=s.g+(1+K (pf (k.ld s a))):=by rw[cf.pn hc]
 have d:∀b,b≠a->(k.cp s a).f b=s.f b:=λb hb=>by simp_all [ic]
 have n:(k.cp s a).f a=((k.N+s.g:Nat):Int):=by simp_all [ic]
 have lo:∀b,b<(k.N:Int)+s.g->k.ld (k.cp s a) b=k.ld s b:=λb hb=>by grind
 have kB:c_ k s (k.cp s a):=⟨λb hb=>(by grind),aa,λb f g W=>(by grind)⟩
 have q:∀c b,k.or z (k.cp s a) c b->k.or z s c b\/(c=a/\b=((k.N+s.g:Nat):Int)):=λc b ho=>by
  rcases ho with ho|⟨o1,t,w⟩
  ·exact aK (aK ho)
  ·by_cases e:c=a
   ·grind
   ·rw[d c e] at t;exact aK (aI ⟨o1,t,w⟩)
 refine⟨⟨u,aa,by rw[<-bf];exact v,h.mf,λb h0 f=>?_,λc l f=>?_,λc l b hb f g=>?_,λb hb=>?_,λb hb=>?_,λc b ho=>?_,λc b ho i ab x=>?_⟩,kB,n⟩
 ·grind [CI.hy,oC]
 ·grind [fh]
 ·by_cases j:c=a
  ·by_cases m:b=a
   ·omega
   ·rw[j,n,d b m] at g;have:=h.jR (h.fh b hb aa)
    omega
  ·by_cases m:b=a
   ·rw[m,n,d c j] at g;rw[d c j] at f;have:=h.jR (h.fh c l f)
    omega
   ·rw[d c j,d b m] at g;rw[d c j] at f;exact h.inj c l b hb f g
 ·rcases bw.1 hb with hb|hb
  ·obtain⟨c,l,e⟩:=h.gV b hb;have hn:s.f c≠-1:=by have:=h.jR hb;omega
   grind
  grind
 ·rcases bw.1 hb with hb|hb
  ·exact h.hlo b hb
  grind
 ·rcases q c b ho with ho|⟨rfl,rfl⟩
  ·have hm:=h.bd (h.mem ho)
   rw[lo b (by have:=du (k.ld s b);omega)]
   grind [hd]
  grind [oC]
 ·rcases q c b ho with ho|⟨rfl,rfl⟩
  ·have hm:=h.bd (h.mem ho)
   grind [hd,c_.ml,fd]
  ·rw[<-(h.oC c p aa)] at x;refine aK ?_
   grind [oC]
theorem dK.st (h:dK k z s H){a b i x:Int}(ho:k.or z s a b)(n:0<=i)(v:i<pf (k.l0 z a))(q:k.ml s (k.l0 z (a+1+i)) x):dK k z (k.st s (b+1+i) x) H/\k.ld (k.st s (b+1+i) x) (b+1+i)=x/\(∀c,c≠b+1+i->k.ld (k.st s (b+1+i) x) c=k.ld s c):=by
 have ci:=h.ci;have hm:=h.mem ho;have hb:=h.bd hm;have e:=h.hd a b ho;rw[e] at hb;have hi:dB k.N k.y s.g (b+1+i)=C:=iZ aa aa;have hl:=cf.pm ci.len ci.hy ci.hg (b+1+i) x;have same:k.ld (k.st s (b+1+i) x) (b+1+i)=x:=by simp_all
 have iR:∀c,c≠b+1+i->k.ld (k.st s (b+1+i) x) c=k.ld s c:=λc hc=>by simp_all
 have ew:k.st s (b+1+i) x={s with ws:=s.ws.set (K (b+1+i)) x}:=by grind [cf.st]
 have ap:∀c d,k.or z s c d->∀j,0<=j->j<pf (k.l0 z c)->d+1+j=b+1+i->c=a/\d=b/\j=i:=λc d f j j0 m g=>by
  have hd:=h.mem f;have o:d=b:=by
   rcases Int.lt_trichotomy d b with l|l|l
   ·have:=h.full.eC.apart d hd b hm l;have this:d+(1+pf (k.ld s d))<=b:=this
    grind [hd]
   ·omega
   ·have:=h.full.eC.apart b hm d hd l;have this:b+(1+pf (k.ld s b))<=d:=this
    grind
  refine⟨?_,o,aa⟩
  rw[o] at f;rcases f with⟨c1,c2⟩|⟨c1,c2,c3⟩<;>rcases ho with⟨o1,p⟩|⟨o1,p,w⟩
  ·omega
  ·have t:=h.hlo b (by grind [fh])
   have u:=h.mf b c2;omega
  ·have t:=h.hlo b (by grind [fh])
   have u:=h.mf b p;omega
  ·exact h.inj c c1 a o1 aa aa
 have fl:ey k.N k.y (k.st s (b+1+i) x).g (k.st s (b+1+i) x).ws k.T (z.G++H):=(ew▸(h.full.set ci.len ci.hy ci.hg (by grind) n (by show i<pf (k.ld s b);grind)).1)
 refine⟨⟨ci.st aa x,h.sB,fl,h.mf,λc h0 B=>?_,h.fh,h.inj,h.gV,h.hlo,λc d f=>?_,λc d f j j0 m=>?_⟩,same,iR⟩
 ·grind [CI.hy,oC]
 ·have f:=f;rw[iR d (λg=>?_)]
  ·exact h.hd c d f
  ·exact h.full.eC.field hm n (by show i<pf (k.ld s b);grind) (g▸h.mem f)
 ·have f:=f;by_cases g:d+1+j=b+1+i
  ·obtain⟨rfl,rfl,rfl⟩:=ap c d f j j0 m g;rw[same];exact q
  ·rw[iR _ g];exact h.fd c d f j j0 m
theorem c_.st (ci:CI k s){a x:Int}(c:k.cP x=O4):c_ k s (k.st s a x):=
 ⟨λ_ _=>rfl,aG _,λb _ _ d=>by grind [cf.pm,CI.len,CI.hy,CI.hg]⟩
theorem dK.br (h:dK k z s H)(x:Int):∃d,dK k z (k.br s x).2 d/\c_ k s (k.br s x).2/\k.cP (k.br s x).1=O4/\(∃i,d=H++i)/\(∀b,k.ml s b x->k.ml (k.br s x).2 b (k.br s x).1)/\(k.cP x=C->(k.br s x).2.f (cq x)≠-1)/\(k.br s x).1=k.nw (k.br s x).2 x:=by
 have ci:=h.ci;have n1:=ci.hN';have n:=ci.hO;have key:∀(t:cn)(f:List Int),dK k z t f->c_ k s t->(k.cP x=C->t.f (cq x)≠-1)->k.cP (k.nw t x)=O4/\∀b,k.ml s b x->k.ml t b (k.nw t x):=λt f ht kB hy=>by
  by_cases c:k.cP x=C
  ·have hn:=hy c;have j:cq x∈k.T:=by grind [cf.cP]
   have e:k.nw t x=ew 3 (t.f (cq x)):=by grind [cf.nw]
   have hb:=ht.jR (ht.fh _ j hn)
   have hg:=ht.ci.hg;rw[e];refine⟨oD ht.ci hb.1 aa,λb hm=>?_⟩
   rcases hm with rfl|⟨m1,g,l⟩
   ·exact aI ⟨c,hn,rfl⟩
   ·exfalso;have m:cq b∈k.T:=by grind [cf.cP]
    have o:=h.jR (h.fh _ m g)
    have p:=ci.hg
    grind [oD]
  grind [c_.ml,cf.nw]
 unfold cf.br;by_cases c:k.ls s x=C
 ·obtain⟨c1,c2,c3⟩:=cf.oi c;obtain⟨m1,g,l⟩:=h.cp c2 c3
  grind
 ·have hn:k.cP x=C->s.f (cq x)≠-1:=λhy e=>(by grind [cf.ls])
  obtain⟨k1,k2⟩:=key s H h (c_.refl _ _) hn;rw[aJ c];exact⟨H,h,c_.refl _ _,k1,⟨[],ac⟩,k2,hn,rfl⟩
theorem dK.kf (h:dK k z s H){a b i:Int}(ho:k.or z s a b)(d:0<=i)(e:i<pf (k.l0 z a)):∃c,dK k z (k.kf s (b+1+i)) c/\c_ k s (k.kf s (b+1+i))/\k.cP (k.ld (k.kf s (b+1+i)) (b+1+i))=O4/\∃f,c=H++f:=by
 obtain⟨c,m1,g,l,m,j,_,_⟩:=h.br _;obtain⟨s1,s2,n⟩:=m1.st (g.or ho) d e (j _ (h.fd a b ho i d e))
 grind [c_.trans,c_.st,ci,cf.kf]
theorem dK.hJ (h:dK k z s H){a b:Int}(ho:k.or z s a b):∀n:Nat,(n:Int)<=pf (k.l0 z a)->∃f,dK k z (k.hJ s b n) f/\c_ k s (k.hJ s b n)/\(∀i:Nat,i<n->k.cP (k.ld (k.hJ s b n) (b+1+i))=O4)/\∃d,f=H++d
 |0,_=>⟨H,h,c_.refl _ _,λi hi=>aa,⟨[],ac⟩⟩
 |n+1,hn=>by
  obtain⟨m,m1,c,o,⟨d,p⟩⟩:=dK.hJ h ho n aa;obtain⟨g,j,j2,cI,⟨l,cM⟩⟩:=m1.kf (c.or ho) (i:=n) aa aa;refine⟨g,j,c.trans j2,λi hi=>?_,⟨d++l,by simp_all⟩⟩
  by_cases e:i=n
  ·rw[e];exact cI
  ·have hb:=m1.bd (m1.mem (c.or ho))
   rw[(m1.hd _ _ (c.or ho))] at hb;exact j2.cl _ aa aa (by grind)
theorem iJ {x:Int}(h:pc x=0)(b:pk x=1\/pk x=3\/pk x=4):pf x=2:=by
 unfold pc at h;unfold pk at b;unfold pf;split at h
 ·rename_i e;rw[aN e] at b⊢;generalize x%16=a at*;generalize x/16=f at*;unfold hc at e;rcases b with b|b|b
  ·rw[aN b] at e;split at e
   ·assumption
   ·omega
  ·rw[aJ aa,aN b] at e;split at e
   ·assumption
   ·omega
  ·rw[aJ aa,aJ aa,aN b] at e;split at e
   ·assumption
   ·omega
 ·omega
theorem AH {x:Int}(h:pc x=0):(pk x=1\/pk x=2)\/pk x=3\/pk x=4\/(pk x=5/\pf x=0):=by grind [pc,pk,pf,hc]
theorem mX (k:cf)(s:cn)(a:Int):(k.kf s a).wk=s.wk/\(k.kf s a).ep=s.ep/\(k.kf s a).nx=s.nx/\(k.kf s a).rs=s.rs:=by unfold cf.kf cf.st cf.br;split<;>exact⟨rfl,rfl,rfl,rfl⟩
theorem qO (k:cf)(s:cn)(a:Int):∀n,(k.hJ s a n).wk=s.wk/\(k.hJ s a n).ep=s.ep/\(k.hJ s a n).nx=s.nx/\(k.hJ s a n).rs=s.rs
 |0=>⟨rfl,rfl,rfl,rfl⟩
 |n+1=>by obtain⟨b,c,d,e⟩:=qO k s a n;obtain⟨f,j2,cI,cM⟩:=mX k _ _;exact⟨f.trans b,j2.trans c,cI.trans d,cM.trans e⟩
theorem sC (k:cf)(s:cn)(a:Int):(k.lk s a).nx=s.nx/\(k.lk s a).rs=s.rs:=by grind [mX,qO,cf.lk]
theorem dK.turn (h:dK k z s H)(wk ep rs:List Int)(nx:Int)(hw:∀a∈wk,(k.N:Int)<=a/\a<=2000)(he:∀a∈ep,(k.N:Int)<=a/\a<=2000)(h0:(k.N:Int)<=nx)(b:nx<=(k.N:Int)+k.O+13):dK k z {s with wk:=wk,ep:=ep,rs:=rs,nx:=nx} H:=
 {
  ci:={hN:=h.ci.hN,hN':=h.ci.hN',hO:=h.ci.hO,hy:=h.ci.hy,hg:=h.ci.hg,len:=h.ci.len,th:=h.ci.th,nd:=h.ci.nd,room:=h.ci.room,i0:=h0,kw:=b,jc:=hw,i1:=he,tl:=h.ci.tl}
  sB:=h.sB,full:=h.full,mf:=h.mf,oC:=h.oC,fh:=h.fh,inj:=h.inj,gV:=h.gV,hlo:=h.hlo,hd:=h.hd,fd:=h.fd}
theorem c_.turn (k:cf)(s:cn)(wk ep rs:List Int)(nx:Int):c_ k s {s with wk:=wk,ep:=ep,rs:=rs,nx:=nx}:=⟨λ_ _=>rfl,aG _,λ_ _ _ h=>h⟩
def Lo (k:cf)(s:cn)(b:Int):Prop:=∀i,0<=i->i<pf (k.ld s b)->k.cP (k.ld s (b+1+i))=O4\/(pk (k.ld s b)=3/\i=0/\b∈s.wk)\/(pk (k.ld s b)=4/\b∈s.ep)
theorem dK.lk (h:dK k z s H){a b:Int}(ho:k.or z s a b):∃e,dK k z (k.lk s b) e/\c_ k s (k.lk s b)/\(∃q,e=H++q)/\Lo k (k.lk s b) b/\(∀c∈s.wk,c∈(k.lk s b).wk)/\∀c∈s.ep,c∈(k.lk s b).ep:=by
 have hb:=h.bd (h.mem ho)
 have hg:=h.ci.hg;have hN:=h.ci.hN';have hO:=h.ci.hO;have t:=h.hd a b ho;have v:=du (k.ld s b)
 unfold cf.lk;by_cases c1:pk (k.ld s b)=1\/pk (k.ld s b)=2
 ·rw[aN c1];obtain⟨e,m1,f,j,l⟩:=h.hJ ho (K (pf (k.ld s b))) (by grind)
  have p:=m1.hd a b (f.or ho)
  refine⟨e,m1,f,l,λi m g=>aK ?_,λc hc=>by grind [qO],λc hc=>by grind [qO]⟩
  rw[p,<-t] at g;have w:=j (K i) aa
  grind
 ·rw[aJ c1];by_cases c3:pk (k.ld s b)=3
  ·rw[aN c3];have B:=iJ hb.2.2 aa;have u:=h.turn (s.wk++[b]) s.ep s.rs s.nx (λx n=>by
    rcases bw.1 n with d|d
    ·exact h.ci.jc x d
    grind) h.ci.i1 h.ci.i0 h.ci.kw
   obtain⟨e,m1,f,j,l⟩:=u.kf (i:=1) ho aa (by grind)
   have ea:b+1+1=b+2:=aa;rw[ea] at m1 f j;have p:=m1.hd a b (f.or ho)
   refine⟨e,m1,(c_.turn k s (s.wk++[b]) s.ep s.rs s.nx).trans f,l,λi m g=>?_,λc hc=>by grind [mX],λc hc=>by grind [mX]⟩
   grind [mX]
  ·rw[aJ c3];by_cases o:pk (k.ld s b)=4
   ·rw[aN o];refine⟨H,h.turn s.wk _ s.rs s.nx h.ci.jc (λx n=>by
     rcases bw.1 n with d|d
     ·exact h.ci.i1 x d
     grind) h.ci.i0 h.ci.kw,c_.turn k s s.wk _ s.rs s.nx,⟨[],ac⟩,λi m g=>aI (aI ⟨o,ac⟩),λc hc=>hc,λc hc=>(by grind)⟩
   ·rw[aJ o];refine⟨H,h,c_.refl _ _,⟨[],ac⟩,λi m g=>?_,λc hc=>hc,λc hc=>hc⟩
    grind [AH]
theorem Lo.go {b:Int}{K:List Int}(h:Lo k s b)(hs:dK k z s H)(ht:dK k z t K)(p:c_ k s t){a:Int}(ho:k.or z s a b)(hw:b∈s.wk->b∈t.wk)(he:b∈s.ep->b∈t.ep):Lo k t b:=by
 have c:=hs.hd a b ho;have e:=ht.hd a b (p.or ho)
 have hb:=hs.bd (hs.mem ho)
 intro i g f;rw[e,<-c] at f;rw[e,<-c];rcases h i g f with d|⟨j,l,m⟩|⟨j,l⟩
 all_goals grind [c_.cl]
end
theorem AI {g h:Int->Nat}(R:Int->Int->Prop)(i:∀a b c,R a c->R b c->a=b):∀(l T:List Int),l.Nodup->T.Nodup->(∀b∈l,∃a∈T,R b a/\g b=h a)->iI g l<=iI h T
 |[],T,_,_,_=>a4 _
 |b::l,T,hl,j,f=>by
  obtain⟨a,ha,r,e⟩:=f b ac;rw[yB] at hl;have n:=qy h T a j ha;have o:=AI R i l (T.filter (λc=>!(c==a))) hl.2 (by grind) (λc hc=>by
   obtain⟨d,hd,k,m⟩:=f c (by grind)
   refine⟨d,List.mem_filter.2 ⟨hd,?_⟩,k,m⟩
   grind)
  grind [iI]
theorem AJ {g:Int->Nat}{l T:List Int}(hl:l.Nodup)(c:T.Nodup)(hs:∀a∈l,a∈T):iI g l<=iI g T:=
 AI (λa b=>a=b) aa l T hl c (by grind)
def oE (L:Int->Int)(a:Int):Nat:=1+K (pf (L a))
theorem eR.sum {L:Int->Int}{hi:Int}:∀{l:List Int}{a:Int},eR L hi a l->(iI (oE L) l:Int)=hi-a
 |[],a,h=>by have h:a=hi:=h;simp[iI,h]
 |x::l,a,h=>by
  obtain⟨rfl,_,b,ht⟩:=h;have c:=eR.sum ht;have hp:=du (L x)
  grind [AF,oE]
theorem eR.nodup {L:Int->Int}{hi:Int}:∀{l:List Int}{a:Int},eR L hi a l->l.Nodup
 |[],_,_=>List.nodup_nil
 |x::l,a,h=>by
  obtain⟨rfl,_,_,ht⟩:=h;rw[yB];refine⟨λc=>?_,eR.nodup ht⟩
  have:=(ht.mem x c).1;have hp:=du (L x)
  omega
section
variable {N y g:Nat}{ws Y G:List Int}
theorem AK (h:ey N y g ws Y G)(hy:y<=N)(Q:List b8){a:Int}(ha:a∈Y\/a∈G)(b:pk (ld N y g ws a)≠5):(L (fJ N y g ws Q a):Int)=pf (ld N y g ws a):=by
 have hp:=du (ld N y g ws a)
 grind [ey.mN,fJ]
end
def Pos (z:Int->Int)(al:Int->Bool)(f:Int->Int):Int->List Int->Int->Prop
 |n,[],m=>n=m
 |n,a::l,m=>(al a=C->f a=n/\Pos z al f (n+(1+z a)) l m)/\(al a=O4->f a=-1/\Pos z al f n l m)
section
variable {z:Int->Int}{al:Int->Bool}{f:Int->Int}
theorem Pos.le (hz:∀a,0<=z a):∀{l:List Int}{n m:Int},Pos z al f n l m->n<=m
 |[],n,m,h=>Int.le_of_eq h
 |a::l,n,m,h=>by
  have:=hz a;cases c:al a
  ·exact Pos.le hz (h.2 c).2
  ·have:=Pos.le hz (h.1 c).2;omega
theorem Pos.app:∀{l e:List Int}{n m:Int},Pos z al f n (l++e) m->∃b,Pos z al f n l b/\Pos z al f b e m
 |[],e,n,m,h=>⟨n,rfl,h⟩
 |a::l,e,n,m,h=>by
  cases c:al a
  ·obtain⟨b,g,i⟩:=Pos.app (h.2 c).2;exact⟨b,⟨λd=>(by grind),λ_=>⟨(h.2 c).1,g⟩⟩,i⟩
  ·obtain⟨b,g,i⟩:=Pos.app (h.1 c).2;exact⟨b,⟨λ_=>⟨(h.1 c).1,g⟩,λd=>(by grind)⟩,i⟩
theorem Pos.bd (hz:∀a,0<=z a):∀{l:List Int}{n m:Int},Pos z al f n l m->∀a∈l,al a=C->n<=f a/\f a+(1+z a)<=m
 |[],n,m,h,a,ha,_=>by grind
 |b::l,n,m,h,a,ha,hl=>by
  rcases bQ.1 ha with e|ha
  ·rw[e] at hl⊢;obtain⟨g,d⟩:=h.1 hl;have:=d.le hz;omega
  ·have:=hz b;cases c:al b
   ·exact Pos.bd hz (h.2 c).2 a ha hl
   ·have:=Pos.bd hz (h.1 c).2 a ha hl;omega
theorem Pos.no:∀{l:List Int}{n m:Int},Pos z al f n l m->∀a∈l,al a=O4->f a=-1
 |[],n,m,h,a,ha,_=>by grind
 |b::l,n,m,h,a,ha,hl=>by
  rcases bQ.1 ha with e|ha
  ·rw[e] at hl⊢;exact(h.2 hl).1
  ·cases c:al b
   ·exact Pos.no (h.2 c).2 a ha hl
   ·exact Pos.no (h.1 c).2 a ha hl
theorem Pos.inj (hz:∀a,0<=z a):∀{l:List Int}{n m:Int},Pos z al f n l m->∀a∈l,∀b∈l,al a=C->al b=C->f a=f b->a=b
 |[],n,m,h,a,ha,_,_,_,_,_=>by grind
 |x::l,n,m,h,a,ha,b,hb,d,lb,e=>by
  have k:=hz x;rcases bQ.1 ha with ea|ha
  ·rcases bQ.1 hb with i|hb
   ·omega
   ·rw[ea] at d e;obtain⟨j,g⟩:=h.1 d;have:=g.bd hz b hb lb;omega
  ·rcases bQ.1 hb with i|hb
   ·rw[i] at lb e;obtain⟨j,g⟩:=h.1 lb;have:=g.bd hz a ha d;omega
   ·cases c:al x
    ·exact Pos.inj hz (h.2 c).2 a ha b hb d lb e
    ·exact Pos.inj hz (h.1 c).2 a ha b hb d lb e
theorem Pos.v5 (hz:∀a,0<=z a){L:Int->Int}:∀{l:List Int}{n m:Int},Pos z al f n l m->(∀a∈l,al a=C->pc (L (f a))=0/\pf (L (f a))=z a)->eR L m n ((l.filter al).map f)
 |[],n,m,h,_=>by assumption
 |a::l,n,m,h,hl=>by
  cases c:al a
  ·rw[Jo (by grind)];exact Pos.v5 hz (h.2 c).2 (by grind)
  ·rw[Js c,List.map_cons];obtain⟨e,d⟩:=h.1 c;obtain⟨q1,b⟩:=hl a ac c;rw[e] at q1 b⊢;refine eR.step q1 (by rw[b];exact d.le hz) ?_;rw[b];exact Pos.v5 hz d (by grind)
theorem Pos.sum:∀{l:List Int}{n m:Int},Pos z al f n l m->(∀a,0<=z a)->(iI (λa=>1+K (z a)) (l.filter al):Int)=m-n
 |[],n,m,h,_=>by have h:n=m:=h;simp[iI,h]
 |a::l,n,m,h,hz=>by
  have:=hz a;cases c:al a
  ·rw[Jo (by grind)];exact Pos.sum (h.2 c).2 hz
  ·rw[Js c,AF];have:=Pos.sum (h.1 c).2 hz;omega
end
theorem qP (k:b_)(al:Int->Bool):∀(l:List Int)(t:cy×Int),l.Nodup->(∀a∈l,al a=!(t.1.f a==-1))->Pos (λa=>pf (k.ld a)) al (k.nz t l).1.f t.2 l (k.nz t l).2/\(∀b,b∉l->(k.nz t l).1.f b=t.1.f b)/\(k.nz t l).1.td=t.1.td/\(k.nz t l).1.ep=t.1.ep
 |[],t,_,_=>⟨rfl,λ_ _=>rfl,rfl,rfl⟩
 |a::l,t,hn,ha=>by
  rw[yB] at hn;have j:k.nz t (a::l)=k.nz (fW (λt a=>t.1.f a) k.ny t a) l:=rfl;have n:=ha a ac;by_cases c:t.1.f a=-1
  ·have d:fW (λt a=>t.1.f a) k.ny t a=t:=by grind [fW]
   rw[j,d];obtain⟨m,f,g,i⟩:=qP k al l t hn.2 (by grind)
   have ea:al a=O4:=by grind
   exact⟨⟨λh=>(by grind),λ_=>(by grind)⟩,λb hb=>(by grind),g,i⟩
  ·have d:fW (λt a=>t.1.f a) k.ny t a=k.ny t a:=by grind [fW]
   rw[j,d];obtain⟨m,f,g,i⟩:=qP k al l (k.ny t a) hn.2 (λb hb=>by
    have o:b≠a:=λe=>(by grind)
    show al b=!(ic t.1.f a t.2 b==-1)
    grind [ic])
   have ea:al a=C:=by grind
   refine⟨⟨λ_=>⟨?_,m⟩,λh=>(by grind)⟩,λb hb=>?_,g,i⟩
   ·rw[f a hn.1];show ic t.1.f a t.2 a=_
    grind [ic]
   ·rw[f b (by grind)];show ic t.1.f a t.2 b=_
    grind [ic]
end Go.Proofs.YtjckpdepffejnaaGreatDoor
