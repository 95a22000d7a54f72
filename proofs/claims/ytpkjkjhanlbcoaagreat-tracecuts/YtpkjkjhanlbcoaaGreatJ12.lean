import Derived.Test.YtpkjkjhanlbcoaaGreatJ11
open Array renaming getElem?_modify->bL,size->I
open Bool renaming false->Nb,true->Nc
open Go renaming Addr->bG,Calls->J,Value->bD,below_drewN->sS
open Go.Ending renaming returned->E
open Go.IntKind renaming i64->M4
open Go.Obj renaming cells->M5
open Go.Proofs.Tryz renaming prog->Ng
open Go.RowKit renaming Below->C
open Go.Value renaming ownBlock->P,pointer->bJ,slice->M0
open Go.World renaming alloc->bj,cell?->V,heap->M2,ownsRow->aC,setCell->ay
open Int renaming toNat->M,zero_add->MK
open List renaming filter_cons_of_neg->j4,filter_cons_of_pos->j5,getD->X,length->L,mem_append->bE,mem_cons->bT,mem_singleton->bQ,nodup_cons->Cc
open Option renaming map_some->bS,none->M9,some->Z
namespace Go.Proofs.YtpkjkjhanlbcoaaGreat
set_option maxRecDepth 100000
set_option maxHeartbeats 4000000
open Tryz
open Go.RowKit W Kp cq
theorem zZ {P:Prop}(h:P:=by unfold dI;rw[aI c];show((k.ma t.1.1 _,t.1.2.set i ((X t.1.2 i (0,0)).1,(X t.1.2 i (0,0)).2)),Nc)=_;rw[(Hy _ _ _)]):P:=h
structure f5 (k:cg)(s:cz)(q:List cf):Prop where
 ky:dh k (fun _=>False) s
 td:s.td=[]
 ep:∀a∈s.ep,k.cY s (k.ld (a+1))=Nc
 wq:∀e∈q,k.al s e.2=Nc\/k.al s e.1=Nb
section
variable {k:cg}{s:cz}
theorem z3 {t:cz}(l:dT k s t){x:Int}(h:k.al s x=Nc):k.al t x=Nc:=by unfold cg.al at h⊢;rw[l.cY (by simpa using h)];rfl
theorem Hy {b:Type}(l:List b)(i:Nat)(c:b):l.set i (X l i c)=l:=by
 by_cases h:i<L l
 ·simp_all
 ·rw[List.set_eq_of_length_le aa]
theorem dh.kU:∀(l:List Nat)(t:(cz×List cf)×Bool),dh k (fun _=>False) t.1.1->dh k (fun _=>False) (l.foldl (dI k.al k.mp) t).1.1/\dT k t.1.1 (l.foldl (dI k.al k.mp) t).1.1/\(l.foldl (dI k.al k.mp) t).1.2=t.1.2/\
 ((l.foldl (dI k.al k.mp) t).2=Nb->t.2=Nb/\l.foldl (dI k.al k.mp) t=t/\∀i∈l,k.al t.1.1 (X t.1.2 i (0,0)).2=Nc\/k.al t.1.1 (X t.1.2 i (0,0)).1=Nb)
 |[],t,h=>⟨h,dT.refl _,rfl,fun e=>⟨e,rfl,fun i hi=>by cases hi⟩⟩
 |i::l,t,h=>by
  rw[a_];by_cases c:(k.al t.1.1 (X t.1.2 i (0,0)).2||!k.al t.1.1 (X t.1.2 i (0,0)).1)=Nc
  ·have e:dI k.al k.mp t i=t:=by unfold dI;rw[aJ c]
   rw[e];obtain⟨b,d,f,g⟩:=dh.kU l t h;refine⟨b,d,f,fun q=>?_⟩
   obtain⟨q1,n,q3⟩:=g q;refine⟨q1,n,fun j m=>?_⟩
   rcases bT.1 m with e|m
   ·simp_all
   ·exact q3 j m
  ·have e:dI k.al k.mp t i=((k.ma t.1.1 (X t.1.2 i (0,0)).2,t.1.2),Nc):=by exact zZ
   rw[e];obtain⟨m1,o,_⟩:=h.ma _;obtain⟨b,d,f,g⟩:=dh.kU l ((k.ma t.1.1 _,t.1.2),Nc) m1;refine⟨b,o.trans d,f,fun q=>?_⟩
   have:=(g q).1;cases this
theorem dh.wa {t:cz×List cf}(h:dh k (fun _=>False) t.1):dh k (fun _=>False) (k.wa t).1.1/\dT k t.1 (k.wa t).1.1/\(k.wa t).1.2=t.2/\((k.wa t).2=Nb->(k.wa t).1=t/\∀e∈t.2,k.al t.1 e.2=Nc\/k.al t.1 e.1=Nb):=by
 obtain⟨b,c,d,f⟩:=dh.kU _ (t,Nb) h;refine⟨b,c,d,fun q=>?_⟩
 obtain⟨_,g,q3⟩:=f q;refine⟨?_,fun e he=>?_⟩
 ·show(h7 k.al k.mp t _).1=t;unfold h7;rw[g]
 ·obtain⟨i,hi,l⟩:=List.mem_iff_getElem.1 he;have:=q3 i (by simpa using hi)
  have j:X t.2 i (0,0)=e:=by simp_all
  rw[j] at this
  exact this
theorem dh.c_:∀(n:Nat)(t:cz×List cf),dh k (fun _=>False) t.1->dh k (fun _=>False) (k.c_ n t).1/\dT k t.1 (k.c_ n t).1/\(k.c_ n t).2=t.2/\(k.mu t.1<n->f5 k (k.c_ n t).1 (k.c_ n t).2)
 |0,t,h=>⟨h,dT.refl _,rfl,fun e=>aa⟩
 |n+1,t,h=>by
  obtain⟨l1,l2,j⟩:=h.e5;obtain⟨v1,v2⟩:=l1.kv;have m1:=(dD.e5 h.fA).mu;obtain⟨u,l⟩:=dD.kv l1.fA;unfold cg.c_;by_cases c:(k.kv (k.e5 t.1)).1=Nc
  ·rw[aJ c];obtain⟨d,f,g,i⟩:=dh.c_ n ((k.kv _).2,t.2) v1;have:=l c;exact⟨d,(l2.trans v2).trans f,g,fun e=>i (by dsimp only;omega)⟩
  ·rw[aI c];have c2:(k.kv (k.e5 t.1)).1=Nb:=by simpa using c
   obtain⟨s1,s2⟩:=Hx c2;rw[s1];obtain⟨w1,m,o,p⟩:=dh.wa (t:=(k.e5 t.1,t.2)) l1;by_cases b:(k.wa (k.e5 t.1,t.2)).2=Nc
   ·rw[aJ b];obtain⟨d,f,g,i⟩:=dh.c_ n _ w1;have:=(dD.wa l1.fA).2.2 b;dsimp only at this
    exact⟨d,(l2.trans m).trans f,g.trans o,fun e=>i aa⟩
   ·rw[aI b];have q:(k.wa (k.e5 t.1,t.2)).2=Nb:=by simpa using b
    obtain⟨q1,s⟩:=p q;rw[q1];exact⟨l1,l2,rfl,fun _=>⟨l1,j,s2,s⟩⟩
theorem dh.sp {t:cz×List cf}(h:dh k (fun _=>False) t.1):f5 k (k.sp t).1 (k.sp t).2/\dT k t.1 (k.sp t).1/\(k.sp t).2=t.2:=by obtain⟨e,b,c,d⟩:=dh.c_ _ t h;exact⟨d aa,b,c⟩
theorem dh.ke {t:cz×List cf}(h:dh k (fun _=>False) t.1)(x:Int):f5 k (k.ke t x).2.1 (k.ke t x).2.2/\dT k t.1 (k.ke t x).2.1/\(k.ke t x).2.2=t.2/\k.al (k.ke t x).2.1 x=Nc:=by
 obtain⟨m1,c,d⟩:=h.ma x;obtain⟨e,b,f⟩:=dh.sp (t:=(k.ma t.1 x,t.2)) m1;refine⟨e,c.trans b,f,?_⟩
 show(!k.cY (k.sp (k.ma t.1 x,t.2)).1 x)=Nc;rw[(b.cY d)];rfl
def cg.f6 (k:cg):cz×List cf->cf->Bool×(cz×List cf):=cm (dY cz) (fun s x=>k.al s.1 x) k.ke
theorem f5.cm {t:cz×List cf}(h:f5 k t.1 t.2)(e:cf):f5 k (k.f6 t e).2.1 (k.f6 t e).2.2/\dT k t.1 (k.f6 t e).2.1:=by
 unfold cg.f6;cases c:k.al t.1 e.1
 ·rw[nc (o:=dY cz) (is:=fun s x=>k.al s.1 x) (kp:=k.ke) (s:=t) (e:=e) c];exact⟨h,dT.refl _⟩
 ·rw[nf (o:=dY cz) (is:=fun s x=>k.al s.1 x) (kp:=k.ke) (s:=t) (e:=e) c];obtain⟨b,d,g,i⟩:=h.ky.ke e.2;show f5 k (k.ke t e.2).2.1 ((k.ke t e.2).2.2++[(e.1,e.2)])/\dT k t.1 (k.ke t e.2).2.1;refine⟨⟨b.ky,b.td,b.ep,fun f hd=>?_⟩,d⟩
  rcases bE.1 hd with hd|hd
  ·exact b.wq f hd
  ·simp_all
theorem f5.pl:∀(l:List cf)(u:List cf×List cf×(cz×List cf)),f5 k u.2.2.1 u.2.2.2->f5 k (l.foldl (eM k.f6) u).2.2.1 (l.foldl (eM k.f6) u).2.2.2/\dT k u.2.2.1 (l.foldl (eM k.f6) u).2.2.1
 |[],u,h=>⟨h,dT.refl _⟩
 |e::l,u,h=>by
  have key:(eM k.f6 u e).2.2=(k.f6 u.2.2 e).2:=by unfold eM;split<;>rfl
  obtain⟨c1,c2⟩:=h.cm e;rw[<-key] at c1 c2;obtain⟨b,c⟩:=f5.pl l _ c1;exact⟨b,c2.trans c⟩
theorem f5.eT:∀(n:Nat)(t:cz×List cf)(b:List cf),f5 k t.1 t.2->f5 k (eT k.f6 n t b).1.1 (eT k.f6 n t b).1.2/\dT k t.1 (eT k.f6 n t b).1.1
 |0,t,b,h=>⟨h,dT.refl _⟩
 |n+1,t,b,h=>by
  obtain⟨d,e⟩:=f5.pl b ([],[],t) h;have d:f5 k (pts k.f6 t b).2.2.1 (pts k.f6 t b).2.2.2:=d;have e:dT k t.1 (pts k.f6 t b).2.2.1:=e;by_cases c:L (pts k.f6 t b).1=0
  ·rw[mz _ _ _ _ c];exact⟨d,e⟩
  ·rw[mA _ _ _ _ c];obtain⟨f,g⟩:=f5.eT n (pts k.f6 t b).2.2 (pts k.f6 t b).2.1 d;exact⟨f,e.trans g⟩
theorem f5.fu {t:cz×List cf}(h:f5 k t.1 t.2)(r:List cf):f5 k (k.fu t r).1 (k.fu t r).2/\dT k t.1 (k.fu t r).1:=f5.eT _ t _ h
theorem dh.start (h:c9 k h9){X:Int->Prop}:dh k X h9:=⟨h,fun _ _ b=>absurd rfl b,fun _ ha=>by simp[h9] at ha,fun _ _ b=>absurd rfl b⟩
theorem dh.cP {X:Int->Prop}(h:dh k X s):∀n,dh k X (k.cP s n)/\dT k s (k.cP s n)/\∀i,i<n->k.cY (k.cP s n) (k.s.rs.getD i 0)=Nb
 |0=>⟨h,dT.refl _,fun i hi=>aa⟩
 |n+1=>by obtain⟨h1,h2,h3⟩:=dh.cP h n;exact zQ
end
theorem oS {a:Wc}{S:cw}(c:c9 (S.s.j0 a) h9):f5 (S.s.j0 a) (S.cI a) ((S.s.j0 a).fu (S.j2 a) S.r).2/\dT (S.s.j0 a) (S.j2 a).1 (S.cI a)/\∀i,i<12->(S.s.j0 a).cY (S.cI a) (X S.s.rs i 0)=Nb:=by obtain⟨d,_,e⟩:=(dh.start c).cP 12;obtain⟨f,g,_⟩:=dh.sp (t:=((S.s.j0 a).cP h9 12,S.q)) d;obtain⟨j,b⟩:=f5.fu f S.r;exact⟨j,b,fun i hi=>b.cY (g.cY (e i hi))⟩
theorem Hz {p q N O y g:Nat}{ws:List Int}(w:az)(h:At w p q N O y g ws):
 J Ng 129 #[aq p] w fun e w'=>∃v1 v2,e=E (.tuple #[v1,v2])/\aC w' (I (M2 w)) 3 1 v1 (L (eN N y g ws)) ((eN N y g ws).map (Value.int M4))/\aC w' (I (M2 w)) 3 1 v2 (L (dM N y g ws)) ((dM N y g ws).map (Value.int M4))/\(∀b,Z b=P v1->Z b≠P v2)/\C (I (M2 w)) w w':=by
 obtain⟨c0,c1,c2,c3,c4,c5,j⟩:=h.cells;have lp:=h.fj;have B:=h.fp;have k1:=h.hN';have F:=h.hy;have S:=h.hO;have W:=h.hg;go_enter func129,ntmps129;go_wp2_with fail;refine(xX 0 N y (I (M2 w)) _ ((h.alloc _).alloc _) ((aS _ _ _ ac).trans (aP _ _)) aa aa aa aa aa aa).mono ?_;rintro e w1 ⟨rfl,v1,k,i,c⟩
 have l:=((h.alloc _).alloc _).same (c.block p (by simp;omega) aa) (c.block q (by simp;omega) aa)
 have d:=(c.block (I (M2 w)+1) ac aa).trans (tH _ ac)
 have o:=hide k;have s:=hide d;have t:=c.size;simp only [World.size_alloc] at t;clear k d c0 c1 c2 c3 c4 c5 j;obtain⟨c0,c1,c2,c3,c4,c5,j⟩:=l.cells;go_wp2_with fail;refine(xY N O g (I (M2 w)+1) _ l s.o aa aa aa aa aa aa).mono ?_;rintro e m ⟨rfl,v2,d,n,f⟩
 have ab:V m (av (I (M2 w)) 0)=Z v1:=by have:=(f.block (I (M2 w)) aa aa).trans o.o;simp[World.cell?,this]
 have ad:V m (av (I (M2 w)+1) 0)=Z v2:=aD d
 have ag:=f.size;clear d;go_wp2_with fail
 go_quiet (fail)
 go_wp2_with fail;go_ret2;have u:∀b,Z b=P v1->Z b≠P v2:=fun b e v=>by have q1:=(cv i b e).2;have ai:=(cv n b v).1;omega
 simp only [World.size_alloc] at i c;have x:eN N y g ws=eU N y g ws (0+(y:Int)) 2000 0:=by rw[MK];rfl
 refine⟨v1,v2,rfl,?_,?_,u,?_⟩
 ·rw[x];exact mF (oz (base:=I (M2 w)+1+1) (xR i f b8 aa) aa) (sS b9 _)
 ·exact mF (oz n aa) (sS b9 _)
 ·exact sS (((b9.alloc b8 _).alloc ac _).trans ((c.below aa b8).trans (f.below aa aa))) _
theorem HD (f:Nat)(c:Array bD)(p:Int->Bool)(b:dV f)(w:az):
 J Ng 213 #[M0 M9 0 0,.func (.func f) #[] c] w fun r w'=>r=E (M0 M9 0 0)/\C (I (M2 w)) w w':=by
 go_enter func213,ntmps213;go_wp2_with fail;refine(zT f c p b w [] (fun w' x d _=>by cases d) M9 0 ac (fun h=>by simp at h)).mono ?_;rintro r w1 ⟨e,⟨rfl,_⟩|⟨i,_,g,_⟩⟩
 ·go_wp2;go_ret;exact⟨rfl,e⟩
 ·simp at g
theorem HE (f:Nat)(c:Array bD)(p:Int->Bool)(d:dV f)(w:az)(l:List Int)(ad:Option bG)(cap B:Nat)
 (hl:∀(w':az)(x:Int),x∈l->Fr (fun b=>Z b=P (Value.slice ad (L l) cap)) w w'->J Ng f (#[ak x]++c) w' fun r i=>r=E (.bool (p x))/\C (I (M2 w')) w' i)
 (hm:L l<=100000)(hr:aC w B 3 1 (M0 ad (L l) cap) (L l) (l.map (Value.int M4))):
 J Ng 213 #[M0 ad (L l) cap,.func (.func f) #[] c] w fun r w'=>r=E (M0 ad (L (eF p l)) cap)/\aC w' B 3 1 (M0 ad (L (eF p l)) cap) (L (eF p l)) ((eF p l).map (Value.int M4))/\Fr (fun b=>Z b=P (Value.slice ad (L l) cap)) w w':=by
 rcases hr.2 with⟨hv,hn⟩|⟨g,k,m,hv,_⟩
 ·have j:=List.eq_nil_of_length_eq_zero hn;subst j;simp at hv;obtain⟨rfl,rfl⟩:=hv;refine(HD f c p d w).mono ?_;rintro r w' ⟨rfl,hb⟩
  exact⟨rfl,bf _ _ _ _,Fr.of hb⟩
 ·obtain⟨rfl,rfl⟩:=hv;have e:∀n cap,(fun b=>Z b=P (Value.slice (au g) n cap))=(fun b=>b=g):=fun n cap=>by simp[Value.ownBlock]
  rw[e] at hl⊢;exact Hv f c p d w l g cap B hl hm hr
theorem z4 {pk pw p q N O y g:Nat}{ws:List Int}(w:az)(f:At w p q N O y g ws)(c1:V w (av pk 0)=Z (aq pw))(c2:V w (av pw 0)=Z (aq p))(l:List Int)(ad:Option bG)(cap B:Nat)(e:Int)(hl:L l<=100000)(m:∀x∈l,0<=x/\x<=100000)
 (hr:aC w B 3 1 (M0 ad (L l) cap) (L l) (l.map (Value.int M4)))(hB:pk<B/\pw<B/\p<B/\q<B):
 J Ng 140 #[aq pk,M0 ad (L l) cap,ak e] w fun r w'=>r=E (M0 ad (L (eF (fun x=>decide (e<=x+pf (ld N y g ws x))) l)) cap)/\aC w' B 3 1 (M0 ad (L (eF (fun x=>decide (e<=x+pf (ld N y g ws x))) l)) cap) (L (eF (fun x=>decide (e<=x+pf (ld N y g ws x))) l)) ((eF (fun x=>decide (e<=x+pf (ld N y g ws x))) l).map (Value.int M4))/\Fr (fun b=>Z b=(Value.slice ad (L l) cap).ownBlock) w w':=by
 obtain⟨W,c⟩:∃W,W=bj (bj w (M5 #[bJ (Z ⟨pk,0,M9⟩)] 137)) (M5 #[.int M4 e] 3):=⟨_,rfl⟩
 have i:C (I (M2 w)) w W:=by rw[c];exact((aH _ w).alloc b8 _).alloc ac _
 have n:W.heap[I (M2 w)]?=Z (M5 #[aq pk] 137 (0,0)):=by rw[c,aS _ _ _ ac];exact aP _ _
 have o:W.heap[I (M2 w)+1]?=Z (M5 #[ak e] 3 (0,0)):=by rw[c];simpa using aP (bj w (M5 #[bJ (Z ⟨pk,0,M9⟩)] 137)) _
 have v:I (M2 W)=I (M2 w)+2:=by rw[c];simp
 have P:=HE 214 #[aq (I (M2 w)),aq (I (M2 w)+1)] (fun x=>decide (e<=x+pf (ld N y g ws x))) Ht W l ad cap B (fun w' x s d=>by
  have hn:∀b,Z b=(Value.slice ad (L l) cap).ownBlock->_:=fun b e=>cv hr b e;have k0:∀b,b<B->b<I (M2 w)->_=_:=fun b hb j=>(d.block b aa (fun e=>by have:=(hn b e).1;omega)).trans (i.block b j)
  have k1:∀b,I (M2 w)<=b->b<I (M2 W)->_=_:=fun b hb j=>d.block b j (fun e=>by have:=(hn b e).2;omega)
  exact Hu w' (f.same (k0 p hB.2.2.1 f.fj) (k0 q hB.2.2.2 f.fp)) (by simp[World.cell?,((k1 (I (M2 w)) _ aa).trans n)]) ((aQ (k0 pk hB.1 (aT w _ c1))).trans c1) ((aQ (k0 pw hB.2.1 (aT w _ c2))).trans c2) (by simp[World.cell?,((k1 _ aa aa).trans o)]) x (m x s)) hl (cM hr (fun b e=>i.block b (cv hr b e).2))
 have t:aA (_/\∀b,Z b=(Value.slice ad (L l) cap).ownBlock->b<I (M2 w)):=⟨i,fun b e=>(cv hr b e).2⟩
 go_enter func140,ntmps140;go_wp2_with fail;rw[<-(hide c).o];refine P.mono ?_;rintro r w1 ⟨rfl,u,d⟩
 have k:=c8 u ((Fr.of t.o.1).trans d (fun b e=>aM e))
 go_wp2_with fail;go_ret;exact⟨rfl,k.o.1,k.o.2⟩
theorem HG (w:az)(pk:Nat)(G Y:List Int)(c d:Option bG)(gc f:Nat)(l:V w (av pk 1)=Z (M0 d (L Y) f))(q:V w (av pk 2)=Z (M0 c (L G) gc))(yr:aC w 0 3 1 (M0 d (L Y) f) (L Y) (Y.map (Value.int M4)))(gr:aC w 0 3 1 (M0 c (L G) gc) (L G) (G.map (Value.int M4)))(hl:L G+L Y<=4000):
 J Ng 141 #[aq pk] w fun e w'=>∃a g,e=E (M0 a (L G+L Y) g)/\aC w' (I (M2 w)) 3 1 (M0 a (L G+L Y) g) (L G+L Y) ((G++Y).map (Value.int M4))/\C (I (M2 w)) w w':=by
 have lk:=aT w _ l;have s:=aw w.drew (M5 #[M0 c (L G) gc,M0 d (L Y) f] 74)
 have i:=(ax w).drew.trans (s.mono b8)
 have m:=aP w.drew (M5 #[M0 c (L G) gc,M0 d (L Y) f] 74)
 have P:=zL (bj w.drew (M5 #[M0 c (L G) gc,M0 d (L Y) f] 74)) (I (M2 w)) G Y c d gc f (by simp only [World.cell?];rw[show I (M2 w)=I (M2 w.drew) from rfl,m];rfl) (by simp only [World.cell?];rw[show I (M2 w)=I (M2 w.drew) from rfl,m];rfl) (cM gr (fun b e=>i.block b (cv gr b e).2)) (cM yr (fun b e=>i.block b (cv yr b e).2)) aa;have j:=hide i;go_enter func141,ntmps141;go_wp2_with fail
 go_region_held3 (fun w'=>V w' (av pk 1)=Z (M0 d (L Y) f)/\V w' (av pk 2)=Z (M0 c (L G) gc)) (go_keep)
  (first
    |(go_at_call 215;refine P.mono ?_;rintro e t ⟨a,g,rfl,n,hb⟩;have k:=j.o.trans (hb.mono j.o.size);have y1:=(k.cell (p:=av pk 1) lk).trans l;have u:=(k.cell (p:=av pk 2) lk).trans q;have o:=c8 (fq n (fun b e=>aU j.o.size (cv n b e).1)) k))
 go_wp2_with fail;go_ret;exact⟨a,g,rfl,o.o.1,o.o.2⟩
theorem z5 (w:az)(p:Nat)(a0 a1:Option bG)(k0 k1:Nat)(r q:List cf)(h:fU w p a0 k0 a1 k1 r q)(h0:L r<=90000)(W:L q<=90000):
 J Ng 139 #[aq p] w fun e w'=>∃g i c0 b1 c1,e=E (aq g)/\I (M2 w)<=g/\fU w' g i c0 b1 c1 r q/\(∀z,i=Z z->I (M2 w)<=z.block)/\(∀z,b1=Z z->I (M2 w)<=z.block)/\(∀k,Z k=P (Value.slice i (L r) c0)->Z k≠P (Value.slice b1 (L q) c1))/\C (I (M2 w)) w w':=by
 obtain⟨c0,c1,n,o,lp⟩:=h.cells;have s:=hide (rk h.r0)
 have t:=hide (rk h.q0)
 clear h n o;go_enter func139,ntmps139;go_wp2_with fail;have hd:=(ax w).drew
 go_region_held3 (fun w'=>V w' (av p 0)=Z (M0 a0 (L r) k0)/\V w' (av p 1)=Z (M0 a1 (L q) k1)) (first|exact⟨c0,c1⟩|exact⟨u0,l⟩|exact⟨v0,v1⟩|go_keep)
  (first
    |(have ab:=b;go_at_call 212;refine(s3 _ a1 q k1 (t.o.below b) aa).mono ?_;rintro e u ⟨v,x,rfl,j,d⟩;have m:=d.size;have v0:=(d.cell (p:=av p 0) (aO lp c)).trans u0;have v1:=(d.cell (p:=av p 1) (aO lp c)).trans l)
    |(go_at_call 212;refine(s3 _ a0 r k0 (s.o.below hd) aa).mono ?_;rintro e ad ⟨B,F,rfl,f,N⟩;have b:=hd.trans N;have c:=b.size;have u0:=(b.cell (p:=av p 0) lp).trans c0;have l:=(b.cell (p:=av p 1) lp).trans c1))
 go_wp2_with fail;go_ret;refine⟨I (M2 u),B,F,v,x,rfl,aU c m,⟨aP _ _,fq (fC (cM f (fun k e=>d.block k (cv f k e).2)) _) (fun _ _=>a5 _),fq (fC j _) (fun _ _=>a5 _)⟩,fun z e=>(cv f z.block (by rw[e];rfl)).1,fun z e=>aU c (cv j z.block (by rw[e];rfl)).1,fun k e S=>?_,(b.trans (d.mono c)).alloc (aU c m) _⟩
 have q1:=(cv f k e).2;have ag:=(cv j k S).1;omega
abbrev z6 (a:Wc)(cu ps:Nat)(yv ov:bD):Obj:=M5 #[aq a.pw,yv,ov,.map (Z cu),aq ps,M0 M9 0 0,M0 M9 0 0] 140 (0,0)
structure f7 (a:Wc)(S:cw)(w:az)(pk cu ps:Nat)(b0:Option bG)(d0:Nat)(b1:Option bG)(d1:Nat)(yv ov:bD)(T:List Int)(w':az):Prop where
 bl:C (I (M2 w)) w w'
 cb:w'.heap[pk]?=Z (z6 a cu ps yv ov)
 sd:fU w' ps b0 d0 b1 d1 S.r S.q
 mp:Mp w' cu T (fun _=>-1)
 kV:I (M2 w)=cu
 jZ:cu<ps
 pp:ps<pk
 l0:∀k,Z k=P (Value.slice b0 (L S.r) d0)->cu<k/\k<pk
 l1:∀k,Z k=P (Value.slice b1 (L S.q) d1)->cu<k/\k<pk
 ln:∀k,Z k=P (Value.slice b0 (L S.r) d0)->Z k≠P (Value.slice b1 (L S.q) d1)
section
variable {a:Wc}{S:cw}{w w' w'':az}{pk cu ps:Nat}{b0 b1:Option bG}{d0 d1:Nat}{yv ov:bD}{T:List Int}
theorem f7.fr {X:Nat->Prop}(h:f7 a S w pk cu ps b0 d0 b1 d1 yv ov T w')(f:Fr X w' w'')(c:∀b,X b->pk<b):f7 a S w pk cu ps b0 d0 b1 d1 yv ov T w'':=by
 have g:=h.kV;have i:=h.jZ;have j:=h.pp;have k:=lt_of_some h.cb;have hk:∀b,b<=pk->_=_:=fun b hb=>f.block b aa (fun d=>by have:=c b d;omega)
 exact {
  bl:=⟨f.os.trans h.bl.os,f.tape.trans h.bl.tape,f.output.trans h.bl.output,aU h.bl.size f.size,fun b hb=>(hk b aa).trans (h.bl.block b hb)⟩
  cb:=(hk pk b8).trans h.cb
  sd:=⟨(hk ps aa).trans h.sd.blk,cM h.sd.r0 (fun b e=>hk b (by have:=(h.l0 b e).2;omega)),cM h.sd.q0 (fun b e=>hk b (by have:=(h.l1 b e).2;omega))⟩
  mp:=h.mp.same (hk cu aa)
  kV:=h.kV,jZ:=h.jZ,pp:=h.pp,l0:=h.l0,l1:=h.l1,ln:=h.ln}
theorem f7.below (h:f7 a S w pk cu ps b0 d0 b1 d1 yv ov T w')(f:C (I (M2 w')) w' w''):f7 a S w pk cu ps b0 d0 b1 d1 yv ov T w'':=h.fr (Fr.of (X:=fun _=>False) f) (fun _ b=>b.elim)
theorem f7.set (h:f7 a S w pk cu ps b0 d0 b1 d1 yv ov T w')(i:Nat)(v:bD){c d:bD}(e:(ay w' ⟨pk,i,M9⟩ v).heap[pk]?=Z (z6 a cu ps c d)):f7 a S w pk cu ps b0 d0 b1 d1 c d T (ay w' ⟨pk,i,M9⟩ v):=by
 have g:=h.kV;have j:=h.jZ;have k:=h.pp;have f:=(Fr.refl _ w').set pk i v rfl;have hk:∀b,b<pk->_=_:=fun b hb=>f.block b (by have:=lt_of_some h.cb;omega) (fun l=>by omega)
 exact {
  bl:=⟨f.os.trans h.bl.os,f.tape.trans h.bl.tape,f.output.trans h.bl.output,aU h.bl.size f.size,fun b hb=>(hk b aa).trans (h.bl.block b hb)⟩
  cb:=e
  sd:=⟨(hk ps aa).trans h.sd.blk,cM h.sd.r0 (fun b e=>hk b (h.l0 b e).2),cM h.sd.q0 (fun b e=>hk b (h.l1 b e).2)⟩
  mp:=h.mp.same (hk cu aa)
  kV:=h.kV,jZ:=h.jZ,pp:=h.pp,l0:=h.l0,l1:=h.l1,ln:=h.ln}
theorem f7.set1 (h:f7 a S w pk cu ps b0 d0 b1 d1 yv ov T w')(v:bD):f7 a S w pk cu ps b0 d0 b1 d1 v ov T (ay w' ⟨pk,1,M9⟩ v):=h.set 1 v (by simp only [World.setCell,bL,if_true,h.cb,bS];simp)
theorem f7.set2 (h:f7 a S w pk cu ps b0 d0 b1 d1 yv ov T w')(v:bD):f7 a S w pk cu ps b0 d0 b1 d1 yv v T (ay w' ⟨pk,2,M9⟩ v):=h.set 2 v (by simp only [World.setCell,bL,if_true,h.cb,bS];simp)
theorem f7.add {x:Int}(h:f7 a S w pk cu ps b0 d0 b1 d1 yv ov T w')(f:Fr (fun b=>b=cu) w' w'')(hm:Mp w'' cu (T++[x]) (fun _=>-1)):f7 a S w pk cu ps b0 d0 b1 d1 yv ov (T++[x]) w'':=by
 have d:=h.kV;have g:=h.jZ;have i:=h.pp;have j:=lt_of_some h.cb;have hk:∀b,b<=pk->b≠cu->_=_:=fun b hb hn=>f.block b aa (fun c=>hn c)
 exact {
  bl:=⟨f.os.trans h.bl.os,f.tape.trans h.bl.tape,f.output.trans h.bl.output,aU h.bl.size f.size,fun b hb=>(hk b aa aa).trans (h.bl.block b hb)⟩
  cb:=(hk pk b8 aa).trans h.cb
  sd:=⟨(hk ps aa aa).trans h.sd.blk,cM h.sd.r0 (fun b e=>hk b (by have:=(h.l0 b e).2;omega) (by have:=(h.l0 b e).1;omega)),cM h.sd.q0 (fun b e=>hk b (by have:=(h.l1 b e).2;omega) (by have:=(h.l1 b e).1;omega))⟩
  mp:=hm
  kV:=h.kV,jZ:=h.jZ,pp:=h.pp,l0:=h.l0,l1:=h.l1,ln:=h.ln}
theorem f7.cells (h:f7 a S w pk cu ps b0 d0 b1 d1 yv ov T w'):V w' (av pk 0)=Z (aq a.pw)/\V w' (av pk 1)=Z yv/\V w' (av pk 2)=Z ov/\V w' (av pk 3)=Z (.map (Z cu))/\(∀i,w'.frozen? (av pk i)=Nb)/\pk<I (M2 w'):=by
 have b:=h.cb;refine⟨?_,?_,?_,?_,fun i=>?_,lt_of_some b⟩
 all_goals first|simp[World.cell?,b]|simp[World.frozen?,b]
theorem f7.done {d:Nat->Prop}{f g:Option bG}{i gc:Nat}(hw:(es a).J d S.s w)(t:c9 (S.s.j0 a) h9)(h:f7 a S w pk cu ps b0 d0 b1 d1 (M0 f (L (S.s.j0 a).Y) i) (M0 g (L (S.s.j0 a).G) gc) (S.s.j0 a).T w')
 (yr:aC w' (pk+1) 3 1 (M0 f (L (S.s.j0 a).Y) i) (L (S.s.j0 a).Y) ((S.s.j0 a).Y.map (Value.int M4)))(gr:aC w' (pk+1) 3 1 (M0 g (L (S.s.j0 a).G) gc) (L (S.s.j0 a).G) ((S.s.j0 a).G.map (Value.int M4)))(hn:∀b,Z b=P (Value.slice f (L (S.s.j0 a).Y) i)->Z b≠P (Value.slice g (L (S.s.j0 a).G) gc)):
 ∃m,(di (dZ ⟨pk,cu,ps,M0 f (L (S.s.j0 a).Y) i,M0 g (L (S.s.j0 a).G) gc⟩ (S.s.j0 a)) ps (M0 b0 (L S.r) d0)).J m (h9,S.q) w'/\(∀b,Z b=P (Value.slice b0 (L S.r) d0)->¬m b/\I (M2 w)<=b)/\(∀b,m b->d b\/I (M2 w)<=b):=by
 have ad:=h.kV;have m1:=h.jZ;have ag:=h.pp;have lk:=lt_of_some h.cb;have n:=(es a).lt hw
 classical
 obtain⟨own,j⟩:∃own:Nat->Nat,own=fun b=>if d b then 1 else if b=pk then 5 else if b=cu then 6 else if Z b=P (Value.slice f (L (S.s.j0 a).Y) i) then 9 else if Z b=P (Value.slice g (L (S.s.j0 a).G) gc) then 10 else 0:=⟨_,rfl⟩
 have l:∀b,I (M2 w)<=b->¬d b:=fun b hb c=>by have:=n b c;omega
 have o1:∀b,d b↔own b=1:=fun b=>by
  rw[j];dsimp only;by_cases c:d b
  ·simp[c]
  ·rw[aI c];refine⟨fun e=>absurd e c,fun e=>?_⟩
   split at e
   ·omega
   ·split at e
    ·omega
    ·split at e
     ·omega
     ·split at e<;>omega
 have ok:own pk=5:=by rw[j];dsimp only;rw[aI (l pk aa),aJ rfl]
 have u:own cu=6:=by rw[j];dsimp only;rw[aI (l cu aa),aI aa,aJ rfl]
 have v:∀b,Z b=P (Value.slice f (L (S.s.j0 a).Y) i)->own b=9:=fun b e=>by have q:=(cv yr b e).1;rw[j];dsimp only;rw[aI (l b aa),aI aa,aI aa,aJ e]
 have x:∀b,Z b=P (Value.slice g (L (S.s.j0 a).G) gc)->own b=10:=fun b e=>by have q:=(cv gr b e).1;rw[j];dsimp only;rw[aI (l b aa),aI aa,aI aa,aI (fun o=>hn b o e),aJ e]
 have ol:∀b,own b≠0->b<I (M2 w')/\(d b\/b=pk\/b=cu\/pk<b):=fun b hb=>by
  rw[j] at hb;dsimp only at hb;by_cases c:d b
  ·have:=n b c;have:=h.bl.size;exact⟨aa,aM c⟩
  ·rw[aI c] at hb;by_cases B:b=pk
   ·omega
   ·rw[aI B] at hb;by_cases o:b=cu
    ·omega
    ·rw[aI o] at hb;by_cases p:Z b=P (Value.slice f (L (S.s.j0 a).Y) i)
     ·have:=cv yr b p;exact⟨this.2,aK (aK (aK aa))⟩
     ·rw[aI p] at hb;by_cases s:Z b=P (Value.slice g (L (S.s.j0 a).G) gc)
      ·have:=cv gr b s;exact⟨this.2,aK (aK (aK aa))⟩
      ·rw[aI s] at hb;exact absurd rfl hb
 have F:(dZ ⟨pk,cu,ps,M0 f (L (S.s.j0 a).Y) i,M0 g (L (S.s.j0 a).G) gc⟩ (S.s.j0 a)).J (fun b=>own b≠0) h9 w':=by
  refine⟨⟨M0 M9 0 0,M0 M9 0 0,d,own,?_,fun b=>Iff.rfl⟩,t⟩
  exact {
   wd:=(es a).keep hw h.bl.size (fun b hb=>h.bl.block b (n b hb))
   w1:=o1
   cb:=h.cb
   k1:=ok
   mp:=h.mp
   m1:=u
   tr:=bf _ _ _ _
   ij:=fun b e=>by simp[Value.ownBlock] at e
   er:=bf _ _ _ _
   eo:=fun b e=>by simp[Value.ownBlock] at e
   yr:=fq yr (fun _ _=>a5 _)
   iL:=v
   gr:=fq gr (fun _ _=>a5 _)
   go:=x
   lt:=fun b hb=>(ol b hb).1}
 have N:¬own ps≠0:=fun c=>by
  rcases(ol ps c).2 with q|q|q|q
  ·exact l ps aa q
  ·omega
  ·omega
  ·omega
 have n1:∀k,cu<k->k<pk->¬own k≠0:=fun k k1 ai c=>by
  rcases(ol k c).2 with q|q|q|q
  ·exact l k aa q
  ·omega
  ·omega
  ·omega
 have W:∀k,Z k=P (Value.slice b0 (L S.r) d0)->k≠ps:=fun k e ab=>by obtain⟨al,hc⟩:=fF h.sd.r0 k e;rw[ab,h.sd.blk] at hc;simp at hc
 refine⟨fun b=>own b≠0\/b=ps\/Z b=P (Value.slice b1 (L S.q) d1),⟨fun b=>own b≠0,b1,d1,F,h.sd.blk,h.sd.q0,fun k hk=>aM hk,aK (aM rfl),N,fun k e=>⟨aK (aK e),n1 k (h.l1 k e).1 (h.l1 k e).2⟩,fun k hk=>?_⟩,fun b e=>⟨fun c=>?_,by have:=(h.l0 b e).1;omega⟩,fun b c=>?_⟩
 ·rcases hk with c|c|c
  ·exact(ol k c).1
  ·omega
  ·have:=(h.l1 k c).2;omega
 ·rcases c with c|c|c
  ·exact n1 b (h.l0 b e).1 (h.l0 b e).2 c
  ·exact W b e c
  ·exact h.ln b e c
 ·rcases c with c|c|c
  ·rcases(ol b c).2 with q|q|q|q
   ·exact aM q
   ·omega
   ·omega
   ·omega
  ·omega
  ·have:=(h.l1 b c).1;exact aK aa
end
theorem HH {a:Wc}{a4:Nat->Prop}{S:cw}{w:az}{a0 a1:Option bG}{k0 k1:Nat}(hw:(es a).J a4 S.s w)(hs:fU w a.sd a0 k0 a1 k1 S.r S.q)(h0:L S.r<=90000)(ce:L S.q<=90000):
 Calls Ng 75 #[aq a.pw] w fun e w'=>∃(c:fI)(ar:Option bG)(bs:Nat)(o:Nat->Prop),e=E (aq c.pk)/\(di (dZ c (S.s.j0 a)) c.bs (M0 ar (L S.r) bs)).J o (h9,S.q) w'/\aC w' 0 103 2 (M0 ar (L S.r) bs) (L S.r) (ev S.r)/\(∀b,Z b=P (Value.slice ar (L S.r) bs)->¬o b/\I (M2 w)<=b)/\(∀b,o b->a4 b\/I (M2 w)<=b)/\C (I (M2 w)) w w':=by
 have c8:=@run_makeMap Ng;obtain⟨c0,_,c2,_,aF,_⟩:=kt hw;have am:=(lv hw).1;have n1:=am.hN';have cD:=am.hO;have cE:=am.hg;have n4:=am.hy;have bt:=hide (c9.start n1 cD n4 cE)
 have N:aA ((es a).J a4 S.s w/\At w a.p a.q a.N a.O S.s.y S.s.g S.s.ws):=⟨hw,am⟩
 have cf:=lt_of_some hs.blk;have ba:C (I (M2 w)) w (bj w (.map #[] 0)):=(aH _ w).alloc b8 _;have cF:=z5 (bj w (.map #[] 0)) a.sd a0 a1 k0 k1 S.r S.q ⟨(ba.block _ cf).trans hs.blk,cM hs.r0 (fun b e=>ba.block b (cv hs.r0 b e).2),cM hs.q0 (fun b e=>ba.block b (cv hs.q0 b e).2)⟩ h0 ce;have cG:aA (Mp (bj w (.map #[] 0)) (I (M2 w)) [] (fun _=>-1)):=⟨_,World.ownsMap_made w Ng 3 (plainElem (H:=Unit) Ng 3),fun _=>rfl,fun a ha=>by simp at ha⟩
 clear hw hs am ba cf h0 ce;go_enter func75,ntmps75;go_wp2_with fail;refine cF.mono ?_;rintro e w1 ⟨ps,l,m,b1,W,rfl,cH,v,g0,g1,cI,bx⟩
 have cJ:=bx.size;simp only [World.size_alloc] at cJ cH g0 g1;have bb:aA (f7 a S w (I (M2 w1)) (I (M2 w)) ps l m b1 W (M0 M9 0 0) (M0 M9 0 0) [] (bj w1 (M5 #[bJ (Z ⟨a.pw,0,M9⟩),M0 M9 0 0,M0 M9 0 0,.map (Z (I (M2 w))),bJ (Z ⟨ps,0,M9⟩),M0 M9 0 0,M0 M9 0 0] 140))/\I (M2 (bj w1 (M5 #[bJ (Z ⟨a.pw,0,M9⟩),M0 M9 0 0,M0 M9 0 0,.map (Z (I (M2 w))),bJ (Z ⟨ps,0,M9⟩),M0 M9 0 0,M0 M9 0 0] 140)))=I (M2 w1)+1):=by
  have aR:=aw w1 (M5 #[bJ (Z ⟨a.pw,0,M9⟩),M0 M9 0 0,M0 M9 0 0,.map (Z (I (M2 w))),bJ (Z ⟨ps,0,M9⟩),M0 M9 0 0,M0 M9 0 0] 140)
  have cK:=((aH _ w).alloc b8 (.map #[] 0)).trans (bx.mono ac)
  refine⟨{bl:=cK.trans (aR.mono aa),cb:=aP _ _,sd:=⟨(aR.block _ (lt_of_some v.blk)).trans v.blk,cM v.r0 (fun b e=>aR.block b (cv v.r0 b e).2),cM v.q0 (fun b e=>aR.block b (cv v.q0 b e).2)⟩,mp:=(cG.o.same (bx.block _ ac)).same (aR.block _ aa),kV:=rfl,jZ:=aa,pp:=lt_of_some v.blk,l0:=fun k e=>⟨?_,(cv v.r0 k e).2⟩,l1:=fun k e=>⟨?_,(cv v.q0 k e).2⟩,ln:=cI},ac⟩
  ·cases hb:l with
   |none=>rw[hb] at e;simp[Value.ownBlock] at e
   |some z=>
    rw[hb] at e;have cL:k=z.block:=by simpa[Value.ownBlock] using e
    have:=g0 z hb;omega
  ·cases hb:b1 with
   |none=>rw[hb] at e;simp[Value.ownBlock] at e
   |some z=>
    rw[hb] at e;have cL:k=z.block:=by simpa[Value.ownBlock] using e
    have:=g1 z hb;omega
 have an:=(bb.o.1.bl.cell (p:=av a.pw 0) aF).trans c0;have i:=ny _ (N.o.2.below bb.o.1.bl b8)
 go_wp2_with fail;refine i.mono ?_;rintro e ch ⟨rfl,ci⟩
 have bd:aA (f7 a S w (I (M2 w1)) (I (M2 w)) ps l m b1 W (M0 M9 0 0) (M0 M9 0 0) [] ch/\I (M2 w1)+1<=I (M2 ch)):=⟨bb.o.1.below ci,by have:=ci.size;have:=bb.o.2;omega⟩
 have an:=(bd.o.1.bl.cell (p:=av a.pw 0) aF).trans c0;have i:=lq _ (N.o.2.below bd.o.1.bl b8)
 go_wp2_with fail;refine i.mono ?_;rintro e cj ⟨rfl,ck⟩
 have aV:aA (f7 a S w (I (M2 w1)) (I (M2 w)) ps l m b1 W (M0 M9 0 0) (M0 M9 0 0) [] cj/\I (M2 w1)+1<=I (M2 cj)):=⟨bd.o.1.below ck,by have:=ck.size;have:=bd.o.2;omega⟩
 have an:=(aV.o.1.bl.cell (p:=av a.pw 0) aF).trans c0;have i:=Hz _ (N.o.2.below aV.o.1.bl b8)
 go_wp2_with fail;refine i.mono ?_;rintro e cN ⟨v1,v2,rfl,b0,b2,cO,cP⟩
 obtain⟨y1,m1,rfl⟩:=eZ b0;obtain⟨d,g,rfl⟩:=eZ b2;have B:=ja (aV.o.1.below cP) (fq b0 (fun b e=>aU aV.o.2 (cv b0 b e).1)) (fq b2 (fun b e=>aU aV.o.2 (cv b2 b e).1)) cO;have be:aA (L (eN a.N S.s.y S.s.g S.s.ws)<=2000/\L (dM a.N S.s.y S.s.g S.s.ws)<=2000/\(∀x∈eN a.N S.s.y S.s.g S.s.ws,0<=x/\x<=2000)/\∀x∈dM a.N S.s.y S.s.g S.s.ws,0<=x/\x<=2000):=⟨je _ _,je _ _,fun x s=>by have:=oG x s;omega,fun x s=>by have:=qV x s;omega⟩
 have cl:I (M2 w1)<I (M2 w1)+1/\a.pw<I (M2 w1)+1/\a.p<I (M2 w1)+1/\a.q<I (M2 w1)+1:=by have q1:=N.o.2.fj;have bg:=N.o.2.fp;omega
 obtain⟨u0,b3,b4,b5,ao,b6⟩:=B.o.1.cells;have an:=(B.o.1.bl.cell (p:=av a.pw 0) aF).trans c0;have ca:=ao 1;have i:=z4 cN (N.o.2.below B.o.1.bl b8) u0 an (eN a.N S.s.y S.s.g S.s.ws) y1 m1 (I (M2 w1)+1) (0+S.s.y) (by have:=be.o.1;omega) (fun x s=>by have:=be.o.2.2.1 x s;omega) B.o.2.1 cl;rw[MK] at i;have cQ:aA (eF (fun x=>decide ((S.s.y:Int)<=x+pf (ld a.N S.s.y S.s.g S.s.ws x))) (eN a.N S.s.y S.s.g S.s.ws)=(S.s.j0 a).Y):=rfl;rw[cQ.o] at i;go_wp2_with fail;refine i.mono ?_;rintro r F ⟨rfl,cR,cm⟩
 have cS:∀b,Z b=P (Value.slice y1 (L (eN a.N S.s.y S.s.g S.s.ws)) m1)->I (M2 w1)<b:=fun b e=>(cv B.o.2.1 b e).1;have ad:aA (f7 a S w (I (M2 w1)) (I (M2 w)) ps l m b1 W (M0 M9 0 0) (M0 M9 0 0) [] F/\aC F (I (M2 w1)+1) 3 1 (M0 y1 (L (S.s.j0 a).Y) m1) (L (S.s.j0 a).Y) ((S.s.j0 a).Y.map (Value.int M4))/\aC F (I (M2 w1)+1) 3 1 (M0 d (L (dM a.N S.s.y S.s.g S.s.ws)) g) (L (dM a.N S.s.y S.s.g S.s.ws)) ((dM a.N S.s.y S.s.g S.s.ws).map (Value.int M4))/\(∀n n' b,Z b=P (Value.slice y1 n m1)->Z b≠P (Value.slice d n' g))):=by
  refine⟨B.o.1.fr cm cS,cR,iF B.o.2.2.1 cm (fun b e ag=>B.o.2.2.2 b ag e),fun n n' b e=>?_⟩
  have q:=B.o.2.2.2 b (by
   cases y1 with
   |none=>simp[Value.ownBlock] at e
   |some z=>simpa[Value.ownBlock] using e)
  cases d with
  |none=>simp[Value.ownBlock]
  |some z=>simpa[Value.ownBlock] using q
 obtain⟨u0,b3,b4,b5,ao,b6⟩:=ad.o.1.cells;have ca:=ao 1;have ai:aA (f7 a S w (I (M2 w1)) (I (M2 w)) ps l m b1 W (M0 y1 (L (S.s.j0 a).Y) m1) (M0 M9 0 0) [] (ay F ⟨I (M2 w1),1,M9⟩ (M0 y1 (L (S.s.j0 a).Y) m1))/\aC (ay F ⟨I (M2 w1),1,M9⟩ (M0 y1 (L (S.s.j0 a).Y) m1)) (I (M2 w1)+1) 3 1 (M0 y1 (L (S.s.j0 a).Y) m1) (L (S.s.j0 a).Y) ((S.s.j0 a).Y.map (Value.int M4))/\aC (ay F ⟨I (M2 w1),1,M9⟩ (M0 y1 (L (S.s.j0 a).Y) m1)) (I (M2 w1)+1) 3 1 (M0 d (L (dM a.N S.s.y S.s.g S.s.ws)) g) (L (dM a.N S.s.y S.s.g S.s.ws)) ((dM a.N S.s.y S.s.g S.s.ws).map (Value.int M4))):=by have f:Fr (fun b=>b=I (M2 w1)) F (ay F ⟨I (M2 w1),1,M9⟩ (M0 y1 (L (S.s.j0 a).Y) m1)):=(Fr.refl _ F).set _ 1 _ rfl;exact⟨ad.o.1.set1 _,iF ad.o.2.1 f (fun b e ag=>by have:=(cv ad.o.2.1 b e).1;omega),iF ad.o.2.2.1 f (fun b e ag=>by have:=(cv ad.o.2.2.1 b e).1;omega)⟩
 have cn:=hide ad.o.2.2.2;obtain⟨s0,s1,s2,bi,s4,s5⟩:=ai.o.1.cells;have an:=(ai.o.1.bl.cell (p:=av a.pw 0) aF).trans c0;have s6:=s4 2;have i:=z4 _ (N.o.2.below ai.o.1.bl b8) s0 an (dM a.N S.s.y S.s.g S.s.ws) d g (I (M2 w1)+1) ((a.N:Int)+S.s.g) (by have:=be.o.2.1;omega) (fun x s=>by have:=be.o.2.2.2 x s;omega) ai.o.2.2 cl;have cT:aA (eF (fun x=>decide ((a.N:Int)+S.s.g<=x+pf (ld a.N S.s.y S.s.g S.s.ws x))) (dM a.N S.s.y S.s.g S.s.ws)=(S.s.j0 a).G):=rfl;rw[cT.o] at i;go_wp2_with fail;refine i.mono ?_;rintro r ap ⟨rfl,cU,co⟩
 have cV:∀b,Z b=P (Value.slice d (L (dM a.N S.s.y S.s.g S.s.ws)) g)->I (M2 w1)<b:=fun b e=>(cv ai.o.2.2 b e).1;have al:=g_ (ai.o.1.fr co cV) (iF ai.o.2.1 co (fun b e ag=>cn.o _ _ b e ag)) cU;obtain⟨u0,b3,b4,b5,ao,b6⟩:=al.o.1.cells;have ca:=ao 2;have t:aA (f7 a S w (I (M2 w1)) (I (M2 w)) ps l m b1 W (M0 y1 (L (S.s.j0 a).Y) m1) (M0 d (L (S.s.j0 a).G) g) [] (ay ap ⟨I (M2 w1),2,M9⟩ (M0 d (L (S.s.j0 a).G) g))/\aC (ay ap ⟨I (M2 w1),2,M9⟩ (M0 d (L (S.s.j0 a).G) g)) (I (M2 w1)+1) 3 1 (M0 y1 (L (S.s.j0 a).Y) m1) (L (S.s.j0 a).Y) ((S.s.j0 a).Y.map (Value.int M4))/\aC (ay ap ⟨I (M2 w1),2,M9⟩ (M0 d (L (S.s.j0 a).G) g)) (I (M2 w1)+1) 3 1 (M0 d (L (S.s.j0 a).G) g) (L (S.s.j0 a).G) ((S.s.j0 a).G.map (Value.int M4))):=by have f:Fr (fun b=>b=I (M2 w1)) ap (ay ap ⟨I (M2 w1),2,M9⟩ (M0 d (L (S.s.j0 a).G) g)):=(Fr.refl _ ap).set _ 2 _ rfl;exact⟨al.o.1.set2 _,iF al.o.2.1 f (fun b e ag=>by have:=(cv al.o.2.1 b e).1;omega),iF al.o.2.2 f (fun b e ag=>by have:=(cv al.o.2.2 b e).1;omega)⟩
 clear al u0 b3 b5 ao;obtain⟨s0,s1,s2,bi,s4,s5⟩:=t.o.1.cells;have bn:aA ((S.s.j0 a).T=(S.s.j0 a).G++(S.s.j0 a).Y/\L (S.s.j0 a).T=L (S.s.j0 a).G+L (S.s.j0 a).Y/\_/\_):=⟨rfl,by unfold cg.T;rw[a7],bt.o.tl,bt.o.ps⟩
 have cp:=bn.o.2.1;have da:=bn.o.2.2.1;have i:=HG _ (I (M2 w1)) (S.s.j0 a).G (S.s.j0 a).Y d y1 g m1 s1 s2 (fq t.o.2.1 (fun _ _=>a5 _)) (fq t.o.2.2 (fun _ _=>a5 _)) aa;rw[<-cp,<-bn.o.1] at i;clear s0 s1 s2 bi s4 cp;go_wp2_with fail;refine i.mono ?_;clear i s5 b4 b6 ca;rintro e a2 ⟨cW,cX,rfl,cc,bo⟩
 have ab:aA (_/\_/\aC a2 (I (M2 w1)+1) 3 1 (M0 d (L (S.s.j0 a).G) g) (L (S.s.j0 a).G) ((S.s.j0 a).G.map (Value.int M4))/\aC a2 (I (M2 w1)+1) 3 1 (M0 cW (L (S.s.j0 a).T) cX) (L (S.s.j0 a).T) ((S.s.j0 a).T.map (Value.int M4))):=⟨t.o.1.below bo,cM t.o.2.1 (fun b e=>bo.block b (cv t.o.2.1 b e).2),cM t.o.2.2 (fun b e=>bo.block b (cv t.o.2.2 b e).2),fq cc (fun b e=>by have:=(cv cc b e).1;have q:=t.o.1.cells.2.2.2.2.2;omega)⟩
 clear cc bo t;go_wp2_with fail
 go_loopw [66] (fun iv wr=>∃j:Nat,j<=L (S.s.j0 a).T/\iv=ak j/\aA (f7 a S w (I (M2 w1)) (I (M2 w)) ps l m b1 W (M0 y1 (L (S.s.j0 a).Y) m1) (M0 d (L (S.s.j0 a).G) g) ((S.s.j0 a).T.take j) wr/\Fr (fun b=>b=I (M2 w)) a2 wr)) (fun iv _=>L (S.s.j0 a).T-M (intOf iv))
 case atStart=>exact⟨0,a5 _,rfl,ab.o.1,Fr.refl _ _⟩
 ·
   obtain⟨j,db,rfl,u⟩:=hrel;by_cases bp:j<L (S.s.j0 a).T
   ·obtain⟨a3,cY,cq,cZ,hc⟩:=hZ ab.o.2.2.2 aa;have c1:I (M2 w1)<a3/\a3<I (M2 a2):=by
     have:=cv ab.o.2.2.2 a3 (by rw[cq];rfl)
     omega
    have cr:=(aQ (a:=⟨a3,cY+j,M9⟩) (u.o.2.block a3 c1.2 (fun e=>by have:=u.o.1.jZ;have:=u.o.1.pp;omega))).trans (hc j bp)
    have hm:X (S.s.j0 a).T j 0∈(S.s.j0 a).T:=by rw[aL,aN bp];exact a9 bp
    have s:=bn.o.2.2.2 _ hm;have cs:=hide (g9 _ j bp 0)
    generalize X (S.s.j0 a).T j 0=x at cr s cs;obtain⟨D,o1,ct,cu⟩:=u.o.1.mp;obtain⟨s0,s1,s2,bi,s4,s5⟩:=u.o.1.cells;have cx:=jL (a:=x) s.1 aa;have hv:=nG (-1) ae;have ht:L ((S.s.j0 a).T.take j)=j:=by rw[bz];omega
    have br:=g_ o1 ct cu;have j0:(0:Int)<=(j:Int):=aa;have dc:(j:Int)<(L (S.s.j0 a).T:Int):=aa;clear ct cu hc cZ hm s0 s1 s2 s4;subst cq;go_wp2_with (first
     |(at_mapUpdate;refine wpList_mapUpdate_own _ rfl _ _ _ 127 rfl 3 3 jg underlying127 (plainElem (H:=Unit) Ng 3) (I (M2 w)) (L ((S.s.j0 a).T.take j)) D rfl o1 (by unfold maxLen;omega) _ _ _ rfl rfl cx _ [] hv ?_;intro cd cy cz)
     |go_in)
    have c3:aA (f7 a S w (I (M2 w1)) (I (M2 w)) ps l m b1 W (M0 y1 (L (S.s.j0 a).Y) m1) (M0 d (L (S.s.j0 a).G) g) ((S.s.j0 a).T.take (j+1)) cd/\Fr (fun b=>b=I (M2 w)) a2 cd):=by
     have cA:Fr (fun b=>b=I (M2 w)) wr cd:=(Fr.refl _ wr).grown cz (fun b e=>aM (by cases e;rfl))
     have c4:=Mp.add (f:=fun _=>-1) br.o.1 br.o.2.1 br.o.2.2 rfl rfl cy;have cB:=u.o.1.add cA c4;rw[<-cs.o] at cB;exact⟨cB,u.o.2.trans cA (fun b e=>aM e)⟩
    clear u br cy cz o1 cr bi s5 cx hv;go_roundw;exact⟨j+1,aa,aj,c3⟩
    simp[intOf];omega
   ·obtain rfl:j=L (S.s.j0 a).T:=aa;have c5:aA (∃(o:Nat->Prop),(di (dZ ⟨I (M2 w1),I (M2 w),ps,M0 y1 (L (S.s.j0 a).Y) m1,M0 d (L (S.s.j0 a).G) g⟩ (S.s.j0 a)) ps (M0 l (L S.r) m)).J o (h9,S.q) wr/\aC wr 0 103 2 (M0 l (L S.r) m) (L S.r) (ev S.r)/\(∀b,Z b=P (Value.slice l (L S.r) m)->¬o b/\I (M2 w)<=b)/\(∀b,o b->a4 b\/I (M2 w)<=b)/\C (I (M2 w)) w wr):=by
     obtain⟨aB,cC⟩:=u.o;rw[bk] at aB;have ne:∀b,I (M2 w1)+1<=b->¬b=I (M2 w):=fun b hb e=>by have:=aB.jZ;have:=aB.pp;omega
     obtain⟨o,q1,bg,q3⟩:=aB.done N.o.1 bt.o (iF ab.o.2.1 cC (fun b e=>ne b (cv ab.o.2.1 b e).1)) (iF ab.o.2.2.1 cC (fun b e=>ne b (cv ab.o.2.2.1 b e).1)) (fun b e=>cn.o _ _ b e)
     exact⟨o,q1,aB.sd.r0,bg,q3,aB.bl⟩
    clear u ab;go_wp2_with fail;go_ret;obtain⟨o,q1,bg,q3,c6,c7⟩:=c5.o;exact⟨⟨I (M2 w1),I (M2 w),ps,M0 y1 (L (S.s.j0 a).Y) m1,M0 d (L (S.s.j0 a).G) g⟩,l,m,o,rfl,q1,bg,q3,c6,c7⟩
def h_ (g:Int->Nat)(l:List Int):Nat:=(l.map g).sum
theorem uG (g:Int->Nat)(a:Int)(l:List Int):h_ g (a::l)=g a+h_ g l:=by simp[h_]
theorem HI (g:Int->Nat)(l m:List Int):h_ g (l++m)=h_ g l+h_ g m:=by simp[h_]
open Go.RowKit W
section
variable {N O y g:Nat}{ws:List Int}{Y G:List Int}
theorem nN {x i:Int}(h:eO N y g ws x i=0):tB N y g ws x=Nc/\pk (ld N y g ws (cr x))≠5/\0<=i/\i<iZ N y g (cr x) (pf (ld N y g ws (cr x))):=by
 unfold eO at h;by_cases ht:tB N y g ws x=Nc
 ·rw[aJ ht] at h;by_cases b:pk (ld N y g ws (cr x))=5
  ·rw[aJ b] at h;omega
  ·rw[aI b] at h;by_cases hi:i<0\/iZ N y g (cr x) (pf (ld N y g ws (cr x)))<=i
   ·rw[aJ hi] at h;omega
   ·exact⟨ht,b,aa,aa⟩
 ·rw[aI ht] at h;omega
theorem z7 {x:Int}(h:em N y g ws Y G)(hN:N<=256)(hy:y<=N)(hO:O<=1024)(hg:g<=O)(ht:tB N y g ws x=Nc):de x=Nc/\(cr x∈Y\/cr x∈G):=by obtain⟨b,c⟩:=h.lists hN hy hO hg;unfold tB at ht;rw[b,c] at ht;simpa using ht
theorem em.gP (h:em N y g ws Y G)(hl:L ws=N+O)(hN:N<=256)(hy:y<=N)(hO:O<=1024)(hg:g<=O)(x i z:Int):em N y g (Proofs.YtpkjkjhanlbcoaaGreat.gP N y g ws x i z) Y G:=by
 unfold Proofs.YtpkjkjhanlbcoaaGreat.gP;by_cases h0:eO N y g ws x i=0
 ·rw[aJ h0];obtain⟨ht,_,c,b⟩:=nN h0;obtain⟨_,hv⟩:=z7 h hN hy hO hg ht;rw[h.stands hy hv] at b;split
  ·exact(h.set hl hy hg hv c b).1
  ·exact h
 ·rw[aI h0];exact h
theorem HL (x i z c:Int)(M:List Int):L (stM N y g ws x i z c M)<=L M+1:=by
 unfold stM;split
 ·unfold lZ;split
  ·exact Ex _ _
  ·omega
 ·omega
end
open Go.RowKit W pH
structure iQ (N y g:Nat)(ws Y G rs:List Int):Prop where
 full:em N y g ws Y G
 rt:∀x∈rs,de x=Nc->cr x∈Y\/cr x∈G
 fd:∀v,(v∈Y\/v∈G)->∀i,0<=i->i<pf (ld N y g ws v)->de (ld N y g ws (v+1+i))=Nc->cr (ld N y g ws (v+1+i))∈Y\/cr (ld N y g ws (v+1+i))∈G
section
variable {N O y g:Nat}{ws Y G rs:List Int}
theorem nO (n:Nat)(h:n<1000000):de (ew 3 n)=Nc/\cr (ew 3 n)=n:=by grind [oc,oe]
theorem iQ.root (h:iQ N y g ws Y G rs)(k:Nat)(x:Int)(b:de x=Nc->cr x∈Y\/cr x∈G):iQ N y g ws Y G (rs.set k x):=
 ⟨h.full,fun z hz=>by grind [rt],h.fd⟩
theorem iQ.at (h:iQ N y g ws Y G rs)(k:Nat)(hk:k<L rs)(ha:de (X rs k 0)=Nc):cr (X rs k 0)∈Y\/cr (X rs k 0)∈G:=
 h.rt _ (by simp_all) ha
theorem nP (h:em N y g ws Y G){v i:Int}(hv:v∈Y)(b:0<=i)(c:i<pf (ld N y g ws v)):0<=v+1+i/\v+1+i<y:=by have d:=h.ty.mem v hv;omega
theorem nQ (h:em N y g ws Y G){v i:Int}(hv:v∈G)(b:0<=i)(c:i<pf (ld N y g ws v)):(N:Int)<=v+1+i/\v+1+i<(N:Int)+g:=by have d:=h.eH.mem v hv;omega
theorem kW (h:em N y g ws Y G){v i:Int}(hv:v∈Y\/v∈G)(b:0<=i)(c:i<pf (ld N y g ws v)):dw N y g (v+1+i)=Nc:=by grind [nP,jf,nQ,ih]
theorem iQ.make (h:iQ N y g ws Y G rs)(hl:L ws=N+O){k f:Int}(hm:jd N y k f=Nc):iQ N (jz N y k f) g (ge N y k f ws) (Y++[(y:Int)]) G rs:=by
 have e:=h.full.make hl hm;obtain⟨j,q⟩:=pF hm;have s:=jo k f j;have m:jz N y k f=y+1+M f:=by grind [jz]
 have n:ge N y k f ws=fZ ws y (hw k f) (M f):=by grind [ge]
 have o:y+M f<L ws:=aa;rw[m,n] at e⊢;have mem:∀{z:Int},(z∈Y\/z∈G)->(z∈Y++[(y:Int)]\/z∈G):=fun hz=>(by grind)
 refine⟨e,fun x p ha=>mem (h.rt x p ha),fun v hv i l b ha=>?_⟩
 rcases hv with hv|hv
 ·rcases bE.1 hv with hv|hv
  ·have hi:=h.full.i0 v hv;have c:ld N (y+1+M f) g (fZ ws y (hw k f) (M f)) v=ld N y g ws v:=by grind [eA,jf,kl]
   rw[c] at b;have hb:=nP h.full hv l b;have d:ld N (y+1+M f) g (fZ ws y (hw k f) (M f)) (v+1+i)=ld N y g ws (v+1+i):=by grind [eA,jf,kl]
   grind [fd]
  ·simp at hv;subst hv;rw[(x7 _ _ o),(qx k f j).2.1] at b;have d:ld N (y+1+M f) g (fZ ws y (hw k f) (M f)) ((y:Int)+1+i)=2:=by grind [eA,jf,kl]
   rw[d] at ha;exact absurd ha ae
 ·have hi:=h.full.io v hv;have c:ld N (y+1+M f) g (fZ ws y (hw k f) (M f)) v=ld N y g ws v:=by grind [eA,ih,kl]
  rw[c] at b;have hb:=nQ h.full hv l b;have d:ld N (y+1+M f) g (fZ ws y (hw k f) (M f)) (v+1+i)=ld N y g ws (v+1+i):=by grind [eA,ih,kl]
  grind [fd]
theorem iQ.set (h:iQ N y g ws Y G rs)(hl:L ws=N+O)(hy:y<=N)(hg:g<=O){v i z:Int}(hv:v∈Y\/v∈G)(b:0<=i)(c:i<pf (ld N y g ws v))(hz:de z=Nc->cr z∈Y\/cr z∈G):iQ N y g (ws.set (M (v+1+i)) z) Y G rs:=by
 obtain⟨d,hk⟩:=h.full.set hl hy hg hv b c;have hb:=jV (kW h.full hv b c) hy hg;refine⟨d,h.rt,fun u e j j0 f ha=>?_⟩
 grind [fd,ld]
theorem iQ.tb (h:iQ N y g ws Y G rs)(hN:N<=256)(hy:y<=N)(hO:O<=1024)(hg:g<=O)(k:Nat)(hk:k<L rs):tB N y g ws (X rs k 0)=de (X rs k 0):=by
 obtain⟨b,c⟩:=h.full.lists hN hy hO hg;unfold tB;rw[b,c];cases ha:de _
 ·rfl
 ·have:=h.at k hk ha
  grind
end
open Go.RowKit W Kp cq pH
structure C0 where
 g:Nat
 ws:List Int
 G:List Int
def ck.l0 (k:ck)(z:C0)(a:Int):Int:=Proofs.YtpkjkjhanlbcoaaGreat.ld k.N k.y z.g z.ws a
def ck.or (k:ck)(z:C0)(s:ct)(a b:Int):Prop:=(a=b/\b∈z.G)\/(a∈k.T/\s.f a=b/\b≠-1)
def ck.ml (k:ck)(s:ct)(b x:Int):Prop:=x=b\/(k.cQ b=Nc/\s.f (cr b)≠-1/\x=ew 3 (s.f (cr b)))
structure dJ (k:ck)(z:C0)(s:ct)(H:List Int):Prop where
 ci:CI k s
 rE:z.g<=s.g
 full:em k.N k.y s.g s.ws k.T (z.G++H)
 lx:∀b∈z.G,b<(k.N:Int)+z.g
 nR:∀b,0<=b->b<(k.y:Int)->k.ld s b=k.l0 z b
 fh:∀a∈k.T,s.f a≠-1->s.f a∈H
 inj:∀a∈k.T,∀b∈k.T,s.f a≠-1->s.f a=s.f b->a=b
 gG:∀b∈H,∃a∈k.T,s.f a=b
 hlo:∀b∈H,(k.N:Int)+z.g<=b
 hd:∀a b,k.or z s a b->k.ld s b=k.l0 z a
 fd:∀a b,k.or z s a b->∀i,0<=i->i<pf (k.l0 z a)->k.ml s (k.l0 z (a+1+i)) (k.ld s (b+1+i))
structure dd (k:ck)(s t:ct):Prop where
 f:∀a,s.f a≠-1->t.f a=s.f a
 g:s.g<=t.g
 cl:∀b,(k.N:Int)<=b->b<(k.N:Int)+s.g->k.cQ (k.ld s b)=Nb->k.cQ (k.ld t b)=Nb
section
variable {k:ck}{z:C0}{s t u:ct}{H:List Int}
theorem dd.refl (k:ck)(s:ct):dd k s s:=⟨fun _ _=>rfl,aG _,fun _ _ _ h=>h⟩
theorem dd.trans (h:dd k s t)(j:dd k t u):dd k s u:=
 ⟨fun a ha=>(j.f a (by grind [f])).trans (h.f a ha),aU h.g j.g,fun b c d e=>j.cl b c (by have:=h.g;omega) (by grind [cl])⟩
theorem dd.or (h:dd k s t){a b:Int}(ho:k.or z s a b):k.or z t a b:=by
 rcases ho with ho|⟨c,d,e⟩
 ·exact aM ho
 ·exact aK ⟨c,(h.f a aa).trans d,e⟩
theorem dd.ml (h:dd k s t){c x:Int}(ho:k.ml s c x):k.ml t c x:=by
 rcases ho with ho|⟨d,b,e⟩
 ·exact aM ho
 ·exact aK ⟨d,(h.f _ b▸b),(h.f _ b▸e)⟩
theorem dJ.mem (h:dJ k z s H){a b:Int}(ho:k.or z s a b):b∈z.G++H:=by
 rcases ho with⟨_,hb⟩|⟨c,d,e⟩
 ·grind
 grind [fh]
theorem dJ.from (h:dJ k z s H){b:Int}(hb:b∈z.G++H):∃a,k.or z s a b:=by
 rcases bE.1 hb with hb|hb
 ·exact⟨b,aM ⟨rfl,hb⟩⟩
 ·obtain⟨a,ha,e⟩:=h.gG b hb;have:=h.hlo b hb;exact⟨a,aK ⟨ha,e,aa⟩⟩
theorem dJ.bd (h:dJ k z s H){b:Int}(hb:b∈z.G++H):(k.N:Int)<=b/\b+(1+pf (k.ld s b))<=(k.N:Int)+s.g/\pc (k.ld s b)=0:=h.full.eH.mem b hb
theorem bq {α:Type _}{b:α}(«as»:List α){bs:List α}:b ∈ bs -> b ∈ «as» ++ bs:=by intros;apply List.mem_append_right<;>assumption
theorem dJ.jD (h:dJ k z s H){b:Int}(hb:b∈H):(k.N:Int)<=b/\b<(k.N:Int)+s.g:=by
 have c:=h.bd (bq _ hb)
 have:=dv (k.ld s b)
 omega
theorem CI.z8 (h:CI k s){a:Int}(ha:(k.N:Int)<=a):a∉k.T:=fun c=>by
 have b:=h.tZ c
 grind [hy]
theorem nT (h:CI k s){n:Int}(h0:(k.N:Int)<=n)(b:n<1000000):k.cQ (ew 3 n)=Nb:=by grind [oc,oe,CI.z8,ck.cQ]
theorem dJ.cp (h:dJ k z s H){a:Int}(ha:a∈k.T)(o:s.f a=-1):dJ k z (k.cp s a) (H++[((k.N+s.g:Nat):Int)])/\dd k s (k.cp s a)/\(k.cp s a).f a=((k.N+s.g:Nat):Int):=by
 have ci:=h.ci;have hc:=ci.iY ha o;obtain⟨p,B,t3⟩:=ci.th a ha;have hp:=dv (k.ld s a)
 have hz:=h.rE;have hl:=ck.t4 ci.len ci.hy ci.hg p t3 hc;obtain⟨u,_⟩:=ci.cp ha o;obtain⟨v,F⟩:=h.full.copy ci.len ci.hy ci.hg hc (by grind)
 have N:(k.cp s a).f=hG s.f a ((k.N+s.g:Nat):Int):=by rw[ck.oE hc]
 have S:(k.cp s a).g=s.g+(1+M (pf (k.ld s a))):=by rw[ck.oE hc]
 have d:∀b,b≠a->(k.cp s a).f b=s.f b:=fun b hb=>by simp_all [hG]
 have n:(k.cp s a).f a=((k.N+s.g:Nat):Int):=by simp_all [hG]
 have lo:∀b,b<(k.N:Int)+s.g->k.ld (k.cp s a) b=k.ld s b:=fun b hb=>by grind
 have j6:dd k s (k.cp s a):=⟨fun b hb=>(by grind),aa,fun b f g W=>(by grind)⟩
 have q:∀c b,k.or z (k.cp s a) c b->k.or z s c b\/(c=a/\b=((k.N+s.g:Nat):Int)):=fun c b ho=>by
  rcases ho with ho|⟨o1,t,w⟩
  ·exact aM (aM ho)
  ·by_cases e:c=a
   ·grind
   ·rw[d c e] at t;exact aM (aK ⟨o1,t,w⟩)
 refine⟨⟨u,aa,by rw[<-bw];exact v,h.lx,fun b h0 f=>?_,fun c l f=>?_,fun c l b hb f g=>?_,fun b hb=>?_,fun b hb=>?_,fun c b ho=>?_,fun c b ho i ab x=>?_⟩,j6,n⟩
 ·grind [CI.hy,nR]
 ·grind [fh]
 ·by_cases j:c=a
  ·by_cases m:b=a
   ·omega
   ·rw[j,n,d b m] at g;have:=h.jD (h.fh b hb aa)
    omega
  ·by_cases m:b=a
   ·rw[m,n,d c j] at g;rw[d c j] at f;have:=h.jD (h.fh c l f)
    omega
   ·rw[d c j,d b m] at g;rw[d c j] at f;exact h.inj c l b hb f g
 ·rcases bE.1 hb with hb|hb
  ·obtain⟨c,l,e⟩:=h.gG b hb;have hn:s.f c≠-1:=by have:=h.jD hb;omega
   grind
  grind
 ·rcases bE.1 hb with hb|hb
  ·exact h.hlo b hb
  grind
 ·rcases q c b ho with ho|⟨rfl,rfl⟩
  ·have hm:=h.bd (h.mem ho)
   rw[lo b (by have:=dv (k.ld s b);omega)]
   grind [hd]
  grind [nR]
 ·rcases q c b ho with ho|⟨rfl,rfl⟩
  ·have hm:=h.bd (h.mem ho)
   grind [hd,dd.ml,fd]
  ·rw[<-(h.nR c p aa)] at x;refine aM ?_
   grind [nR]
theorem dJ.st (h:dJ k z s H){a b i x:Int}(ho:k.or z s a b)(n:0<=i)(v:i<pf (k.l0 z a))(q:k.ml s (k.l0 z (a+1+i)) x):dJ k z (k.st s (b+1+i) x) H/\k.ld (k.st s (b+1+i) x) (b+1+i)=x/\(∀c,c≠b+1+i->k.ld (k.st s (b+1+i) x) c=k.ld s c):=by
 have ci:=h.ci;have hm:=h.mem ho;have hb:=h.bd hm;have e:=h.hd a b ho;rw[e] at hb;have hi:dw k.N k.y s.g (b+1+i)=Nc:=ih aa aa;have hl:=ck.oD ci.len ci.hy ci.hg (b+1+i) x;have same:k.ld (k.st s (b+1+i) x) (b+1+i)=x:=by simp_all
 have df:∀c,c≠b+1+i->k.ld (k.st s (b+1+i) x) c=k.ld s c:=fun c hc=>by simp_all
 have ew:k.st s (b+1+i) x={s with ws:=s.ws.set (M (b+1+i)) x}:=by grind [ck.st]
 have ap:∀c d,k.or z s c d->∀j,0<=j->j<pf (k.l0 z c)->d+1+j=b+1+i->c=a/\d=b/\j=i:=fun c d f j j0 m g=>by
  have hd:=h.mem f;have o:d=b:=by
   rcases Int.lt_trichotomy d b with l|l|l
   ·have:=h.full.eH.apart d hd b hm l;have this:d+(1+pf (k.ld s d))<=b:=this
    grind [hd]
   ·omega
   ·have:=h.full.eH.apart b hm d hd l;have this:b+(1+pf (k.ld s b))<=d:=this
    grind
  refine⟨?_,o,aa⟩
  rw[o] at f;rcases f with⟨c1,c2⟩|⟨c1,c2,c3⟩<;>rcases ho with⟨o1,p⟩|⟨o1,p,w⟩
  ·omega
  ·have t:=h.hlo b (by grind [fh])
   have u:=h.lx b c2;omega
  ·have t:=h.hlo b (by grind [fh])
   have u:=h.lx b p;omega
  ·exact h.inj c c1 a o1 aa aa
 have fl:em k.N k.y (k.st s (b+1+i) x).g (k.st s (b+1+i) x).ws k.T (z.G++H):=(ew▸(h.full.set ci.len ci.hy ci.hg (by grind) n (by show i<pf (k.ld s b);grind)).1)
 refine⟨⟨ci.st aa x,h.rE,fl,h.lx,fun c h0 B=>?_,h.fh,h.inj,h.gG,h.hlo,fun c d f=>?_,fun c d f j j0 m=>?_⟩,same,df⟩
 ·grind [CI.hy,nR]
 ·have f:=f;rw[df d (fun g=>?_)]
  ·exact h.hd c d f
  ·exact h.full.eH.field hm n (by show i<pf (k.ld s b);grind) (g▸h.mem f)
 ·have f:=f;by_cases g:d+1+j=b+1+i
  ·obtain⟨rfl,rfl,rfl⟩:=ap c d f j j0 m g;rw[same];exact q
  ·rw[df _ g];exact h.fd c d f j j0 m
theorem dd.st (ci:CI k s){a x:Int}(c:k.cQ x=Nb):dd k s (k.st s a x):=
 ⟨fun _ _=>rfl,aG _,fun b _ _ d=>by grind [ck.oD,CI.len,CI.hy,CI.hg]⟩
theorem dJ.br (h:dJ k z s H)(x:Int):∃d,dJ k z (k.br s x).2 d/\dd k s (k.br s x).2/\k.cQ (k.br s x).1=Nb/\(∃i,d=H++i)/\(∀b,k.ml s b x->k.ml (k.br s x).2 b (k.br s x).1)/\(k.cQ x=Nc->(k.br s x).2.f (cr x)≠-1)/\(k.br s x).1=k.nw (k.br s x).2 x:=by
 have ci:=h.ci;have n1:=ci.hN';have o:=ci.hO;have key:∀(t:ct)(f:List Int),dJ k z t f->dd k s t->(k.cQ x=Nc->t.f (cr x)≠-1)->k.cQ (k.nw t x)=Nb/\∀b,k.ml s b x->k.ml t b (k.nw t x):=fun t f ht j6 hy=>by
  by_cases c:k.cQ x=Nc
  ·have hn:=hy c;have j:cr x∈k.T:=by grind [ck.cQ]
   have e:k.nw t x=ew 3 (t.f (cr x)):=by grind [ck.nw]
   have hb:=ht.jD (ht.fh _ j hn)
   have hg:=ht.ci.hg;rw[e];refine⟨nT ht.ci hb.1 aa,fun b hm=>?_⟩
   rcases hm with rfl|⟨m1,g,l⟩
   ·exact aK ⟨c,hn,rfl⟩
   ·exfalso;have m:cr b∈k.T:=by grind [ck.cQ]
    have p:=h.jD (h.fh _ m g)
    have q:=ci.hg
    grind [nT]
  grind [dd.ml,ck.nw]
 unfold ck.br;by_cases c:k.ls s x=Nc
 ·obtain⟨c1,c2,c3⟩:=ck.nE c;obtain⟨m1,g,l⟩:=h.cp c2 c3
  grind
 ·have hn:k.cQ x=Nc->s.f (cr x)≠-1:=fun hy e=>(by grind [ck.ls])
  obtain⟨k1,n⟩:=key s H h (dd.refl _ _) hn;rw[aI c];exact⟨H,h,dd.refl _ _,k1,⟨[],ac⟩,n,hn,rfl⟩
theorem dJ.kf (h:dJ k z s H){a b i:Int}(ho:k.or z s a b)(d:0<=i)(e:i<pf (k.l0 z a)):∃c,dJ k z (k.kf s (b+1+i)) c/\dd k s (k.kf s (b+1+i))/\k.cQ (k.ld (k.kf s (b+1+i)) (b+1+i))=Nb/\∃f,c=H++f:=by
 obtain⟨c,m1,g,l,m,j,_,_⟩:=h.br _;obtain⟨s1,s2,n⟩:=m1.st (g.or ho) d e (j _ (h.fd a b ho i d e))
 grind [dd.trans,dd.st,ci,ck.kf]
theorem dJ.gQ (h:dJ k z s H){a b:Int}(ho:k.or z s a b):∀n:Nat,(n:Int)<=pf (k.l0 z a)->∃f,dJ k z (k.gQ s b n) f/\dd k s (k.gQ s b n)/\(∀i:Nat,i<n->k.cQ (k.ld (k.gQ s b n) (b+1+i))=Nb)/\∃d,f=H++d
 |0,_=>⟨H,h,dd.refl _ _,fun i hi=>aa,⟨[],ac⟩⟩
 |n+1,hn=>by
  obtain⟨m,m1,c,o,⟨d,p⟩⟩:=dJ.gQ h ho n aa;obtain⟨g,j,j2,cI,⟨l,cK⟩⟩:=m1.kf (c.or ho) (i:=n) aa aa;refine⟨g,j,c.trans j2,fun i hi=>?_,⟨d++l,by simp_all⟩⟩
  by_cases e:i=n
  ·rw[e];exact cI
  ·have hb:=m1.bd (m1.mem (c.or ho))
   rw[(m1.hd _ _ (c.or ho))] at hb;exact j2.cl _ aa aa (by grind)
theorem iR {x:Int}(h:pc x=0)(b:pk x=1\/pk x=3\/pk x=4):pf x=2:=by
 unfold pc at h;unfold pk at b;unfold pf;split at h
 ·rename_i e;rw[aJ e] at b⊢;generalize x%16=a at*;generalize x/16=f at*;unfold hc at e;rcases b with b|b|b
  ·rw[aJ b] at e;split at e
   ·assumption
   ·omega
  ·rw[aI aa,aJ b] at e;split at e
   ·assumption
   ·omega
  ·rw[aI aa,aI aa,aJ b] at e;split at e
   ·assumption
   ·omega
 ·omega
theorem z9 {x:Int}(h:pc x=0):(pk x=1\/pk x=2)\/pk x=3\/pk x=4\/(pk x=5/\pf x=0):=by
 unfold pc at h;unfold pk pf;split at h
 ·rename_i e;rw[aJ e,aJ e];have hb:=jo _ _ e;generalize x%16=a at*;generalize x/16=f at*;by_cases b:a=5
  ·right;right;right;refine⟨b,?_⟩
   unfold hc at e;rw[aI aa,aI aa,aI aa,aI aa,aJ b] at e;split at e
   ·assumption
   ·omega
  ·omega
 ·omega
theorem ly (k:ck)(s:ct)(a:Int):(k.kf s a).wk=s.wk/\(k.kf s a).ep=s.ep/\(k.kf s a).nx=s.nx/\(k.kf s a).rs=s.rs:=by unfold ck.kf ck.st ck.br;split<;>exact⟨rfl,rfl,rfl,rfl⟩
theorem oT (k:ck)(s:ct)(a:Int):∀n,(k.gQ s a n).wk=s.wk/\(k.gQ s a n).ep=s.ep/\(k.gQ s a n).nx=s.nx/\(k.gQ s a n).rs=s.rs
 |0=>⟨rfl,rfl,rfl,rfl⟩
 |n+1=>by obtain⟨b,c,d,e⟩:=oT k s a n;obtain⟨f,j2,cI,cK⟩:=ly k _ _;exact⟨f.trans b,j2.trans c,cI.trans d,cK.trans e⟩
theorem rF (k:ck)(s:ct)(a:Int):(k.lk s a).nx=s.nx/\(k.lk s a).rs=s.rs:=by
 unfold ck.lk;split
 ·exact⟨(oT _ _ _ _).2.2.1,(oT _ _ _ _).2.2.2⟩
 ·split
  ·exact⟨(ly _ _ _).2.2.1,(ly _ _ _).2.2.2⟩
  ·split<;>exact⟨rfl,rfl⟩
theorem dJ.turn (h:dJ k z s H)(wk ep rs:List Int)(nx:Int)(hw:∀a∈wk,(k.N:Int)<=a/\a<=2000)(he:∀a∈ep,(k.N:Int)<=a/\a<=2000)(h0:(k.N:Int)<=nx)(b:nx<=(k.N:Int)+k.O+13):dJ k z {s with wk:=wk,ep:=ep,rs:=rs,nx:=nx} H:=
 {
  ci:={hN:=h.ci.hN,hN':=h.ci.hN',hO:=h.ci.hO,hy:=h.ci.hy,hg:=h.ci.hg,len:=h.ci.len,th:=h.ci.th,nd:=h.ci.nd,room:=h.ci.room,iw:=h0,jW:=b,i1:=hw,iJ:=he,tl:=h.ci.tl}
  rE:=h.rE,full:=h.full,lx:=h.lx,nR:=h.nR,fh:=h.fh,inj:=h.inj,gG:=h.gG,hlo:=h.hlo,hd:=h.hd,fd:=h.fd}
theorem dd.turn (k:ck)(s:ct)(wk ep rs:List Int)(nx:Int):dd k s {s with wk:=wk,ep:=ep,rs:=rs,nx:=nx}:=⟨fun _ _=>rfl,aG _,fun _ _ _ h=>h⟩
def Lo (k:ck)(s:ct)(b:Int):Prop:=∀i,0<=i->i<pf (k.ld s b)->k.cQ (k.ld s (b+1+i))=Nb\/(pk (k.ld s b)=3/\i=0/\b∈s.wk)\/(pk (k.ld s b)=4/\b∈s.ep)
theorem dJ.lk (h:dJ k z s H){a b:Int}(ho:k.or z s a b):∃e,dJ k z (k.lk s b) e/\dd k s (k.lk s b)/\(∃t,e=H++t)/\Lo k (k.lk s b) b/\(∀c∈s.wk,c∈(k.lk s b).wk)/\∀c∈s.ep,c∈(k.lk s b).ep:=by
 have hb:=h.bd (h.mem ho)
 have hg:=h.ci.hg;have hN:=h.ci.hN';have hO:=h.ci.hO;have g:=h.hd a b ho;have F:=dv (k.ld s b)
 unfold ck.lk;by_cases c1:pk (k.ld s b)=1\/pk (k.ld s b)=2
 ·rw[aJ c1];obtain⟨e,m1,f,l,o⟩:=h.gQ ho (M (pf (k.ld s b))) (by rw[<-g];omega)
  have m:=m1.hd a b (f.or ho)
  refine⟨e,m1,f,o,fun i n j=>aM ?_,fun c hc=>by rw[(oT _ _ _ _).1];exact hc,fun c hc=>by rw[(oT _ _ _ _).2.1];exact hc⟩
  rw[m,<-g] at j;have q:=l (M i) aa;rw[Int.toNat_of_nonneg n] at q;exact q
 ·rw[aI c1];by_cases c3:pk (k.ld s b)=3
  ·rw[aJ c3];have u:=iR hb.2.2 (aK (aM c3))
   have v:=h.turn (s.wk++[b]) s.ep s.rs s.nx (fun x p=>by
    rcases bE.1 p with d|d
    ·exact h.ci.i1 x d
    ·rw[bQ] at d;omega) h.ci.iJ h.ci.iw h.ci.jW
   obtain⟨e,m1,f,l,o⟩:=v.kf (i:=1) ho aa (by rw[<-g];omega)
   have ea:b+1+1=b+2:=aa;rw[ea] at m1 f l;have m:=m1.hd a b (f.or ho)
   refine⟨e,m1,(dd.turn k s (s.wk++[b]) s.ep s.rs s.nx).trans f,o,fun i n j=>?_,fun c hc=>by rw[(ly _ _ _).1];exact bu _ hc,fun c hc=>by rw[(ly _ _ _).2.1];exact hc⟩
   rw[m,<-g,u] at j;by_cases w:i=0
   ·refine aK (aM ⟨by rw[m,<-g];exact c3,w,?_⟩)
    rw[(ly _ _ _).1];simp
   ·have B:i=1:=aa;subst B;rw[ea];exact aM l
  ·rw[aI c3];by_cases c4:pk (k.ld s b)=4
   ·rw[aJ c4];refine⟨H,h.turn s.wk _ s.rs s.nx h.ci.i1 (fun x p=>by
     rcases bE.1 p with d|d
     ·exact h.ci.iJ x d
     ·rw[bQ] at d;subst d;omega) h.ci.iw h.ci.jW,dd.turn k s s.wk _ s.rs s.nx,⟨[],ac⟩,fun i n j=>aK (aK ⟨c4,ac⟩),fun c hc=>hc,fun c hc=>bu _ hc⟩
   ·rw[aI c4];refine⟨H,h,dd.refl _ _,⟨[],ac⟩,fun i n j=>?_,fun c hc=>hc,fun c hc=>hc⟩
    have:=z9 hb.2.2;omega
theorem Lo.go {b:Int}{K:List Int}(h:Lo k s b)(hs:dJ k z s H)(ht:dJ k z t K)(p:dd k s t){a:Int}(ho:k.or z s a b)(hw:b∈s.wk->b∈t.wk)(he:b∈s.ep->b∈t.ep):Lo k t b:=by
 have e:=hs.hd a b ho;have f:=ht.hd a b (p.or ho)
 have hb:=hs.bd (hs.mem ho)
 intro i j g;rw[f,<-e] at g;rw[f,<-e];rcases h i j g with l|⟨c,d,m⟩|⟨c,d⟩
 ·exact aM (p.cl _ aa aa l)
 ·exact aK (aM ⟨c,d,hw m⟩)
 ·exact aK (aK ⟨c,he d⟩)
end
theorem z_ {g h:Int->Nat}(R:Int->Int->Prop)(i:∀a b c,R a c->R b c->a=b):∀(l T:List Int),l.Nodup->T.Nodup->(∀b∈l,∃a∈T,R b a/\g b=h a)->h_ g l<=h_ h T
 |[],T,_,_,_=>a5 _
 |b::l,T,hl,j,k=>by
  obtain⟨a,ha,r,e⟩:=k b ac;rw[Cc] at hl;have p:=pI h T a j ha;have m:=z_ R i l (T.filter (fun c=>!(c==a))) hl.2 (j.filter _) (fun c hc=>by
   obtain⟨d,hd,f,n⟩:=k c (aW _ hc)
   refine⟨d,List.mem_filter.2 ⟨hd,?_⟩,f,n⟩
   cases q:d==a
   ·rfl
   ·have o:d=a:=by simpa using q
    rw[o] at f;exact absurd (i c b a f r▸hc) hl.1)
  rw[uG];unfold h_ at m⊢;omega
theorem Aa {g:Int->Nat}{l T:List Int}(hl:l.Nodup)(c:T.Nodup)(hs:∀a∈l,a∈T):h_ g l<=h_ g T:=
 z_ (fun a b=>a=b) (fun _ _ _ d e=>d.trans e.symm) l T hl c (fun b hb=>⟨b,hs b hb,rfl,rfl⟩)
def nU (L:Int->Int)(a:Int):Nat:=1+M (pf (L a))
theorem el.sum {L:Int->Int}{hi:Int}:∀{l:List Int}{a:Int},el L hi a l->(h_ (nU L) l:Int)=hi-a
 |[],a,h=>by have h:a=hi:=h;simp[h_,h]
 |x::l,a,h=>by
  obtain⟨rfl,_,c,ht⟩:=h;have b:=el.sum ht;have hp:=dv (L x)
  rw[uG];unfold nU at b⊢;omega
theorem el.nodup {L:Int->Int}{hi:Int}:∀{l:List Int}{a:Int},el L hi a l->l.Nodup
 |[],_,_=>List.nodup_nil
 |x::l,a,h=>by
  obtain⟨rfl,_,_,ht⟩:=h;rw[Cc];refine⟨fun c=>?_,el.nodup ht⟩
  have:=(ht.mem x c).1;have hp:=dv (L x)
  omega
section
variable {N y g:Nat}{ws Y G:List Int}
theorem Ab (h:em N y g ws Y G)(hy:y<=N)(Q:List cf){a:Int}(ha:a∈Y\/a∈G)(b:pk (ld N y g ws a)≠5):(L (ft N y g ws Q a):Int)=pf (ld N y g ws a):=by
 have hp:=dv (ld N y g ws a)
 unfold ft;rw[aI b,h.stands hy ha];simp;omega
end
def Pos (z:Int->Int)(al:Int->Bool)(f:Int->Int):Int->List Int->Int->Prop
 |n,[],m=>n=m
 |n,a::l,m=>(al a=Nc->f a=n/\Pos z al f (n+(1+z a)) l m)/\(al a=Nb->f a=-1/\Pos z al f n l m)
section
variable {z:Int->Int}{al:Int->Bool}{f:Int->Int}
theorem Pos.le (hz:∀a,0<=z a):∀{l:List Int}{n m:Int},Pos z al f n l m->n<=m
 |[],n,m,h=>Int.le_of_eq h
 |a::l,n,m,h=>by
  have:=hz a;cases c:al a
  ·exact Pos.le hz (h.2 c).2
  ·have:=Pos.le hz (h.1 c).2;omega
theorem Pos.app:∀{l d:List Int}{n m:Int},Pos z al f n (l++d) m->∃n',Pos z al f n l n'/\Pos z al f n' d m
 |[],d,n,m,h=>⟨n,rfl,h⟩
 |a::l,d,n,m,h=>by
  cases c:al a
  ·obtain⟨n',e,g⟩:=Pos.app (h.2 c).2;exact⟨n',⟨fun b=>(by rw[c] at b;cases b),fun _=>⟨(h.2 c).1,e⟩⟩,g⟩
  ·obtain⟨n',e,g⟩:=Pos.app (h.1 c).2;exact⟨n',⟨fun _=>⟨(h.1 c).1,e⟩,fun b=>(by rw[c] at b;cases b)⟩,g⟩
theorem Pos.bd (hz:∀a,0<=z a):∀{l:List Int}{n m:Int},Pos z al f n l m->∀a∈l,al a=Nc->n<=f a/\f a+(1+z a)<=m
 |[],n,m,h,a,ha,_=>by cases ha
 |b::l,n,m,h,a,ha,hl=>by
  rcases bT.1 ha with e|ha
  ·rw[e] at hl⊢;obtain⟨g,d⟩:=h.1 hl;have:=d.le hz;omega
  ·have:=hz b;cases c:al b
   ·exact Pos.bd hz (h.2 c).2 a ha hl
   ·have:=Pos.bd hz (h.1 c).2 a ha hl;omega
theorem Pos.no:∀{l:List Int}{n m:Int},Pos z al f n l m->∀a∈l,al a=Nb->f a=-1
 |[],n,m,h,a,ha,_=>by cases ha
 |b::l,n,m,h,a,ha,hl=>by
  rcases bT.1 ha with e|ha
  ·rw[e] at hl⊢;exact(h.2 hl).1
  ·cases c:al b
   ·exact Pos.no (h.2 c).2 a ha hl
   ·exact Pos.no (h.1 c).2 a ha hl
theorem Pos.inj (hz:∀a,0<=z a):∀{l:List Int}{n m:Int},Pos z al f n l m->∀a∈l,∀b∈l,al a=Nc->al b=Nc->f a=f b->a=b
 |[],n,m,h,a,ha,_,_,_,_,_=>by cases ha
 |x::l,n,m,h,a,ha,b,hb,d,lb,e=>by
  have k:=hz x;rcases bT.1 ha with ea|ha
  ·rcases bT.1 hb with g|hb
   ·rw[ea,g]
   ·rw[ea] at d e;obtain⟨j,i⟩:=h.1 d;have:=i.bd hz b hb lb;omega
  ·rcases bT.1 hb with g|hb
   ·rw[g] at lb e;obtain⟨j,i⟩:=h.1 lb;have:=i.bd hz a ha d;omega
   ·cases c:al x
    ·exact Pos.inj hz (h.2 c).2 a ha b hb d lb e
    ·exact Pos.inj hz (h.1 c).2 a ha b hb d lb e
theorem Pos.uH (hz:∀a,0<=z a){L:Int->Int}:∀{l:List Int}{n m:Int},Pos z al f n l m->(∀a∈l,al a=Nc->pc (L (f a))=0/\pf (L (f a))=z a)->el L m n ((l.filter al).map f)
 |[],n,m,h,_=>by have h:=h;rw[h];exact el.done
 |a::l,n,m,h,hl=>by
  cases c:al a
  ·rw[j4 (by simp[c])];exact Pos.uH hz (h.2 c).2 (fun b hb=>hl b (aW _ hb))
  ·rw[j5 c,List.map_cons];obtain⟨g,e⟩:=h.1 c;obtain⟨q1,d⟩:=hl a ac c;rw[g] at q1 d⊢;refine el.step q1 (by rw[d];exact e.le hz) ?_;rw[d];exact Pos.uH hz e (fun b hb=>hl b (aW _ hb))
theorem Pos.sum:∀{l:List Int}{n m:Int},Pos z al f n l m->(∀a,0<=z a)->(h_ (fun a=>1+M (z a)) (l.filter al):Int)=m-n
 |[],n,m,h,_=>by have h:n=m:=h;simp[h_,h]
 |a::l,n,m,h,hz=>by
  have:=hz a;cases c:al a
  ·rw[j4 (by simp[c])];exact Pos.sum (h.2 c).2 hz
  ·rw[j5 c,uG];have:=Pos.sum (h.1 c).2 hz;omega
end
theorem pW (k:cg)(al:Int->Bool):∀(l:List Int)(t:cz×Int),l.Nodup->(∀a∈l,al a=!(t.1.f a==-1))->Pos (fun a=>pf (k.ld a)) al (k.mO t l).1.f t.2 l (k.mO t l).2/\(∀b,b∉l->(k.mO t l).1.f b=t.1.f b)/\(k.mO t l).1.td=t.1.td/\(k.mO t l).1.ep=t.1.ep
 |[],t,_,_=>⟨rfl,fun _ _=>rfl,rfl,rfl⟩
 |a::l,t,hn,ha=>by
  rw[Cc] at hn;have n:k.mO t (a::l)=k.mO (fL (fun t a=>t.1.f a) k.mN t a) l:=rfl;have o:=ha a ac;by_cases c:t.1.f a=-1
  ·have f:fL (fun t a=>t.1.f a) k.mN t a=t:=by unfold fL;rw[aJ c]
   rw[n,f];obtain⟨g,d,i,j⟩:=pW k al l t hn.2 (fun b hb=>ha b (aW _ hb))
   have ea:al a=Nb:=by rw[o,c];rfl
   exact⟨⟨fun h=>(by rw[ea] at h;cases h),fun _=>⟨by rw[d a hn.1];exact c,g⟩⟩,fun b hb=>d b (fun m=>hb (aW _ m)),i,j⟩
  ·have f:fL (fun t a=>t.1.f a) k.mN t a=k.mN t a:=by unfold fL;rw[aI c]
   rw[n,f];obtain⟨g,d,i,j⟩:=pW k al l (k.mN t a) hn.2 (fun b hb=>by
    have p:b≠a:=fun e=>hn.1 (e▸hb)
    show al b=!(hG t.1.f a t.2 b==-1)
    unfold hG;rw[aI p];exact ha b (aW _ hb))
   have ea:al a=Nc:=by rw[o,beq_false_of_ne c];rfl
   refine⟨⟨fun _=>⟨?_,g⟩,fun h=>(by rw[ea] at h;cases h)⟩,fun b hb=>?_,i,j⟩
   ·rw[d a hn.1];show hG t.1.f a t.2 a=_;unfold hG;rw[aJ rfl]
   ·rw[d b (fun m=>hb (aW _ m))];show hG t.1.f a t.2 b=_;unfold hG;rw[aI (fun e=>hb (by rw[e];simp))]
theorem MR {b:Type}{l:List b}{i:Nat}{x y:b}(h:y∈l.set i x):y∈l\/y=x:=List.mem_or_eq_of_mem_set h
end Go.Proofs.YtpkjkjhanlbcoaaGreat
