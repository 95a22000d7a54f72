import Derived.Test.YtpkjkjhanlbcoaaGreatJ11
open Array renaming getElem?_modify->bK,size->I
open Bool renaming false->MK,true->ML
open Go renaming Addr->bI,Calls->J,Value->bj,below_drewN->sQ
open Go.Ending renaming returned->MD
open Go.IntKind renaming i64->MC
open Go.Obj renaming cells->E
open Go.Proofs.Tryz renaming prog->MO
open Go.RowKit renaming Below->C
open Go.Value renaming ownBlock->P,pointer->bL,slice->My
open Go.World renaming alloc->bE,cell?->V,heap->MA,ownsRow->aC,setCell->ay
open Int renaming toNat->M,zero_add->Mh
open List renaming filter_cons_of_neg->qo,filter_cons_of_pos->rq,getD->X,length->L,mem_append->bD,mem_cons->bT,mem_singleton->bS,nodup_cons->Bi
open Option renaming map_some->bR,none->MH,some->Z
namespace Go.Proofs.YtpkjkjhanlbcoaaGreat
set_option maxRecDepth 100000
set_option maxHeartbeats 4000000
open Tryz
open Go.RowKit W Kp cq
theorem zC {P:Prop}(h:P:=by unfold dH;rw[aI c];show((k.ma t.1.1 _,t.1.2.set i ((X t.1.2 i (0,0)).1,(X t.1.2 i (0,0)).2)),ML)=_;rw[(Hb _ _ _)]):P:=h
structure fU (k:cg)(s:cz)(q:List cf):Prop where
 kn:df k (fun _=>False) s
 td:s.td=[]
 ep:∀a∈s.ep,k.cY s (k.ld (a+1))=ML
 wq:∀e∈q,k.al s e.2=ML\/k.al s e.1=MK
section
variable {k:cg}{s:cz}
theorem zD {t:cz}(l:dR k s t){x:Int}(h:k.al s x=ML):k.al t x=ML:=by unfold cg.al at h⊢;rw[l.cY (by simpa using h)];rfl
theorem Hb {b:Type}(l:List b)(i:Nat)(c:b):l.set i (X l i c)=l:=by
 by_cases h:i<L l
 ·simp_all
 ·rw[List.set_eq_of_length_le aa]
theorem df.kO:∀(l:List Nat)(t:(cz×List cf)×Bool),df k (fun _=>False) t.1.1->df k (fun _=>False) (l.foldl (dH k.al k.mp) t).1.1/\dR k t.1.1 (l.foldl (dH k.al k.mp) t).1.1/\(l.foldl (dH k.al k.mp) t).1.2=t.1.2/\
 ((l.foldl (dH k.al k.mp) t).2=MK->t.2=MK/\l.foldl (dH k.al k.mp) t=t/\∀i∈l,k.al t.1.1 (X t.1.2 i (0,0)).2=ML\/k.al t.1.1 (X t.1.2 i (0,0)).1=MK)
 |[],t,h=>⟨h,dR.refl _,rfl,fun e=>⟨e,rfl,fun i hi=>by cases hi⟩⟩
 |i::l,t,h=>by
  rw[a_];by_cases c:(k.al t.1.1 (X t.1.2 i (0,0)).2||!k.al t.1.1 (X t.1.2 i (0,0)).1)=ML
  ·have e:dH k.al k.mp t i=t:=by unfold dH;rw[aJ c]
   rw[e];obtain⟨b,d,f,g⟩:=df.kO l t h;refine⟨b,d,f,fun q=>?_⟩
   obtain⟨q1,n,q3⟩:=g q;refine⟨q1,n,fun j m=>?_⟩
   rcases bT.1 m with e|m
   ·simp_all
   ·exact q3 j m
  ·have e:dH k.al k.mp t i=((k.ma t.1.1 (X t.1.2 i (0,0)).2,t.1.2),ML):=by exact zC
   rw[e];obtain⟨m1,o,_⟩:=h.ma _;obtain⟨b,d,f,g⟩:=df.kO l ((k.ma t.1.1 _,t.1.2),ML) m1;refine⟨b,o.trans d,f,fun q=>?_⟩
   have:=(g q).1;cases this
theorem df.wa {t:cz×List cf}(h:df k (fun _=>False) t.1):df k (fun _=>False) (k.wa t).1.1/\dR k t.1 (k.wa t).1.1/\(k.wa t).1.2=t.2/\((k.wa t).2=MK->(k.wa t).1=t/\∀e∈t.2,k.al t.1 e.2=ML\/k.al t.1 e.1=MK):=by
 obtain⟨b,c,d,f⟩:=df.kO _ (t,MK) h;refine⟨b,c,d,fun q=>?_⟩
 obtain⟨_,g,q3⟩:=f q;refine⟨?_,fun e he=>?_⟩
 ·show(hL k.al k.mp t _).1=t;unfold hL;rw[g]
 ·obtain⟨i,hi,l⟩:=List.mem_iff_getElem.1 he;have:=q3 i (by simpa using hi)
  have j:X t.2 i (0,0)=e:=by simp_all
  rw[j] at this
  exact this
theorem df.c_:∀(n:Nat)(t:cz×List cf),df k (fun _=>False) t.1->df k (fun _=>False) (k.c_ n t).1/\dR k t.1 (k.c_ n t).1/\(k.c_ n t).2=t.2/\(k.mu t.1<n->fU k (k.c_ n t).1 (k.c_ n t).2)
 |0,t,h=>⟨h,dR.refl _,rfl,fun e=>aa⟩
 |n+1,t,h=>by
  obtain⟨l1,l2,j⟩:=h.eX;obtain⟨v1,v2⟩:=l1.kv;have m1:=(dB.eX h.fq).mu;obtain⟨u,l⟩:=dB.kv l1.fq;unfold cg.c_;by_cases c:(k.kv (k.eX t.1)).1=ML
  ·rw[aJ c];obtain⟨d,f,g,i⟩:=df.c_ n ((k.kv _).2,t.2) v1;have:=l c;exact⟨d,(l2.trans v2).trans f,g,fun e=>i (by dsimp only;omega)⟩
  ·rw[aI c];have c2:(k.kv (k.eX t.1)).1=MK:=by simpa using c
   obtain⟨s1,s2⟩:=Ha c2;rw[s1];obtain⟨w1,m,o,p⟩:=df.wa (t:=(k.eX t.1,t.2)) l1;by_cases b:(k.wa (k.eX t.1,t.2)).2=ML
   ·rw[aJ b];obtain⟨d,f,g,i⟩:=df.c_ n _ w1;have:=(dB.wa l1.fq).2.2 b;dsimp only at this
    exact⟨d,(l2.trans m).trans f,g.trans o,fun e=>i aa⟩
   ·rw[aI b];have q:(k.wa (k.eX t.1,t.2)).2=MK:=by simpa using b
    obtain⟨q1,s⟩:=p q;rw[q1];exact⟨l1,l2,rfl,fun _=>⟨l1,j,s2,s⟩⟩
theorem df.sp {t:cz×List cf}(h:df k (fun _=>False) t.1):fU k (k.sp t).1 (k.sp t).2/\dR k t.1 (k.sp t).1/\(k.sp t).2=t.2:=by obtain⟨e,b,c,d⟩:=df.c_ _ t h;exact⟨d aa,b,c⟩
theorem df.ke {t:cz×List cf}(h:df k (fun _=>False) t.1)(x:Int):fU k (k.ke t x).2.1 (k.ke t x).2.2/\dR k t.1 (k.ke t x).2.1/\(k.ke t x).2.2=t.2/\k.al (k.ke t x).2.1 x=ML:=by
 obtain⟨m1,c,d⟩:=h.ma x;obtain⟨e,b,f⟩:=df.sp (t:=(k.ma t.1 x,t.2)) m1;refine⟨e,c.trans b,f,?_⟩
 show(!k.cY (k.sp (k.ma t.1 x,t.2)).1 x)=ML;rw[(b.cY d)];rfl
def cg.fV (k:cg):cz×List cf->cf->Bool×(cz×List cf):=cm (dW cz) (fun s x=>k.al s.1 x) k.ke
theorem fU.cm {t:cz×List cf}(h:fU k t.1 t.2)(e:cf):fU k (k.fV t e).2.1 (k.fV t e).2.2/\dR k t.1 (k.fV t e).2.1:=by
 unfold cg.fV;cases c:k.al t.1 e.1
 ·rw[m5 (o:=dW cz) (is:=fun s x=>k.al s.1 x) (kp:=k.ke) (s:=t) (e:=e) c];exact⟨h,dR.refl _⟩
 ·rw[m6 (o:=dW cz) (is:=fun s x=>k.al s.1 x) (kp:=k.ke) (s:=t) (e:=e) c];obtain⟨b,d,g,i⟩:=h.kn.ke e.2;show fU k (k.ke t e.2).2.1 ((k.ke t e.2).2.2++[(e.1,e.2)])/\dR k t.1 (k.ke t e.2).2.1;refine⟨⟨b.kn,b.td,b.ep,fun f hd=>?_⟩,d⟩
  rcases bD.1 hd with hd|hd
  ·exact b.wq f hd
  ·simp_all
theorem fU.pl:∀(l:List cf)(u:List cf×List cf×(cz×List cf)),fU k u.2.2.1 u.2.2.2->fU k (l.foldl (eI k.fV) u).2.2.1 (l.foldl (eI k.fV) u).2.2.2/\dR k u.2.2.1 (l.foldl (eI k.fV) u).2.2.1
 |[],u,h=>⟨h,dR.refl _⟩
 |e::l,u,h=>by
  have key:(eI k.fV u e).2.2=(k.fV u.2.2 e).2:=by unfold eI;split<;>rfl
  obtain⟨c1,c2⟩:=h.cm e;rw[<-key] at c1 c2;obtain⟨b,c⟩:=fU.pl l _ c1;exact⟨b,c2.trans c⟩
theorem fU.eP:∀(n:Nat)(t:cz×List cf)(b:List cf),fU k t.1 t.2->fU k (eP k.fV n t b).1.1 (eP k.fV n t b).1.2/\dR k t.1 (eP k.fV n t b).1.1
 |0,t,b,h=>⟨h,dR.refl _⟩
 |n+1,t,b,h=>by
  obtain⟨d,e⟩:=fU.pl b ([],[],t) h;have d:fU k (pts k.fV t b).2.2.1 (pts k.fV t b).2.2.2:=d;have e:dR k t.1 (pts k.fV t b).2.2.1:=e;by_cases c:L (pts k.fV t b).1=0
  ·rw[mc _ _ _ _ c];exact⟨d,e⟩
  ·rw[me _ _ _ _ c];obtain⟨f,g⟩:=fU.eP n (pts k.fV t b).2.2 (pts k.fV t b).2.1 d;exact⟨f,e.trans g⟩
theorem fU.fi {t:cz×List cf}(h:fU k t.1 t.2)(r:List cf):fU k (k.fi t r).1 (k.fi t r).2/\dR k t.1 (k.fi t r).1:=fU.eP _ t _ h
theorem df.start (h:c9 k hQ){X:Int->Prop}:df k X hQ:=⟨h,fun _ _ b=>absurd rfl b,fun _ ha=>by simp[hQ] at ha,fun _ _ b=>absurd rfl b⟩
theorem df.cP {X:Int->Prop}(h:df k X s):∀n,df k X (k.cP s n)/\dR k s (k.cP s n)/\∀i,i<n->k.cY (k.cP s n) (k.s.rs.getD i 0)=MK
 |0=>⟨h,dR.refl _,fun i hi=>aa⟩
 |n+1=>by obtain⟨h1,h2,h3⟩:=df.cP h n;exact zt
end
theorem oL {a:Wc}{S:cw}(c:c9 (S.s.j0 a) hQ):fU (S.s.j0 a) (S.cI a) ((S.s.j0 a).fi (S.j2 a) S.r).2/\dR (S.s.j0 a) (S.j2 a).1 (S.cI a)/\∀i,i<12->(S.s.j0 a).cY (S.cI a) (X S.s.rs i 0)=MK:=by obtain⟨d,_,e⟩:=(df.start c).cP 12;obtain⟨f,g,_⟩:=df.sp (t:=((S.s.j0 a).cP hQ 12,S.q)) d;obtain⟨j,b⟩:=fU.fi f S.r;exact⟨j,b,fun i hi=>b.cY (g.cY (e i hi))⟩
theorem Hc {p q N O y g:Nat}{ws:List Int}(w:az)(h:At w p q N O y g ws):
 J MO 129 #[aq p] w fun e w'=>∃v1 v2,e=MD (.tuple #[v1,v2])/\aC w' (I (MA w)) 3 1 v1 (L (eJ N y g ws)) ((eJ N y g ws).map (Value.int MC))/\aC w' (I (MA w)) 3 1 v2 (L (dL N y g ws)) ((dL N y g ws).map (Value.int MC))/\(∀b,Z b=P v1->Z b≠P v2)/\C (I (MA w)) w w':=by
 obtain⟨c0,c1,c2,c3,c4,c5,j⟩:=h.cells;have lp:=h.e_;have B:=h.fe;have k1:=h.hN';have F:=h.hy;have S:=h.hO;have W:=h.hg;go_enter func129,ntmps129;go_wp2_with fail;refine(xB 0 N y (I (MA w)) _ ((h.alloc _).alloc _) ((aS _ _ _ ac).trans (aP _ _)) aa aa aa aa aa aa).mono ?_;rintro e w1 ⟨rfl,v1,k,i,c⟩
 have l:=((h.alloc _).alloc _).same (c.block p (by simp;omega) aa) (c.block q (by simp;omega) aa)
 have d:=(c.block (I (MA w)+1) ac aa).trans (tq _ ac)
 have o:=hide k;have s:=hide d;have t:=c.size;simp only [World.size_alloc] at t;clear k d c0 c1 c2 c3 c4 c5 j;obtain⟨c0,c1,c2,c3,c4,c5,j⟩:=l.cells;go_wp2_with fail;refine(xC N O g (I (MA w)+1) _ l s.o aa aa aa aa aa aa).mono ?_;rintro e m ⟨rfl,v2,d,n,f⟩
 have ab:V m (av (I (MA w)) 0)=Z v1:=by have:=(f.block (I (MA w)) aa aa).trans o.o;simp[World.cell?,this]
 have ad:V m (av (I (MA w)+1) 0)=Z v2:=aD d
 have ag:=f.size;clear d;go_wp2_with fail
 go_quiet (fail)
 go_wp2_with fail;go_ret2;have u:∀b,Z b=P v1->Z b≠P v2:=fun b e v=>by have q1:=(cv i b e).2;have ai:=(cv n b v).1;omega
 simp only [World.size_alloc] at i c;have x:eJ N y g ws=eQ N y g ws (0+(y:Int)) 2000 0:=by rw[Mh];rfl
 refine⟨v1,v2,rfl,?_,?_,u,?_⟩
 ·rw[x];exact my (om (base:=I (MA w)+1+1) (xv i f b8 aa) aa) (sQ b9 _)
 ·exact my (om n aa) (sQ b9 _)
 ·exact sQ (((b9.alloc b8 _).alloc ac _).trans ((c.below aa b8).trans (f.below aa aa))) _
theorem Hd (f:Nat)(c:Array bj)(p:Int->Bool)(b:dT f)(w:az):
 J MO 213 #[My MH 0 0,.func (.func f) #[] c] w fun r w'=>r=MD (My MH 0 0)/\C (I (MA w)) w w':=by
 go_enter func213,ntmps213;go_wp2_with fail;refine(zw f c p b w [] (fun w' x d _=>by cases d) MH 0 ac (fun h=>by simp at h)).mono ?_;rintro r w1 ⟨e,⟨rfl,_⟩|⟨i,_,g,_⟩⟩
 ·go_wp2;go_ret;exact⟨rfl,e⟩
 ·simp at g
theorem He (f:Nat)(c:Array bj)(p:Int->Bool)(d:dT f)(w:az)(l:List Int)(ad:Option bI)(cap B:Nat)
 (hl:∀(w':az)(x:Int),x∈l->Fr (fun b=>Z b=P (Value.slice ad (L l) cap)) w w'->J MO f (#[ak x]++c) w' fun r i=>r=MD (.bool (p x))/\C (I (MA w')) w' i)
 (hm:L l<=100000)(hr:aC w B 3 1 (My ad (L l) cap) (L l) (l.map (Value.int MC))):
 J MO 213 #[My ad (L l) cap,.func (.func f) #[] c] w fun r w'=>r=MD (My ad (L (eB p l)) cap)/\aC w' B 3 1 (My ad (L (eB p l)) cap) (L (eB p l)) ((eB p l).map (Value.int MC))/\Fr (fun b=>Z b=P (Value.slice ad (L l) cap)) w w':=by
 rcases hr.2 with⟨hv,hn⟩|⟨g,k,m,hv,_⟩
 ·have j:=List.eq_nil_of_length_eq_zero hn;subst j;simp at hv;obtain⟨rfl,rfl⟩:=hv;refine(Hd f c p d w).mono ?_;rintro r w' ⟨rfl,hb⟩
  exact⟨rfl,bf _ _ _ _,Fr.of hb⟩
 ·obtain⟨rfl,rfl⟩:=hv;have e:∀n cap,(fun b=>Z b=P (Value.slice (au g) n cap))=(fun b=>b=g):=fun n cap=>by simp[Value.ownBlock]
  rw[e] at hl⊢;exact G9 f c p d w l g cap B hl hm hr
theorem zE {pk pw p q N O y g:Nat}{ws:List Int}(w:az)(f:At w p q N O y g ws)(c1:V w (av pk 0)=Z (aq pw))(c2:V w (av pw 0)=Z (aq p))(l:List Int)(ad:Option bI)(cap B:Nat)(e:Int)(hl:L l<=100000)(m:∀x∈l,0<=x/\x<=100000)
 (hr:aC w B 3 1 (My ad (L l) cap) (L l) (l.map (Value.int MC)))(hB:pk<B/\pw<B/\p<B/\q<B):
 J MO 140 #[aq pk,My ad (L l) cap,ak e] w fun r w'=>r=MD (My ad (L (eB (fun x=>decide (e<=x+pf (ld N y g ws x))) l)) cap)/\aC w' B 3 1 (My ad (L (eB (fun x=>decide (e<=x+pf (ld N y g ws x))) l)) cap) (L (eB (fun x=>decide (e<=x+pf (ld N y g ws x))) l)) ((eB (fun x=>decide (e<=x+pf (ld N y g ws x))) l).map (Value.int MC))/\Fr (fun b=>Z b=(Value.slice ad (L l) cap).ownBlock) w w':=by
 obtain⟨W,c⟩:∃W,W=bE (bE w (E #[bL (Z ⟨pk,0,MH⟩)] 137)) (E #[.int MC e] 3):=⟨_,rfl⟩
 have i:C (I (MA w)) w W:=by rw[c];exact((aH _ w).alloc b8 _).alloc ac _
 have n:W.heap[I (MA w)]?=Z (E #[aq pk] 137 (0,0)):=by rw[c,aS _ _ _ ac];exact aP _ _
 have o:W.heap[I (MA w)+1]?=Z (E #[ak e] 3 (0,0)):=by rw[c];simpa using aP (bE w (E #[bL (Z ⟨pk,0,MH⟩)] 137)) _
 have v:I (MA W)=I (MA w)+2:=by rw[c];simp
 have P:=He 214 #[aq (I (MA w)),aq (I (MA w)+1)] (fun x=>decide (e<=x+pf (ld N y g ws x))) G7 W l ad cap B (fun w' x s d=>by
  have hn:∀b,Z b=(Value.slice ad (L l) cap).ownBlock->_:=fun b e=>cv hr b e;have k0:∀b,b<B->b<I (MA w)->_=_:=fun b hb j=>(d.block b aa (fun e=>by have:=(hn b e).1;omega)).trans (i.block b j)
  have k1:∀b,I (MA w)<=b->b<I (MA W)->_=_:=fun b hb j=>d.block b j (fun e=>by have:=(hn b e).2;omega)
  exact G8 w' (f.same (k0 p hB.2.2.1 f.e_) (k0 q hB.2.2.2 f.fe)) (by simp[World.cell?,((k1 (I (MA w)) _ aa).trans n)]) ((aQ (k0 pk hB.1 (aT w _ c1))).trans c1) ((aQ (k0 pw hB.2.1 (aT w _ c2))).trans c2) (by simp[World.cell?,((k1 _ aa aa).trans o)]) x (m x s)) hl (cM hr (fun b e=>i.block b (cv hr b e).2))
 have t:aA (_/\∀b,Z b=(Value.slice ad (L l) cap).ownBlock->b<I (MA w)):=⟨i,fun b e=>(cv hr b e).2⟩
 go_enter func140,ntmps140;go_wp2_with fail;rw[<-(hide c).o];refine P.mono ?_;rintro r w1 ⟨rfl,u,d⟩
 have k:=c8 u ((Fr.of t.o.1).trans d (fun b e=>aM e))
 go_wp2_with fail;go_ret;exact⟨rfl,k.o.1,k.o.2⟩
theorem Hf (w:az)(pk:Nat)(G Y:List Int)(c d:Option bI)(gc f:Nat)(l:V w (av pk 1)=Z (My d (L Y) f))(q:V w (av pk 2)=Z (My c (L G) gc))(yr:aC w 0 3 1 (My d (L Y) f) (L Y) (Y.map (Value.int MC)))(gr:aC w 0 3 1 (My c (L G) gc) (L G) (G.map (Value.int MC)))(hl:L G+L Y<=4000):
 J MO 141 #[aq pk] w fun e w'=>∃a g,e=MD (My a (L G+L Y) g)/\aC w' (I (MA w)) 3 1 (My a (L G+L Y) g) (L G+L Y) ((G++Y).map (Value.int MC))/\C (I (MA w)) w w':=by
 have lk:=aT w _ l;have s:=aw w.drew (E #[My c (L G) gc,My d (L Y) f] 74)
 have i:=(ax w).drew.trans (s.mono b8)
 have m:=aP w.drew (E #[My c (L G) gc,My d (L Y) f] 74)
 have P:=zo (bE w.drew (E #[My c (L G) gc,My d (L Y) f] 74)) (I (MA w)) G Y c d gc f (by simp only [World.cell?];rw[show I (MA w)=I (MA w.drew) from rfl,m];rfl) (by simp only [World.cell?];rw[show I (MA w)=I (MA w.drew) from rfl,m];rfl) (cM gr (fun b e=>i.block b (cv gr b e).2)) (cM yr (fun b e=>i.block b (cv yr b e).2)) aa;have j:=hide i;go_enter func141,ntmps141;go_wp2_with fail
 go_region_held3 (fun w'=>V w' (av pk 1)=Z (My d (L Y) f)/\V w' (av pk 2)=Z (My c (L G) gc)) (go_keep)
  (first
    |(go_at_call 215;refine P.mono ?_;rintro e t ⟨a,g,rfl,n,hb⟩;have k:=j.o.trans (hb.mono j.o.size);have y1:=(k.cell (p:=av pk 1) lk).trans l;have u:=(k.cell (p:=av pk 2) lk).trans q;have o:=c8 (ff n (fun b e=>aU j.o.size (cv n b e).1)) k))
 go_wp2_with fail;go_ret;exact⟨a,g,rfl,o.o.1,o.o.2⟩
theorem zF (w:az)(p:Nat)(a0 a1:Option bI)(k0 k1:Nat)(r q:List cf)(h:fN w p a0 k0 a1 k1 r q)(h0:L r<=90000)(W:L q<=90000):
 J MO 139 #[aq p] w fun e w'=>∃g i c0 b1 c1,e=MD (aq g)/\I (MA w)<=g/\fN w' g i c0 b1 c1 r q/\(∀z,i=Z z->I (MA w)<=z.block)/\(∀z,b1=Z z->I (MA w)<=z.block)/\(∀k,Z k=P (Value.slice i (L r) c0)->Z k≠P (Value.slice b1 (L q) c1))/\C (I (MA w)) w w':=by
 obtain⟨c0,c1,n,o,lp⟩:=h.cells;have s:=hide (q7 h.r0)
 have t:=hide (q7 h.q0)
 clear h n o;go_enter func139,ntmps139;go_wp2_with fail;have hd:=(ax w).drew
 go_region_held3 (fun w'=>V w' (av p 0)=Z (My a0 (L r) k0)/\V w' (av p 1)=Z (My a1 (L q) k1)) (first|exact⟨c0,c1⟩|exact⟨u0,l⟩|exact⟨v0,v1⟩|go_keep)
  (first
    |(have ab:=b;go_at_call 212;refine(sP _ a1 q k1 (t.o.below b) aa).mono ?_;rintro e u ⟨v,x,rfl,j,d⟩;have m:=d.size;have v0:=(d.cell (p:=av p 0) (aO lp c)).trans u0;have v1:=(d.cell (p:=av p 1) (aO lp c)).trans l)
    |(go_at_call 212;refine(sP _ a0 r k0 (s.o.below hd) aa).mono ?_;rintro e ad ⟨B,F,rfl,f,N⟩;have b:=hd.trans N;have c:=b.size;have u0:=(b.cell (p:=av p 0) lp).trans c0;have l:=(b.cell (p:=av p 1) lp).trans c1))
 go_wp2_with fail;go_ret;refine⟨I (MA u),B,F,v,x,rfl,aU c m,⟨aP _ _,ff (ga (cM f (fun k e=>d.block k (cv f k e).2)) _) (fun _ _=>a5 _),ff (ga j _) (fun _ _=>a5 _)⟩,fun z e=>(cv f z.block (by rw[e];rfl)).1,fun z e=>aU c (cv j z.block (by rw[e];rfl)).1,fun k e S=>?_,(b.trans (d.mono c)).alloc (aU c m) _⟩
 have q1:=(cv f k e).2;have ag:=(cv j k S).1;omega
abbrev zG (a:Wc)(cu ps:Nat)(yv ov:bj):Obj:=E #[aq a.pw,yv,ov,.map (Z cu),aq ps,My MH 0 0,My MH 0 0] 140 (0,0)
structure fW (a:Wc)(S:cw)(w:az)(pk cu ps:Nat)(b0:Option bI)(d0:Nat)(b1:Option bI)(d1:Nat)(yv ov:bj)(T:List Int)(w':az):Prop where
 bl:C (I (MA w)) w w'
 cb:w'.heap[pk]?=Z (zG a cu ps yv ov)
 sd:fN w' ps b0 d0 b1 d1 S.r S.q
 mp:Mp w' cu T (fun _=>-1)
 kP:I (MA w)=cu
 jU:cu<ps
 pp:ps<pk
 l0:∀k,Z k=P (Value.slice b0 (L S.r) d0)->cu<k/\k<pk
 l1:∀k,Z k=P (Value.slice b1 (L S.q) d1)->cu<k/\k<pk
 ln:∀k,Z k=P (Value.slice b0 (L S.r) d0)->Z k≠P (Value.slice b1 (L S.q) d1)
section
variable {a:Wc}{S:cw}{w w' w'':az}{pk cu ps:Nat}{b0 b1:Option bI}{d0 d1:Nat}{yv ov:bj}{T:List Int}
theorem fW.fr {X:Nat->Prop}(h:fW a S w pk cu ps b0 d0 b1 d1 yv ov T w')(f:Fr X w' w'')(c:∀b,X b->pk<b):fW a S w pk cu ps b0 d0 b1 d1 yv ov T w'':=by
 have g:=h.kP;have i:=h.jU;have j:=h.pp;have k:=lt_of_some h.cb;have hk:∀b,b<=pk->_=_:=fun b hb=>f.block b aa (fun d=>by have:=c b d;omega)
 exact {
  bl:=⟨f.os.trans h.bl.os,f.tape.trans h.bl.tape,f.output.trans h.bl.output,aU h.bl.size f.size,fun b hb=>(hk b aa).trans (h.bl.block b hb)⟩
  cb:=(hk pk b8).trans h.cb
  sd:=⟨(hk ps aa).trans h.sd.blk,cM h.sd.r0 (fun b e=>hk b (by have:=(h.l0 b e).2;omega)),cM h.sd.q0 (fun b e=>hk b (by have:=(h.l1 b e).2;omega))⟩
  mp:=h.mp.same (hk cu aa)
  kP:=h.kP,jU:=h.jU,pp:=h.pp,l0:=h.l0,l1:=h.l1,ln:=h.ln}
theorem fW.below (h:fW a S w pk cu ps b0 d0 b1 d1 yv ov T w')(f:C (I (MA w')) w' w''):fW a S w pk cu ps b0 d0 b1 d1 yv ov T w'':=h.fr (Fr.of (X:=fun _=>False) f) (fun _ b=>b.elim)
theorem fW.set (h:fW a S w pk cu ps b0 d0 b1 d1 yv ov T w')(i:Nat)(v:bj){c d:bj}(e:(ay w' ⟨pk,i,MH⟩ v).heap[pk]?=Z (zG a cu ps c d)):fW a S w pk cu ps b0 d0 b1 d1 c d T (ay w' ⟨pk,i,MH⟩ v):=by
 have g:=h.kP;have j:=h.jU;have k:=h.pp;have f:=(Fr.refl _ w').set pk i v rfl;have hk:∀b,b<pk->_=_:=fun b hb=>f.block b (by have:=lt_of_some h.cb;omega) (fun l=>by omega)
 exact {
  bl:=⟨f.os.trans h.bl.os,f.tape.trans h.bl.tape,f.output.trans h.bl.output,aU h.bl.size f.size,fun b hb=>(hk b aa).trans (h.bl.block b hb)⟩
  cb:=e
  sd:=⟨(hk ps aa).trans h.sd.blk,cM h.sd.r0 (fun b e=>hk b (h.l0 b e).2),cM h.sd.q0 (fun b e=>hk b (h.l1 b e).2)⟩
  mp:=h.mp.same (hk cu aa)
  kP:=h.kP,jU:=h.jU,pp:=h.pp,l0:=h.l0,l1:=h.l1,ln:=h.ln}
theorem fW.set1 (h:fW a S w pk cu ps b0 d0 b1 d1 yv ov T w')(v:bj):fW a S w pk cu ps b0 d0 b1 d1 v ov T (ay w' ⟨pk,1,MH⟩ v):=h.set 1 v (by simp only [World.setCell,bK,if_true,h.cb,bR];simp)
theorem fW.set2 (h:fW a S w pk cu ps b0 d0 b1 d1 yv ov T w')(v:bj):fW a S w pk cu ps b0 d0 b1 d1 yv v T (ay w' ⟨pk,2,MH⟩ v):=h.set 2 v (by simp only [World.setCell,bK,if_true,h.cb,bR];simp)
theorem fW.add {x:Int}(h:fW a S w pk cu ps b0 d0 b1 d1 yv ov T w')(f:Fr (fun b=>b=cu) w' w'')(hm:Mp w'' cu (T++[x]) (fun _=>-1)):fW a S w pk cu ps b0 d0 b1 d1 yv ov (T++[x]) w'':=by
 have d:=h.kP;have g:=h.jU;have i:=h.pp;have j:=lt_of_some h.cb;have hk:∀b,b<=pk->b≠cu->_=_:=fun b hb hn=>f.block b aa (fun c=>hn c)
 exact {
  bl:=⟨f.os.trans h.bl.os,f.tape.trans h.bl.tape,f.output.trans h.bl.output,aU h.bl.size f.size,fun b hb=>(hk b aa aa).trans (h.bl.block b hb)⟩
  cb:=(hk pk b8 aa).trans h.cb
  sd:=⟨(hk ps aa aa).trans h.sd.blk,cM h.sd.r0 (fun b e=>hk b (by have:=(h.l0 b e).2;omega) (by have:=(h.l0 b e).1;omega)),cM h.sd.q0 (fun b e=>hk b (by have:=(h.l1 b e).2;omega) (by have:=(h.l1 b e).1;omega))⟩
  mp:=hm
  kP:=h.kP,jU:=h.jU,pp:=h.pp,l0:=h.l0,l1:=h.l1,ln:=h.ln}
theorem fW.cells (h:fW a S w pk cu ps b0 d0 b1 d1 yv ov T w'):V w' (av pk 0)=Z (aq a.pw)/\V w' (av pk 1)=Z yv/\V w' (av pk 2)=Z ov/\V w' (av pk 3)=Z (.map (Z cu))/\(∀i,w'.frozen? (av pk i)=MK)/\pk<I (MA w'):=by
 have b:=h.cb;refine⟨?_,?_,?_,?_,fun i=>?_,lt_of_some b⟩
 all_goals first|simp[World.cell?,b]|simp[World.frozen?,b]
theorem fW.done {d:Nat->Prop}{f g:Option bI}{i gc:Nat}(hw:(ej a).J d S.s w)(t:c9 (S.s.j0 a) hQ)(h:fW a S w pk cu ps b0 d0 b1 d1 (My f (L (S.s.j0 a).Y) i) (My g (L (S.s.j0 a).G) gc) (S.s.j0 a).T w')
 (yr:aC w' (pk+1) 3 1 (My f (L (S.s.j0 a).Y) i) (L (S.s.j0 a).Y) ((S.s.j0 a).Y.map (Value.int MC)))(gr:aC w' (pk+1) 3 1 (My g (L (S.s.j0 a).G) gc) (L (S.s.j0 a).G) ((S.s.j0 a).G.map (Value.int MC)))(hn:∀b,Z b=P (Value.slice f (L (S.s.j0 a).Y) i)->Z b≠P (Value.slice g (L (S.s.j0 a).G) gc)):
 ∃m,(dh (dX ⟨pk,cu,ps,My f (L (S.s.j0 a).Y) i,My g (L (S.s.j0 a).G) gc⟩ (S.s.j0 a)) ps (My b0 (L S.r) d0)).J m (hQ,S.q) w'/\(∀b,Z b=P (Value.slice b0 (L S.r) d0)->¬m b/\I (MA w)<=b)/\(∀b,m b->d b\/I (MA w)<=b):=by
 have ad:=h.kP;have m1:=h.jU;have ag:=h.pp;have lk:=lt_of_some h.cb;have n:=(ej a).lt hw
 classical
 obtain⟨own,j⟩:∃own:Nat->Nat,own=fun b=>if d b then 1 else if b=pk then 5 else if b=cu then 6 else if Z b=P (Value.slice f (L (S.s.j0 a).Y) i) then 9 else if Z b=P (Value.slice g (L (S.s.j0 a).G) gc) then 10 else 0:=⟨_,rfl⟩
 have l:∀b,I (MA w)<=b->¬d b:=fun b hb c=>by have:=n b c;omega
 have o1:∀b,d b↔own b=1:=fun b=>by
  rw[j];dsimp only;by_cases c:d b
  ·simp[c]
  ·rw[aI c];refine⟨fun e=>absurd e c,fun e=>?_⟩
   split at e
   ·omega
   ·split at e
    ·omega
    ·split at e
     ·omega
     ·split at e<;>omega
 have ok:own pk=5:=by rw[j];dsimp only;rw[aI (l pk aa),aJ rfl]
 have u:own cu=6:=by rw[j];dsimp only;rw[aI (l cu aa),aI aa,aJ rfl]
 have v:∀b,Z b=P (Value.slice f (L (S.s.j0 a).Y) i)->own b=9:=fun b e=>by have q:=(cv yr b e).1;rw[j];dsimp only;rw[aI (l b aa),aI aa,aI aa,aJ e]
 have x:∀b,Z b=P (Value.slice g (L (S.s.j0 a).G) gc)->own b=10:=fun b e=>by have q:=(cv gr b e).1;rw[j];dsimp only;rw[aI (l b aa),aI aa,aI aa,aI (fun o=>hn b o e),aJ e]
 have ol:∀b,own b≠0->b<I (MA w')/\(d b\/b=pk\/b=cu\/pk<b):=fun b hb=>by
  rw[j] at hb;dsimp only at hb;by_cases c:d b
  ·have:=n b c;have:=h.bl.size;exact⟨aa,aM c⟩
  ·rw[aI c] at hb;by_cases B:b=pk
   ·omega
   ·rw[aI B] at hb;by_cases o:b=cu
    ·omega
    ·rw[aI o] at hb;by_cases p:Z b=P (Value.slice f (L (S.s.j0 a).Y) i)
     ·have:=cv yr b p;exact⟨this.2,aK (aK (aK aa))⟩
     ·rw[aI p] at hb;by_cases s:Z b=P (Value.slice g (L (S.s.j0 a).G) gc)
      ·have:=cv gr b s;exact⟨this.2,aK (aK (aK aa))⟩
      ·rw[aI s] at hb;exact absurd rfl hb
 have F:(dX ⟨pk,cu,ps,My f (L (S.s.j0 a).Y) i,My g (L (S.s.j0 a).G) gc⟩ (S.s.j0 a)).J (fun b=>own b≠0) hQ w':=by
  refine⟨⟨My MH 0 0,My MH 0 0,d,own,?_,fun b=>Iff.rfl⟩,t⟩
  exact {
   wd:=(ej a).keep hw h.bl.size (fun b hb=>h.bl.block b (n b hb))
   w1:=o1
   cb:=h.cb
   k1:=ok
   mp:=h.mp
   m1:=u
   tr:=bf _ _ _ _
   ib:=fun b e=>by simp[Value.ownBlock] at e
   er:=bf _ _ _ _
   eo:=fun b e=>by simp[Value.ownBlock] at e
   yr:=ff yr (fun _ _=>a5 _)
   iG:=v
   gr:=ff gr (fun _ _=>a5 _)
   go:=x
   lt:=fun b hb=>(ol b hb).1}
 have N:¬own ps≠0:=fun c=>by
  rcases(ol ps c).2 with q|q|q|q
  ·exact l ps aa q
  ·omega
  ·omega
  ·omega
 have n1:∀k,cu<k->k<pk->¬own k≠0:=fun k k1 ai c=>by
  rcases(ol k c).2 with q|q|q|q
  ·exact l k aa q
  ·omega
  ·omega
  ·omega
 have W:∀k,Z k=P (Value.slice b0 (L S.r) d0)->k≠ps:=fun k e ab=>by obtain⟨al,hc⟩:=fw h.sd.r0 k e;rw[ab,h.sd.blk] at hc;simp at hc
 refine⟨fun b=>own b≠0\/b=ps\/Z b=P (Value.slice b1 (L S.q) d1),⟨fun b=>own b≠0,b1,d1,F,h.sd.blk,h.sd.q0,fun k hk=>aM hk,aK (aM rfl),N,fun k e=>⟨aK (aK e),n1 k (h.l1 k e).1 (h.l1 k e).2⟩,fun k hk=>?_⟩,fun b e=>⟨fun c=>?_,by have:=(h.l0 b e).1;omega⟩,fun b c=>?_⟩
 ·rcases hk with c|c|c
  ·exact(ol k c).1
  ·omega
  ·have:=(h.l1 k c).2;omega
 ·rcases c with c|c|c
  ·exact n1 b (h.l0 b e).1 (h.l0 b e).2 c
  ·exact W b e c
  ·exact h.ln b e c
 ·rcases c with c|c|c
  ·rcases(ol b c).2 with q|q|q|q
   ·exact aM q
   ·omega
   ·omega
   ·omega
  ·omega
  ·have:=(h.l1 b c).1;exact aK aa
end
theorem Hg {a:Wc}{a4:Nat->Prop}{S:cw}{w:az}{a0 a1:Option bI}{k0 k1:Nat}(hw:(ej a).J a4 S.s w)(hs:fN w a.sd a0 k0 a1 k1 S.r S.q)(h0:L S.r<=90000)(ce:L S.q<=90000):
 Calls MO 75 #[aq a.pw] w fun e w'=>∃(c:fB)(ar:Option bI)(bs:Nat)(o:Nat->Prop),e=MD (aq c.pk)/\(dh (dX c (S.s.j0 a)) c.bs (My ar (L S.r) bs)).J o (hQ,S.q) w'/\aC w' 0 103 2 (My ar (L S.r) bs) (L S.r) (ev S.r)/\(∀b,Z b=P (Value.slice ar (L S.r) bs)->¬o b/\I (MA w)<=b)/\(∀b,o b->a4 b\/I (MA w)<=b)/\C (I (MA w)) w w':=by
 have c8:=@run_makeMap MO;obtain⟨c0,_,c2,_,aF,_⟩:=kk hw;have am:=(lh hw).1;have n1:=am.hN';have cD:=am.hO;have cE:=am.hg;have n4:=am.hy;have bt:=hide (c9.start n1 cD n4 cE)
 have N:aA ((ej a).J a4 S.s w/\At w a.p a.q a.N a.O S.s.y S.s.g S.s.ws):=⟨hw,am⟩
 have cf:=lt_of_some hs.blk;have ba:C (I (MA w)) w (bE w (.map #[] 0)):=(aH _ w).alloc b8 _;have cF:=zF (bE w (.map #[] 0)) a.sd a0 a1 k0 k1 S.r S.q ⟨(ba.block _ cf).trans hs.blk,cM hs.r0 (fun b e=>ba.block b (cv hs.r0 b e).2),cM hs.q0 (fun b e=>ba.block b (cv hs.q0 b e).2)⟩ h0 ce;have cG:aA (Mp (bE w (.map #[] 0)) (I (MA w)) [] (fun _=>-1)):=⟨_,World.ownsMap_made w MO 3 (plainElem (H:=Unit) MO 3),fun _=>rfl,fun a ha=>by simp at ha⟩
 clear hw hs am ba cf h0 ce;go_enter func75,ntmps75;go_wp2_with fail;refine cF.mono ?_;rintro e w1 ⟨ps,l,m,b1,W,rfl,cH,v,g0,g1,cI,bx⟩
 have cJ:=bx.size;simp only [World.size_alloc] at cJ cH g0 g1;have bb:aA (fW a S w (I (MA w1)) (I (MA w)) ps l m b1 W (My MH 0 0) (My MH 0 0) [] (bE w1 (E #[bL (Z ⟨a.pw,0,MH⟩),My MH 0 0,My MH 0 0,.map (Z (I (MA w))),bL (Z ⟨ps,0,MH⟩),My MH 0 0,My MH 0 0] 140))/\I (MA (bE w1 (E #[bL (Z ⟨a.pw,0,MH⟩),My MH 0 0,My MH 0 0,.map (Z (I (MA w))),bL (Z ⟨ps,0,MH⟩),My MH 0 0,My MH 0 0] 140)))=I (MA w1)+1):=by
  have aR:=aw w1 (E #[bL (Z ⟨a.pw,0,MH⟩),My MH 0 0,My MH 0 0,.map (Z (I (MA w))),bL (Z ⟨ps,0,MH⟩),My MH 0 0,My MH 0 0] 140)
  have cK:=((aH _ w).alloc b8 (.map #[] 0)).trans (bx.mono ac)
  refine⟨{bl:=cK.trans (aR.mono aa),cb:=aP _ _,sd:=⟨(aR.block _ (lt_of_some v.blk)).trans v.blk,cM v.r0 (fun b e=>aR.block b (cv v.r0 b e).2),cM v.q0 (fun b e=>aR.block b (cv v.q0 b e).2)⟩,mp:=(cG.o.same (bx.block _ ac)).same (aR.block _ aa),kP:=rfl,jU:=aa,pp:=lt_of_some v.blk,l0:=fun k e=>⟨?_,(cv v.r0 k e).2⟩,l1:=fun k e=>⟨?_,(cv v.q0 k e).2⟩,ln:=cI},ac⟩
  ·cases hb:l with
   |none=>rw[hb] at e;simp[Value.ownBlock] at e
   |some z=>
    rw[hb] at e;have cL:k=z.block:=by simpa[Value.ownBlock] using e
    have:=g0 z hb;omega
  ·cases hb:b1 with
   |none=>rw[hb] at e;simp[Value.ownBlock] at e
   |some z=>
    rw[hb] at e;have cL:k=z.block:=by simpa[Value.ownBlock] using e
    have:=g1 z hb;omega
 have an:=(bb.o.1.bl.cell (p:=av a.pw 0) aF).trans c0;have i:=nl _ (N.o.2.below bb.o.1.bl b8)
 go_wp2_with fail;refine i.mono ?_;rintro e ch ⟨rfl,ci⟩
 have bd:aA (fW a S w (I (MA w1)) (I (MA w)) ps l m b1 W (My MH 0 0) (My MH 0 0) [] ch/\I (MA w1)+1<=I (MA ch)):=⟨bb.o.1.below ci,by have:=ci.size;have:=bb.o.2;omega⟩
 have an:=(bd.o.1.bl.cell (p:=av a.pw 0) aF).trans c0;have i:=k8 _ (N.o.2.below bd.o.1.bl b8)
 go_wp2_with fail;refine i.mono ?_;rintro e cj ⟨rfl,ck⟩
 have aV:aA (fW a S w (I (MA w1)) (I (MA w)) ps l m b1 W (My MH 0 0) (My MH 0 0) [] cj/\I (MA w1)+1<=I (MA cj)):=⟨bd.o.1.below ck,by have:=ck.size;have:=bd.o.2;omega⟩
 have an:=(aV.o.1.bl.cell (p:=av a.pw 0) aF).trans c0;have i:=Hc _ (N.o.2.below aV.o.1.bl b8)
 go_wp2_with fail;refine i.mono ?_;rintro e cN ⟨v1,v2,rfl,b0,b2,cO,cP⟩
 obtain⟨y1,m1,rfl⟩:=eT b0;obtain⟨d,g,rfl⟩:=eT b2;have B:=i4 (aV.o.1.below cP) (ff b0 (fun b e=>aU aV.o.2 (cv b0 b e).1)) (ff b2 (fun b e=>aU aV.o.2 (cv b2 b e).1)) cO;have be:aA (L (eJ a.N S.s.y S.s.g S.s.ws)<=2000/\L (dL a.N S.s.y S.s.g S.s.ws)<=2000/\(∀x∈eJ a.N S.s.y S.s.g S.s.ws,0<=x/\x<=2000)/\∀x∈dL a.N S.s.y S.s.g S.s.ws,0<=x/\x<=2000):=⟨i8 _ _,i8 _ _,fun x s=>by have:=ox x s;omega,fun x s=>by have:=qN x s;omega⟩
 have cl:I (MA w1)<I (MA w1)+1/\a.pw<I (MA w1)+1/\a.p<I (MA w1)+1/\a.q<I (MA w1)+1:=by have q1:=N.o.2.e_;have bg:=N.o.2.fe;omega
 obtain⟨u0,b3,b4,b5,ao,b6⟩:=B.o.1.cells;have an:=(B.o.1.bl.cell (p:=av a.pw 0) aF).trans c0;have ca:=ao 1;have i:=zE cN (N.o.2.below B.o.1.bl b8) u0 an (eJ a.N S.s.y S.s.g S.s.ws) y1 m1 (I (MA w1)+1) (0+S.s.y) (by have:=be.o.1;omega) (fun x s=>by have:=be.o.2.2.1 x s;omega) B.o.2.1 cl;rw[Mh] at i;have cQ:aA (eB (fun x=>decide ((S.s.y:Int)<=x+pf (ld a.N S.s.y S.s.g S.s.ws x))) (eJ a.N S.s.y S.s.g S.s.ws)=(S.s.j0 a).Y):=rfl;rw[cQ.o] at i;go_wp2_with fail;refine i.mono ?_;rintro r F ⟨rfl,cR,cm⟩
 have cS:∀b,Z b=P (Value.slice y1 (L (eJ a.N S.s.y S.s.g S.s.ws)) m1)->I (MA w1)<b:=fun b e=>(cv B.o.2.1 b e).1;have ad:aA (fW a S w (I (MA w1)) (I (MA w)) ps l m b1 W (My MH 0 0) (My MH 0 0) [] F/\aC F (I (MA w1)+1) 3 1 (My y1 (L (S.s.j0 a).Y) m1) (L (S.s.j0 a).Y) ((S.s.j0 a).Y.map (Value.int MC))/\aC F (I (MA w1)+1) 3 1 (My d (L (dL a.N S.s.y S.s.g S.s.ws)) g) (L (dL a.N S.s.y S.s.g S.s.ws)) ((dL a.N S.s.y S.s.g S.s.ws).map (Value.int MC))/\(∀n n' b,Z b=P (Value.slice y1 n m1)->Z b≠P (Value.slice d n' g))):=by
  refine⟨B.o.1.fr cm cS,cR,iz B.o.2.2.1 cm (fun b e ag=>B.o.2.2.2 b ag e),fun n n' b e=>?_⟩
  have q:=B.o.2.2.2 b (by
   cases y1 with
   |none=>simp[Value.ownBlock] at e
   |some z=>simpa[Value.ownBlock] using e)
  cases d with
  |none=>simp[Value.ownBlock]
  |some z=>simpa[Value.ownBlock] using q
 obtain⟨u0,b3,b4,b5,ao,b6⟩:=ad.o.1.cells;have ca:=ao 1;have ai:aA (fW a S w (I (MA w1)) (I (MA w)) ps l m b1 W (My y1 (L (S.s.j0 a).Y) m1) (My MH 0 0) [] (ay F ⟨I (MA w1),1,MH⟩ (My y1 (L (S.s.j0 a).Y) m1))/\aC (ay F ⟨I (MA w1),1,MH⟩ (My y1 (L (S.s.j0 a).Y) m1)) (I (MA w1)+1) 3 1 (My y1 (L (S.s.j0 a).Y) m1) (L (S.s.j0 a).Y) ((S.s.j0 a).Y.map (Value.int MC))/\aC (ay F ⟨I (MA w1),1,MH⟩ (My y1 (L (S.s.j0 a).Y) m1)) (I (MA w1)+1) 3 1 (My d (L (dL a.N S.s.y S.s.g S.s.ws)) g) (L (dL a.N S.s.y S.s.g S.s.ws)) ((dL a.N S.s.y S.s.g S.s.ws).map (Value.int MC))):=by have f:Fr (fun b=>b=I (MA w1)) F (ay F ⟨I (MA w1),1,MH⟩ (My y1 (L (S.s.j0 a).Y) m1)):=(Fr.refl _ F).set _ 1 _ rfl;exact⟨ad.o.1.set1 _,iz ad.o.2.1 f (fun b e ag=>by have:=(cv ad.o.2.1 b e).1;omega),iz ad.o.2.2.1 f (fun b e ag=>by have:=(cv ad.o.2.2.1 b e).1;omega)⟩
 have cn:=hide ad.o.2.2.2;obtain⟨s0,s1,s2,bi,s4,s5⟩:=ai.o.1.cells;have an:=(ai.o.1.bl.cell (p:=av a.pw 0) aF).trans c0;have s6:=s4 2;have i:=zE _ (N.o.2.below ai.o.1.bl b8) s0 an (dL a.N S.s.y S.s.g S.s.ws) d g (I (MA w1)+1) ((a.N:Int)+S.s.g) (by have:=be.o.2.1;omega) (fun x s=>by have:=be.o.2.2.2 x s;omega) ai.o.2.2 cl;have cT:aA (eB (fun x=>decide ((a.N:Int)+S.s.g<=x+pf (ld a.N S.s.y S.s.g S.s.ws x))) (dL a.N S.s.y S.s.g S.s.ws)=(S.s.j0 a).G):=rfl;rw[cT.o] at i;go_wp2_with fail;refine i.mono ?_;rintro r ap ⟨rfl,cU,co⟩
 have cV:∀b,Z b=P (Value.slice d (L (dL a.N S.s.y S.s.g S.s.ws)) g)->I (MA w1)<b:=fun b e=>(cv ai.o.2.2 b e).1;have al:=gY (ai.o.1.fr co cV) (iz ai.o.2.1 co (fun b e ag=>cn.o _ _ b e ag)) cU;obtain⟨u0,b3,b4,b5,ao,b6⟩:=al.o.1.cells;have ca:=ao 2;have t:aA (fW a S w (I (MA w1)) (I (MA w)) ps l m b1 W (My y1 (L (S.s.j0 a).Y) m1) (My d (L (S.s.j0 a).G) g) [] (ay ap ⟨I (MA w1),2,MH⟩ (My d (L (S.s.j0 a).G) g))/\aC (ay ap ⟨I (MA w1),2,MH⟩ (My d (L (S.s.j0 a).G) g)) (I (MA w1)+1) 3 1 (My y1 (L (S.s.j0 a).Y) m1) (L (S.s.j0 a).Y) ((S.s.j0 a).Y.map (Value.int MC))/\aC (ay ap ⟨I (MA w1),2,MH⟩ (My d (L (S.s.j0 a).G) g)) (I (MA w1)+1) 3 1 (My d (L (S.s.j0 a).G) g) (L (S.s.j0 a).G) ((S.s.j0 a).G.map (Value.int MC))):=by have f:Fr (fun b=>b=I (MA w1)) ap (ay ap ⟨I (MA w1),2,MH⟩ (My d (L (S.s.j0 a).G) g)):=(Fr.refl _ ap).set _ 2 _ rfl;exact⟨al.o.1.set2 _,iz al.o.2.1 f (fun b e ag=>by have:=(cv al.o.2.1 b e).1;omega),iz al.o.2.2 f (fun b e ag=>by have:=(cv al.o.2.2 b e).1;omega)⟩
 clear al u0 b3 b5 ao;obtain⟨s0,s1,s2,bi,s4,s5⟩:=t.o.1.cells;have bn:aA ((S.s.j0 a).T=(S.s.j0 a).G++(S.s.j0 a).Y/\L (S.s.j0 a).T=L (S.s.j0 a).G+L (S.s.j0 a).Y/\_/\_):=⟨rfl,by unfold cg.T;rw[a8],bt.o.tl,bt.o.ps⟩
 have cp:=bn.o.2.1;have da:=bn.o.2.2.1;have i:=Hf _ (I (MA w1)) (S.s.j0 a).G (S.s.j0 a).Y d y1 g m1 s1 s2 (ff t.o.2.1 (fun _ _=>a5 _)) (ff t.o.2.2 (fun _ _=>a5 _)) aa;rw[<-cp,<-bn.o.1] at i;clear s0 s1 s2 bi s4 cp;go_wp2_with fail;refine i.mono ?_;clear i s5 b4 b6 ca;rintro e a2 ⟨cW,cX,rfl,cc,bo⟩
 have ab:aA (_/\_/\aC a2 (I (MA w1)+1) 3 1 (My d (L (S.s.j0 a).G) g) (L (S.s.j0 a).G) ((S.s.j0 a).G.map (Value.int MC))/\aC a2 (I (MA w1)+1) 3 1 (My cW (L (S.s.j0 a).T) cX) (L (S.s.j0 a).T) ((S.s.j0 a).T.map (Value.int MC))):=⟨t.o.1.below bo,cM t.o.2.1 (fun b e=>bo.block b (cv t.o.2.1 b e).2),cM t.o.2.2 (fun b e=>bo.block b (cv t.o.2.2 b e).2),ff cc (fun b e=>by have:=(cv cc b e).1;have q:=t.o.1.cells.2.2.2.2.2;omega)⟩
 clear cc bo t;go_wp2_with fail
 go_loopw [66] (fun iv wr=>∃j:Nat,j<=L (S.s.j0 a).T/\iv=ak j/\aA (fW a S w (I (MA w1)) (I (MA w)) ps l m b1 W (My y1 (L (S.s.j0 a).Y) m1) (My d (L (S.s.j0 a).G) g) ((S.s.j0 a).T.take j) wr/\Fr (fun b=>b=I (MA w)) a2 wr)) (fun iv _=>L (S.s.j0 a).T-M (intOf iv))
 case atStart=>exact⟨0,a5 _,rfl,ab.o.1,Fr.refl _ _⟩
 ·
   obtain⟨j,db,rfl,u⟩:=hrel;by_cases bp:j<L (S.s.j0 a).T
   ·obtain⟨a3,cY,cq,cZ,hc⟩:=hK ab.o.2.2.2 aa;have c1:I (MA w1)<a3/\a3<I (MA a2):=by
     have:=cv ab.o.2.2.2 a3 (by rw[cq];rfl)
     omega
    have cr:=(aQ (a:=⟨a3,cY+j,MH⟩) (u.o.2.block a3 c1.2 (fun e=>by have:=u.o.1.jU;have:=u.o.1.pp;omega))).trans (hc j bp)
    have hm:X (S.s.j0 a).T j 0∈(S.s.j0 a).T:=by rw[aL,aN bp];exact a9 bp
    have s:=bn.o.2.2.2 _ hm;have cs:=hide (gX _ j bp 0)
    generalize X (S.s.j0 a).T j 0=x at cr s cs;obtain⟨D,o1,ct,cu⟩:=u.o.1.mp;obtain⟨s0,s1,s2,bi,s4,s5⟩:=u.o.1.cells;have cx:=jG (a:=x) s.1 aa;have hv:=ny (-1) ae;have ht:L ((S.s.j0 a).T.take j)=j:=by rw[bC];omega
    have br:=gY o1 ct cu;have j0:(0:Int)<=(j:Int):=aa;have dc:(j:Int)<(L (S.s.j0 a).T:Int):=aa;clear ct cu hc cZ hm s0 s1 s2 s4;subst cq;go_wp2_with (first
     |(at_mapUpdate;refine wpList_mapUpdate_own _ rfl _ _ _ 127 rfl 3 3 i_ underlying127 (plainElem (H:=Unit) MO 3) (I (MA w)) (L ((S.s.j0 a).T.take j)) D rfl o1 (by unfold maxLen;omega) _ _ _ rfl rfl cx _ [] hv ?_;intro cd cy cz)
     |go_in)
    have c3:aA (fW a S w (I (MA w1)) (I (MA w)) ps l m b1 W (My y1 (L (S.s.j0 a).Y) m1) (My d (L (S.s.j0 a).G) g) ((S.s.j0 a).T.take (j+1)) cd/\Fr (fun b=>b=I (MA w)) a2 cd):=by
     have cA:Fr (fun b=>b=I (MA w)) wr cd:=(Fr.refl _ wr).grown cz (fun b e=>aM (by cases e;rfl))
     have c4:=Mp.add (f:=fun _=>-1) br.o.1 br.o.2.1 br.o.2.2 rfl rfl cy;have cB:=u.o.1.add cA c4;rw[<-cs.o] at cB;exact⟨cB,u.o.2.trans cA (fun b e=>aM e)⟩
    clear u br cy cz o1 cr bi s5 cx hv;go_roundw;exact⟨j+1,aa,aj,c3⟩
    simp[intOf];omega
   ·obtain rfl:j=L (S.s.j0 a).T:=aa;have c5:aA (∃(o:Nat->Prop),(dh (dX ⟨I (MA w1),I (MA w),ps,My y1 (L (S.s.j0 a).Y) m1,My d (L (S.s.j0 a).G) g⟩ (S.s.j0 a)) ps (My l (L S.r) m)).J o (hQ,S.q) wr/\aC wr 0 103 2 (My l (L S.r) m) (L S.r) (ev S.r)/\(∀b,Z b=P (Value.slice l (L S.r) m)->¬o b/\I (MA w)<=b)/\(∀b,o b->a4 b\/I (MA w)<=b)/\C (I (MA w)) w wr):=by
     obtain⟨aB,cC⟩:=u.o;rw[bv] at aB;have ne:∀b,I (MA w1)+1<=b->¬b=I (MA w):=fun b hb e=>by have:=aB.jU;have:=aB.pp;omega
     obtain⟨o,q1,bg,q3⟩:=aB.done N.o.1 bt.o (iz ab.o.2.1 cC (fun b e=>ne b (cv ab.o.2.1 b e).1)) (iz ab.o.2.2.1 cC (fun b e=>ne b (cv ab.o.2.2.1 b e).1)) (fun b e=>cn.o _ _ b e)
     exact⟨o,q1,aB.sd.r0,bg,q3,aB.bl⟩
    clear u ab;go_wp2_with fail;go_ret;obtain⟨o,q1,bg,q3,c6,c7⟩:=c5.o;exact⟨⟨I (MA w1),I (MA w),ps,My y1 (L (S.s.j0 a).Y) m1,My d (L (S.s.j0 a).G) g⟩,l,m,o,rfl,q1,bg,q3,c6,c7⟩
def hX (g:Int->Nat)(l:List Int):Nat:=(l.map g).sum
theorem uw (g:Int->Nat)(a:Int)(l:List Int):hX g (a::l)=g a+hX g l:=by simp[hX]
theorem Hh (g:Int->Nat)(l m:List Int):hX g (l++m)=hX g l+hX g m:=by simp[hX]
open Go.RowKit W
section
variable {N O y g:Nat}{ws:List Int}{Y G:List Int}
theorem nG {x i:Int}(h:eK N y g ws x i=0):tB N y g ws x=ML/\pk (ld N y g ws (cr x))≠5/\0<=i/\i<iU N y g (cr x) (pf (ld N y g ws (cr x))):=by
 unfold eK at h;by_cases ht:tB N y g ws x=ML
 ·rw[aJ ht] at h;by_cases b:pk (ld N y g ws (cr x))=5
  ·rw[aJ b] at h;omega
  ·rw[aI b] at h;by_cases hi:i<0\/iU N y g (cr x) (pf (ld N y g ws (cr x)))<=i
   ·rw[aJ hi] at h;omega
   ·exact⟨ht,b,aa,aa⟩
 ·rw[aI ht] at h;omega
theorem zH {x:Int}(h:ei N y g ws Y G)(hN:N<=256)(hy:y<=N)(hO:O<=1024)(hg:g<=O)(ht:tB N y g ws x=ML):de x=ML/\(cr x∈Y\/cr x∈G):=by obtain⟨b,c⟩:=h.lists hN hy hO hg;unfold tB at ht;rw[b,c] at ht;simpa using ht
theorem ei.gI (h:ei N y g ws Y G)(hl:L ws=N+O)(hN:N<=256)(hy:y<=N)(hO:O<=1024)(hg:g<=O)(x i z:Int):ei N y g (Proofs.YtpkjkjhanlbcoaaGreat.gI N y g ws x i z) Y G:=by
 unfold Proofs.YtpkjkjhanlbcoaaGreat.gI;by_cases h0:eK N y g ws x i=0
 ·rw[aJ h0];obtain⟨ht,_,c,b⟩:=nG h0;obtain⟨_,hv⟩:=zH h hN hy hO hg ht;rw[h.stands hy hv] at b;split
  ·exact(h.set hl hy hg hv c b).1
  ·exact h
 ·rw[aI h0];exact h
theorem Hi (x i z c:Int)(M:List Int):L (stM N y g ws x i z c M)<=L M+1:=by
 unfold stM;split
 ·unfold lS;split
  ·exact D8 _ _
  ·omega
 ·omega
end
open Go.RowKit W pz
structure iL (N y g:Nat)(ws Y G rs:List Int):Prop where
 full:ei N y g ws Y G
 rt:∀x∈rs,de x=ML->cr x∈Y\/cr x∈G
 fd:∀v,(v∈Y\/v∈G)->∀i,0<=i->i<pf (ld N y g ws v)->de (ld N y g ws (v+1+i))=ML->cr (ld N y g ws (v+1+i))∈Y\/cr (ld N y g ws (v+1+i))∈G
section
variable {N O y g:Nat}{ws Y G rs:List Int}
theorem nH (n:Nat)(h:n<1000000):de (ew 3 n)=ML/\cr (ew 3 n)=n:=by grind [n5,n6]
theorem iL.root (h:iL N y g ws Y G rs)(k:Nat)(x:Int)(b:de x=ML->cr x∈Y\/cr x∈G):iL N y g ws Y G (rs.set k x):=
 ⟨h.full,fun z hz=>by grind [rt],h.fd⟩
theorem iL.at (h:iL N y g ws Y G rs)(k:Nat)(hk:k<L rs)(ha:de (X rs k 0)=ML):cr (X rs k 0)∈Y\/cr (X rs k 0)∈G:=
 h.rt _ (by simp_all) ha
theorem nI (h:ei N y g ws Y G){v i:Int}(hv:v∈Y)(b:0<=i)(c:i<pf (ld N y g ws v)):0<=v+1+i/\v+1+i<y:=by have d:=h.ty.mem v hv;omega
theorem nJ (h:ei N y g ws Y G){v i:Int}(hv:v∈G)(b:0<=i)(c:i<pf (ld N y g ws v)):(N:Int)<=v+1+i/\v+1+i<(N:Int)+g:=by have d:=h.eC.mem v hv;omega
theorem kQ (h:ei N y g ws Y G){v i:Int}(hv:v∈Y\/v∈G)(b:0<=i)(c:i<pf (ld N y g ws v)):dv N y g (v+1+i)=ML:=by grind [nI,i9,nJ,h_]
theorem iL.make (h:iL N y g ws Y G rs)(hl:L ws=N+O){k f:Int}(hm:i7 N y k f=ML):iL N (jr N y k f) g (f4 N y k f ws) (Y++[(y:Int)]) G rs:=by
 have e:=h.full.make hl hm;obtain⟨j,q⟩:=px hm;have s:=jf k f j;have m:jr N y k f=y+1+M f:=by grind [jr]
 have n:f4 N y k f ws=fR ws y (hw k f) (M f):=by grind [f4]
 have o:y+M f<L ws:=aa;rw[m,n] at e⊢;have mem:∀{z:Int},(z∈Y\/z∈G)->(z∈Y++[(y:Int)]\/z∈G):=fun hz=>(by grind)
 refine⟨e,fun x p ha=>mem (h.rt x p ha),fun v hv i l b ha=>?_⟩
 rcases hv with hv|hv
 ·rcases bD.1 hv with hv|hv
  ·have hi:=h.full.iV v hv;have c:ld N (y+1+M f) g (fR ws y (hw k f) (M f)) v=ld N y g ws v:=by grind [et,i9,ka]
   rw[c] at b;have hb:=nI h.full hv l b;have d:ld N (y+1+M f) g (fR ws y (hw k f) (M f)) (v+1+i)=ld N y g ws (v+1+i):=by grind [et,i9,ka]
   grind [fd]
  ·simp at hv;subst hv;rw[(xG _ _ o),(qp k f j).2.1] at b;have d:ld N (y+1+M f) g (fR ws y (hw k f) (M f)) ((y:Int)+1+i)=2:=by grind [et,i9,ka]
   rw[d] at ha;exact absurd ha ae
 ·have hi:=h.full.io v hv;have c:ld N (y+1+M f) g (fR ws y (hw k f) (M f)) v=ld N y g ws v:=by grind [et,h_,ka]
  rw[c] at b;have hb:=nJ h.full hv l b;have d:ld N (y+1+M f) g (fR ws y (hw k f) (M f)) (v+1+i)=ld N y g ws (v+1+i):=by grind [et,h_,ka]
  grind [fd]
theorem iL.set (h:iL N y g ws Y G rs)(hl:L ws=N+O)(hy:y<=N)(hg:g<=O){v i z:Int}(hv:v∈Y\/v∈G)(b:0<=i)(c:i<pf (ld N y g ws v))(hz:de z=ML->cr z∈Y\/cr z∈G):iL N y g (ws.set (M (v+1+i)) z) Y G rs:=by
 obtain⟨d,hk⟩:=h.full.set hl hy hg hv b c;have hb:=jQ (kQ h.full hv b c) hy hg;refine⟨d,h.rt,fun u e j j0 f ha=>?_⟩
 grind [fd,ld]
theorem iL.tb (h:iL N y g ws Y G rs)(hN:N<=256)(hy:y<=N)(hO:O<=1024)(hg:g<=O)(k:Nat)(hk:k<L rs):tB N y g ws (X rs k 0)=de (X rs k 0):=by
 obtain⟨b,c⟩:=h.full.lists hN hy hO hg;unfold tB;rw[b,c];cases ha:de _
 ·rfl
 ·have:=h.at k hk ha
  grind
end
open Go.RowKit W Kp cq pz
structure C0 where
 g:Nat
 ws:List Int
 G:List Int
def ck.l0 (k:ck)(z:C0)(a:Int):Int:=Proofs.YtpkjkjhanlbcoaaGreat.ld k.N k.y z.g z.ws a
def ck.or (k:ck)(z:C0)(s:ct)(a b:Int):Prop:=(a=b/\b∈z.G)\/(a∈k.T/\s.f a=b/\b≠-1)
def ck.ml (k:ck)(s:ct)(b x:Int):Prop:=x=b\/(k.cQ b=ML/\s.f (cr b)≠-1/\x=ew 3 (s.f (cr b)))
structure dI (k:ck)(z:C0)(s:ct)(H:List Int):Prop where
 ci:CI k s
 rj:z.g<=s.g
 full:ei k.N k.y s.g s.ws k.T (z.G++H)
 lj:∀b∈z.G,b<(k.N:Int)+z.g
 nK:∀b,0<=b->b<(k.y:Int)->k.ld s b=k.l0 z b
 fh:∀a∈k.T,s.f a≠-1->s.f a∈H
 inj:∀a∈k.T,∀b∈k.T,s.f a≠-1->s.f a=s.f b->a=b
 gz:∀b∈H,∃a∈k.T,s.f a=b
 hlo:∀b∈H,(k.N:Int)+z.g<=b
 hd:∀a b,k.or z s a b->k.ld s b=k.l0 z a
 fd:∀a b,k.or z s a b->∀i,0<=i->i<pf (k.l0 z a)->k.ml s (k.l0 z (a+1+i)) (k.ld s (b+1+i))
structure dd (k:ck)(s t:ct):Prop where
 f:∀a,s.f a≠-1->t.f a=s.f a
 g:s.g<=t.g
 cl:∀b,(k.N:Int)<=b->b<(k.N:Int)+s.g->k.cQ (k.ld s b)=MK->k.cQ (k.ld t b)=MK
section
variable {k:ck}{z:C0}{s t u:ct}{H:List Int}
theorem dd.refl (k:ck)(s:ct):dd k s s:=⟨fun _ _=>rfl,aG _,fun _ _ _ h=>h⟩
theorem dd.trans (h:dd k s t)(j:dd k t u):dd k s u:=
 ⟨fun a ha=>(j.f a (by grind [f])).trans (h.f a ha),aU h.g j.g,fun b c d e=>j.cl b c (by have:=h.g;omega) (by grind [cl])⟩
theorem dd.or (h:dd k s t){a b:Int}(ho:k.or z s a b):k.or z t a b:=by
 rcases ho with ho|⟨c,d,e⟩
 ·exact aM ho
 ·exact aK ⟨c,(h.f a aa).trans d,e⟩
theorem dd.ml (h:dd k s t){c x:Int}(ho:k.ml s c x):k.ml t c x:=by
 rcases ho with ho|⟨d,b,e⟩
 ·exact aM ho
 ·exact aK ⟨d,(h.f _ b▸b),(h.f _ b▸e)⟩
theorem dI.mem (h:dI k z s H){a b:Int}(ho:k.or z s a b):b∈z.G++H:=by
 rcases ho with⟨_,hb⟩|⟨c,d,e⟩
 ·grind
 grind [fh]
theorem dI.from (h:dI k z s H){b:Int}(hb:b∈z.G++H):∃a,k.or z s a b:=by
 rcases bD.1 hb with hb|hb
 ·exact⟨b,aM ⟨rfl,hb⟩⟩
 ·obtain⟨a,ha,e⟩:=h.gz b hb;have:=h.hlo b hb;exact⟨a,aK ⟨ha,e,aa⟩⟩
theorem dI.bd (h:dI k z s H){b:Int}(hb:b∈z.G++H):(k.N:Int)<=b/\b+(1+pf (k.ld s b))<=(k.N:Int)+s.g/\pc (k.ld s b)=0:=h.full.eC.mem b hb
theorem bk {α:Type _}{b:α}(«as»:List α){bs:List α}:b ∈ bs -> b ∈ «as» ++ bs:=by intros;apply List.mem_append_right<;>assumption
theorem dI.jx (h:dI k z s H){b:Int}(hb:b∈H):(k.N:Int)<=b/\b<(k.N:Int)+s.g:=by
 have c:=h.bd (bk _ hb)
 have:=du (k.ld s b)
 omega
theorem CI.zI (h:CI k s){a:Int}(ha:(k.N:Int)<=a):a∉k.T:=fun c=>by
 have b:=h.tM c
 grind [hy]
theorem nL (h:CI k s){n:Int}(h0:(k.N:Int)<=n)(b:n<1000000):k.cQ (ew 3 n)=MK:=by grind [n5,n6,CI.zI,ck.cQ]
theorem dI.cp (h:dI k z s H){a:Int}(ha:a∈k.T)(o:s.f a=-1):dI k z (k.cp s a) (H++[((k.N+s.g:Nat):Int)])/\dd k s (k.cp s a)/\(k.cp s a).f a=((k.N+s.g:Nat):Int):=by
 have ci:=h.ci;have hc:=ci.iT ha o;obtain⟨p,B,t3⟩:=ci.th a ha;have hp:=du (k.ld s a)
 have hz:=h.rj;have hl:=ck.tO ci.len ci.hy ci.hg p t3 hc;obtain⟨u,_⟩:=ci.cp ha o;obtain⟨v,F⟩:=h.full.copy ci.len ci.hy ci.hg hc (by grind)
 have N:(k.cp s a).f=g7 s.f a ((k.N+s.g:Nat):Int):=by rw[ck.ou hc]
 have S:(k.cp s a).g=s.g+(1+M (pf (k.ld s a))):=by rw[ck.ou hc]
 have d:∀b,b≠a->(k.cp s a).f b=s.f b:=fun b hb=>by simp_all [g7]
 have n:(k.cp s a).f a=((k.N+s.g:Nat):Int):=by simp_all [g7]
 have lo:∀b,b<(k.N:Int)+s.g->k.ld (k.cp s a) b=k.ld s b:=fun b hb=>by grind
 have jV:dd k s (k.cp s a):=⟨fun b hb=>(by grind),aa,fun b f g W=>(by grind)⟩
 have q:∀c b,k.or z (k.cp s a) c b->k.or z s c b\/(c=a/\b=((k.N+s.g:Nat):Int)):=fun c b ho=>by
  rcases ho with ho|⟨o1,t,w⟩
  ·exact aM (aM ho)
  ·by_cases e:c=a
   ·grind
   ·rw[d c e] at t;exact aM (aK ⟨o1,t,w⟩)
 refine⟨⟨u,aa,by rw[<-bA];exact v,h.lj,fun b h0 f=>?_,fun c l f=>?_,fun c l b hb f g=>?_,fun b hb=>?_,fun b hb=>?_,fun c b ho=>?_,fun c b ho i ab x=>?_⟩,jV,n⟩
 ·grind [CI.hy,nK]
 ·grind [fh]
 ·by_cases j:c=a
  ·by_cases m:b=a
   ·omega
   ·rw[j,n,d b m] at g;have:=h.jx (h.fh b hb aa)
    omega
  ·by_cases m:b=a
   ·rw[m,n,d c j] at g;rw[d c j] at f;have:=h.jx (h.fh c l f)
    omega
   ·rw[d c j,d b m] at g;rw[d c j] at f;exact h.inj c l b hb f g
 ·rcases bD.1 hb with hb|hb
  ·obtain⟨c,l,e⟩:=h.gz b hb;have hn:s.f c≠-1:=by have:=h.jx hb;omega
   grind
  grind
 ·rcases bD.1 hb with hb|hb
  ·exact h.hlo b hb
  grind
 ·rcases q c b ho with ho|⟨rfl,rfl⟩
  ·have hm:=h.bd (h.mem ho)
   rw[lo b (by have:=du (k.ld s b);omega)]
   grind [hd]
  grind [nK]
 ·rcases q c b ho with ho|⟨rfl,rfl⟩
  ·have hm:=h.bd (h.mem ho)
   grind [hd,dd.ml,fd]
  ·rw[<-(h.nK c p aa)] at x;refine aM ?_
   grind [nK]
theorem dI.st (h:dI k z s H){a b i x:Int}(ho:k.or z s a b)(n:0<=i)(v:i<pf (k.l0 z a))(q:k.ml s (k.l0 z (a+1+i)) x):dI k z (k.st s (b+1+i) x) H/\k.ld (k.st s (b+1+i) x) (b+1+i)=x/\(∀c,c≠b+1+i->k.ld (k.st s (b+1+i) x) c=k.ld s c):=by
 have ci:=h.ci;have hm:=h.mem ho;have hb:=h.bd hm;have e:=h.hd a b ho;rw[e] at hb;have hi:dv k.N k.y s.g (b+1+i)=ML:=h_ aa aa;have hl:=ck.ot ci.len ci.hy ci.hg (b+1+i) x;have same:k.ld (k.st s (b+1+i) x) (b+1+i)=x:=by simp_all
 have iD:∀c,c≠b+1+i->k.ld (k.st s (b+1+i) x) c=k.ld s c:=fun c hc=>by simp_all
 have ew:k.st s (b+1+i) x={s with ws:=s.ws.set (M (b+1+i)) x}:=by grind [ck.st]
 have ap:∀c d,k.or z s c d->∀j,0<=j->j<pf (k.l0 z c)->d+1+j=b+1+i->c=a/\d=b/\j=i:=fun c d f j j0 m g=>by
  have hd:=h.mem f;have o:d=b:=by
   rcases Int.lt_trichotomy d b with l|l|l
   ·have:=h.full.eC.apart d hd b hm l;have this:d+(1+pf (k.ld s d))<=b:=this
    grind [hd]
   ·omega
   ·have:=h.full.eC.apart b hm d hd l;have this:b+(1+pf (k.ld s b))<=d:=this
    grind
  refine⟨?_,o,aa⟩
  rw[o] at f;rcases f with⟨c1,c2⟩|⟨c1,c2,c3⟩<;>rcases ho with⟨o1,p⟩|⟨o1,p,w⟩
  ·omega
  ·have t:=h.hlo b (by grind [fh])
   have u:=h.lj b c2;omega
  ·have t:=h.hlo b (by grind [fh])
   have u:=h.lj b p;omega
  ·exact h.inj c c1 a o1 aa aa
 have fl:ei k.N k.y (k.st s (b+1+i) x).g (k.st s (b+1+i) x).ws k.T (z.G++H):=(ew▸(h.full.set ci.len ci.hy ci.hg (by grind) n (by show i<pf (k.ld s b);grind)).1)
 refine⟨⟨ci.st aa x,h.rj,fl,h.lj,fun c h0 B=>?_,h.fh,h.inj,h.gz,h.hlo,fun c d f=>?_,fun c d f j j0 m=>?_⟩,same,iD⟩
 ·grind [CI.hy,nK]
 ·have f:=f;rw[iD d (fun g=>?_)]
  ·exact h.hd c d f
  ·exact h.full.eC.field hm n (by show i<pf (k.ld s b);grind) (g▸h.mem f)
 ·have f:=f;by_cases g:d+1+j=b+1+i
  ·obtain⟨rfl,rfl,rfl⟩:=ap c d f j j0 m g;rw[same];exact q
  ·rw[iD _ g];exact h.fd c d f j j0 m
theorem dd.st (ci:CI k s){a x:Int}(c:k.cQ x=MK):dd k s (k.st s a x):=
 ⟨fun _ _=>rfl,aG _,fun b _ _ d=>by grind [ck.ot,CI.len,CI.hy,CI.hg]⟩
theorem dI.br (h:dI k z s H)(x:Int):∃d,dI k z (k.br s x).2 d/\dd k s (k.br s x).2/\k.cQ (k.br s x).1=MK/\(∃i,d=H++i)/\(∀b,k.ml s b x->k.ml (k.br s x).2 b (k.br s x).1)/\(k.cQ x=ML->(k.br s x).2.f (cr x)≠-1)/\(k.br s x).1=k.nw (k.br s x).2 x:=by
 have ci:=h.ci;have n1:=ci.hN';have o:=ci.hO;have key:∀(t:ct)(f:List Int),dI k z t f->dd k s t->(k.cQ x=ML->t.f (cr x)≠-1)->k.cQ (k.nw t x)=MK/\∀b,k.ml s b x->k.ml t b (k.nw t x):=fun t f ht jV hy=>by
  by_cases c:k.cQ x=ML
  ·have hn:=hy c;have j:cr x∈k.T:=by grind [ck.cQ]
   have e:k.nw t x=ew 3 (t.f (cr x)):=by grind [ck.nw]
   have hb:=ht.jx (ht.fh _ j hn)
   have hg:=ht.ci.hg;rw[e];refine⟨nL ht.ci hb.1 aa,fun b hm=>?_⟩
   rcases hm with rfl|⟨m1,g,l⟩
   ·exact aK ⟨c,hn,rfl⟩
   ·exfalso;have m:cr b∈k.T:=by grind [ck.cQ]
    have p:=h.jx (h.fh _ m g)
    have q:=ci.hg
    grind [nL]
  grind [dd.ml,ck.nw]
 unfold ck.br;by_cases c:k.ls s x=ML
 ·obtain⟨c1,c2,c3⟩:=ck.nt c;obtain⟨m1,g,l⟩:=h.cp c2 c3
  grind
 ·have hn:k.cQ x=ML->s.f (cr x)≠-1:=fun hy e=>(by grind [ck.ls])
  obtain⟨k1,n⟩:=key s H h (dd.refl _ _) hn;rw[aI c];exact⟨H,h,dd.refl _ _,k1,⟨[],ac⟩,n,hn,rfl⟩
theorem dI.kf (h:dI k z s H){a b i:Int}(ho:k.or z s a b)(d:0<=i)(e:i<pf (k.l0 z a)):∃c,dI k z (k.kf s (b+1+i)) c/\dd k s (k.kf s (b+1+i))/\k.cQ (k.ld (k.kf s (b+1+i)) (b+1+i))=MK/\∃f,c=H++f:=by
 obtain⟨c,m1,g,l,m,j,_,_⟩:=h.br _;obtain⟨s1,s2,n⟩:=m1.st (g.or ho) d e (j _ (h.fd a b ho i d e))
 grind [dd.trans,dd.st,ci,ck.kf]
theorem dI.gJ (h:dI k z s H){a b:Int}(ho:k.or z s a b):∀n:Nat,(n:Int)<=pf (k.l0 z a)->∃f,dI k z (k.gJ s b n) f/\dd k s (k.gJ s b n)/\(∀i:Nat,i<n->k.cQ (k.ld (k.gJ s b n) (b+1+i))=MK)/\∃d,f=H++d
 |0,_=>⟨H,h,dd.refl _ _,fun i hi=>aa,⟨[],ac⟩⟩
 |n+1,hn=>by
  obtain⟨m,m1,c,o,⟨d,p⟩⟩:=dI.gJ h ho n aa;obtain⟨g,j,j2,cI,⟨l,cK⟩⟩:=m1.kf (c.or ho) (i:=n) aa aa;refine⟨g,j,c.trans j2,fun i hi=>?_,⟨d++l,by simp_all⟩⟩
  by_cases e:i=n
  ·rw[e];exact cI
  ·have hb:=m1.bd (m1.mem (c.or ho))
   rw[(m1.hd _ _ (c.or ho))] at hb;exact j2.cl _ aa aa (by grind)
theorem iM {x:Int}(h:pc x=0)(b:pk x=1\/pk x=3\/pk x=4):pf x=2:=by
 unfold pc at h;unfold pk at b;unfold pf;split at h
 ·rename_i e;rw[aJ e] at b⊢;generalize x%16=a at*;generalize x/16=f at*;unfold hc at e;rcases b with b|b|b
  ·rw[aJ b] at e;split at e
   ·assumption
   ·omega
  ·rw[aI aa,aJ b] at e;split at e
   ·assumption
   ·omega
  ·rw[aI aa,aI aa,aJ b] at e;split at e
   ·assumption
   ·omega
 ·omega
theorem zJ {x:Int}(h:pc x=0):(pk x=1\/pk x=2)\/pk x=3\/pk x=4\/(pk x=5/\pf x=0):=by
 unfold pc at h;unfold pk pf;split at h
 ·rename_i e;rw[aJ e,aJ e];have hb:=jf _ _ e;generalize x%16=a at*;generalize x/16=f at*;by_cases b:a=5
  ·right;right;right;refine⟨b,?_⟩
   unfold hc at e;rw[aI aa,aI aa,aI aa,aI aa,aJ b] at e;split at e
   ·assumption
   ·omega
  ·omega
 ·omega
theorem ll (k:ck)(s:ct)(a:Int):(k.kf s a).wk=s.wk/\(k.kf s a).ep=s.ep/\(k.kf s a).nx=s.nx/\(k.kf s a).rs=s.rs:=by unfold ck.kf ck.st ck.br;split<;>exact⟨rfl,rfl,rfl,rfl⟩
theorem oM (k:ck)(s:ct)(a:Int):∀n,(k.gJ s a n).wk=s.wk/\(k.gJ s a n).ep=s.ep/\(k.gJ s a n).nx=s.nx/\(k.gJ s a n).rs=s.rs
 |0=>⟨rfl,rfl,rfl,rfl⟩
 |n+1=>by obtain⟨b,c,d,e⟩:=oM k s a n;obtain⟨f,j2,cI,cK⟩:=ll k _ _;exact⟨f.trans b,j2.trans c,cI.trans d,cK.trans e⟩
theorem rk (k:ck)(s:ct)(a:Int):(k.lk s a).nx=s.nx/\(k.lk s a).rs=s.rs:=by
 unfold ck.lk;split
 ·exact⟨(oM _ _ _ _).2.2.1,(oM _ _ _ _).2.2.2⟩
 ·split
  ·exact⟨(ll _ _ _).2.2.1,(ll _ _ _).2.2.2⟩
  ·split<;>exact⟨rfl,rfl⟩
theorem dI.turn (h:dI k z s H)(wk ep rs:List Int)(nx:Int)(hw:∀a∈wk,(k.N:Int)<=a/\a<=2000)(he:∀a∈ep,(k.N:Int)<=a/\a<=2000)(h0:(k.N:Int)<=nx)(b:nx<=(k.N:Int)+k.O+13):dI k z {s with wk:=wk,ep:=ep,rs:=rs,nx:=nx} H:=
 {
  ci:={hN:=h.ci.hN,hN':=h.ci.hN',hO:=h.ci.hO,hy:=h.ci.hy,hg:=h.ci.hg,len:=h.ci.len,th:=h.ci.th,nd:=h.ci.nd,room:=h.ci.room,im:=h0,jR:=b,iW:=hw,iE:=he,tl:=h.ci.tl}
  rj:=h.rj,full:=h.full,lj:=h.lj,nK:=h.nK,fh:=h.fh,inj:=h.inj,gz:=h.gz,hlo:=h.hlo,hd:=h.hd,fd:=h.fd}
theorem dd.turn (k:ck)(s:ct)(wk ep rs:List Int)(nx:Int):dd k s {s with wk:=wk,ep:=ep,rs:=rs,nx:=nx}:=⟨fun _ _=>rfl,aG _,fun _ _ _ h=>h⟩
def Lo (k:ck)(s:ct)(b:Int):Prop:=∀i,0<=i->i<pf (k.ld s b)->k.cQ (k.ld s (b+1+i))=MK\/(pk (k.ld s b)=3/\i=0/\b∈s.wk)\/(pk (k.ld s b)=4/\b∈s.ep)
theorem dI.lk (h:dI k z s H){a b:Int}(ho:k.or z s a b):∃e,dI k z (k.lk s b) e/\dd k s (k.lk s b)/\(∃t,e=H++t)/\Lo k (k.lk s b) b/\(∀c∈s.wk,c∈(k.lk s b).wk)/\∀c∈s.ep,c∈(k.lk s b).ep:=by
 have hb:=h.bd (h.mem ho)
 have hg:=h.ci.hg;have hN:=h.ci.hN';have hO:=h.ci.hO;have g:=h.hd a b ho;have F:=du (k.ld s b)
 unfold ck.lk;by_cases c1:pk (k.ld s b)=1\/pk (k.ld s b)=2
 ·rw[aJ c1];obtain⟨e,m1,f,l,o⟩:=h.gJ ho (M (pf (k.ld s b))) (by rw[<-g];omega)
  have m:=m1.hd a b (f.or ho)
  refine⟨e,m1,f,o,fun i n j=>aM ?_,fun c hc=>by rw[(oM _ _ _ _).1];exact hc,fun c hc=>by rw[(oM _ _ _ _).2.1];exact hc⟩
  rw[m,<-g] at j;have q:=l (M i) aa;rw[Int.toNat_of_nonneg n] at q;exact q
 ·rw[aI c1];by_cases c3:pk (k.ld s b)=3
  ·rw[aJ c3];have u:=iM hb.2.2 (aK (aM c3))
   have v:=h.turn (s.wk++[b]) s.ep s.rs s.nx (fun x p=>by
    rcases bD.1 p with d|d
    ·exact h.ci.iW x d
    ·rw[bS] at d;omega) h.ci.iE h.ci.im h.ci.jR
   obtain⟨e,m1,f,l,o⟩:=v.kf (i:=1) ho aa (by rw[<-g];omega)
   have ea:b+1+1=b+2:=aa;rw[ea] at m1 f l;have m:=m1.hd a b (f.or ho)
   refine⟨e,m1,(dd.turn k s (s.wk++[b]) s.ep s.rs s.nx).trans f,o,fun i n j=>?_,fun c hc=>by rw[(ll _ _ _).1];exact bm _ hc,fun c hc=>by rw[(ll _ _ _).2.1];exact hc⟩
   rw[m,<-g,u] at j;by_cases w:i=0
   ·refine aK (aM ⟨by rw[m,<-g];exact c3,w,?_⟩)
    rw[(ll _ _ _).1];simp
   ·have B:i=1:=aa;subst B;rw[ea];exact aM l
  ·rw[aI c3];by_cases c4:pk (k.ld s b)=4
   ·rw[aJ c4];refine⟨H,h.turn s.wk _ s.rs s.nx h.ci.iW (fun x p=>by
     rcases bD.1 p with d|d
     ·exact h.ci.iE x d
     ·rw[bS] at d;subst d;omega) h.ci.im h.ci.jR,dd.turn k s s.wk _ s.rs s.nx,⟨[],ac⟩,fun i n j=>aK (aK ⟨c4,ac⟩),fun c hc=>hc,fun c hc=>bm _ hc⟩
   ·rw[aI c4];refine⟨H,h,dd.refl _ _,⟨[],ac⟩,fun i n j=>?_,fun c hc=>hc,fun c hc=>hc⟩
    have:=zJ hb.2.2;omega
theorem Lo.go {b:Int}{K:List Int}(h:Lo k s b)(hs:dI k z s H)(ht:dI k z t K)(p:dd k s t){a:Int}(ho:k.or z s a b)(hw:b∈s.wk->b∈t.wk)(he:b∈s.ep->b∈t.ep):Lo k t b:=by
 have e:=hs.hd a b ho;have f:=ht.hd a b (p.or ho)
 have hb:=hs.bd (hs.mem ho)
 intro i j g;rw[f,<-e] at g;rw[f,<-e];rcases h i j g with l|⟨c,d,m⟩|⟨c,d⟩
 ·exact aM (p.cl _ aa aa l)
 ·exact aK (aM ⟨c,d,hw m⟩)
 ·exact aK (aK ⟨c,he d⟩)
end
theorem zK {g h:Int->Nat}(R:Int->Int->Prop)(i:∀a b c,R a c->R b c->a=b):∀(l T:List Int),l.Nodup->T.Nodup->(∀b∈l,∃a∈T,R b a/\g b=h a)->hX g l<=hX h T
 |[],T,_,_,_=>a5 _
 |b::l,T,hl,j,k=>by
  obtain⟨a,ha,r,e⟩:=k b ac;rw[Bi] at hl;have p:=pA h T a j ha;have m:=zK R i l (T.filter (fun c=>!(c==a))) hl.2 (j.filter _) (fun c hc=>by
   obtain⟨d,hd,f,n⟩:=k c (aW _ hc)
   refine⟨d,List.mem_filter.2 ⟨hd,?_⟩,f,n⟩
   cases q:d==a
   ·rfl
   ·have o:d=a:=by simpa using q
    rw[o] at f;exact absurd (i c b a f r▸hc) hl.1)
  rw[uw];unfold hX at m⊢;omega
theorem zL {g:Int->Nat}{l T:List Int}(hl:l.Nodup)(c:T.Nodup)(hs:∀a∈l,a∈T):hX g l<=hX g T:=
 zK (fun a b=>a=b) (fun _ _ _ d e=>d.trans e.symm) l T hl c (fun b hb=>⟨b,hs b hb,rfl,rfl⟩)
def nM (L:Int->Int)(a:Int):Nat:=1+M (pf (L a))
theorem eh.sum {L:Int->Int}{hi:Int}:∀{l:List Int}{a:Int},eh L hi a l->(hX (nM L) l:Int)=hi-a
 |[],a,h=>by have h:a=hi:=h;simp[hX,h]
 |x::l,a,h=>by
  obtain⟨rfl,_,c,ht⟩:=h;have b:=eh.sum ht;have hp:=du (L x)
  rw[uw];unfold nM at b⊢;omega
theorem eh.nodup {L:Int->Int}{hi:Int}:∀{l:List Int}{a:Int},eh L hi a l->l.Nodup
 |[],_,_=>List.nodup_nil
 |x::l,a,h=>by
  obtain⟨rfl,_,_,ht⟩:=h;rw[Bi];refine⟨fun c=>?_,eh.nodup ht⟩
  have:=(ht.mem x c).1;have hp:=du (L x)
  omega
section
variable {N y g:Nat}{ws Y G:List Int}
theorem zM (h:ei N y g ws Y G)(hy:y<=N)(Q:List cf){a:Int}(ha:a∈Y\/a∈G)(b:pk (ld N y g ws a)≠5):(L (fg N y g ws Q a):Int)=pf (ld N y g ws a):=by
 have hp:=du (ld N y g ws a)
 unfold fg;rw[aI b,h.stands hy ha];simp;omega
end
def Pos (z:Int->Int)(al:Int->Bool)(f:Int->Int):Int->List Int->Int->Prop
 |n,[],m=>n=m
 |n,a::l,m=>(al a=ML->f a=n/\Pos z al f (n+(1+z a)) l m)/\(al a=MK->f a=-1/\Pos z al f n l m)
section
variable {z:Int->Int}{al:Int->Bool}{f:Int->Int}
theorem Pos.le (hz:∀a,0<=z a):∀{l:List Int}{n m:Int},Pos z al f n l m->n<=m
 |[],n,m,h=>Int.le_of_eq h
 |a::l,n,m,h=>by
  have:=hz a;cases c:al a
  ·exact Pos.le hz (h.2 c).2
  ·have:=Pos.le hz (h.1 c).2;omega
theorem Pos.app:∀{l d:List Int}{n m:Int},Pos z al f n (l++d) m->∃n',Pos z al f n l n'/\Pos z al f n' d m
 |[],d,n,m,h=>⟨n,rfl,h⟩
 |a::l,d,n,m,h=>by
  cases c:al a
  ·obtain⟨n',e,g⟩:=Pos.app (h.2 c).2;exact⟨n',⟨fun b=>(by rw[c] at b;cases b),fun _=>⟨(h.2 c).1,e⟩⟩,g⟩
  ·obtain⟨n',e,g⟩:=Pos.app (h.1 c).2;exact⟨n',⟨fun _=>⟨(h.1 c).1,e⟩,fun b=>(by rw[c] at b;cases b)⟩,g⟩
theorem Pos.bd (hz:∀a,0<=z a):∀{l:List Int}{n m:Int},Pos z al f n l m->∀a∈l,al a=ML->n<=f a/\f a+(1+z a)<=m
 |[],n,m,h,a,ha,_=>by cases ha
 |b::l,n,m,h,a,ha,hl=>by
  rcases bT.1 ha with e|ha
  ·rw[e] at hl⊢;obtain⟨g,d⟩:=h.1 hl;have:=d.le hz;omega
  ·have:=hz b;cases c:al b
   ·exact Pos.bd hz (h.2 c).2 a ha hl
   ·have:=Pos.bd hz (h.1 c).2 a ha hl;omega
theorem Pos.no:∀{l:List Int}{n m:Int},Pos z al f n l m->∀a∈l,al a=MK->f a=-1
 |[],n,m,h,a,ha,_=>by cases ha
 |b::l,n,m,h,a,ha,hl=>by
  rcases bT.1 ha with e|ha
  ·rw[e] at hl⊢;exact(h.2 hl).1
  ·cases c:al b
   ·exact Pos.no (h.2 c).2 a ha hl
   ·exact Pos.no (h.1 c).2 a ha hl
theorem Pos.inj (hz:∀a,0<=z a):∀{l:List Int}{n m:Int},Pos z al f n l m->∀a∈l,∀b∈l,al a=ML->al b=ML->f a=f b->a=b
 |[],n,m,h,a,ha,_,_,_,_,_=>by cases ha
 |x::l,n,m,h,a,ha,b,hb,d,lb,e=>by
  have k:=hz x;rcases bT.1 ha with ea|ha
  ·rcases bT.1 hb with g|hb
   ·rw[ea,g]
   ·rw[ea] at d e;obtain⟨j,i⟩:=h.1 d;have:=i.bd hz b hb lb;omega
  ·rcases bT.1 hb with g|hb
   ·rw[g] at lb e;obtain⟨j,i⟩:=h.1 lb;have:=i.bd hz a ha d;omega
   ·cases c:al x
    ·exact Pos.inj hz (h.2 c).2 a ha b hb d lb e
    ·exact Pos.inj hz (h.1 c).2 a ha b hb d lb e
theorem Pos.ux (hz:∀a,0<=z a){L:Int->Int}:∀{l:List Int}{n m:Int},Pos z al f n l m->(∀a∈l,al a=ML->pc (L (f a))=0/\pf (L (f a))=z a)->eh L m n ((l.filter al).map f)
 |[],n,m,h,_=>by have h:=h;rw[h];exact eh.done
 |a::l,n,m,h,hl=>by
  cases c:al a
  ·rw[qo (by simp[c])];exact Pos.ux hz (h.2 c).2 (fun b hb=>hl b (aW _ hb))
  ·rw[rq c,List.map_cons];obtain⟨g,e⟩:=h.1 c;obtain⟨q1,d⟩:=hl a ac c;rw[g] at q1 d⊢;refine eh.step q1 (by rw[d];exact e.le hz) ?_;rw[d];exact Pos.ux hz e (fun b hb=>hl b (aW _ hb))
theorem Pos.sum:∀{l:List Int}{n m:Int},Pos z al f n l m->(∀a,0<=z a)->(hX (fun a=>1+M (z a)) (l.filter al):Int)=m-n
 |[],n,m,h,_=>by have h:n=m:=h;simp[hX,h]
 |a::l,n,m,h,hz=>by
  have:=hz a;cases c:al a
  ·rw[qo (by simp[c])];exact Pos.sum (h.2 c).2 hz
  ·rw[rq c,uw];have:=Pos.sum (h.1 c).2 hz;omega
end
theorem pO (k:cg)(al:Int->Bool):∀(l:List Int)(t:cz×Int),l.Nodup->(∀a∈l,al a=!(t.1.f a==-1))->Pos (fun a=>pf (k.ld a)) al (k.mH t l).1.f t.2 l (k.mH t l).2/\(∀b,b∉l->(k.mH t l).1.f b=t.1.f b)/\(k.mH t l).1.td=t.1.td/\(k.mH t l).1.ep=t.1.ep
 |[],t,_,_=>⟨rfl,fun _ _=>rfl,rfl,rfl⟩
 |a::l,t,hn,ha=>by
  rw[Bi] at hn;have n:k.mH t (a::l)=k.mH (fE (fun t a=>t.1.f a) k.mG t a) l:=rfl;have o:=ha a ac;by_cases c:t.1.f a=-1
  ·have f:fE (fun t a=>t.1.f a) k.mG t a=t:=by unfold fE;rw[aJ c]
   rw[n,f];obtain⟨g,d,i,j⟩:=pO k al l t hn.2 (fun b hb=>ha b (aW _ hb))
   have ea:al a=MK:=by rw[o,c];rfl
   exact⟨⟨fun h=>(by rw[ea] at h;cases h),fun _=>⟨by rw[d a hn.1];exact c,g⟩⟩,fun b hb=>d b (fun m=>hb (aW _ m)),i,j⟩
  ·have f:fE (fun t a=>t.1.f a) k.mG t a=k.mG t a:=by unfold fE;rw[aI c]
   rw[n,f];obtain⟨g,d,i,j⟩:=pO k al l (k.mG t a) hn.2 (fun b hb=>by
    have p:b≠a:=fun e=>hn.1 (e▸hb)
    show al b=!(g7 t.1.f a t.2 b==-1)
    unfold g7;rw[aI p];exact ha b (aW _ hb))
   have ea:al a=ML:=by rw[o,beq_false_of_ne c];rfl
   refine⟨⟨fun _=>⟨?_,g⟩,fun h=>(by rw[ea] at h;cases h)⟩,fun b hb=>?_,i,j⟩
   ·rw[d a hn.1];show g7 t.1.f a t.2 a=_;unfold g7;rw[aJ rfl]
   ·rw[d b (fun m=>hb (aW _ m))];show g7 t.1.f a t.2 b=_;unfold g7;rw[aI (fun e=>hb (by rw[e];simp))]
theorem Mb {b:Type}{l:List b}{i:Nat}{x y:b}(h:y∈l.set i x):y∈l\/y=x:=List.mem_or_eq_of_mem_set h
end Go.Proofs.YtpkjkjhanlbcoaaGreat
