import Derived.Test.YtpkjkjhanlbcoaaGreatJ14
open Array renaming size->I
open Bool renaming false->Nb,true->Nc
open Go renaming Addr->bG,Calls->J,info_parts->bV,maxLen->bW
open Go.Ending renaming returned->E
open Go.IntKind renaming i64->Q,u64->sQ
open Go.Obj renaming cells->M5
open Go.Proofs.Tryz renaming prog->O
open Go.RowKit renaming Below->C,intOf->bN
open Go.Value renaming bool->bK,int->U,ownBlock->P,slice->M0,tuple->a8
open Go.World renaming cell?->V,heap->M2
open Int renaming toNat->M
open List renaming getD->X,length->L,length_drop->p1,length_replicate->hV,length_take->Jo,mem_append->bE,mem_filter->bM,mem_map->fo,mem_singleton->bQ,replicate->A,replicate->Ni
open Nat renaming min->pq,min_def->tV,zero_add->b7
open Option renaming none->M9,some->Z
namespace Go.Proofs.YtpkjkjhanlbcoaaGreat
set_option maxRecDepth 100000
set_option maxHeartbeats 4000000
open Tryz
open Go.RowKit W Kp cq
theorem nW {P:Prop}(h:P:=by go_wp2_with fail;go_ret;exact⟨F2,rfl,HF.o.1,HF.o.2⟩):P:=h
theorem AI {P:Prop}(h:P:=by
 rcases(show c=0\/c=1\/c=2\/c=3\/c=4\/c=5\/c=6\/c=7\/c=8\/c=9\/c=10\/c=11\/c=12 by omega) with rfl|rfl|rfl|rfl|rfl|rfl|rfl|rfl|rfl|rfl|rfl|rfl|rfl<;>
 (go_enter func223,ntmps223
  go_wp2_with fail;go_ret2;exact⟨rfl,rfl⟩)):P:=h
theorem AJ {P:Prop}(h:P:=by
 go_enter func167,ntmps167;go_wp2_with fail;refine P.mono ?_;rintro e w1 ⟨rfl,hw⟩
 have hw:=hw.symm;subst hw;go_wp2_with fail;go_ret2;exact⟨rfl,rfl⟩):P:=h
theorem AK {P:Prop}(h:P:=by
 go_enter func127,ntmps127;go_wp2_with fail;refine P.mono ?_;rintro e w1 ⟨rfl,hb⟩
 go_wp2;go_ret2;exact⟨rfl,hb⟩):P:=h
def kC (k:ck)(z:C0)(x:Int):Prop:=de x=Nc/\(cr x∈k.T\/cr x∈z.G)
def il (k:ck)(z:C0)(s:ct)(q:List cf):Prop:=∀e∈q,kC k z e.1/\∃b,kC k z b/\k.ml s b e.2
def uU (k:ck)(s:ct)(q:List cf):Prop:=∀e∈q,k.al s e.2=Nc\/k.al s e.1=Nb
section
variable {k:ck}{z:C0}{s t u:ct}{D H:List Int}{q:List cf}
theorem il.j6 (h:il k z s q)(p:dd k s t):il k z t q:=fun e he=>by
 obtain⟨b,c,d,f⟩:=h e he
 grind [dd.ml]
theorem p_ (p:dd k s t){x:Int}(h:k.al s x=Nc):k.al t x=Nc:=by grind [dd.f,ck.al,ck.ls]
theorem rU {x:Int}(h:k.cQ x=Nb):k.al s x=Nc:=by grind [ck.al,ck.ls]
theorem il.lA:∀(l:List Nat)(t:(ct×List cf)×Bool)(H:List Int),LI k z t.1.1 H D->dU k z t.1.1 H->(∀i∈l,i<L t.1.2)->il k z t.1.1 t.1.2->il k z (l.foldl (dI k.al k.br) t).1.1 (l.foldl (dI k.al k.br) t).1.2
 |[],_,_,_,_,_,e=>e
 |i::l,t,H,h,w,hl,e=>by
  rw[a_];by_cases c:(k.al t.1.1 (X t.1.2 i (0,0)).2||!k.al t.1.1 (X t.1.2 i (0,0)).1)=Nc
  ·have b:dI k.al k.br t i=t:=by grind [dI]
   rw[b];exact il.lA l t H h w (by grind) e
  ·have b:dI k.al k.br t i=(((k.br t.1.1 (X t.1.2 i (0,0)).2).2,t.1.2.set i ((X t.1.2 i (0,0)).1,(k.br t.1.1 (X t.1.2 i (0,0)).2).1)),Nc):=by grind [dI]
   have hi:=hl i ac;have hm:X t.1.2 i (0,0)∈t.1.2:=by simp_all
   obtain⟨f,l1,w1,g,_⟩:=da.br _ H h w;obtain⟨_,_,_,_,_,m1,_⟩:=h.mi.br _;rw[b];refine il.lA l _ f l1 w1 (fun j n=>?_) ?_
   ·grind
   ·intro m hd;have hd:=hd;rcases List.mem_or_eq_of_mem_set hd with hd|rfl
    ·exact e.j6 g m hd
    ·obtain⟨g1,d,g2,g3⟩:=e _ hm;exact⟨g1,d,g2,m1 d g3⟩
theorem il.wa {t:ct×List cf}(h:LI k z t.1 H D)(w:dU k z t.1 H)(e:il k z t.1 t.2):il k z (k.wa t).1.1 (k.wa t).1.2:=
 il.lA _ (t,Nb) H h w (by grind) e
theorem il.c_:∀(n:Nat)(t:ct×List cf)(H:List Int),LI k z t.1 H D->dU k z t.1 H->il k z t.1 t.2->il k z (k.c_ n t).1 (k.c_ n t).2
 |0,_,_,_,_,e=>e
 |n+1,t,H,h,w,e=>by
  obtain⟨f,l1,w1,g,_⟩:=da.lb (k.O+1) H h w;obtain⟨c,l2,b,i,_⟩:=da.kv f l1 w1;have d:=e.j6 (g.trans i)
  obtain⟨j,l,m,_,_⟩:=da.wa ((k.kv _).2,t.2) c l2 b;have o:=il.wa (t:=((k.kv _).2,t.2)) l2 b d;unfold ck.c_;split
  ·exact il.c_ n ((k.kv _).2,t.2) c l2 b d
  ·split
   ·exact il.c_ n _ j l m o
   omega
theorem AL (k:ck):∀(l:List Nat)(t:(ct×List cf)×Bool),(l.foldl (dI k.al k.br) t).2=Nb->∀i∈l,k.al t.1.1 (X t.1.2 i (0,0)).2=Nc\/k.al t.1.1 (X t.1.2 i (0,0)).1=Nb
 |[],_,_,_,hi=>by cases hi
 |j::l,t,h,i,hi=>by
  rw[a_] at h;obtain⟨_,b⟩:=uJ k l _ h;by_cases c:(k.al t.1.1 (X t.1.2 j (0,0)).2||!k.al t.1.1 (X t.1.2 j (0,0)).1)=Nc
  ·have d:dI k.al k.br t j=t:=by unfold dI;rw[aJ c]
   rw[d] at h;rcases List.mem_cons.1 hi with rfl|hi
   ·simpa using c
   ·exact AL k l t h i hi
  ·unfold dI at b;rw[aI c] at b;cases b
theorem rV:∀(n:Nat)(t:ct×List cf)(H:List Int),LI k z t.1 H D->dU k z t.1 H->eB k t.1->k.mu t.1<n->uU k (k.c_ n t).1 (k.c_ n t).2
 |0,t,H,_,_,_,e=>aa
 |n+1,t,H,h,w,hb,e=>by
  obtain⟨v,l1,w1,_,_,_⟩:=LI.oV (k.O+1) h w;obtain⟨c1,c2,c3⟩:=CI.lb h.mi.ci hb (k.O+1)
  obtain⟨g,b,x,j⟩:=CI.kv c1 c2;obtain⟨c,l2,d,_,_⟩:=l1.kv w1;unfold ck.c_;cases hk:(k.kv _).1
  ·rw[aI ac];obtain⟨B,l,F,N,m⟩:=CI.wa (s:=((k.kv _).2,t.2)) g b;cases hw:(k.wa ((k.kv _).2,t.2)).2
   ·rw[aI ac,uK k _ hw];intro S hd;obtain⟨i,hi,W⟩:=List.mem_iff_getElem.1 hd;have q:=AL k _ (((k.kv _).2,t.2),Nb) hw i (by grind)
    grind
   ·obtain⟨o,p,u,_,_⟩:=da.wa ((k.kv _).2,t.2) c l2 d;have f:=m hw;dsimp only at f;exact rV n _ o p u l aa
  ·rw[aJ rfl];have f:=j hk;exact rV n ((k.kv _).2,t.2) c l2 d b (by grind)
def im (k:ck)(z:C0)(D:List Int)(t:ct×List cf):Prop:=∃H,LI k z t.1 H D/\dU k z t.1 H/\eB k t.1/\il k z t.1 t.2/\uU k t.1 t.2
theorem im.sp {t:ct×List cf}(h:LI k z t.1 H D)(w:dU k z t.1 H)(hb:eB k t.1)(e:il k z t.1 t.2):im k z D (k.sp t):=by obtain⟨K,m1,b,_,_⟩:=da.sp t H h w;exact⟨K,m1,b,(p5 _ t h.mi.ci hb).2,il.c_ _ t H h w e,rV _ t H h w hb aa⟩
theorem im.cm {t:ct×List cf}(h:im k z D t){e:cf}(f:kC k z e.1)(j2:kC k z e.2):im k z D (cm (dY ct) (fun s x=>k.al s.1 x) k.ke t e).2:=by
 cases c:k.al t.1 e.1
 ·grind [nc]
 ·rw[nf (o:=dY ct) (is:=fun s x=>k.al s.1 x) (kp:=k.ke) (s:=t) (e:=e) c];obtain⟨H,d,g,u,i,v⟩:=h;obtain⟨j,l1,w1,l,_⟩:=da.br (k:=k) (z:=z) (D:=D) (s:=t.1) e.2 H d g;obtain⟨_,_,_,y1,_,m1,_⟩:=d.mi.br e.2;obtain⟨_,w,B,F⟩:=mP k t.1 e.2;have hb:eB k (k.br t.1 e.2).2:=⟨by simp_all [eB.wk],by simp_all [eB.ep]⟩
  obtain⟨K,q1,m,q3,n,p⟩:=im.sp (t:=((k.br t.1 e.2).2,t.2)) l1 w1 hb (i.j6 l)
  obtain⟨_,_,_,q,_⟩:=da.sp (k:=k) (z:=z) (D:=D) ((k.br t.1 e.2).2,t.2) j l1 w1;show im k z D ((k.sp ((k.br t.1 e.2).2,t.2)).1,(k.sp ((k.br t.1 e.2).2,t.2)).2++[(e.1,(k.br t.1 e.2).1)])
  refine⟨K,q1,m,q3,fun b hd=>?_,fun b hd=>?_⟩
  ·rcases bE.1 hd with hd|hd
   ·exact n b hd
   ·rw[bQ.1 hd];exact⟨f,e.2,j2,q.ml (m1 _ (aM rfl))⟩
  ·rcases bE.1 hd with hd|hd
   ·exact p b hd
   grind [rU]
theorem im.pl:∀(l:List cf)(u:List cf×List cf×(ct×List cf)),im k z D u.2.2->(∀e∈l,kC k z e.1/\kC k z e.2)->im k z D (l.foldl (eM (Go.Proofs.YtpkjkjhanlbcoaaGreat.cm (dY ct) (fun s x=>k.al s.1 x) k.ke)) u).2.2
 |[],_,h,_=>h
 |e::l,u,h,hl=>by
  have key:(eM (Go.Proofs.YtpkjkjhanlbcoaaGreat.cm (dY ct) (fun s x=>k.al s.1 x) k.ke) u e).2.2=(Go.Proofs.YtpkjkjhanlbcoaaGreat.cm (dY ct) (fun s x=>k.al s.1 x) k.ke u.2.2 e).2:=by grind [eM]
  refine im.pl l _ ?_ (by grind)
  grind [cm]
theorem im.eT:∀(n:Nat)(t:ct×List cf)(b:List cf),im k z D t->(∀e∈b,kC k z e.1/\kC k z e.2)->im k z D (eT (Go.Proofs.YtpkjkjhanlbcoaaGreat.cm (dY ct) (fun s x=>k.al s.1 x) k.ke) n t b).1
 |0,_,_,h,_=>h
 |n+1,t,b,h,hd=>by
  have d:=im.pl b ([],[],t) h hd;have d:im k z D (pts (Go.Proofs.YtpkjkjhanlbcoaaGreat.cm (dY ct) (fun s x=>k.al s.1 x) k.ke) t b).2.2:=d;by_cases c:L (pts (Go.Proofs.YtpkjkjhanlbcoaaGreat.cm (dY ct) (fun s x=>k.al s.1 x) k.ke) t b).1=0
  ·grind [mz]
  ·rw[mA _ _ _ _ c];exact im.eT n _ _ d (fun e he=>(by grind [s7]))
theorem AM (k:ck):∀(l:List Int)(s:ct),(l.foldl k.e3 s).g=s.g
 |[],_=>rfl
 |x::l,s=>by rw[a_,AM k l];unfold ck.e3;split<;>rfl
theorem AN (k:ck):∀(l:List Int)(s:ct),(l.foldl k.hI s).g=s.g
 |[],_=>rfl
 |x::l,s=>by rw[a_,AN k l];rfl
end
section
variable {a:Wc}{S:cw}{Y G:List Int}
theorem Ia (h:eP a S.s Y G)(hb:cO a S.s)(hr:S.s.y<=a.O-S.s.g)(he:j7 a S):∃D,im (S.s.k0 a) (S.s.z0 G) D ((S.s.k0 a).fu (S.t3 a) S.r)/\dd (S.s.k0 a) (S.t3 a).1 (S.s4 a):=by
 have p:(S.s.k0 a).T=Y:=oW h.inv.full hb.n1 hb.y1 hb.o1 hb.g1;have d:∀x,tB a.N S.s.y S.s.g S.s.ws x=Nc->kC (S.s.k0 a) (S.s.z0 G) x:=fun x f=>by
  obtain⟨q1,q2⟩:=(jE h.inv.full hb.n1 hb.y1 hb.o1 hb.g1).1 f;refine⟨q1,?_⟩
  rw[p];exact q2
 have i:=LI.start h.inv.full hb.n0 hb.n1 hb.o1 hb.y1 hb.g1 hb.l1 hr;obtain⟨H1,c,q,⟨ab,ad⟩,l1,y1,_,m1⟩:=i.cP 12 (by show 12<=L S.s.rs;rw[hb.r1];omega)
 have j:dM a.N S.s.y (S.s.s1 a).g (S.s.s1 a).ws=G++H1:=(c.mi.full.lists hb.n1 hb.y1 hb.o1 c.mi.ci.hg).2;have s:(S.s.s1 a).nx=((S.s.k0 a).N:Int)+(S.s.z0 G).g:=(me _ _ 12).2.2;have u:el ((S.s.k0 a).l0 (S.s.z0 G)) (((S.s.k0 a).N:Int)+(S.s.z0 G).g) (S.s.k0 a).N (S.s.z0 G).G:=h.inv.full.eH;obtain⟨k,g,m,n,v,⟨ag,ai⟩,_,al⟩:=LI.pZ (dO a.O) S.s.M u (G++H1) c ((dU.start a S.s G).cP i.mi 12 c.mi q (by grind)) (fun x f=>(bE.1 f).imp id (fun B=>c.mi.hlo x B))
 have F:(G++H1).foldl ((S.s.k0 a).gR (((S.s.k0 a).N:Int)+(S.s.z0 G).g) (dO a.O) S.s.M) ((S.s.k0 a).cP (S.s.s0 a) 12)=S.s.s2 a:=by unfold eE.s2 ck.lm;rw[j,s];rfl
 have hlen:=rN (S.s.k0 a) (((S.s.k0 a).N:Int)+(S.s.z0 G).g) (dO a.O) S.s.M (G++H1) ((S.s.k0 a).cP (S.s.s0 a) 12)
 rw[F] at m n v hlen;have am:L (G++H1)<=2000:=(j▸je _ _)
 obtain⟨q1,q2,q3⟩:=me _ _ 12;have cb:eB (S.s.k0 a) (S.s.s2 a):=by exact uM
 have key:∀s2:ct,LI (S.s.k0 a) (S.s.z0 G) s2 k g->dU (S.s.k0 a) (S.s.z0 G) s2 k->eB (S.s.k0 a) s2->_:=fun s2 l w b=>
  im.sp (t:=(s2,S.q)) l w b (fun e hq=>⟨d _ (he e (by grind)).1,e.2,d _ (he e (by grind)).2,aM rfl⟩)
 have o:im (S.s.k0 a) (S.s.z0 G) g (S.t3 a):=by exact key _ m n cb
 refine⟨g,im.eT _ (S.t3 a) _ o (fun e hq=>?_),?_⟩
 ·have hq:=(bM.1 hq).1;exact⟨d _ (he e (by grind)).1,d _ (he e (by grind)).2⟩
 ·obtain⟨K,r1,N,_⟩:=o;obtain⟨_,_,_,W,_⟩:=da.fu (S.t3 a) S.r K r1 N;exact W
theorem j7.cut (h:eP a S.s Y G)(hb:cO a S.s)(he:j7 a S):j7 a (S.cut a):=by
 cases hf:S.full a
 ·have hr:S.s.y<=a.O-S.s.g:=by have:=of_decide_eq_false hf;omega
  obtain⟨K,D,c⟩:=rO h hb hr;obtain⟨W,⟨H,s1,s2,_,s4,s5⟩,j6⟩:=Ia h hb hr he;have p:(S.s.k0 a).T=Y:=oW h.inv.full hb.n1 hb.y1 hb.o1 hb.g1;have hN:=hb.n1;have hO:=hb.o1;have hg:=c.li.mi.ci.hg;have ab:(S.s.k0 a).N=a.N:=rfl;have ad:(S.s.k0 a).O=a.O:=rfl;have ag:(S.s6 a).g=(S.s4 a).g:=(AN _ _ _).trans (AM _ _ _)
  have s:S.cut a=⟨⟨0,(S.s6 a).g,(S.s6 a).ws,[],(S.s6 a).rs⟩,(S.s.k0 a).sR (S.t3 a) S.r,(S.s.k0 a).jM (S.t3 a) S.r⟩:=by grind [cw.cut]
  have t:∀x,de x=Nc->cr x∈G++K->tB a.N (S.cut a).s.y (S.cut a).s.g (S.cut a).s.ws x=Nc:=fun x g i=>(s▸(jE (O:=a.O) (c.done h hb).full hN aa hO aa).2 (by grind))
  have ai:∀v∈(S.s.k0 a).T,(S.s4 a).f v≠-1->de (ew 3 ((S.s4 a).f v))=Nc/\cr (ew 3 ((S.s4 a).f v))∈G++K:=fun v hv u=>by
   have w:=c.li.mi.fh _ hv u;have al:=c.li.mi.jD w;obtain⟨n,hn⟩:∃n:Nat,(S.s4 a).f v=n:=⟨M ((S.s4 a).f v),aa⟩
   grind [nO]
  have am:∀x,(S.s.k0 a).cQ x=Nc->cr x∈(S.s.k0 a).T:=fun x m=>by grind [ck.cQ]
  have key:∀x,kC (S.s.k0 a) (S.s.z0 G) x->(S.s.k0 a).al (S.s4 a) x=Nc->tB a.N (S.cut a).s.y (S.cut a).s.g (S.cut a).s.ws ((S.s.k0 a).nw (S.s4 a) x)=Nc:=fun x j ha=>by
   cases hy:(S.s.k0 a).cQ x
   ·have b:(S.s.k0 a).nw (S.s4 a) x=x:=by grind [ck.nw]
    rw[b];refine t x j.1 (bu _ ?_)
    rcases j.2 with q|q
    ·unfold ck.cQ at hy;rw[j.1] at hy
     grind
    ·exact q
   grind [ck.al,ck.ls,ck.nw]
  have B:∀d x,kC (S.s.k0 a) (S.s.z0 G) d->(S.s.k0 a).ml (S.s4 a) d x->(S.s.k0 a).al (S.s4 a) x=Nc->tB a.N (S.cut a).s.y (S.cut a).s.g (S.cut a).s.ws ((S.s.k0 a).nw (S.s4 a) x)=Nc:=fun d x j hm ha=>by
   rcases hm with rfl|⟨m1,an,ao⟩
   all_goals grind [ck.nw]
  have ap:∀x,tB a.N S.s.y S.s.g S.s.ws x=Nc->kC (S.s.k0 a) (S.s.z0 G) x:=fun x m=>by
   obtain⟨q1,F⟩:=(jE (O:=a.O) h.inv.full (by assumption) hb.y1 (by assumption) hb.g1).1 m;refine⟨q1,?_⟩
   rw[p];exact F
  intro e hm;rcases hm with hm|hm
  ·have b:(S.cut a).r=(S.s.k0 a).sR (S.t3 a) S.r:=by grind
   rw[b] at hm;have hm:=hm;obtain⟨f,g,i⟩:=fo.1 hm;obtain⟨k,l⟩:=bM.1 g;obtain⟨ar,N⟩:=bM.1 k;obtain⟨o,j2⟩:=he f (by grind)
   rw[<-i];exact⟨key _ (by grind) l,key _ (by grind) (p_ j6 N)⟩
  ·have b:(S.cut a).q=(S.s.k0 a).jM (S.t3 a) S.r:=by grind
   rw[b] at hm;have hm:e∈(((S.s.k0 a).fu (S.t3 a) S.r).2.filter (fun e=>(S.s.k0 a).al (S.s4 a) e.1)).map fun e=>((S.s.k0 a).nw (S.s4 a) e.1,(S.s.k0 a).nw (S.s4 a) e.2):=hm;obtain⟨f,g,i⟩:=fo.1 hm;obtain⟨k,l⟩:=bM.1 g;obtain⟨o,d,j2,cI⟩:=s4 f k;rw[<-i];refine⟨key _ o l,B d _ j2 cI ?_⟩
   rcases s5 f k with q|q
   ·exact q
   ·have q:(S.s.k0 a).al (S.s4 a) f.1=Nb:=q
    grind
 grind [cw.cut]
end
def cw.kx (a:Wc)(S:cw)(x:Int):Int:=if tB a.N S.s.y S.s.g S.s.ws x=Nc then pk (ld a.N S.s.y S.s.g S.s.ws (cr x)) else 0
def cw.fx (a:Wc)(S:cw)(x:Int):Int:=if tB a.N S.s.y S.s.g S.s.ws x=Nc then pf (ld a.N S.s.y S.s.g S.s.ws (cr x)) else 0
def cw.ex (a:Wc)(S:cw)(x:Int):Int:=if tB a.N S.s.y S.s.g S.s.ws x=Nc then pc (ld a.N S.s.y S.s.g S.s.ws (cr x)) else 2
def cw.room (a:Wc)(S:cw)(m:Int):Int×cw:=if m<=(a.N:Int)-S.s.y then(0,S) else if(S.s.y:Int)<=(a.O:Int)-S.s.g then(S.code a,S.cut a) else(S.i5 a,S.dH a)
def cw.put (a:Wc)(S:cw)(kd:Int)(rl:List Nat):cw:=⟨{S.s with y:=S.s.y+1+L rl,ws:=jr S.s.rs S.s.y (ge a.N S.s.y kd (L rl) S.s.ws) rl (L rl)},S.r,S.q⟩
def cw.b_ (a:Wc)(S:cw)(kd:Int)(rl:List Nat):Int×Int×cw:=if(S.room a (1+L rl)).1=0 then(ew 3 (S.room a (1+L rl)).2.s.y,0,(S.room a (1+L rl)).2.put a kd rl) else(0,(S.room a (1+L rl)).1,(S.room a (1+L rl)).2)
def cw.pop (a:Wc)(S:cw)(x:Int):Int×Int×cw:=
 if S.kx a x=5 then(if dW x S.q<L S.q then((X S.q (dW x S.q) (0,0)).2,0,⟨S.s,S.r,S.q.take (dW x S.q)++S.q.drop (dW x S.q+1)⟩) else(0,4,S)) else(0,2,S)
def cw.len (a:Wc)(S:cw)(x:Int):Int×Int×cw:=if S.ex a x=0/\S.kx a x≠5 then(ew 1 (S.fx a x),vc 1 (S.fx a x),S) else(0,2,S)
def cw.rt (a:Wc)(S:cw)(k:Int)(A B:Nat)(I n:Int):Int×Int×cw:=
 if k=1 then(ew 1 n,vc 1 n,S) else if k=3 then(X S.s.rs A 0,0,S) else if k=4 then S.b_ a 1 [A,B] else if k=5 then S.b_ a 2 (List.replicate (M n) A)
 else if k=6 then S.b_ a 3 [A,B] else if k=7 then S.b_ a 4 [A,B] else if k=8 then S.b_ a 5 [] else if k=10 then S.pop a (X S.s.rs A 0)
 else if k=11 then((if eO a.N S.s.y S.s.g S.s.ws (X S.s.rs A 0) I=0 then ld a.N S.s.y S.s.g S.s.ws (cr (X S.s.rs A 0)+1+I) else 0),eO a.N S.s.y S.s.g S.s.ws (X S.s.rs A 0) I,S)
 else if k=13 then S.len a (X S.s.rs A 0) else if k=14 then(if X S.s.rs A 0=X S.s.rs B 0 then ew 1 1 else ew 1 0,0,S) else(2,0,S)
def cw.reg (a:Wc)(S:cw)(t g:Int):Int×cw:=
 if S.ex a t=0 then(if S.kx a g=5 then(if 24<=L S.r+L S.q then(3,S) else(0,⟨S.s,S.r++[(g,t)],S.q⟩)) else(2,S)) else(S.ex a t,S)
def cw.set (a:Wc)(S:cw)(x i z:Int):cw:=⟨{S.s with ws:=gP a.N S.s.y S.s.g S.s.ws x i z,M:=stM a.N S.s.y S.s.g S.s.ws x i z (dO a.O) S.s.M},S.r,S.q⟩
def cw.st (S:cw)(R:Nat)(x:Int):cw:=⟨{S.s with rs:=S.s.rs.set R x},S.r,S.q⟩
def cw.hd (a:Wc)(S:cw)(k R A B I n:Int):Int×cw:=
 if d7 k R A B n=0 then(if k=9 then S.reg a (X S.s.rs (M A) 0) (X S.s.rs (M B) 0) else if k=12 then(eO a.N S.s.y S.s.g S.s.ws (X S.s.rs (M A) 0) I,S.set a (X S.s.rs (M A) 0) I (X S.s.rs (M B) 0))
  else if k=15 then(S.code a,S.cut a) else if k=16 then(S.i5 a,S.dH a)
  else if(S.rt a k (M A) (M B) I n).2.1=0 then(0,(S.rt a k (M A) (M B) I n).2.2.st (M R) (S.rt a k (M A) (M B) I n).1) else((S.rt a k (M A) (M B) I n).2.1,(S.rt a k (M A) (M B) I n).2.2))
 else(d7 k R A B n,S)
theorem AO (k:ck):∀(l:List Int)(s:ct),(l.foldl k.e3 s).rs=s.rs
 |[],_=>rfl
 |x::l,s=>by rw[a_,AO k l];unfold ck.e3;split<;>rfl
theorem AP (k:ck):∀(l:List Int)(s:ct),(l.foldl k.hI s).rs=s.rs
 |[],_=>rfl
 |x::l,s=>by rw[a_,AP k l];rfl
section
variable {a:Wc}{S:cw}{Y G:List Int}
theorem eP.ei (h:eP a S.s Y G)(hb:cO a S.s):cO a (S.cut a).s:=by
 unfold cw.cut;cases hf:S.full a
 ·have hr:S.s.y<=a.O-S.s.g:=by exact rj
  obtain⟨K,D,c⟩:=rO h hb hr;rw[aI ac];have c4:=c.li.mi.ci;have c5:=(c4.mw (fun x b=>(c4.i1 x b).1)).1;have d:=(c5.be (fun x b=>(c5.iJ x b).1)).1;have e:(S.s6 a).rs=(S.s4 a).rs:=(AP _ _ _).trans (AO _ _ _)
  exact⟨hb.n0,hb.n1,hb.o1,a5 _,d.hg,d.len,(e▸c.rl)⟩
 ·exact hb
theorem eP.Ib (h:eP a S.s Y G)(hb:cO a S.s):cO a (S.dH a).s:=by
 cases hf:S.gh a
 ·obtain⟨_,g,_⟩:=mS h hb hf;exact(g.gc.inv h hb g.al).2
 ·have b:S.dH a=S:=by unfold cw.dH;rw[aJ hf]
  rw[b];exact hb
theorem eP.store {s:eE}(h:eP a s Y G)(hb:cO a s){v i z:Int}(hv:v∈Y)(d:0<=i)(e:i<pf (ld a.N s.y s.g s.ws v))(hz:de z=Nc->cr z∈Y\/cr z∈G):eP a {s with ws:=s.ws.set (M (v+1+i)) z} Y G:=by
 refine⟨h.inv.set hb.l1 hb.y1 hb.g1 (aM hv) d e hz,?_⟩
 obtain⟨_,hk⟩:=h.inv.full.set hb.l1 hb.y1 hb.g1 (aM hv) d e;have k:=nP h.inv.full hv d e;have l:=hb.y1;have hl:=hb.l1;intro u b j j0 c ha f;rw[hk u (aK b)] at c;have m:=nQ h.inv.full b j0 c;have hi:=kW h.inv.full (aK b) j0 c;have g:ld a.N s.y s.g (s.ws.set (M (v+1+i)) z) (u+1+j)=ld a.N s.y s.g s.ws (u+1+j):=by rw[eA hi,eA hi,mG _ _ _ _ aa,aI aa]
 rw[g] at ha f;exact h.cd u b j j0 c ha f
end
theorem eP.any {a:Wc}{s:eE}{Y G:List Int}(h:eP a s Y G)(i:Nat)(ha:de (X s.rs i 0)=Nc):cr (X s.rs i 0)∈Y\/cr (X s.rs i 0)∈G:=by
 by_cases hi:i<L s.rs
 ·exact h.inv.at i hi ha
 ·rw[aL,List.getElem?_eq_none aa] at ha;exact absurd ha ae
theorem uV (ws:List Int)(y:Nat)(x:Int):∀k,L (fZ ws y x k)=L ws
 |0=>by simp[fZ]
 |k+1=>by rw[fZ,bh];exact uV ws y x k
structure Ic (a:Wc)(S:cw)(kd:Int)(rl:List Nat)(Y G:List Int)(ws:List Int):Prop where
 k:eP a {S.s with y:=S.s.y+1+L rl,ws:=ws} (Y++[(S.s.y:Int)]) G
 l:L ws=a.N+a.O
 p:ld a.N (S.s.y+1+L rl) S.s.g ws S.s.y=hw kd (L rl)
 h:∀v,(v∈Y\/v∈G)->ld a.N (S.s.y+1+L rl) S.s.g ws v=ld a.N S.s.y S.s.g S.s.ws v
theorem uW {a:Wc}{S:cw}{Y G:List Int}{kd:Int}{rl:List Nat}(h:eP a S.s Y G)(hb:cO a S.s)(hk:hc kd (L rl)=0)(hr:S.s.y+1+L rl<=a.N):∀j,j<=L rl->Ic a S kd rl Y G (jr S.s.rs S.s.y (ge a.N S.s.y kd (L rl) S.s.ws) rl j)
 |0,_=>by
  have hm:jd a.N S.s.y kd (L rl)=Nc:=by unfold jd;simp;omega
  have m:jz a.N S.s.y kd (L rl)=S.s.y+1+L rl:=by unfold jz;rw[aJ hm];omega
  have d:ge a.N S.s.y kd (L rl) S.s.ws=fZ S.s.ws S.s.y (hw kd (L rl)) (L rl):=by unfold ge;rw[aJ hm];rfl
  have n:=hb.l1;have hlt:S.s.y+L rl<L S.s.ws:=aa;have m1:=h.inv.make hb.l1 hm;have k:=lz.make h.inv h.cd hb.l1 hm;rw[m] at m1 k;have o:L (ge a.N S.s.y kd (L rl) S.s.ws)=a.N+a.O:=by rw[d,uV];exact n
  refine⟨⟨m1,k⟩,o,?_,fun v hv=>?_⟩
  ·show ld a.N _ S.s.g (ge a.N S.s.y kd (L rl) S.s.ws) S.s.y=_;rw[d,eA (jf aa aa),kl _ _ _ _ _ hlt,aJ aa]
  ·show ld a.N _ S.s.g (ge a.N S.s.y kd (L rl) S.s.ws) v=_;rw[d];rcases hv with f|f
   ·have hi:=h.inv.full.i0 v f;exact yh
   ·have hi:=h.inv.full.io v f;exact tO
 |j+1,p=>by
  have b:=uW h hb hk hr j aa;have e:jr S.s.rs S.s.y (ge a.N S.s.y kd (L rl) S.s.ws) rl (j+1)=(jr S.s.rs S.s.y (ge a.N S.s.y kd (L rl) S.s.ws) rl j).set (S.s.y+1+j) (X S.s.rs (X rl j 0) 0):=rfl;rw[e];generalize jr S.s.rs S.s.y _ rl j=ws at b⊢;have g:cO a {S.s with y:=S.s.y+1+L rl,ws:=ws}:=⟨hb.n0,hb.n1,hb.o1,hr,hb.g1,b.l,hb.r1⟩
  have i:(S.s.y:Int)∈Y++[(S.s.y:Int)]:=ac;have l:((j:Nat):Int)<pf (ld a.N (S.s.y+1+L rl) S.s.g ws S.s.y):=by rw[b.p,(qx kd (L rl) hk).2.1];omega
  have st:=b.k.store g (z:=X S.s.rs (X rl j 0) 0) i aa l (fun ha=>by exact(h.any _ ha).imp (fun c=>bu _ c) id)
  have q:M ((S.s.y:Int)+1+(j:Nat))=S.s.y+1+j:=aa;have hs:=(b.k.inv.full.set (z:=X S.s.rs (X rl j 0) 0) b.l g.y1 g.g1 (aM i) (Int.natCast_nonneg j) l).2;refine⟨st,by rw[bh];exact b.l,(hs _ (aM i)).trans b.p,fun v hv=>(hs v (hv.imp (fun c=>bu _ c) id)).trans (b.h v hv)⟩
theorem AQ (w:az)(B n1 b:Nat)(l1 l2:List cf)(d f:bG)(c1 c2:Nat)(g:L l1=n1)(i:L l2=b)(j:V w (av B 0)=Z (M0 (Z d) n1 c1))(k:V w (av B 1)=Z (M0 (Z f) b c2))(l:dA w (Z d) l1)(n:dA w (Z f) l2)(hm:n1+b<=100000):
 J O 230 #[M0 (au B) 2 2] w fun e w'=>∃a c m,e=E (M0 a m c)/\aA (m=n1+b)/\aA (w'.ownsRow (I (M2 w)) 103 2 (M0 a m c) m (ev (l1++l2)))/\C (I (M2 w)) w w':=by
 subst g;subst i;refine(FU w B l1 l2 d f c1 c2 j k l n hm).mono ?_;rintro e w' ⟨a,c,rfl,o,p⟩
 exact⟨a,c,_,rfl,rfl,o,p⟩
theorem dA.take {w:az}{ad:Option bG}{q:List cf}(h:dA w ad q)(i:Nat):dA w ad (q.take i):=by
 intro hp;simp only [Jo] at hp;obtain⟨b,o,e,hb,hc⟩:=h aa;refine⟨b,o,e,hb,fun j c=>?_⟩
 simp only [Jo] at c;have d:X (q.take i) j (0,0)=X q j (0,0):=by rw[aL,aL,List.getElem?_take_of_lt aa]
 rw[d];exact hc j aa
theorem dA.drop {w:az}{b o:Nat}{q:List cf}(h:dA w (Z ⟨b,o,M9⟩) q)(i:Nat):dA w (Z ⟨b,o+i*2,M9⟩) (q.drop i):=by
 intro hp;simp only [p1] at hp;obtain⟨f,o',e,hb,hc⟩:=h aa;cases e;refine⟨b,o+i*2,rfl,hb,fun j c=>?_⟩
 simp only [p1] at c;have d:X (q.drop i) j (0,0)=X q (i+j) (0,0):=by simp[List.getElem?_drop]
 rw[d,show o+i*2+j*2=o+(i+j)*2 by omega];exact hc (i+j) aa
theorem Ie:dV 229:=gM func229 ah rfl
theorem If (w:az)(B:Nat)(g:Int)(e:cf)(h:V w (av B 0)=Z (ak g)):
 J O 229 #[en e,aq B] w fun r w'=>r=E (bK (e.1==g))/\C (I (M2 w)) w w':=by
 obtain⟨x,y⟩:=e;have c:=aT w _ h;have b:=aw w (M5 #[U Q x,U Q y] 103)
 ·go_wp2;go_ret;exact⟨ac,b⟩
theorem AR {w w1 b:az}{p m:Nat}{a0 c:Option bG}{k0 k1 c5 i n:Nat}{r q:List cf}(h:fU w p a0 k0 (au m) k1 r q)(f:C (I (M2 w)) w w1)(o:C (I (M2 w1)) w1 b)(g:b.ownsRow (I (M2 w1)) 103 2 (M0 c n c5) n (ev (q.take i++q.drop (i+1))))(hi:i<L q)(hn:n+1=L q):
 fU (b.setCell ⟨p,1,M9⟩ (M0 c n c5)) p a0 k0 c c5 r (q.take i++q.drop (i+1))/\(∀z,c=Z z->I (M2 w)<=z.block)/\Fr (fun k=>k=p) w (b.setCell ⟨p,1,M9⟩ (M0 c n c5)):=by
 have j:=f.trans (o.mono f.size)
 have d:=h.below j;have hl:L (q.take i++q.drop (i+1))=n:=by rw[a7,bz,p1];omega
 have l:∀k,k≠p->(b.setCell ⟨p,1,M9⟩ (M0 c n c5)).heap[k]?=b.heap[k]?:=fun k hk=>aX _ _ _ _ hk;refine⟨⟨by rw[hl];exact FY d.blk,cM d.r0 (fun k e=>l k (d.np d.r0 k e)),?_⟩,fun z e=>?_,(Fr.of j).set p 1 _ rfl⟩
 ·rw[hl];exact fq (cM g (fun k e=>l k (d.np g k e))) (fun _ _=>a5 _)
 ·have:=(cv g z.block (by rw[e];rfl)).1;have:=f.size;omega
theorem AS (w:az)(p:Nat)(a0 a1:Option bG)(k0 k1:Nat)(r q:List cf)(g:Int)(h:fU w p a0 k0 a1 k1 r q)(aV:L q<=90000):
 J O 194 #[aq p,ak g] w fun e w'=>
  (e=E (a8 #[ak 0,bK Nb])/\(∀e∈q,¬e.1=g)/\C (I (M2 w)) w w')\/
  (∃(i:Nat)(b1:Option bG)(c1:Nat),e=E (a8 #[ak (X q i (0,0)).2,bK Nc])/\i<L q/\(X q i (0,0)).1=g/\(∀e∈q.take i,¬e.1=g)/\fU w' p a0 k0 b1 c1 r (q.take i++q.drop (i+1))/\(∀z,b1=Z z->I (M2 w)<=z.block)/\Fr (fun k=>k=p) w w'):=by
 obtain⟨c0,c1,al,a2,lp⟩:=h.cells;have H:aA (fU w p a0 k0 a1 k1 r q):=h;have l:=aw w (M5 #[U Q g] 2)
 have y1:=(l.cell (p:=av p 1) lp).trans c1;have P:=Ee (fun _=>True) 229 #[] #[aq (I (M2 w))] (fun e=>e.1==g) Ie (w.alloc (M5 #[U Q g] 2)) (fun w' e _ hs hk=>If w' (I (M2 w)) g e ((aQ (a:=⟨I (M2 w),0,M9⟩) (hk _ ac)).trans ac)) q a1 k1 (fun _ _=>trivial) aa ((it h.q0).below l)
 clear h c0 al;go_enter func194,ntmps194;go_wp2_with fail;refine P.mono ?_;clear P;rintro e w1 ⟨hb,⟨rfl,hn⟩|⟨i,rfl,hi,ht,hn⟩⟩
 ·have n:aA (∀e∈q,¬e.1=g):=fun e he=>by simpa using hn e he
  have f:=l.trans (hb.mono ac)
  clear hb hn;go_wp2_with fail;go_ret2;exact aM ⟨rfl,n.o,f⟩
 ·have n:aA (∀e∈q.take i,¬e.1=g):=fun e he=>by simpa using hn e he
  have W:aA ((X q i (0,0)).1=g):=by show _=_;simpa using ht
  obtain⟨z,s⟩:∃z,aA (z=(X q i (0,0)).2):=⟨_,rfl⟩
  have f:=l.trans (hb.mono ac)
  have a3:=f.size;have j:=H.o.below f;obtain⟨a4,ab,ba,ad,o⟩:=j.cells;have t:=rk j.q0;obtain⟨b,cap,ag⟩:=eW j.q0 aa;simp at ag;obtain⟨rfl,rfl⟩:=ag;have bb:=t.le;have am:k1<=maxLen:=by
   rcases j.q0.2 with⟨_,h0⟩|⟨g,bd,be,hv,_,_,_,hc,_⟩
   ·omega
   ·simp at hv;omega
  unfold bW at am;obtain⟨bg,bi,an,bl,hc⟩:=t.lp aa;cases an;have ao:=(hc i hi).2;rw[b7,<-s.o] at ao;have bn:(0:Int)<=(i:Int):=aa;have bo:(i:Int)<(L q:Int):=aa;have bp:aA (fU w1 p a0 k0 (au b) k1 r q):=j;clear hb hn l hc j ht;have u:aA (dA w1 (au b) q):=t.lp;have ai:aA (L (q.take i)=i):=by show _=_;rw[bz];omega
  have br:(i:Int)<=(k1:Int):=aa;have bs:IntKind.i64.wrap ((i:Int)+1)=(i:Int)+1:=by rw[bA];omega
  have bt:(0:Int)<=(i:Int)+1:=aa;have bx:(i:Int)+1<=(L q:Int):=aa;have b0:M ((i:Int)+1)=i+1:=aa;have b2:M (i:Int)=i:=aa;by_cases hk:i+1=k1
  ·subst hk;have hz:L q-(i+1)=0:=aa;have c:=(aw w1 (M5 #[M0 (Z ⟨b,0,M9⟩) i (i+1),M0 (Z ⟨b,0,M9⟩) 0 0] 151)).drew;have v:aA (L (q.drop (i+1))=0):=by show _=_;rw[p1];omega
   have ap:dA (w1.alloc (M5 #[M0 (Z ⟨b,0,M9⟩) i (i+1),M0 (Z ⟨b,0,M9⟩) 0 0] 151)).drew (au b) (q.drop (i+1)):=fun h=>by rw[p1] at h;omega
   go_wp2_with fail
   go_region_with (go_at_call 230;refine(AQ _ (I (M2 w1)) i (0) (q.take i) (q.drop (i+1)) ⟨b,0,M9⟩ ⟨b,0,M9⟩ (i+1) (0) ai.o v.o ac ac ((u.o.take i).below c) (ap) aa).mono ?_;rintro e x ⟨B,c5,ar,rfl,F,m,d⟩;have aB:=(d.cell (p:=av p 1) (by simp;omega)).trans ((c.cell (p:=av p 1) o).trans ab);have aF:=(d.frozen (p:=av p 1) (by simp;omega)).trans ((c.frozen (p:=av p 1) o).trans ad))
   all_goals
    go_wp2_with fail;go_ret2;refine aK ⟨i,B,c5,by rw[<-s.o];rfl,hi,W.o,n.o,?_⟩
    have N:C (I (M2 w1)) w1 x:=c.trans (d.mono ac)
    exact AR H.o f N (fq m.o (fun k e=>by have:=(cv m.o k e).1;simp at this;omega)) hi (by have:=F.o;omega)
  ·have b3:¬k1=i+1:=fun e=>hk e.symm;have c:=(aw w1 (M5 #[M0 (Z ⟨b,0,M9⟩) i k1,M0 (Z ⟨b,(i+1)*2,M9⟩) (L q-(i+1)) (k1-(i+1))] 151)).drew;have v:aA (L (q.drop (i+1))=L q-(i+1)):=p1;have S:=(u.o.drop (i+1)).below c;rw[b7] at S;have aR:aA (dA (w1.alloc (M5 #[M0 (Z ⟨b,0,M9⟩) i k1,M0 (Z ⟨b,(i+1)*2,M9⟩) (L q-(i+1)) (k1-(i+1))] 151)).drew (Z ⟨b,(i+1)*2,M9⟩) (q.drop (i+1))):=S;clear S;go_wp2_with fail
   go_region_with (go_at_call 230;refine(AQ _ (I (M2 w1)) i (L q-(i+1)) (q.take i) (q.drop (i+1)) ⟨b,0,M9⟩ ⟨b,(i+1)*2,M9⟩ k1 (k1-(i+1)) ai.o v.o ac ac ((u.o.take i).below c) (aR.o) aa).mono ?_;rintro e x ⟨B,c5,ar,rfl,F,m,d⟩;have aB:=(d.cell (p:=av p 1) (by simp;omega)).trans ((c.cell (p:=av p 1) o).trans ab);have aF:=(d.frozen (p:=av p 1) (by simp;omega)).trans ((c.frozen (p:=av p 1) o).trans ad))
   all_goals
    go_wp2_with fail;go_ret2;refine aK ⟨i,B,c5,by rw[<-s.o];rfl,hi,W.o,n.o,?_⟩
    have N:C (I (M2 w1)) w1 x:=c.trans (d.mono ac)
    exact AR H.o f N (fq m.o (fun k e=>by have:=(cv m.o k e).1;simp at this;omega)) hi (by have:=F.o;omega)
section
variable {a:Wc}{hp:Nat}{F:Nat->Prop}{S:cw}{w:az}
theorem uX (h:(cD a hp).J F S w)(x:Int):
 Calls O 48 #[aq a.pw,ak x] w fun e w'=>e=E (a8 #[ak (S.kx a x),ak (S.fx a x),ak (S.ex a x)])/\C (I (M2 w)) w w':=
 Ev x w (fw h).c0 (l7 h).1
theorem AT (h:(cD a hp).J F S w)(x:Int):
 Calls O 121 #[aq hp,ak x] w fun e w'=>e=E (bK (S.kx a x==5))/\C (I (M2 w)) w w':=by
 have P:=uX h x;obtain⟨h0,_⟩:=fw h;go_enter func121,ntmps121;exact um
theorem Ig {q:List cf}{g:Int}{i:Nat}(hi:i<L q)(b:(X q i (0,0)).1=g)(c:∀e∈q.take i,¬e.1=g):dW g q=i:=by
 refine(List.findIdx_eq hi).2 ⟨?_,fun j d=>?_⟩
 ·rw[aL,aN hi] at b;simpa using b
 ·have:=c (q[j]'aa) (by rw[List.mem_take_iff_getElem];exact⟨j,aa,rfl⟩)
  simpa using this
theorem Ih (h:(gg a).J F S w)(g:Int)(hq:L S.q<=90000):
 Calls O 194 #[aq a.sd,ak g] w fun e w'=>∃m,e=E (a8 #[ak (if dW g S.q<L S.q then(X S.q (dW g S.q) (0,0)).2 else 0),bK (decide (dW g S.q<L S.q))])/\(gg a).J m (if dW g S.q<L S.q then⟨S.s,S.r,S.q.take (dW g S.q)++S.q.drop (dW g S.q+1)⟩ else S) w'/\ch F w m w':=by
 have q:=h;obtain⟨n,ar,f,⟨s,ad,cap,j,t,u,v,o,p,ab,x⟩,r0,r1,k⟩:=h;refine(AS w a.sd ar ad f cap S.r S.q g ⟨t,r0,u⟩ hq).mono ?_;rintro e w' (⟨rfl,hn,hb⟩|⟨i,b1,c1,rfl,hi,g1,g2,hs,B,fr⟩)
 ·have l:¬dW g S.q<L S.q:=fun c=>by
   unfold dW at c;have:=List.findIdx_getElem (w:=c)
   exact hn _ (a9 c) (by simpa using this)
  rw[aI l,aI l,bC l];exact⟨F,rfl,(gg a).below q hb,ch.of hb⟩
 ·rw[(Ig hi g1 g2),aJ hi,aJ hi,bv hi];have nq:∀b,Z b=P (Value.slice b1 (L (S.q.take i++S.q.drop (i+1))) c1)->I (M2 w)<=b:=fun b e=>by
   cases b1 with
   |none=>simp[Value.ownBlock] at e
   |some z=>
    simp[Value.ownBlock] at e;rw[e];exact B z rfl
  refine⟨fun b=>(n b\/Z b=P (Value.slice b1 _ c1))\/Z b=P (Value.slice ar (L S.r) f),rfl,⟨fun b=>n b\/Z b=P (Value.slice b1 _ c1),ar,f,⟨s,b1,c1,(es a).keep j fr.size (fun b d=>fr.block b ((es a).lt j b d) (fun e=>p (by have e:=e;rw[<-e];exact d))),hs.blk,hs.q0,fun b d=>aM (v b d),aM o,p,fun b e=>⟨aK e,fun d=>by have N:=(es a).lt j b d;have W:=nq b e;omega⟩,fun b d=>?_⟩,hs.r0,fun b e d=>?_,fun b=>Iff.rfl⟩,⟨fr.mono (fun b d=>(k b).2 (aM (by have d:=d;rw[d];exact o))),fun b d=>?_⟩⟩
  ·rcases d with d|d
   ·exact aO (x b d) fr.size
   ·exact(cv hs.q0 b d).2
  ·rcases d with d|d
   ·exact r1 b e d
   ·have N:=(cv r0 b e).2;have W:=nq b d;omega
  ·rcases d with(d|d)|d
   ·exact aM ((k b).2 (aM d))
   ·exact aK (nq b d)
   ·exact aM ((k b).2 (aK d))
theorem Ii (x y:Int)(w:az):
 J O 127 #[ak x,ak y] w fun e w'=>e=E (a8 #[ak (if x=y then ew 1 1 else ew 1 0),ak 0])/\C (I (M2 w)) w w':=by
 by_cases e:x=y
 ·subst e;rw[aJ rfl];have P:=pN 1 w;rw[show vc 1 1=0 by decide] at P;exact AK
 ·have P:=pN 0 w;exact AK
theorem Ij (h:(cD a hp).J F S w)(x:Int):
 Calls O 126 #[aq hp,ak x] w fun e w'=>e=E (a8 #[ak (S.len a x).1,ak (S.len a x).2.1])/\C (I (M2 w)) w w':=by
 have P:=uX h x;obtain⟨h0,_⟩:=fw h;unfold cw.len;generalize S.kx a x=k at*;generalize S.fx a x=f at*;generalize S.ex a x=c at*;by_cases hc:c=0
 ·subst hc;by_cases hk:k=5
  ·subst hk;rw[aI ac];go_enter func126,ntmps126;exact tJ
  ·rw[aJ ⟨rfl,hk⟩];have b:=fun w=>pN f w;generalize ew 1 f=v at*;generalize vc 1 f=u at*;go_enter func126,ntmps126;go_wp2_with fail;refine P.mono ?_;rintro e w1 ⟨rfl,hb1⟩
   go_wp2_with fail;refine(b w1).mono ?_;rintro e i ⟨rfl,d⟩
   have hb:=hb1.trans (d.mono hb1.size)
   go_wp2_with fail;go_ret2;exact⟨rfl,hb⟩
 ·rw[aI (fun g=>hc g.1)];go_enter func126,ntmps126;exact tJ
theorem AU (h:(cD a hp).J F S w):V w (av a.pw 2)=Z (aq a.sd):=by obtain⟨c,b,_⟩:=kQ h;obtain⟨d,g1,_⟩:=nK b;obtain⟨_,_,c2,_⟩:=kt g1;exact c2
theorem Ik (h:(cD a hp).J F S w)(x:Int)(hq:L S.q<=90000):
 Calls O 125 #[aq hp,ak x] w fun e w'=>∃d,e=E (a8 #[ak (S.pop a x).1,ak (S.pop a x).2.1])/\(cD a hp).J d (S.pop a x).2.2 w'/\ch F w d w':=by
 have P:=AT h x;have l:=hide h;unfold cw.pop;by_cases hk:S.kx a x=5
 ·rw[aJ hk];rw[hk] at P;have hr:∀w1,C (I (M2 w)) w w1->V w1 (av hp 0)=Z (aq a.pw)/\V w1 (av a.pw 2)=Z (aq a.sd)/\Calls O 194 #[aq a.sd,ak x] w1 fun e w'=>∃d,e=E (a8 #[ak (if dW x S.q<L S.q then(X S.q (dW x S.q) (0,0)).2 else 0),bK (decide (dW x S.q<L S.q))])/\(cD a hp).J d (if dW x S.q<L S.q then⟨S.s,S.r,S.q.take (dW x S.q)++S.q.drop (dW x S.q+1)⟩ else S) w'/\ch F w d w':=fun w1 b=>by
   have j:=(cD a hp).below l.o b;refine⟨(fw j).h0,AU j,?_⟩
   obtain⟨s,g1,_,g3⟩:=kQ j;refine(Ih g1 x hq).mono ?_;rintro e w' ⟨d,rfl,n,o⟩
   obtain⟨f,j2,g⟩:=g3 _ _ _ n o;exact⟨f,rfl,j2,(ch.of b).trans g⟩
  have i:=hide hr;by_cases hi:dW x S.q<L S.q
  ·rw[aJ hi];simp only [if_pos hi,decide_eq_true hi] at i;generalize (X S.q (dW x S.q) (0,0)).2=v at*;generalize (⟨S.s,S.r,S.q.take (dW x S.q)++S.q.drop (dW x S.q+1)⟩:cw)=t at*;go_enter func125,ntmps125;go_wp2_with fail;refine P.mono ?_;rintro e w1 ⟨rfl,b⟩
   obtain⟨k0,p,k⟩:=i.o w1 b;go_wp2_with fail;refine k.mono ?_;rintro e m ⟨f,rfl,j2,g⟩
   have c:aA (_/\_):=⟨j2,g⟩
   go_wp2;go_ret2;exact⟨f,rfl,c.o.1,c.o.2⟩
  ·rw[aI hi];simp only [if_neg hi,decide_eq_false hi] at i;go_enter func125,ntmps125;go_wp2_with fail;refine P.mono ?_;rintro e w1 ⟨rfl,b⟩
   obtain⟨k0,p,k⟩:=i.o w1 b;go_wp2_with fail;refine k.mono ?_;rintro e m ⟨f,rfl,j2,g⟩
   have c:aA (_/\ch F w f m):=⟨j2,g⟩
   go_wp2;go_ret2;exact⟨f,rfl,c.o.1,c.o.2⟩
 ·rw[aI hk];have q:(S.kx a x==5)=Nb:=by simpa using hk
  rw[q] at P;go_enter func125,ntmps125;go_wp2_with fail;refine P.mono ?_;rintro e w1 ⟨rfl,b⟩
  have c:aA ((cD a hp).J F S w1/\ch F w F w1):=⟨(cD a hp).below l.o b,ch.of b⟩
  go_wp2;go_ret2;exact⟨F,rfl,c.o.1,c.o.2⟩
theorem Il (h:(cD a hp).J F S w)(t g:Int)(hr:L S.r<=90000)(hq:L S.q<=90000):
 Calls O 56 #[aq hp,ak t,ak g] w fun e w'=>∃i,e=E (ak (S.reg a t g).1)/\(cD a hp).J i (S.reg a t g).2 w'/\ch F w i w':=by
 have P:=uX h t;obtain⟨h0,_⟩:=fw h;have q:aA ((cD a hp).J F S w):=h;unfold cw.reg;have m:aA (∀w1,C (I (M2 w)) w w1->Calls O 121 #[aq hp,ak g] w1 fun e w'=>e=E (bK (S.kx a g==5))/\C (I (M2 w)) w w'):=fun w1 b=>by
  refine(AT ((cD a hp).below q.o b) g).mono ?_;rintro e w' ⟨rfl,d⟩
  exact⟨rfl,b.trans (d.mono b.size)⟩
 have s:aA (∀w1,C (I (M2 w)) w w1->V w1 (av hp 0)=Z (aq a.pw)/\V w1 (av a.pw 2)=Z (aq a.sd)/\Calls O 49 #[aq a.sd,.agg #[ak g,ak t]] w1 fun e w'=>∃i,e=E (bK (!ku (L S.r+L S.q)))/\(cD a hp).J i (if 24<=L S.r+L S.q then S else⟨S.s,S.r++[(g,t)],S.q⟩) w'/\ch F w i w'):=fun w1 b=>by
  have u:=(cD a hp).below q.o b;refine⟨(fw u).h0,AU u,?_⟩
  obtain⟨ad,g1,_,g3⟩:=kQ u;refine(F0 g1 g t hr hq).mono ?_;rintro e w' ⟨i,rfl,x,B⟩
  obtain⟨F2,j2,n⟩:=g3 _ _ _ x B;exact⟨F2,rfl,j2,(ch.of b).trans n⟩
 generalize S.fx a t=f at*;generalize S.kx a t=k at*;by_cases hc:S.ex a t=0
 ·rw[aJ hc];rw[hc] at P;by_cases hk:S.kx a g=5
  ·rw[aJ hk];rw[hk] at m;by_cases j:24<=L S.r+L S.q
   ·rw[aJ j];simp only [if_pos j,rn j] at s;go_enter func56,ntmps56;go_wp2_with fail;refine P.mono ?_;rintro e w1 ⟨rfl,b⟩
    have o:=m.o w1 b;go_wp2_with fail;refine o.mono ?_;rintro e l ⟨rfl,d⟩
    obtain⟨k0,N,v⟩:=s.o l d;go_wp2_with fail;refine v.mono ?_;rintro e p ⟨F2,rfl,j2,n⟩
    have HF:aA ((cD a hp).J F2 S p/\ch F w F2 p):=⟨j2,n⟩
    exact nW
   ·rw[aI j];simp only [if_neg j,ru j] at s;generalize (⟨S.s,S.r++[(g,t)],S.q⟩:cw)=W at*;go_enter func56,ntmps56;go_wp2_with fail;refine P.mono ?_;rintro e w1 ⟨rfl,b⟩
    have o:=m.o w1 b;go_wp2_with fail;refine o.mono ?_;rintro e l ⟨rfl,d⟩
    obtain⟨k0,N,v⟩:=s.o l d;go_wp2_with fail;refine v.mono ?_;rintro e p ⟨F2,rfl,j2,n⟩
    have HF:aA ((cD a hp).J F2 W p/\ch F w F2 p):=⟨j2,n⟩
    exact nW
  ·rw[aI hk];have ab:(S.kx a g==5)=Nb:=by simpa using hk
   simp only [ab] at m;go_enter func56,ntmps56;go_wp2_with fail;refine P.mono ?_;rintro e w1 ⟨rfl,b⟩
   have o:=m.o w1 b;go_wp2_with fail;refine o.mono ?_;rintro e l ⟨rfl,d⟩
   have HF:aA ((cD a hp).J F S l/\ch F w F l):=⟨(cD a hp).below q.o d,ch.of d⟩
   go_wp2_with fail;go_ret;exact⟨F,rfl,HF.o.1,HF.o.2⟩
 ·rw[aI hc];generalize S.ex a t=c at*;go_enter func56,ntmps56;go_wp2_with fail;refine P.mono ?_;rintro e w1 ⟨rfl,b⟩
  have HF:aA ((cD a hp).J F S w1/\ch F w F w1):=⟨(cD a hp).below q.o b,ch.of b⟩
  go_wp2_with fail;go_ret;exact⟨F,rfl,HF.o.1,HF.o.2⟩
theorem AV (h:(cD a hp).J F S w)(hq:L S.q+L S.r<=90000):
 Calls O 50 #[aq a.pw] w fun e w'=>∃b,e=E (ak (S.code a))/\(cD a hp).J b (S.cut a) w'/\ch F w b w':=by
 obtain⟨i,g1,_,g3⟩:=kQ h;refine(FT g1 hq).mono ?_;rintro e w' ⟨b,rfl,c,d⟩
 obtain⟨f,j2,g⟩:=g3 _ _ _ c d;exact⟨f,rfl,j2,g⟩
theorem AW (h:(cD a hp).J F S w)(hq:L S.q+L S.r<=90000)(c:S.gh a=Nb->∃G,i4 (S.k5 a) (S.dN a) G/\G 0 (S.k5 a,0)):
 Calls O 37 #[aq a.pw] w fun e w'=>∃b,e=E (ak (S.i5 a))/\(cD a hp).J b (S.dH a) w'/\ch F w b w':=by
 obtain⟨j,g1,_,g3⟩:=kQ h;refine(HR g1 hq c).mono ?_;rintro e w' ⟨b,rfl,d,f⟩
 obtain⟨g,j2,i⟩:=g3 _ _ _ d f;exact⟨g,rfl,j2,i⟩
theorem Im (h:(cD a hp).J F S w)(m:Int)(hq:L S.q+L S.r<=90000)(q:S.gh a=Nb->∃G,i4 (S.k5 a) (S.dN a) G/\G 0 (S.k5 a,0)):
 Calls prog 193 #[aq hp,ak m] w fun e w'=>∃b,e=E (ak (S.room a m).1)/\(cD a hp).J b (S.room a m).2 w'/\ch F w b w':=by
 unfold cw.room;by_cases hm:m<=(a.N:Int)-S.s.y
 ·rw[aJ hm];refine(GF h m hm).mono ?_;rintro e w' ⟨rfl,hb⟩
  exact⟨F,rfl,(cD a hp).below h hb,ch.of hb⟩
 rw[aI hm];obtain⟨h0,c0,_⟩:=fw h;have s:=(l7 h).1;have P:=pD w s;have o:aA (∀w1,C (I (M2 w)) w w1->(V w1 (av hp 0)=Z (aq a.pw)/\V w1 (av a.pw 0)=Z (aq a.p))/\Calls prog 22 #[aq a.p] w1 fun e w'=>e=E (a8 #[ak S.s.y,ak S.s.g])/\C (I (M2 w)) w w'):=fun w1 c=>by
  have d:=(cD a hp).below h c;obtain⟨h0,c0,_⟩:=fw d;refine⟨⟨h0,c0⟩,?_⟩
  refine(lq w1 (l7 d).1).mono ?_;rintro e w' ⟨rfl,f⟩
  exact⟨rfl,c.trans (f.mono c.size)⟩
 have p:aA (∀w1,C (I (M2 w)) w w1->V w1 (av hp 0)=Z (aq a.pw)/\(Calls prog 50 #[aq a.pw] w1 fun e w'=>∃b,e=E (ak (S.code a))/\(cD a hp).J b (S.cut a) w'/\ch F w b w')/\(Calls prog 37 #[aq a.pw] w1 fun e w'=>∃b,e=E (ak (S.i5 a))/\(cD a hp).J b (S.dH a) w'/\ch F w b w')):=fun w1 c=>by
  have d:=(cD a hp).below h c;refine⟨(fw d).h0,(AV d hq).mono ?_,(AW d hq q).mono ?_⟩
  ·rintro e w' ⟨b,rfl,g,i⟩
   exact⟨b,rfl,g,(ch.of c).trans i⟩
  ·rintro e w' ⟨b,rfl,g,i⟩
   exact⟨b,rfl,g,(ch.of c).trans i⟩
 by_cases hy:(S.s.y:Int)<=(a.O:Int)-S.s.g
 ·rw[aJ hy];generalize S.cut a=t at*;generalize S.code a=cd at*;go_enter func193,ntmps193;go_wp2_with fail;refine P.mono ?_;rintro e w1 ⟨rfl,c⟩
  obtain⟨⟨g0,g1⟩,j⟩:=o.o w1 c;go_wp2_with fail;refine j.mono ?_;rintro e k ⟨rfl,f⟩
  obtain⟨k0,l,_⟩:=p.o k f;go_wp2_with fail;refine l.mono ?_;rintro e u ⟨F2,rfl,j2,n⟩
  have HF:=c8 j2 n;exact nW
 ·rw[aI hy];generalize S.dH a=t at*;generalize S.i5 a=cd at*;go_enter func193,ntmps193;go_wp2_with fail;refine P.mono ?_;rintro e w1 ⟨rfl,c⟩
  obtain⟨⟨g0,g1⟩,j⟩:=o.o w1 c;go_wp2_with fail;refine j.mono ?_;rintro e k ⟨rfl,f⟩
  obtain⟨k0,_,l⟩:=p.o k f;go_wp2_with fail;refine l.mono ?_;rintro e u ⟨F2,rfl,j2,n⟩
  have HF:=c8 j2 n;exact nW
theorem In (kd:Int)(rl:List Nat)(p:Option bG)(cap:Nat)(b:cw)(bx:L rl<=12)(hk:hc kd (L rl)=0)(room:b.s.y+1+L rl<=a.N)
 (hv:0<L rl->∃d,p=au d/\¬F d/\d<I (M2 w)/\∀i,i<L rl->V w (av d i)=Z (ak ((X rl i 0:Nat):Int)))(hr:∀i,i<L rl->X rl i 0<12)
 (h:(cD a hp).J F S w)
 (N:Calls prog 193 #[aq hp,ak (1+L rl)] w fun e w'=>∃c,e=E (ak 0)/\(cD a hp).J c b w'/\ch F w c w'):
 Calls prog 123 #[aq hp,ak kd,M0 p (L rl) cap] w fun e w'=>∃c,e=E (a8 #[ak (ew 3 b.s.y),ak 0])/\(cD a hp).J c (b.put a kd rl) w'/\ch F w c w':=by
 have q:jd a.N b.s.y kd (L rl)=Nc:=by unfold jd;rw[hk];simp;omega
 have W:jz a.N b.s.y kd (L rl)=b.s.y+1+L rl:=by unfold jz;rw[aJ q];omega
 have ab:qP a.N b.s.y kd (L rl)=b.s.y:=by unfold qP;rw[aJ q]
 have ad:aA (0<L rl->_):=hv;have ba:aA (∀i,i<L rl->_):=hr;have ag:aA (_/\_):=⟨W,ab⟩
 have bb:aA (b.put a kd rl=⟨{b.s with y:=b.s.y+1+L rl,ws:=jr b.s.rs b.s.y (ge a.N b.s.y kd (L rl) b.s.ws) rl (L rl)},b.r,b.q⟩):=rfl;have n1:=(l7 h).1.hN';generalize b.put a kd rl=bd at*;clear hv hr q W ab hk h;go_enter func123,ntmps123;go_wp2_with fail;refine N.mono ?_;clear N;rintro e w1 ⟨b0,rfl,s,ai⟩
 obtain⟨h0,c0,_⟩:=fw s;obtain⟨f,l⟩:=l7 s;have b1:=f.hy;have b2:=f.hg;have n4:=f.hO;have u:=Em kd (L rl) w1 f;rw[ag.o.1,ag.o.2] at u;have m:aA (∀w' y g ws,At w' a.p a.q a.N a.O y g ws->dj a.p a.q w1 w'->_):=l;have al:aA (_):=ai;clear s f l ai;go_wp2_with fail;refine u.mono ?_;clear u;rintro e b3 ⟨rfl,am,an⟩
 obtain⟨be,j2,n⟩:=m.o _ _ _ _ am an;have n:=al.o.trans n;have ao:∀(c:Nat->Prop)(w':az),ch F w c w'->∀i,i<L rl->∃d,p=au d/\V w' (av d i)=Z (ak ((X rl i 0:Nat):Int)):=fun c w' t i hi=>by obtain⟨d,e,g1,g2,g3⟩:=ad.o aa;exact⟨d,e,(aQ (a:=⟨d,i,M9⟩) (t.fr.block d g2 g1)).trans (g3 i hi)⟩
 have bg:aA (∀(c:Nat->Prop)(w':az),ch F w c w'->∀i,i<L rl->_):=ao;have ap:=c8 j2 n;clear am an j2 n m ad ao al h0 c0;go_wp2_with fail
 go_loopw [33] (fun iv wr=>∃(j:Nat)(c:Nat->Prop),j<=L rl/\iv=ak j/\aA ((cD a hp).J c ⟨{b.s with y:=b.s.y+1+L rl,ws:=jr b.s.rs b.s.y (ge a.N b.s.y kd (L rl) b.s.ws) rl j},b.r,b.q⟩ wr/\ch F w c wr)) (fun iv _=>L rl-M (bN iv))
 exact⟨0,be,a5 _,rfl,ap⟩
 ·
   clear ap;obtain⟨j,c,b4,rfl,k⟩:=hrel;by_cases ar:j<L rl
   ·obtain⟨d,rfl,bi⟩:=bg.o c wr k.o.2 j ar;have aB:=ba.o j ar;have aF:aA (jr b.s.rs b.s.y (ge a.N b.s.y kd (L rl) b.s.ws) rl (j+1)=(jr b.s.rs b.s.y (ge a.N b.s.y kd (L rl) b.s.ws) rl j).set (b.s.y+1+j) (X b.s.rs (X rl j 0) 0)):=rfl;generalize X rl j 0=r at*;have bl:aA (∀(v:Nat->Prop)(o:az),(∀i,i<12->V o (av a.nb i)=Z (ak (X b.s.rs i 0))/\o.frozen? (av a.nb i)=Nb)->_=_):=fun _ _ g=>(g r aB).1;have aR:=(cD a hp).below k.o.1 (aH _ wr).drew;obtain⟨h0,c0,c3,rt,bn,lp,lw,ln⟩:=fw k.o.1;obtain⟨r1,_⟩:=rt r aB;obtain⟨f,l⟩:=l7 aR;dsimp only at r1 f l;have aV:dw a.N (b.s.y+1+L rl) b.s.g ((b.s.y:Int)+1+j)=Nc:=jf aa aa;have a0:=lW ((b.s.y:Int)+1+j) (X b.s.rs r 0) wr.drew f;rw[aV,aJ rfl,show M ((b.s.y:Int)+1+j)=b.s.y+1+j by omega,<-aF.o] at a0;have m:aA (∀w' y g ws,At w' a.p a.q a.N a.O y g ws->dj a.p a.q wr.drew w'->_):=l;have j0:(0:Int)<=(j:Int):=aa;have b5:(j:Int)<(L rl:Int):=aa;have q0:(0:Int)<=(r:Int):=aa;have q1:(r:Int)<12:=aa;have b6:IntKind.i64.wrap ((b.s.y:Int)+1)=(b.s.y:Int)+1:=by rw[bA];omega
    have bo:IntKind.i64.wrap ((b.s.y:Int)+1+(j:Int))=(b.s.y:Int)+1+j:=by rw[bA];omega
    have bp:aA (_):=k.o.2.below (aH _ wr).drew;clear aR f l rt aV aF bn k;generalize X b.s.rs r 0=x at*;go_wp2_with fail
    go_region_held3 (fun w'=>V w' (av hp 0)=Z (aq a.pw)/\V w' (av a.pw 0)=Z (aq a.p)/\V w' (av a.pw 3)=Z (M0 (au a.nb) 12 12)/\V w' (av a.nb r)=Z (ak x)) (go_keep)
     (first
       |(go_at_call 93;refine a0.mono ?_;rintro e o ⟨rfl,a1,s5⟩;obtain⟨v,dN,a2⟩:=m.o _ _ _ _ a1 s5;have br:=c8 dN (bp.o.trans a2);obtain⟨g0,g1,g3,a3,_⟩:=fw dN;have bs:=bl.o v o a3;clear a1 s5 dN a2 a3))
    clear h0 c0 c3 r1 g0 g1 g3 bs bi b6 bo;go_wp2_with fail;go_roundw
    case rel=>exact⟨j+1,v,aa,aj,br⟩
    case measure=>simp[bN];omega
   ·obtain rfl:j=L rl:=aa;go_wp2_with fail;refine(sW (b.s.y:Int) wr).mono ?_;rintro e bt ⟨rfl,B⟩
    have a4:aA ((cD a hp).J c bd bt/\_):=⟨by rw[bb.o];exact(cD a hp).below k.o.1 B,k.o.2.below B⟩
    clear B k;go_wp2_with fail;go_ret2;exact⟨c,rfl,a4.o.1,a4.o.2⟩
theorem Io (kd cd:Int)(n:Nat)(f:Option bG)(cap:Nat)(c:cw)(hn:n<=12)(hc:cd≠0)
 (g:Calls O 193 #[aq hp,ak (1+n)] w fun e w'=>∃b,e=E (ak cd)/\(cD a hp).J b c w'/\ch F w b w'):
 Calls O 123 #[aq hp,ak kd,M0 f n cap] w fun e w'=>∃b,e=E (a8 #[ak 0,ak cd])/\(cD a hp).J b c w'/\ch F w b w':=by
 go_enter func123,ntmps123;go_wp2_with fail;refine g.mono ?_;rintro e w1 ⟨i,rfl,j,k⟩
 have d:=c8 j k;go_wp2;go_ret2;exact⟨i,rfl,d.o.1,d.o.2⟩
theorem qa (h:(cD a hp).J F S w)(kd:Int)(rl:List Nat)(b:Option bG)(cap:Nat)(hq:L S.q+L S.r<=90000)(k:S.gh a=Nb->∃G,i4 (S.k5 a) (S.dN a) G/\G 0 (S.k5 a,0))(hk:hc kd (L rl)=0)
 (hv:0<L rl->∃d,b=au d/\¬F d/\d<I (M2 w)/\∀i,i<L rl->V w (av d i)=Z (ak ((X rl i 0:Nat):Int)))(hr:∀i,i<L rl->X rl i 0<12)
 (room:(S.room a (1+L rl)).1=0->(S.room a (1+L rl)).2.s.y+1+L rl<=a.N):
 Calls O 123 #[aq hp,ak kd,M0 b (L rl) cap] w fun e w'=>∃g,e=E (a8 #[ak (S.b_ a kd rl).1,ak (S.b_ a kd rl).2.1])/\(cD a hp).J g (S.b_ a kd rl).2.2 w'/\ch F w g w':=by
 have j:L rl<=12:=by have:=jo kd (L rl) hk;omega
 have f:=Im h (1+L rl) hq k;unfold cw.b_;by_cases c:(S.room a (1+L rl)).1=0
 ·rw[aJ c];rw[c] at f;exact In kd rl b cap _ j hk (room c) hv hr h f
 ·rw[aI c];exact Io kd _ (L rl) b cap _ j c f
theorem Ip (h:(cD a hp).J F S w)(k:Int)(R:Nat)(A B I n:Int)(N:R<12)(hc:d7 k R A B n=0)(k1:k≠9)(ar:k≠12)(aB:k≠15)(aF:k≠16)(v:Int)(d:cw)
 (W:∀f w',(cD a hp).J f S w'->Calls O 57 #[aq hp,eb k R A B I n] w' fun e o=>∃j,e=E (a8 #[ak v,ak 0])/\(cD a hp).J j d o/\ch f w' j o):
 Calls O 20 #[aq hp,eb k R A B I n] w fun e w'=>∃f,e=E (ak 0)/\(cD a hp).J f ⟨{d.s with rs:=d.s.rs.set R v},d.r,d.q⟩ w'/\ch F w f w':=by
 have p:=aw w (cH k R A B I n)
 have ab:=aP w (M5 #[U Q k,U Q (R:Int),U Q A,U Q B,U Q I,U Q n] 44)
 have q:=jX k R A B I n (w.alloc (cH k R A B I n))
 rw[hc] at q;have ad:=hide (fw h).ln;have c:=ja ((cD a hp).below h p) p ab ((cD a hp).lt h)
 have ag:=hide W;go_enter func20,ntmps20;go_wp2_with fail;generalize w.alloc (cH k R A B I n)=w0 at*;generalize ai:w.heap.size=g at*;refine q.mono ?_;rintro e w1 ⟨rfl,l⟩
 have b:=ja ((cD a hp).below c.o.1 l) (c.o.2.1.trans (l.mono (by have:=lt_of_some c.o.2.2.1;omega))) ((l.block g (lt_of_some c.o.2.2.1)).trans c.o.2.2.1) c.o.2.2.2;obtain⟨q0,q1,al,q3,am,an⟩:=ez b.o.2.2.1;go_wp2_with fail;refine(ag.o F w1 b.o.1).mono ?_;rintro e s ⟨j,rfl,i,m⟩
 have t:=(m.fr.block g (lt_of_some b.o.2.2.1) (fun ao=>by have:=b.o.2.2.2 g ao;omega)).trans b.o.2.2.1;obtain⟨u0,aR,_⟩:=ez t;obtain⟨h0,c0,c3,rt,rl,lp,lw,ln⟩:=fw i;obtain⟨r1,aV⟩:=rt R N;have a0:(R:Int)<12:=aa;have a1:=lt_of_some t;have nx:a.nb≠g:=by have:=ad.o;omega
 obtain⟨n1,a2⟩:=GC i;have u:=c8 ((cD a hp).below i (aH _ s).drew) (((ch.of (by rw[ai];exact b.o.2.1)).trans m).below (aH _ s).drew)
 clear rt i m b q0 q1 al q3 am an;go_wp2_with fail
 go_region_held3 (fun w'=>V w' (av hp 0)=Z (aq a.pw)/\V w' (av a.pw 3)=Z (M0 (au a.nb) 12 12)/\V w' (av g 1)=Z (ak (R:Int))) (go_keep) (fail)
 obtain⟨ap,cI,t3⟩:=GB u.o.1 R v;have x:=c8 cI (u.o.2.trans t3)
 go_wp2_with fail;go_ret;exact⟨rfl,ap,x.o.1,x.o.2⟩
end
open Go.RowKit W
theorem Iq (c:Nat)(hc:c<=12)(w:az):J O 223 #[U sQ 1,U sQ c] w fun e w'=>e=E (a8 #[U sQ 0,U sQ c])/\w'=w:=by exact AI
theorem AX (c:Nat)(hc:c<=12)(w:az):J O 167 #[U sQ 1,U sQ c] w fun e w'=>e=E (a8 #[U sQ 0,U sQ c])/\w'=w:=by have P:=Iq c hc w;exact AJ
def gx (c:Nat)(v:Int)(n:Nat):List Int:=A n v++A (c-n) 0
theorem uY (c:Nat)(v:Int)(n:Nat)(h:n<=c):L (gx c v n)=c:=by simp[gx];omega
theorem Ir (c:Nat)(v:Int)(n m:Nat)(h:n+m<=c):splice (gx c v n) n (A m v)=gx c v (n+m):=by unfold splice gx;rw[List.take_left' ac,hV,List.drop_append,hV];simp only [List.drop_replicate];rw[show n-(n+m)=0 by omega,show c-n-(n+m-n)=c-(n+m) by omega];simp;rw[<-bw,List.replicate_append_replicate]
theorem Is (c:Nat)(v:Int)(n i:Nat)(h:i<n):X (gx c v n) i 0=v:=by unfold gx;rw[aL,List.getElem?_append_left (by simpa using h)];simp[h]
theorem It {c:Nat}{w:az}{nb n:Nat}{v:Int}(hr:w.heap[nb]?=Z (M5 ((gx c v n).map (Value.int Q)).toArray 3 (0,0)))(hn:n<=c)(m:Nat)(hm:m<=n):∀j u,((A m v).map (Value.int Q))[j]?=Z u->V w ((⟨nb,0,M9⟩:bG).add j)=Z u:=by
 intro j u hj;have b:j<m:=by exact ri
 have d:u=ak v:=by simp[b] at hj;exact hj.symm
 have hl:=uY c v n hn;have hg:=Is c v n j aa;rw[aL,aN (by omega:j<L (gx c v n))] at hg;simp at hg;have ea:(⟨nb,0,M9⟩:bG).add j=⟨nb,j,M9⟩:=by simp[Addr.add];intro h;exact h.symm
 rw[ea,d];have e:j<L (gx c v n):=aa;simp[World.cell?,hr,List.getElem?_eq_getElem e];exact hg
theorem AY {c:Nat}{w w':az}{nb n m B:Nat}{v:Int}(b:lX w w' nb ((gx c v n).map (Value.int Q)) n ((A m v).map (Value.int Q)))(hr:w.heap[nb]?=Z (M5 ((gx c v n).map (Value.int Q)).toArray 3 (0,0)))(hm:0<m)(h:n+m<=c)(hB:B<=nb):w'.heap[nb]?=Z (M5 ((gx c v (n+m)).map (Value.int Q)).toArray 3 (0,0))/\C B w w':=by
 rcases b with⟨h0,_⟩|rfl
 ·have:=congrArg L h0;simp at this
  omega
 ·rw[tL,Ir c v n m h];exact⟨setRow_heap w nb _ _ _ _ hr,⟨rfl,rfl,rfl,by simp[World.setRow],fun k hk=>setRow_other w nb k _ aa⟩⟩
theorem AZ:(prog.info? 3).map (fun i=>(i.zero,i.size,i.bytes))=Z (Z (ak 0),1,8):=ah
theorem uZ:(prog.info? 3).map (·.size)=Z 1:=ah
theorem A0 {w:az}{b k n:Nat}(h:w.ownsRow b 3 1 (M0 (au k) n n) n (madeCells (Value.int Q 0).cells (n*1)).toList):
 w.heap[k]?=Z (M5 ((A n (0:Int)).map (Value.int Q)).toArray 3 (0,0)):=by
 exact xh
theorem Iu (w:az)(b c:Nat)(v:Int)(h0:0<c)(ao:c<=12)(hc:V w (av b 0)=Z (ak v)):
 J O 124 #[M0 (au b) 1 1,ak c] w fun e w'=>∃nb,e=E (M0 (au nb) c c)/\I (M2 w)<=nb/\w'.heap[nb]?=Z (M5 ((A c v).map (Value.int Q)).toArray 3 (0,0))/\C (I (M2 w)) w w':=by
 obtain⟨s,hi,ap,ar,aB⟩:=bV AZ;have lb:=aT w _ hc;dsimp only at lb;have t:=AX c ao w;have aF:aA (gx c v c=A c v):=by show _=_;simp[gx]
 have c0:(0:Int)<(c:Int):=aa;have c1:(c:Int)<=12:=aa;go_enter func124,ntmps124;go_wp2_with fail;refine t.mono ?_;clear t;rintro e w0 ⟨rfl,hw⟩
 have hw:=hw.symm;subst hw
 go_upto_region 7 with(at_make;refine wpList_make_full _ rfl _ _ 74 rfl (I (M2 w)) 3 s (ak 0) 1 underlying74 hi ap ar Q Q _ _ c rfl rfl aa aa (by rw[aB];omega) (by unfold bW;omega) b8 ?_;intro w1 x F)
 have hr:w1.heap[I (M2 w)]?=Z (M5 ((gx c v 0).map (Value.int Q)).toArray 3 (0,0)):=by have aR:=A0 x;simpa[gx] using aR
 have k:C (I (M2 w)) w w1:=(aH _ w).grown F b8 (fun _ h=>by cases h)
 have N:=(k.cell (p:=av b 0) lb).trans hc;clear x F;have d:aA (∀j u,((A 1 v).map (Value.int Q))[j]?=Z u->V w1 ((⟨b,0,M9⟩:bG).add j)=Z u):=one_cell N;have l:aA (w1.heap[I (M2 w)]?=Z (M5 ((gx c v 0).map (Value.int Q)).toArray 3 (0,0))):=hr;have f:aA (L ((A 1 v).map (Value.int Q))=pq 1 c):=by show _=_;simp only [List.length_map,hV,tV];split<;>omega
 have g:aA (0+L ((A 1 v).map (Value.int Q))<=L ((gx c v 0).map (Value.int Q))):=by show _<=_;rw[aZ,aZ,uY c v 0 aa];simp;omega
 clear N hr;go_wp2_with (refine ui rfl _ _ 74 74 3 rfl underlying74 uZ (au (I (M2 w))) (au b) c c 1 1 rfl rfl (I (M2 w)) 0 ((gx c v 0).map (Value.int Q)) 3 l.o ((A 1 v).map (Value.int Q)) f.o (fun _=>⟨rfl,_,rfl,d.o⟩) g.o (pE _) ?_;intro a4 S)
 obtain⟨W,ab⟩:=AY (B:=I (M2 w)) S l.o aa aa b8
 have ad:=k.trans ab;clear S d l f g k ab
 go_loopw [8] (fun nv wr=>∃n:Nat,1<=n/\n<=c/\nv=ak n/\aA (wr.heap[I (M2 w)]?=Z (M5 ((gx c v n).map (Value.int Q)).toArray 3 (0,0)))/\C (I (M2 w)) w wr) (fun nv _=>c-M (bN nv))
 case atStart=>exact⟨1,aG _,aa,rfl,W,ad⟩
 case round=>
  clear W ad;obtain⟨n,n1,ag,rfl,o,hb⟩:=hrel;by_cases ba:n<c
  ·obtain⟨m,hm,aV,q,a0⟩:∃m,m=pq n (c-n)/\0<m/\n+m<=c/\m<=n:=⟨_,rfl,by simp only [tV];split<;>omega,by simp only [tV];split<;>omega,by simp only [tV];split<;>omega⟩
   have i:aA (wr.drew.heap[I (M2 w)]?=Z (M5 ((gx c v n).map (Value.int Q)).toArray 3 (0,0))):=o.o;have d:aA (∀j u,((A m v).map (Value.int Q))[j]?=Z u->V wr.drew ((⟨I (M2 w),0,M9⟩:bG).add j)=Z u):=It i.o ag m a0;have f:aA (L ((A m v).map (Value.int Q))=pq n (c-n)):=by show _=_;rw[<-hm];simp
   have g:aA (n+L ((A m v).map (Value.int Q))<=L ((gx c v n).map (Value.int Q))):=by show _<=_;rw[aZ,aZ,uY c v n ag];simpa using q
   have bb:¬c=n:=aa;have s:(0:Int)<=(n:Int):=aa;have bd:(n:Int)<=(c:Int):=aa;have be:(n:Int)<(c:Int):=aa;clear o;go_wp2_with fail
   go_region_law (refine qM rfl (.tmp 41) (.tmp 44) 74 74 3 rfl underlying74 uZ (Z ⟨I (M2 w),n,M9⟩) (au (I (M2 w))) (c-n) (c-n) n c ?_ ?_ (I (M2 w)) n ((gx c v n).map (Value.int Q)) 3 i.o ((A m v).map (Value.int Q)) f.o (fun _=>⟨rfl,_,rfl,d.o⟩) g.o (pE _) ?_;(simp[Act.eval,Act.put]);(simp[Act.eval,Act.put]);intro a1 ai)
   obtain⟨al,am⟩:=AY (B:=I (M2 w)) ai i.o aV q b8
   have a2:aA (a1.heap[I (M2 w)]?=Z (M5 ((gx c v (n+m)).map (Value.int Q)).toArray 3 (0,0))):=al;have a3:=hb.drew.trans am;have hw:IntKind.i64.wrap ((n:Int)+(m:Int))=((n+m:Nat):Int):=by rw[bA];omega
   clear al am ai i d f g hb;simp[Act.put,go_sem,Exit.inBlock];rw[<-hm,hw];refine⟨⟨_,_,_,_,_,_,_,_,_,_,_,_,_,_,?rel,rfl⟩,?measure⟩
   case rel=>exact⟨n+m,aa,q,rfl,a2,a3⟩
   case measure=>simp[bN];omega
  ·obtain rfl:n=c:=aa;have an:=o.o;rw[aF.o] at an;go_wp2_with fail;go_ret;exact⟨I (M2 w),rfl,aG _,an,hb⟩
theorem Iv (w:az)(b:Nat)(v:Int):
 J O 124 #[M0 (au b) 1 1,ak 0] w fun e w'=>∃nb,e=E (M0 (au nb) 0 0)/\C (I (M2 w)) w w':=by
 obtain⟨m,hi,n,o,p⟩:=bV AZ;have d:=AX 0 aa w;go_enter func124,ntmps124;go_wp2_with fail;refine d.mono ?_;clear d;rintro e w0 ⟨rfl,hw⟩
 have hw:=hw.symm;subst hw
 go_upto_region 7 with(at_make;refine wpList_make_full _ rfl _ _ 74 rfl (I (M2 w)) 3 m (ak 0) 1 underlying74 hi n o Q Q _ _ 0 rfl rfl aa aa (by rw[p];omega) (by unfold bW;omega) b8 ?_;intro w1 f g)
 have c:C (I (M2 w)) w w1:=(aH _ w).grown g b8 (fun _ h=>by cases h)
 have i:aA (w1.heap[I (M2 w)]?=Z (M5 ((gx 0 v 0).map (Value.int Q)).toArray 3 (0,0))):=by have q:=A0 f;show _=_;simpa[gx] using q
 clear f g;go_wp2_with (refine ui rfl _ _ 74 74 3 rfl underlying74 uZ (au (I (M2 w))) (au b) 0 0 1 1 rfl rfl (I (M2 w)) 0 ((gx 0 v 0).map (Value.int Q)) 3 i.o [] rfl (fun h=>absurd h ae) ac (fun _ h=>by cases h) ?_;intro s j)
 have l:C (I (M2 w)) w s:=by
  rcases j with⟨_,e⟩|e
  ·rw[e];exact c
  ·rw[e];exact c.trans ⟨rfl,rfl,rfl,by simp[World.setRow],fun k hk=>setRow_other w1 (I (M2 w)) k _ aa⟩
 clear j i c
 go_loopw [8] (fun nv wr=>nv=ak 0/\C (I (M2 w)) w wr) (fun _ _=>0)
 case atStart=>exact⟨rfl,l⟩
 case round=>
  clear l;obtain⟨rfl,hb⟩:=hrel;go_wp2_with fail;go_ret;exact⟨I (M2 w),rfl,hb⟩
structure d5 (a:Wc)(S:cw)(j:Nat):Prop where
 kv:∃Y G,eP a S.s Y G
 eo:j7 a S
 m:L S.s.M<=j
 lE:L S.r+L S.q<=24
def oZ (a:Wc)(S:cw)(v:Int):Prop:=de v=Nc->tB a.N S.s.y S.s.g S.s.ws v=Nc
section
variable {a:Wc}{S:cw}{j:Nat}
theorem d5.start (a:Wc)(n o:Nat):d5 a (fG n o).1 0:=by
 refine⟨⟨[],[],⟨em.start,fun x b ha=>?_,fun v hv=>?_⟩,fun v hv=>(by cases hv)⟩,fun e he=>?_,aG _,(show(0:Nat)<=24 by decide)⟩
 ·have b:x∈tw 2 12:=b;have e:x=2:=by simpa[tw] using b
  rw[e,AF] at ha;cases ha
 ·simp_all
 ·rcases he with c|c<;>cases c
theorem d5.mono {i:Nat}(h:d5 a S j)(hi:j<=i):d5 a S i:=⟨h.kv,h.eo,aU h.m hi,h.lE⟩
theorem d5.cut (h:d5 a S j)(hb:cO a S.s):d5 a (S.cut a) j/\cO a (S.cut a).s:=by
 obtain⟨Y,G,hk⟩:=h.kv;have l1:=HM a S;have l2:=h.lE;refine⟨⟨hk.cut hb,h.eo.cut hk hb,?_,aa⟩,hk.ei hb⟩
 have:=h.m;unfold cw.cut;split
 ·omega
 ·exact a5 _
theorem d5.dH (h:d5 a S j)(hb:cO a S.s):d5 a (S.dH a) j/\cO a (S.dH a).s:=by obtain⟨Y,G,hk⟩:=h.kv;obtain⟨_,g2,g3⟩:=hk.dH hb;have l1:=H8 a S;have l2:=h.lE;have b:=h.m;exact⟨⟨g2,h.eo.dH hk hb,aa,aa⟩,hk.Ib hb⟩
theorem d5.rL (h:d5 a S j)(hb:cO a S.s):S.gh a=Nb->∃F,i4 (S.k5 a) (S.dN a) F/\F 0 (S.k5 a,0):=by obtain⟨Y,G,hk⟩:=h.kv;exact(hk.dH hb).1
theorem A1 (h:S.code a≠0):S.cut a=S:=by
 unfold cw.code at h;unfold cw.cut;split at h
 ·simp_all
 ·exact absurd rfl h
theorem A2 (h:S.i5 a≠0):S.dH a=S:=by
 unfold cw.i5 at h;unfold cw.dH;split at h
 ·simp_all
 ·exact absurd rfl h
theorem Iw (h:S.code a=0):(S.cut a).s.y=0:=by
 unfold cw.code at h;unfold cw.cut;split at h
 ·omega
 ·rename_i c;rw[aI c]
theorem Ix {Y G:List Int}(hk:eP a S.s Y G)(hb:cO a S.s)(h:S.i5 a=0):(S.dH a).s.y=0:=by
 have b:S.gh a=Nb:=by
  unfold cw.i5 at h;split at h
  ·omega
  ·simp_all
 obtain⟨_,g,_⟩:=mS hk hb b;exact g.gc.y
theorem d5.room (h:d5 a S j)(hb:cO a S.s)(m:Int):d5 a (S.room a m).2 j/\cO a (S.room a m).2.s/\((S.room a m).1=0->m<=16->m<=(a.N:Int)-(S.room a m).2.s.y)/\((S.room a m).1≠0->(S.room a m).2=S):=by
 obtain⟨Y,G,hk⟩:=h.kv;have n0:=hb.n0;unfold cw.room;split
 ·simp_all
 ·split
  ·obtain⟨b,c⟩:=h.cut hb;refine⟨b,c,fun q _=>?_,fun q=>A1 q⟩
   rw[Iw q];omega
  ·obtain⟨b,c⟩:=h.dH hb;refine⟨b,c,fun q _=>?_,fun q=>A2 q⟩
   rw[Ix hk hb q];omega
theorem d5.put (h:d5 a S j)(hb:cO a S.s){kd:Int}{rl:List Nat}(hk:hc kd (L rl)=0)(hr:S.s.y+1+L rl<=a.N):d5 a (S.put a kd rl) j/\cO a (S.put a kd rl).s/\oZ a (S.put a kd rl) (ew 3 S.s.y):=by
 obtain⟨Y,G,kv⟩:=h.kv;have p:=uW kv hb hk hr (L rl) b8
 have b:cO a (S.put a kd rl).s:=⟨hb.n0,hb.n1,hb.o1,hr,hb.g1,p.l,hb.r1⟩
 have n1:=hb.n1;have y1:=hb.y1;refine⟨⟨⟨_,_,p.k⟩,?_,h.m,h.lE⟩,b,fun _=>?_⟩
 ·exact h.eo.more kv hb p.k.inv.full b.y1 b.g1 (fun v hv=>hv.imp (fun c=>bu _ c) id)
 ·obtain⟨d,e⟩:=nO S.s.y aa;exact(jE p.k.inv.full b.n1 b.y1 b.o1 b.g1).2 ⟨d,aM (by rw[e];simp)⟩
theorem d5.b_ (h:d5 a S j)(hb:cO a S.s){kd:Int}{rl:List Nat}(hk:hc kd (L rl)=0):d5 a (S.b_ a kd rl).2.2 j/\cO a (S.b_ a kd rl).2.2.s/\((S.b_ a kd rl).2.1=0->oZ a (S.b_ a kd rl).2.2 (S.b_ a kd rl).1)/\((S.b_ a kd rl).2.1≠0->(S.b_ a kd rl).2.2=S):=by
 obtain⟨b,d,e,k⟩:=h.room hb _;have hl:=jo kd (L rl) hk;unfold cw.b_;split
 ·rename_i c;obtain⟨f,g,i⟩:=b.put d hk (by have:=e c aa;omega)
  exact⟨f,g,fun _=>i,fun q=>absurd rfl q⟩
 ·simp_all
theorem d5.root (h:d5 a S j)(hb:cO a S.s)(i:Nat):oZ a S (X S.s.rs i 0):=fun ha=>by obtain⟨Y,G,kv⟩:=h.kv;exact(jE kv.inv.full hb.n1 hb.y1 hb.o1 hb.g1).2 ⟨ha,kv.any i ha⟩
theorem rW {n:Int}(h:vc 1 n=0):oZ a S (ew 1 n):=fun ha=>by rw[(oc 1 n h).1] at ha;exact absurd ha ae
theorem d5.rt (h:d5 a S j)(hb:cO a S.s){k n:Int}(A B:Nat)(I:Int)(hk:iu k n=0):d5 a (S.rt a k A B I n).2.2 j/\cO a (S.rt a k A B I n).2.2.s/\((S.rt a k A B I n).2.1=0->oZ a (S.rt a k A B I n).2.2 (S.rt a k A B I n).1)/\((S.rt a k A B I n).2.1≠0->(S.rt a k A B I n).2.2=S):=by
 unfold cw.rt;by_cases b:k=1
 ·rw[aJ b];exact⟨h,hb,fun q=>rW q,fun _=>rfl⟩
 rw[aI b];by_cases f:k=3
 ·rw[aJ f];exact⟨h,hb,fun _=>h.root hb A,fun _=>rfl⟩
 rw[aI f];by_cases g:k=4
 ·rw[aJ g];exact h.b_ hb rfl
 rw[aI g];by_cases c:k=5
 ·rw[aJ c];refine h.b_ hb ?_;unfold iu at hk;rw[aI b,aJ c] at hk;have:=jo 2 n hk;rw[hV,show((M n:Nat):Int)=n by omega];exact hk
 rw[aI c];by_cases e6:k=6
 ·rw[aJ e6];exact h.b_ hb rfl
 rw[aI e6];by_cases i:k=7
 ·rw[aJ i];exact h.b_ hb rfl
 rw[aI i];by_cases l:k=8
 ·rw[aJ l];exact h.b_ hb rfl
 rw[aI l];by_cases m:k=10
 ·rw[aJ m];unfold cw.pop;generalize X S.s.rs A 0=x;split
  ·split
   ·rename_i hi;have u:X S.q (dW x S.q) (0,0)∈S.q:=by simp_all
    have sub:∀e,e∈S.q.take (dW x S.q)++S.q.drop (dW x S.q+1)->e∈S.q:=fun e he=>by
     rcases bE.1 he with d|d
     ·exact List.mem_of_mem_take d
     ·exact List.mem_of_mem_drop d
    refine⟨⟨h.kv,fun e he=>h.eo e (he.imp id (sub e)),h.m,?_⟩,hb,fun _ _=>(h.eo _ (aK u)).2,fun q=>absurd rfl q⟩
    have:=h.lE;dsimp only;rw[a7,bz,p1];omega
   ·simp_all
  ·simp_all
 rw[aI m];by_cases o:k=11
 ·rw[aJ o];refine⟨h,hb,fun q ha=>?_,fun _=>rfl⟩
  have q:=q;rw[aJ q] at ha⊢;obtain⟨Y,G,kv⟩:=h.kv;obtain⟨v,w,t3,p⟩:=nN q;obtain⟨_,hv⟩:=(jE kv.inv.full hb.n1 hb.y1 hb.o1 hb.g1).1 v;rw[kv.inv.full.stands hb.y1 hv] at p;exact(jE kv.inv.full hb.n1 hb.y1 hb.o1 hb.g1).2 ⟨ha,kv.inv.fd _ hv I t3 p ha⟩
 rw[aI o];by_cases s:k=13
 ·rw[aJ s];unfold cw.len;split
  ·exact⟨h,hb,fun q=>rW q,fun _=>rfl⟩
  ·simp_all
 rw[aI s];by_cases t:k=14
 ·rw[aJ t];refine⟨h,hb,fun _=>?_,fun _=>rfl⟩
  dsimp only;split
  ·exact rW ae
  ·exact rW ae
 rw[aI t];exact⟨h,hb,fun _ ha=>by assumption,fun _=>rfl⟩
theorem d5.st (h:d5 a S j)(hb:cO a S.s){R:Nat}{x:Int}(b:oZ a S x):d5 a (S.st R x) j/\cO a (S.st R x).s:=by
 obtain⟨Y,G,kv⟩:=h.kv;refine⟨⟨⟨Y,G,kv.root R x (fun ha=>(jE kv.inv.full hb.n1 hb.y1 hb.o1 hb.g1).1 (b ha) |>.2)⟩,fun e he=>h.eo e he,h.m,h.lE⟩,⟨hb.n0,hb.n1,hb.o1,hb.y1,hb.g1,hb.l1,?_⟩⟩
 show L (S.s.rs.set R x)=12;rw[bh];exact hb.r1
theorem d5.set (h:d5 a S j)(hb:cO a S.s)(A B:Nat)(I:Int):d5 a (S.set a (X S.s.rs A 0) I (X S.s.rs B 0)) (j+1)/\cO a (S.set a (X S.s.rs A 0) I (X S.s.rs B 0)).s:=by
 obtain⟨Y,G,kv⟩:=h.kv;refine⟨⟨⟨Y,G,?_,lz.set kv.inv kv.cd hb.l1 hb.n1 hb.y1 hb.o1 hb.g1 _ _ _⟩,?_,?_,h.lE⟩,⟨hb.n0,hb.n1,hb.o1,hb.y1,hb.g1,?_,hb.r1⟩⟩
 ·show iQ a.N S.s.y S.s.g (gP a.N S.s.y S.s.g S.s.ws (X S.s.rs A 0) I (X S.s.rs B 0)) Y G S.s.rs;by_cases b:eO a.N S.s.y S.s.g S.s.ws (X S.s.rs A 0) I=0
  ·obtain⟨e,i,t3,d⟩:=nN b;obtain⟨_,hv⟩:=(jE kv.inv.full hb.n1 hb.y1 hb.o1 hb.g1).1 e;rw[kv.inv.full.stands hb.y1 hv] at d;unfold gP;rw[aJ b,aJ (kW kv.inv.full hv t3 d)];exact kv.inv.set hb.l1 hb.y1 hb.g1 hv t3 d (fun f=>kv.any B f)
  ·rw[(oU (M:=S.s.M) (c:=dO a.O) b).1];exact kv.inv
 ·exact h.eo.more kv hb (kv.inv.full.gP hb.l1 hb.n1 hb.y1 hb.o1 hb.g1 (X S.s.rs A 0) I (X S.s.rs B 0)) hb.y1 hb.g1 (fun v hv=>hv)
 ·have:=h.m;have:=HL (N:=a.N) (y:=S.s.y) (g:=S.s.g) (ws:=S.s.ws) (X S.s.rs A 0) I (X S.s.rs B 0) (dO a.O) S.s.M;show L (stM a.N S.s.y S.s.g S.s.ws _ I _ (dO a.O) S.s.M)<=j+1;omega
 ·show L (gP a.N S.s.y S.s.g S.s.ws _ I _)=a.N+a.O;unfold gP;split
  ·split
   ·rw[bh];exact hb.l1
   ·exact hb.l1
  ·exact hb.l1
theorem Iy {x i z:Int}(h:eO a.N S.s.y S.s.g S.s.ws x i≠0):S.set a x i z=S:=by unfold cw.set;rw[(oU (M:=S.s.M) (c:=dO a.O) h).1,(oU h).2]
theorem Iz {x:Int}(h:S.ex a x=0):tB a.N S.s.y S.s.g S.s.ws x=Nc:=by
 unfold cw.ex at h;split at h
 ·assumption
 ·omega
theorem IA {x:Int}(h:S.kx a x=5):tB a.N S.s.y S.s.g S.s.ws x=Nc:=by
 unfold cw.kx at h;split at h
 ·assumption
 ·omega
theorem d5.reg (h:d5 a S j)(hb:cO a S.s)(t g:Int):d5 a (S.reg a t g).2 j/\cO a (S.reg a t g).2.s/\((S.reg a t g).1≠0->(S.reg a t g).2=S):=by
 unfold cw.reg;split
 ·rename_i c1;split
  ·rename_i c2;split
   ·simp_all
   ·rename_i c3;refine⟨⟨h.kv,fun e he=>?_,h.m,?_⟩,hb,fun q=>absurd rfl q⟩
    ·rcases he with b|b
     ·rcases bE.1 b with b|b
      ·exact h.eo e (aM b)
      ·rw[bQ.1 b];exact⟨IA c2,Iz c1⟩
     ·exact h.eo e (aK b)
    ·dsimp only;rw[a7,List.length_singleton];omega
  ·simp_all
 ·simp_all
theorem A3 {k R A B n:Int}(h:d7 k R A B n=0):iu k n=0:=by
 unfold d7 at h;split at h
 ·omega
 ·split at h
  ·omega
  ·exact h
theorem d5.hd (h:d5 a S j)(hb:cO a S.s)(k R A B I n:Int):d5 a (S.hd a k R A B I n).2 (j+1)/\cO a (S.hd a k R A B I n).2.s/\((S.hd a k R A B I n).1≠0->(S.hd a k R A B I n).2=S):=by
 unfold cw.hd;split
 ·rename_i hc;split
  ·obtain⟨r1,b,r3⟩:=h.reg hb _ _;exact⟨r1.mono aa,b,r3⟩
  ·split
   ·obtain⟨r1,b⟩:=h.set hb (M A) (M B) I;exact⟨r1,b,fun q=>Iy q⟩
   ·split
    ·obtain⟨r1,b⟩:=h.cut hb;exact⟨r1.mono aa,b,fun q=>A1 q⟩
    ·split
     ·obtain⟨r1,b⟩:=h.dH hb;exact⟨r1.mono aa,b,fun q=>A2 q⟩
     ·obtain⟨r1,b,r3,d⟩:=h.rt hb (M A) (M B) I (A3 hc)
      split
      ·rename_i c;obtain⟨s1,s2⟩:=r1.st b (r3 c)
       exact⟨s1.mono aa,s2,fun q=>absurd rfl q⟩
      ·rename_i c;exact⟨r1.mono aa,b,fun _=>d c⟩
 ·exact⟨h.mono aa,hb,fun _=>rfl⟩
end
end Go.Proofs.YtpkjkjhanlbcoaaGreat
