import Derived.Test.YtpkjkjhanlbcoaaGreatJ04
open Array renaming size->I
open Bool renaming false->K,false->Nb,true->Nc
open Go renaming Addr->bG,Calls->J,Value->bD,maxLen->bW,plainElem->pg,splice->nS,wpList_mapUpdate_own->r4
open Go.Ending renaming returned->E
open Go.IntKind renaming i64->M4
open Go.Obj renaming cells->M5,cells->R
open Go.Proofs.Tryz renaming prog->Ng
open Go.RowKit renaming Below->C,intOf->bN
open Go.Value renaming bool->bK,int->U,ownBlock->Nh,pointer->bJ,slice->M0
open Go.World renaming alloc->bj,cell?->V,frozen?->bO,heap->G,ownsRow->aC,setCell->ay
open Int renaming toNat->M
open List renaming contains->bR,filter_append->r2,filter_cons->JI,getD->X,idxOf_append->MO,length->L,map_append->iB,map_congr_left->mo,mem_append->bE,range->k4,range_succ->Bi
open Option renaming none->M9,none->Y,some->Z
namespace Go.Proofs.YtpkjkjhanlbcoaaGreat
set_option maxRecDepth 100000
set_option maxHeartbeats 2000000
open Tryz
open Go.RowKit W Kp cq
theorem yx {P:Prop}(h:P:=by
 have hk:0<L l->∀b,ad=Z b->w'.heap[b.block]?=w.heap[b.block]?:=fun hp b e=>by obtain⟨b0,o0,cs,e0,hb⟩:=h.2 hp;rw[e0] at e;cases e;exact k.df _ _ _ _ hb ae ae
 refine⟨h.1.keep k.size hk,fun hp=>?_⟩
 obtain⟨b0,o0,cs,e0,hb⟩:=h.2 hp;exact⟨b0,o0,cs,e0,(hk hp _ e0).trans hb⟩):P:=h
structure qU {σ:Type}(o:f_ σ):Prop where
 yy:∀{F s w},o.J F s w->∀{w1:az}{q:List cf}{a1:Option bG}{c1:Nat},C (I (G w)) w w1->aC w1 (I (G w)) 103 2 (M0 a1 (L q) c1) (L q) (ev q)->
  o.J (fun k=>F k\/Z k=Nh (Value.slice a1 (L q) c1)) (o.put s q) (ay w1 ⟨o.p,1,Y⟩ (M0 a1 (L q) c1))
 yz:∀{F s w},o.J F s w->∀{ad:Option bG}{cap:Nat},w.heap[o.p]?=Z (R #[o.vr,M0 ad (L (o.wt s)) cap] 153 (0,0))->∀i,i<L (o.wt s)->∀g z:Int,∃b f,ad=Z ⟨b,f,Y⟩/\F b/\b≠o.p/\bO w (av b (f+i*2))=K/\bO w (av b (f+i*2+1))=K/\
  o.J F (o.put s ((o.wt s).set i (g,z))) (ay (ay w ⟨b,f+i*2,Y⟩ (U M4 g)) ⟨b,f+i*2+1,Y⟩ (U M4 z))
def l4 {b:Type}(o:f_ b)(is:b->Int->Bool)(kp:b->Int->Int×b)(t:b×Bool)(i:Nat):b×Bool:=
 if is t.1 (X (o.wt t.1) i (0,0)).2||!is t.1 (X (o.wt t.1) i (0,0)).1 then t
 else(o.put (kp t.1 (X (o.wt t.1) i (0,0)).2).2 ((o.wt (kp t.1 (X (o.wt t.1) i (0,0)).2).2).set i ((X (o.wt t.1) i (0,0)).1,(kp t.1 (X (o.wt t.1) i (0,0)).2).1)),Nc)
def f3 {b:Type}(o:f_ b)(is:b->Int->Bool)(kp:b->Int->Int×b)(s:b)(n:Nat):b×Bool:=(k4 n).foldl (l4 o is kp) (o.put s (o.wt s),K)
theorem EL {b:Type}(o:f_ b)(is:b->Int->Bool)(kp:b->Int->Int×b)(s:b):f3 o is kp s 0=(o.put s (o.wt s),K):=rfl
theorem yA {b:Type}(o:f_ b)(is:b->Int->Bool)(kp:b->Int->Int×b)(s:b)(n:Nat):f3 o is kp s (n+1)=l4 o is kp (f3 o is kp s n) n:=by simp[f3,Bi]
theorem EM {b:Type}(o:f_ b)(is:b->Int->Bool)(kp:b->Int->Int×b)(hl:∀s x,L (o.wt (kp s x).2)=L (o.wt s))(t:b×Bool)(i:Nat):L (o.wt (l4 o is kp t i).1)=L (o.wt t.1):=by
 unfold l4;split
 ·rfl
 ·simp[o.qC,hl]
theorem yC {b:Type}(o:f_ b)(is:b->Int->Bool)(kp:b->Int->Int×b)(hl:∀s x,L (o.wt (kp s x).2)=L (o.wt s))(s:b):∀n,L (o.wt (f3 o is kp s n).1)=L (o.wt s)
 |0=>by rw[EL];simp[o.qC]
 |n+1=>by rw[yA,EM o is kp hl,yC o is kp hl s n]
theorem yD {b:Type}{o:f_ b}{is:b->Int->Bool}{kp:b->Int->Int×b}{t:b×Bool}{i:Nat}{g z:Int}(hg:(X (o.wt t.1) i (0,0)).1=g)(hz:(X (o.wt t.1) i (0,0)).2=z)(h:is t.1 z=Nc\/is t.1 g=K):l4 o is kp t i=t:=by unfold l4;rw[hg,hz];rcases h with h|h<;>simp[h]
theorem EN {b:Type}{o:f_ b}{is:b->Int->Bool}{kp:b->Int->Int×b}{t:b×Bool}{i:Nat}{g z:Int}(hg:(X (o.wt t.1) i (0,0)).1=g)(hz:(X (o.wt t.1) i (0,0)).2=z)(c:is t.1 z=K)(d:is t.1 g=Nc):l4 o is kp t i=(o.put (kp t.1 z).2 ((o.wt (kp t.1 z).2).set i (g,(kp t.1 z).1)),Nc):=by unfold l4;rw[hg,hz];simp[c,d]
def mH (n:Nat):Code->Option Code
 |.region m o d=>match m==n with
  |true=>Z (.region m o d)
  |false=>Y
 |.seq a b=>match mH n a with
  |some c=>Z c
  |none=>mH n b
 |.cond _ a b=>match mH n a with
  |some c=>Z c
  |none=>mH n b
 |.block _ c=>mH n c
 |.loop c=>mH n c
 |.scope c=>mH n c
 |_=>Y
theorem EO {s1 s2 c s4 s5 s6 b2 b3 b4 b5 b6 ca cb d f g i j k m n o q s t u v x B F N S W ab ag ai al am an ao ap ar aB aF aR aV a0 a2 a3 a4 ba bb bd be bg bi:bD}{Q:Exit->Act->az->Prop}{bs p cap:Nat}{ad:Option bG}{l:List cf}{w:az}(hl:l.length<=100000)(h:iU w ad l cap)(c0:V w (av bs 0)=Z (aq p))(c1:V w (av p 1)=Z (M0 ad l.length cap))(cc:bO w (av p 1)=K)
 (b1:∀(bl bn bo bp br bt bx b0:bD)(a1:Option bG)(k1:Nat)(w1:az),aC w1 (I (G w)) 103 2 (M0 a1 l.length k1) l.length (ev l)->C (I (G w)) w w1->Q .normal ⟨#[aq bs,s1,s2,c,s4,s5,bl,bn,bo,bp,br,bt,bx,b0,d,f,g,i,j,k,m,n,o,q,s,t,u,v,x,B,F,N,S,W,ab,ag,ai,al,am,an,ao,ap,ar,aB,aF,aR,aV,a0,a2,a3,a4,ba,bb,bd,be,bg,bi],[]⟩ (w1.setCell ⟨p,1,Y⟩ (M0 a1 l.length k1))):
 Code.wp Ng ((Tryz.f217.body.bind (mH 1)).getD .skip) Q ⟨#[aq bs,s1,s2,c,s4,s5,s6,b2,b3,b4,b5,b6,ca,cb,d,f,g,i,j,k,m,n,o,q,s,t,u,v,x,B,F,N,S,W,ab,ag,ai,al,am,an,ao,ap,ar,aB,aF,aR,aV,a0,a2,a3,a4,ba,bb,bd,be,bg,bi],[]⟩ w:=by
 conv=>arg 2;whnf
 refine wp_region_noPanic ?_;have cd:aA (∀(bl bn bo bp br bt bx b0:bD)(a1:Option bG)(k1:Nat)(w1:az),aC w1 (I (G w)) 103 2 (M0 a1 l.length k1) l.length (ev l)->C (I (G w)) w w1->Q .normal ⟨#[aq bs,s1,s2,c,s4,s5,bl,bn,bo,bp,br,bt,bx,b0,d,f,g,i,j,k,m,n,o,q,s,t,u,v,x,B,F,N,S,W,ab,ag,ai,al,am,an,ao,ap,ar,aB,aF,aR,aV,a0,a2,a3,a4,ba,bb,bd,be,bg,bi],[]⟩ (w1.setCell ⟨p,1,Y⟩ (M0 a1 l.length k1))):=b1;have ce:aA (iU w ad l cap):=h;have l2:=aT w _ c0;have lp:=aT w _ c1;dsimp only at l2 lp;clear b1 h
 go_region_with (go_at_call 212;refine(s3 _ ad l cap (ce.o.below (b9.drew)) hl).mono ?_;rintro e w1 ⟨a1,k1,rfl,cg,b⟩;have ch:=(b.cell (p:=av bs 0) l2).trans c0;have ci:=(b.cell (p:=av p 1) lp).trans c1;have cj:=(b.frozen (p:=av p 1) lp).trans cc)
 all_goals exact NoPanic.normal (cd.o _ _ _ _ _ _ _ _ a1 k1 w1 cg ((aH _ w).drew.trans b))
theorem EP {n:Type}(o:f_ n)(ce:qU o)(D:Int->Prop)(f fk a3:gu)(is:n->Int->Bool)(kp:n->Int->Int×n)(nw:n->Int->Int)(u:mB o D f fk a3 is kp nw)(F:Nat->Prop)(s:n)(w:az)(hn:(o.wt s).length<=90000)
 (cf:∀j,j<(o.wt s).length->D ((o.wt (f3 o is kp s j).1).getD j (0,0)).1/\D ((o.wt (f3 o is kp s j).1).getD j (0,0)).2)(bl bs:Nat)(m:o.J F s w)(a4:w.heap[bl]?=Z (R #[f.v,fk.v,a3.v] 145 (0,0)))(ar:w.heap[bs]?=Z (R #[aq o.p] 52 (0,0)))(cg:¬F bl)(ch:¬F bs):
 Calls Ng 217 #[aq bs,aq bl] w fun r w'=>∃ci,r=E (.bool (f3 o is kp s (o.wt s).length).2)/\o.J ci (f3 o is kp s (o.wt s).length).1 w'/\Fr F w w'/\∀k,ci k->F k\/I (G w)<=k:=by
 have cj:aA (qU o):=ce;have ck:aA (kJ o.todC D f.f f.b f.c is):=u.ha;have cN:aA (na o D fk.f fk.b fk.c kp):=u.hk;have cl:aA (∀s x,(o.wt (kp s x).2).length=(o.wt s).length):=u.hl;have cO:aA (∀j,j<(o.wt s).length->D ((o.wt (f3 o is kp s j).1).getD j (0,0)).1/\D ((o.wt (f3 o is kp s j).1).getD j (0,0)).2):=cf;have cP:aA (o.J F s w):=m;have cQ:aA (w.heap[bl]?=Z (R #[f.v,fk.v,a3.v] 145 (0,0))):=a4;have cR:aA (w.heap[bs]?=Z (R #[aq o.p] 52 (0,0))):=ar;have dg:∀(args:Array bD)(w:az),(callFunc f.f args).run Ng w=.ok (.enter f.f args) w:=u.ea;have dh:∀(args:Array bD)(w:az),(callFunc fk.f args).run Ng w=.ok (.enter fk.f args) w:=u.gV;have c0:V w (av bs 0)=Z (aq o.p):=aD ar
 have l1:bl<I (G w):=lt_of_some a4;have l2:bs<I (G w):=lt_of_some ar;obtain⟨ad,cap,hp,am,ba,bb⟩:=o.side m;have c1:V w (av o.p 1)=Z (M0 ad (o.wt s).length cap):=aD hp
 have cS:bO w (av o.p 1)=K:=aE hp
 have lp:o.p<I (G w):=lt_of_some hp;have cT:aA (iU w ad (o.wt s) cap):=am;clear u ce cf m a4 ar hp am bb;go_enter func217,ntmps217
 go_upto_region 1 with fail
 refine EO aa cT.o c0 c1 cS ?_;intro di dj dk dl dm dn dp dq a1 k1 w1 bd aB;have cU:=aB.size;have cm:=cj.o.yy cP.o aB bd;have cn:Fr F w (w1.setCell ⟨o.p,1,Y⟩ (M0 a1 (o.wt s).length k1)):=(Fr.of (X:=F) aB).trans ((Fr.refl (fun k=>k=o.p) w1).set o.p 1 _ rfl) (fun i c=>aM (by rw[c];exact ba))
 have co:∀k,F k\/Z k=Nh (Value.slice a1 (o.wt s).length k1)->F k\/I (G w)<=k:=fun k h=>h.imp id (fun e=>(cv bd k e).1)
 clear bd;go_wp2_with fail
 go_loopw [3,4] (fun cV iv wr=>∃(j:Nat)(b:n)(b1:Bool)(l:Nat->Prop),j<=(o.wt s).length/\iv=ak j/\cV=.bool b1/\aA (f3 o is kp s j=(b,b1))/\o.J l b wr/\Fr F w wr/\aA (∀k,l k->F k\/I (G w)<=k)) (fun _ iv _=>(o.wt s).length-(bN iv).toNat)
 case atStart=>exact⟨0,_,K,_,a5 _,rfl,rfl,rfl,cm,cn,co⟩
 case round=>
  clear cm cn co cU aB;obtain⟨j,b,b1,l,dr,rfl,rfl,an,m,v,q⟩:=hrel;have cp:(o.wt b).length=(o.wt s).length:=by have cq:=yC o is kp cl.o s j;rw[an.o] at cq;exact cq
  obtain⟨ad,cap,hp,am,ba,bb⟩:=o.side m;have ds:=v.size;have n1:¬l bl:=fun h=>(q.o bl h).elim cg (fun h=>by omega)
  have cr:¬l bs:=fun h=>(q.o bs h).elim ch (fun h=>by omega)
  have be:=(v.block bl l1 cg).trans cQ.o;have bg:=(v.block bs l2 ch).trans cR.o;have cW:V wr (av bs 0)=Z (aq o.p):=aD bg
  have cX:V wr (av o.p 1)=Z (M0 ad (o.wt s).length cap):=by simp[World.cell?,hp,cp]
  by_cases bi:j<(o.wt s).length
  ·obtain⟨dt,du,cY,dv,hc⟩:=am.lp aa;obtain⟨cs,ct⟩:=hc j aa;obtain⟨aF,ao⟩:=cO.o j bi;rw[an.o] at aF ao;have bn:aA (f3 o is kp s (j+1)=l4 o is kp (b,b1) j):=by show _=_;rw[yA,an.o]
   obtain⟨g,hg⟩:∃g,((o.wt b).getD j (0,0)).1=g:=⟨_,rfl⟩
   obtain⟨z,hz⟩:∃z,((o.wt b).getD j (0,0)).2=z:=⟨_,rfl⟩
   rw[hg] at cs;rw[hz] at ct;have aF:D g:=by rw[<-hg];exact aF
   have ao:D z:=by rw[<-hz];exact ao
   have bo:aA (((o.wt b).getD j (0,0)).1=g):=hg;have bp:aA (((o.wt b).getD j (0,0)).2=z):=hz;subst cY;have B:aA (o.J l b wr):=m;have br:aA (Fr F w wr):=v;have cZ:aA (wr.heap[bs]?=Z (R #[aq o.p] 52 (0,0))):=bg;have cu:V wr (av bl 0)=Z (.func (.func f.f) f.b f.c):=aD be
   have m1:V wr (av bl 1)=Z (.func (.func fk.f) fk.b fk.c):=aD be
   have bt:=aw wr (R #[.int M4 g,.int M4 z] 103)
   have cw:bl<I (G wr):=aa;have c2:bs<I (G wr):=aa;have dw:o.p<I (G wr):=lt_of_some hp;have j0:(0:Int)<=(j:Int):=aa;have dx:(j:Int)<((o.wt s).length:Int):=aa;clear hc hg hz m v be bg hp am ba bb an;go_wp2_with fail;refine(ck.o l b _ z ao (o.below B.o bt)).mono ?_;rintro r N ⟨rfl,S⟩
   have aR:I (G wr)<I (G N):=by have:=S.size;simp at this;omega
   have W:C (I (G wr)) wr N:=bt.trans (S.mono ac)
   have cx:V N (av (I (G wr)) 0)=Z (ak g):=(S.cell ac).trans ac;have y1:V N (av (I (G wr)) 1)=Z (ak z):=(S.cell ac).trans ac;have cy:bO N (av (I (G wr)) 1)=K:=(S.frozen ac).trans ac;have c3:V N (av bl 0)=Z (.func (.func f.f) f.b f.c):=(W.cell cw).trans cu;cases hz1:is b z
   ·go_wp2_with fail;refine(ck.o l b _ g aF (o.below B.o W)).mono ?_;rintro r bx ⟨rfl,ab⟩
    have cz:I (G wr)<I (G bx):=by have:=ab.size;omega
    have t:C (I (G wr)) wr bx:=W.trans (ab.mono aa)
    have z0:=(ab.cell (p:=av (I (G wr)) 0) aR).trans cx;have cA:=(ab.cell (p:=av (I (G wr)) 1) aR).trans y1;have cB:=(ab.frozen (p:=av (I (G wr)) 1) aR).trans cy;have c4:V bx (av bl 1)=Z (.func (.func fk.f) fk.b fk.c):=(t.cell cw).trans m1;clear cx y1 cy c3 ab S W cs ct cW cX;cases hg1:is b g
    ·have b0:aA (f3 o is kp s (j+1)=(b,b1)):=bn.o.trans (yD bo.o bp.o (aK hg1))
     go_wp2_with fail;go_roundw
     case rel=>exact⟨j+1,b,b1,l,aa,aj,rfl,b0,o.below B.o t,br.o.trans (Fr.of (X:=F) t) (fun _ c=>aM c),q⟩
     case measure=>simp[bN];omega
    ·have b2:aA (f3 o is kp s (j+1)=(o.put (kp b z).2 ((o.wt (kp b z).2).set j (g,(kp b z).1)),Nc)):=bn.o.trans (EN bo.o bp.o hz1 hg1)
     have ag:aA ((o.wt (kp b z).2).length=(o.wt s).length):=(cl.o b z).trans cp;go_wp2_with fail;refine(cN.o l b _ z ao (by rw[ag.o];exact hn) (o.below B.o t)).mono ?_;rintro r d ⟨ai,rfl,b3,ap,aV⟩
     generalize (kp b z).1=y at b2⊢;generalize (kp b z).2=s2 at b2 ag b3;have b4:¬l (I (G wr)):=fun h=>by have:=o.lt B.o _ h;omega
     have ca:¬ai (I (G wr)):=fun h=>(aV _ h).elim b4 (fun h=>by omega)
     have cC:¬ai bs:=fun h=>(aV _ h).elim cr (fun h=>by omega)
     have c5:=ap.size;have a0:=ap.block _ cz b4;have cD:=((ap.block bs aa cr).trans (t.block bs c2)).trans cZ.o;have v0:V d (av (I (G wr)) 0)=Z (ak g):=(aQ (a:=⟨I (G wr),0,Y⟩) a0).trans z0;have v1:V d (av (I (G wr)) 1)=Z (ak z):=(aQ (a:=⟨I (G wr),1,Y⟩) a0).trans cA;have c6:bO d (av (I (G wr)) 1)=K:=(World.frozen?_of_block (a:=⟨I (G wr),1,Y⟩) a0).trans cB;have cb:∀k:Nat,k≠I (G wr)->(d.setCell ⟨I (G wr),1,Y⟩ (.int M4 y)).heap[k]?=d.heap[k]?:=fun k hk=>aX _ _ _ _ hk;have cE:I (G (d.setCell ⟨I (G wr),1,Y⟩ (.int M4 y)))=I (G d):=by simp[World.setCell]
     have cc:o.J ai s2 (d.setCell ⟨I (G wr),1,Y⟩ (.int M4 y)):=o.keep b3 (by rw[cE];exact aG _) (fun k hk=>cb k (fun e=>ca (by rw[<-e];exact hk)))
     have t0:V (d.setCell ⟨I (G wr),1,Y⟩ (.int M4 y)) (av (I (G wr)) 0)=Z (ak g):=(aY d ⟨I (G wr),1,Y⟩ ⟨I (G wr),0,Y⟩ (ak y) ac).trans v0;have dy:V (d.setCell ⟨I (G wr),1,Y⟩ (.int M4 y)) (av (I (G wr)) 1)=Z (ak y):=bc _ _ _ v1;have t3:V (d.setCell ⟨I (G wr),1,Y⟩ (.int M4 y)) (av bs 0)=Z (aq o.p):=(aQ (a:=⟨bs,0,Y⟩) (cb bs aa)).trans (by simp[World.cell?,cD])
     have cF:Fr F w (d.setCell ⟨I (G wr),1,Y⟩ (.int M4 y)):=((br.o.trans (Fr.of (X:=F) t) (fun _ c=>aM c)).trans ap (fun i c=>q.o i c)).trans ((Fr.refl (fun k=>k=I (G wr)) d).set _ 1 _ rfl) (fun i c=>aK aa)
     have cG:aA (∀k,ai k->F k\/I (G w)<=k):=fun k h=>(aV k h).elim (q.o k) (fun h=>aK aa)
     obtain⟨dz,cH,cd,cI,c7,c8⟩:=o.side cc;obtain⟨b5,al,cJ,a2,dA,dB,dC,cK⟩:=cj.o.yz cc cd j (by rw[ag.o];exact bi) g y;obtain⟨b6,dD,e6,c9,cL⟩:=cI.lp (by rw[ag.o];omega)
     obtain⟨da,db⟩:=cL j (by rw[ag.o];exact bi)
     rw[cJ] at e6;cases e6;subst cJ;have dE:V (d.setCell ⟨I (G wr),1,Y⟩ (.int M4 y)) (av o.p 1)=Z (M0 (Z ⟨b5,al,Y⟩) (o.wt s).length cH):=by simp[World.cell?,cd,ag.o]
     have dF:b5≠I (G wr):=fun e=>ca (by rw[<-e];exact a2)
     have dG:b5≠bs:=fun e=>cC (by rw[<-e];exact a2)
     have dc:aA (ai b5):=a2;generalize ((o.wt s2).getD j (0,0)).1=dH at da;generalize ((o.wt s2).getD j (0,0)).2=dI at db;clear z0 cA cB c4 aV b3 ap a0 cD cb cc cd cI c7 c8 cL t bt aR cz c5 ca cC cE c9 b4 a2 cu m1;go_wp2_with fail;generalize d.setCell ⟨I (G wr),1,Y⟩ (.int M4 y)=cM at*;clear v0 v1 c6
     go_region_held3 (fun w'=>V w' (av bs 0)=Z (aq o.p)/\V w' (av o.p 1)=Z (M0 (Z ⟨b5,al,Y⟩) (o.wt s).length cH)/\V w' (av (I (G wr)) 0)=Z (ak g)/\V w' (av (I (G wr)) 1)=Z (ak y)) (go_keep) (fail)
     have dd:=(cF.trans (((Fr.refl (fun k=>k=b5) cM).set b5 (al+j*2) (ak g) rfl).set b5 (al+j*2+1) (ak y) rfl) (fun i c=>by rw[c];exact cG.o _ dc.o)).drew;have de:=o.keep (w':=((cM.setCell ⟨b5,al+j*2,Y⟩ (.int M4 g)).setCell ⟨b5,al+j*2+1,Y⟩ (.int M4 y)).drew) cK b8 (fun _ _=>rfl)
     clear cF cK;go_wp2_with fail;go_roundw
     case rel=>exact⟨j+1,o.put s2 ((o.wt s2).set j (g,y)),Nc,ai,aa,aj,rfl,b2,de,dd,cG⟩
     case measure=>simp[bN];omega
   ·have b0:aA (f3 o is kp s (j+1)=(b,b1)):=bn.o.trans (yD bo.o bp.o (aM hz1))
    go_wp2_with fail;go_roundw
    case rel=>exact⟨j+1,b,b1,l,aa,aj,rfl,b0,o.below B.o W,br.o.trans (Fr.of (X:=F) W) (fun _ c=>aM c),q⟩
    case measure=>simp[bN];omega
  ·obtain rfl:j=(o.wt s).length:=aa;have df:=an.o;go_wp2_with fail;go_ret;rw[df];exact⟨l,rfl,m,v,q.o⟩
theorem EQ:dV 217:=gM func217 ah rfl
theorem yE {g:Type}(o:f_ g)(N:qU o)(D:Int->Prop)(fa fk fn:gu)(is:g->Int->Bool)(kp:g->Int->Int×g)(nw:g->Int->Int)(S:mB o D fa fk fn is kp nw)(u:Option bG)(v x:Nat)(W:o.vr=M0 u v x)(F:Nat->Prop)(s:g)(w:az)(hn:(o.wt s).length<=90000)
 (ab:∀j,j<(o.wt s).length->D ((o.wt (f3 o is kp s j).1).getD j (0,0)).1/\D ((o.wt (f3 o is kp s j).1).getD j (0,0)).2)(l:o.J F s w):
 Calls Ng 145 #[aq o.p,.agg #[fa.v,fk.v,fn.v]] w fun e w'=>∃b,e=E (.bool (f3 o is kp s (o.wt s).length).2)/\o.J b (f3 o is kp s (o.wt s).length).1 w'/\Fr F w w'/\∀k,b k->F k\/I (G w)<=k:=by
 obtain⟨ad,ag,hp,_,ap,_⟩:=o.side l;rw[W] at hp;have c0:V w (av o.p 0)=Z (M0 u v x):=aD hp
 have c1:V w (av o.p 1)=Z (M0 ad (o.wt s).length ag):=aD hp
 have lp:o.p<I (G w):=lt_of_some hp;have ai:aA (o.J F s w):=l;have ar:aA (∀w1,C (I (G w)) w w1->w1.heap[I (G w)+1]?=Z (R #[fa.v,fk.v,fn.v] 145 (0,0))->w1.heap[I (G w)]?=Z (R #[aq o.p] 52 (0,0))->Calls Ng 217 #[aq (I (G w)),aq (I (G w)+1)] w1 fun r w'=>∃b,r=E (.bool (f3 o is kp s (o.wt s).length).2)/\o.J b (f3 o is kp s (o.wt s).length).1 w'/\Fr F w1 w'/\∀k,b k->F k\/I (G w1)<=k):=by
  intro w1 hb aB aF;have q:∀k,I (G w)<=k->¬F k:=fun k hk h=>by have:=o.lt l k h;omega
  exact EP o N D fa fk fn is kp nw S F s w1 hn ab _ _ (o.below l hb) aB aF (q _ aa) (q _ aa)
 clear S l hp W ap N ab;go_enter func145,ntmps145;go_wp2_with fail;have f:∃W4,W4=(w.alloc (R #[bJ (Z ⟨o.p,0,Y⟩)] 52)).alloc (R #[fa.v,fk.v,fn.v] 145):=⟨_,rfl⟩
 obtain⟨W4,f⟩:=f;have sz:I (G W4)=I (G w)+2:=by rw[f];simp
 have t:C (I (G w)) w W4:=by rw[f];exact((aH _ w).alloc b8 _).alloc ac _
 have g0:W4.heap[I (G w)]?=Z (R #[aq o.p] 52 (0,0)):=by rw[f,aS _ _ _ ac];exact aP _ _
 have g1:W4.heap[I (G w)+1]?=Z (R #[fa.v,fk.v,fn.v] 145 (0,0)):=by rw[f];exact yi
 rw[<-f];have P:=yu 217 #[] #[aq (I (G w)),aq (I (G w)+1)] EQ W4 o.p u ad v x (o.wt s).length ag ((t.cell (p:=av o.p 0) lp).trans c0) ((t.cell (p:=av o.p 1) lp).trans c1)
  (fun al d=>∃b,al=(f3 o is kp s (o.wt s).length).2/\o.J b (f3 o is kp s (o.wt s).length).1 d/\Fr F w d/\∀k,b k->F k\/I (G w)+5<=k)
  (by
    intro w1 hw1;have s1:I (G w1)=I (G w)+5:=by rw[hw1];simp;omega
    have b1:C (I (G W4)) W4 w1:=by rw[hw1];exact(((aH _ W4).alloc b8 _).alloc ac _).alloc (by simp;omega) _
    have hk:w1.heap[I (G W4)+1]?=Z (R #[.bool K] 4 (0,0)):=by exact yf
    have b2:C (I (G w)) w w1:=t.trans (b1.mono aa)
    refine(ar.o w1 b2 ((b1.block _ aa).trans g1) ((b1.block _ aa).trans g0)).mono ?_;rintro e d ⟨B,rfl,q1,n,q3⟩
    rw[s1] at q3;refine⟨_,rfl,⟨B,rfl,q1,(Fr.of (X:=F) b2).trans n (fun _ c=>aM c),q3⟩,(n.block _ aa (fun h=>?_)).trans hk⟩
    have:=o.lt ai.o _ h;omega)
 refine P.mono ?_;clear P;rintro e a3 ⟨al,d,rfl,⟨B,rfl,q1,n,q3⟩,hk,rfl⟩
 obtain⟨m,hm⟩:∃m,m=I (G W4)+1:=⟨_,rfl⟩
 rw[<-hm];have aR:aA (m=I (G w)+3):=by show m=_;omega
 clear hm hk t g0 g1 sz f;have hm:=aR.o;have am:∀k,k≠m->(d.setCell ⟨m,0,Y⟩ (.bool (f3 o is kp s (o.wt s).length).2)).heap[k]?=d.heap[k]?:=fun k hk=>aX _ _ _ _ hk;have an:=o.keep (w':=d.setCell ⟨m,0,Y⟩ (.bool (f3 o is kp s (o.wt s).length).2)) q1 (by simp[World.setCell]) (fun k hk=>am k (fun e=>by
  rcases q3 k hk with h|h
  ·have:=o.lt ai.o k h;omega
  ·omega))
 have ao:=n.trans ((Fr.refl (fun k=>k=m) d).set m 0 (.bool (f3 o is kp s (o.wt s).length).2) rfl) (fun i c=>aK aa)
 have aV:aA (∃b,o.J b (f3 o is kp s (o.wt s).length).1 (d.setCell ⟨m,0,Y⟩ (.bool (f3 o is kp s (o.wt s).length).2))/\Fr F w (d.setCell ⟨m,0,Y⟩ (.bool (f3 o is kp s (o.wt s).length).2))/\∀k,b k->F k\/I (G w)<=k):=⟨B,an,ao,fun k h=>(q3 k h).imp id (fun h=>by omega)⟩
 clear an ao am q1 n q3 hm;go_wp2_with fail;go_ret;obtain⟨b,a0,a1,a2⟩:=aV.o;exact⟨b,rfl,a0,a1,a2⟩
structure ck where
 N:Nat
 O:Nat
 y:Nat
 T:List Int
structure ct where
 g:Nat
 ws:List Int
 f:Int->Int
 nx:Int
 wk:List Int
 ep:List Int
 rs:List Int
def ck.ld (k:ck)(s:ct)(a:Int):Int:=Proofs.YtpkjkjhanlbcoaaGreat.ld k.N k.y s.g s.ws a
def ck.cQ (k:ck)(x:Int):Bool:=de x&&bR k.T (cr x)
def ck.ls (k:ck)(s:ct)(x:Int):Bool:=k.cQ x&&(s.f (cr x)==-1)
def ck.nw (k:ck)(s:ct)(x:Int):Int:=if(k.cQ x&&!(s.f (cr x)==-1))=Nc then ew 3 (s.f (cr x)) else x
def hG (f:Int->Int)(a v:Int):Int->Int:=fun b=>if b=a then v else f b
def ck.cp (k:ck)(s:ct)(a:Int):ct:={s with g:=km k.N k.O k.y s.g s.ws a,ws:=kn k.N k.O k.y s.g s.ws a,f:=hG s.f a (nz k.N k.O k.y s.g s.ws a)}
def ck.br (k:ck)(s:ct)(x:Int):Int×ct:=if k.ls s x=Nc then(k.nw (k.cp s (cr x)) x,k.cp s (cr x)) else(k.nw s x,s)
def ck.st (k:ck)(s:ct)(a x:Int):ct:={s with ws:=if dw k.N k.y s.g a=Nc then s.ws.set (M a) x else s.ws}
def ck.kf (k:ck)(s:ct)(a:Int):ct:=k.st (k.br s (k.ld s a)).2 a (k.br s (k.ld s a)).1
def ck.gQ (k:ck)(s:ct)(a:Int):Nat->ct
 |0=>s
 |n+1=>k.kf (k.gQ s a n) (a+1+n)
def ck.lk (k:ck)(s:ct)(a:Int):ct:=
 if pk (k.ld s a)=1\/pk (k.ld s a)=2 then k.gQ s a (M (pf (k.ld s a)))
 else if pk (k.ld s a)=3 then k.kf {s with wk:=s.wk++[a]} (a+2)
 else if pk (k.ld s a)=4 then {s with ep:=s.ep++[a]} else s
def ck.lb (k:ck):Nat->ct->ct
 |0,s=>s
 |n+1,s=>if hB k.N s.g s.nx=Nc then k.lb n {k.lk s s.nx with nx:=s.nx+(1+pf (k.ld s s.nx))} else s
def ck.cV (k:ck)(t:List Int×ct)(a:Int):List Int×ct:=if k.ls t.2 (k.ld t.2 (a+1))=Nc then(t.1++[a],t.2) else(t.1,k.kf (k.kf t.2 (a+1)) (a+2))
def ck.d8 (k:ck)(s:ct)(l:List Int):List Int×ct:=l.foldl k.cV ([],s)
def ck.kv (k:ck)(s:ct):Bool×ct:=(decide (L (k.d8 s s.ep).1<L s.ep),{(k.d8 s s.ep).2 with ep:=(k.d8 s s.ep).1})
def dI {b:Type}(is:b->Int->Bool)(kp:b->Int->Int×b)(t:(b×List cf)×Bool)(i:Nat):(b×List cf)×Bool:=
 if is t.1.1 (X t.1.2 i (0,0)).2||!is t.1.1 (X t.1.2 i (0,0)).1 then t
 else(((kp t.1.1 (X t.1.2 i (0,0)).2).2,t.1.2.set i ((X t.1.2 i (0,0)).1,(kp t.1.1 (X t.1.2 i (0,0)).2).1)),Nc)
def h7 {b:Type}(is:b->Int->Bool)(kp:b->Int->Int×b)(s:b×List cf)(n:Nat):(b×List cf)×Bool:=(k4 n).foldl (dI is kp) (s,K)
def ck.al (k:ck)(s:ct)(x:Int):Bool:=!k.ls s x
def ck.wa (k:ck)(s:ct×List cf):(ct×List cf)×Bool:=h7 k.al k.br s (L s.2)
def ck.mu (k:ck)(s:ct):Nat:=M (k.N+k.O+13-s.nx)+L s.ep+(k.O-s.g)
def ck.c_ (k:ck):Nat->ct×List cf->ct×List cf
 |0,s=>s
 |n+1,s=>
  if(k.kv (k.lb (k.O+1) s.1)).1=Nc then k.c_ n ((k.kv (k.lb (k.O+1) s.1)).2,s.2)
  else if(k.wa ((k.kv (k.lb (k.O+1) s.1)).2,s.2)).2=Nc then k.c_ n (k.wa ((k.kv (k.lb (k.O+1) s.1)).2,s.2)).1
  else(k.wa ((k.kv (k.lb (k.O+1) s.1)).2,s.2)).1
def ck.sp (k:ck)(s:ct×List cf):ct×List cf:=k.c_ (k.mu s.1+1) s
def ck.ke (k:ck)(s:ct×List cf)(x:Int):Int×(ct×List cf):=((k.br s.1 x).1,k.sp ((k.br s.1 x).2,s.2))
def ck.cP (k:ck)(s:ct):Nat->ct
 |0=>s
 |n+1=>{(k.br (k.cP s n) (X (k.cP s n).rs n 0)).2 with rs:=(k.br (k.cP s n) (X (k.cP s n).rs n 0)).2.rs.set n (k.br (k.cP s n) (X (k.cP s n).rs n 0)).1}
def ck.gR (k:ck)(e c:Int)(M:List Int)(s:ct)(a:Int):ct:=if a+pf (k.ld s a)<e then(if(gE k.N c a&&bR M (cN k.N a))=Nc then k.lk s a else s) else s
def ck.lm (k:ck)(c:Int)(M:List Int)(s:ct)(l:List Int):ct:=l.foldl (k.gR s.nx c M) s
def ck.e3 (k:ck)(s:ct)(a:Int):ct:=if k.ls s (k.ld s (a+1))=Nc then k.st s (a+1) 3 else k.st s (a+1) (k.nw s (k.ld s (a+1)))
def ck.mw (k:ck)(s:ct)(l:List Int):ct:=l.foldl k.e3 s
def ck.hI (k:ck)(s:ct)(a:Int):ct:=k.st (k.st s (a+1) 3) (a+2) 3
def ck.be (k:ck)(s:ct)(l:List Int):ct:=l.foldl k.hI s
def ck.sz (k:ck)(s:ct):Nat:=((k.T.filter (fun a=>s.f a==-1)).map (fun a=>1+M (pf (k.ld s a)))).sum
structure CI (k:ck)(s:ct):Prop where
 hN:16<=k.N
 hN':k.N<=256
 hO:k.O<=1024
 hy:k.y<=k.N
 hg:s.g<=k.O
 len:L s.ws=k.N+k.O
 th:∀a∈k.T,0<=a/\pc (k.ld s a)=0/\a+1+pf (k.ld s a)<=k.y
 nd:k.T.Nodup
 room:k.sz s<=k.O-s.g
 iw:(k.N:Int)<=s.nx
 jW:s.nx<=(k.N:Int)+k.O+13
 i1:∀a∈s.wk,(k.N:Int)<=a/\a<=2000
 iJ:∀a∈s.ep,(k.N:Int)<=a/\a<=2000
 tl:L k.T<=2000
structure eB (k:ck)(s:ct):Prop where
 wk:L s.wk+M (k.N+k.O+13-s.nx)<=4000
 ep:L s.ep+M (k.N+k.O+13-s.nx)<=4000
open Go.RowKit W Kp cq pH
section
variable {k:ck}{s:ct}
theorem CI.tZ (h:CI k s){a:Int}(ha:a∈k.T):0<=a/\a<k.y/\dw k.N k.y s.g a=Nc:=by
 obtain⟨b,c,d⟩:=h.th a ha;have e:=dv (k.ld s a)
 grind [jf]
theorem ck.oD (hl:L s.ws=k.N+k.O)(hy:k.y<=k.N)(hg:s.g<=k.O)(a x b:Int):k.ld (k.st s a x) b=if b=a/\dw k.N k.y s.g a=Nc then x else k.ld s b:=by
 unfold ck.ld ck.st;by_cases ha:dw k.N k.y s.g a=Nc
 ·have hb:=jV ha hy hg;rw[aJ ha];by_cases e:b=a
  ·grind [eA]
  ·rw[aI aa];unfold Proofs.YtpkjkjhanlbcoaaGreat.ld;by_cases hi:dw k.N k.y s.g b=Nc
   ·have c:=jV hi hy hg
    grind
   grind
 grind
theorem ck.oE {a:Int}(hc:iY k.N k.O k.y s.g s.ws a=Nc):k.cp s a={s with g:=s.g+(1+M (pf (k.ld s a))),ws:=nS s.ws (k.N+s.g) ((s.ws.drop (M a)).take (1+M (pf (k.ld s a)))),f:=hG s.f a ((k.N+s.g:Nat):Int)}:=by
 unfold ck.cp km kn nz ck.ld
 grind
theorem t1 {b:Type}(l m:List b)(t:Nat)(h:t+L m<=L l):L (nS l t m)=L l:=by
 unfold nS
 grind
theorem oF (N y g:Nat)(a:Int):dw N y g a=Nc↔(0<=a/\a<y)\/((N:Int)<=a/\a<(N:Int)+g):=by simp[dw,hB]
theorem ck.t4 (hl:L s.ws=k.N+k.O)(hy:k.y<=k.N)(hg:s.g<=k.O){a:Int}(a0:0<=a)(a1:a+1+pf (k.ld s a)<=k.y)(hc:iY k.N k.O k.y s.g s.ws a=Nc)(b:Int):
 k.ld (k.cp s a) b=if(k.N:Int)+s.g<=b/\b<(k.N:Int)+s.g+(1+pf (k.ld s a)) then k.ld s (a+(b-(k.N+s.g))) else k.ld s b:=by
 obtain⟨f,g,c⟩:=pG hc;have hp:=dv (k.ld s a)
 have c:1+pf (k.ld s a)<=(k.O:Int)-s.g:=c;rw[ck.oE hc];obtain⟨n,hn⟩:∃n,n=M (pf (k.ld s a)):=(by grind)
 rw[<-hn];have d:∀i:Nat,_=_:=fun i=>qQ s.ws (k.N+s.g) (M a) (1+n) i aa aa;by_cases hb:(k.N:Int)+s.g<=b/\b<(k.N:Int)+s.g+(1+pf (k.ld s a))
 ·rw[aJ hb];have e:dw k.N k.y (s.g+(1+n)) b=Nc:=(by grind [oF])
  show Proofs.YtpkjkjhanlbcoaaGreat.ld k.N k.y _ _ b=Proofs.YtpkjkjhanlbcoaaGreat.ld k.N k.y s.g s.ws _;rw[eA e,eA (by grind [oF]),d,aJ aa]
  congr 1
  omega
 ·rw[aI hb];show Proofs.YtpkjkjhanlbcoaaGreat.ld k.N k.y _ _ b=Proofs.YtpkjkjhanlbcoaaGreat.ld k.N k.y s.g s.ws b
  grind [oF,YtpkjkjhanlbcoaaGreat.ld]
theorem yF (T:List Int)(f:Int->Int)(a v:Int)(hv:v≠-1):T.filter (fun b=>hG f a v b==-1)=(T.filter (fun b=>f b==-1)).filter (fun b=>!(b==a)):=by
 rw[List.filter_filter]
 congr 1
 funext b
 unfold hG;by_cases e:b=a
 ·simp[e,hv]
 ·simp[e]
theorem pI (g:Int->Nat):∀(l:List Int)(a:Int),l.Nodup->a∈l->((l.filter (fun b=>!(b==a))).map g).sum+g a=(l.map g).sum
 |[],a,_,h=>by grind
 |b::l,a,hn,h=>by
  rw[List.nodup_cons] at hn;by_cases e:b=a
  ·grind [List.filter_eq_self]
  ·have hm:a∈l:=by grind
   have c:=pI g l a hn.2 hm
   grind
theorem yG:∀l:List Int,(l.map (fun _=>1)).sum=L l
 |[]=>rfl
 |_::l=>by simp[yG l];omega
theorem ER (l:List Int)(a:Int)(hn:l.Nodup)(h:a∈l):L (l.filter (fun b=>!(b==a)))+1=L l:=by
 have:=pI (fun _=>1) l a hn h
 grind [yG]
theorem CI.iY (h:CI k s){a:Int}(ha:a∈k.T)(c:s.f a=-1):iY k.N k.O k.y s.g s.ws a=Nc:=by
 obtain⟨d,b,f⟩:=h.th a ha;have g:=dv (k.ld s a)
 have hm:a∈k.T.filter (fun a=>s.f a==-1):=(by grind)
 have hs:=pI (fun a=>1+M (pf (k.ld s a))) _ a (h.nd.filter _) hm;have hr:=h.room;have hg:=h.hg;unfold ck.sz at hr;have e:hB 0 (k.y:Int) a=Nc:=by simp[hB];omega
 unfold Proofs.YtpkjkjhanlbcoaaGreat.iY gY;rw[aJ e];refine bv ⟨b,?_,?_⟩
 ·show 1+pf (k.ld s a)<=(k.y:Int)-a;omega
 ·show 1+pf (k.ld s a)<=(k.O:Int)-s.g;omega
theorem CI.st (h:CI k s){a:Int}(ha:(k.N:Int)<=a)(x:Int):CI k (k.st s a x):=by
 have hl:∀b∈k.T,k.ld (k.st s a x) b=k.ld s b:=fun b hb=>by
  have:=h.tZ hb
  grind [hy,ck.oD,len,hg]
 refine⟨h.hN,h.hN',h.hO,h.hy,h.hg,?_,fun b hb=>(hl b hb▸h.th b hb),h.nd,?_,h.iw,h.jW,h.i1,h.iJ,h.tl⟩
 ·grind [len,ck.st]
 ·have e:k.sz (k.st s a x)=k.sz s:=by
   unfold ck.sz
   congr 1
   refine mo (fun b hb=>?_)
   grind
  rw[e];exact h.room
theorem CI.cp (h:CI k s){a:Int}(ha:a∈k.T)(c:s.f a=-1):CI k (k.cp s a)/\s.g<(k.cp s a).g:=by
 have hc:=h.iY ha c;obtain⟨d,e,f⟩:=h.th a ha;have hm:a∈k.T.filter (fun a=>s.f a==-1):=(by grind)
 have hs:=pI (fun a=>1+M (pf (k.ld s a))) _ a (h.nd.filter _) hm;have hr:=h.room;have hg:=h.hg;have hl:∀b∈k.T,k.ld (k.cp s a) b=k.ld s b:=fun b hb=>by
  have:=h.tZ hb
  grind [hy,ck.t4,len]
 have g:k.T.filter (fun b=>(k.cp s a).f b==-1)=(k.T.filter (fun b=>s.f b==-1)).filter (fun b=>!(b==a)):=(ck.oE hc▸yF _ _ _ _ aa)
 have i:(k.cp s a).g=s.g+(1+M (pf (k.ld s a))):=by rw[ck.oE hc]
 have j:k.sz (k.cp s a)+(1+M (pf (k.ld s a)))=k.sz s:=by grind [mo,ck.sz]
 refine⟨⟨h.hN,h.hN',h.hO,h.hy,aa,?_,fun b hb=>(hl b hb▸h.th b hb),h.nd,aa,h.iw,h.jW,h.i1,h.iJ,h.tl⟩,?_⟩
 all_goals grind [ck.oE,len,t1]
structure ed (k:ck)(s t:ct):Prop where
 nx:t.nx=s.nx
 wk:t.wk=s.wk
 ep:t.ep=s.ep
 rs:t.rs=s.rs
 g:s.g<=t.g
theorem ed.refl (k:ck)(s:ct):ed k s s:=⟨rfl,rfl,rfl,rfl,aG _⟩
theorem ed.trans {a b c:ct}(h:ed k a b)(j:ed k b c):ed k a c:=⟨j.nx.trans h.nx,j.wk.trans h.wk,j.ep.trans h.ep,j.rs.trans h.rs,aU h.g j.g⟩
theorem ck.nE {x:Int}(h:k.ls s x=Nc):de x=Nc/\cr x∈k.T/\s.f (cr x)=-1:=by grind [ls,cQ]
theorem CI.br (h:CI k s)(x:Int):CI k (k.br s x).2/\ed k s (k.br s x).2/\(k.ls s x=Nc->s.g<(k.br s x).2.g):=by
 unfold ck.br;by_cases c:k.ls s x=Nc
 ·obtain⟨c1,c2,c3⟩:=ck.nE c;obtain⟨b,d⟩:=h.cp c2 c3;rw[aJ c];exact⟨b,⟨rfl,rfl,rfl,rfl,by grind⟩,fun _=>d⟩
 grind [ed.refl]
theorem CI.kf (h:CI k s){a:Int}(ha:(k.N:Int)<=a):CI k (k.kf s a)/\ed k s (k.kf s a):=by obtain⟨c,b,_⟩:=h.br _;exact⟨c.st ha _,⟨b.nx,b.wk,b.ep,b.rs,b.g⟩⟩
theorem CI.gQ (h:CI k s){a:Int}(ha:(k.N:Int)<=a):∀n,CI k (k.gQ s a n)/\ed k s (k.gQ s a n)
 |0=>⟨h,ed.refl _ _⟩
 |n+1=>by obtain⟨b,c⟩:=CI.gQ h ha n;obtain⟨d,e⟩:=b.kf (a:=a+1+n) aa;exact⟨d,c.trans e⟩
theorem CI.yH (h:CI k s){a:Int}(ha:(k.N:Int)<=a)(c:a<=2000):CI k {s with wk:=s.wk++[a]}:=
 ⟨h.hN,h.hN',h.hO,h.hy,h.hg,h.len,h.th,h.nd,h.room,h.iw,h.jW,fun b hb=>by
  rcases bE.1 hb with hb|hb
  ·exact h.i1 b hb
  grind,h.iJ,h.tl⟩
theorem CI.ES (h:CI k s){a:Int}(ha:(k.N:Int)<=a)(c:a<=2000):CI k {s with ep:=s.ep++[a]}:=
 ⟨h.hN,h.hN',h.hO,h.hy,h.hg,h.len,h.th,h.nd,h.room,h.iw,h.jW,h.i1,fun b hb=>by
  rcases bE.1 hb with hb|hb
  ·exact h.iJ b hb
  grind,h.tl⟩
structure Cl (k:ck)(s t:ct):Prop where
 nx:t.nx=s.nx
 wk:L t.wk<=L s.wk+1
 ep:L t.ep<=L s.ep+1
 rs:t.rs=s.rs
 g:s.g<=t.g
theorem Cl.of {t:ct}(h:ed k s t):Cl k s t:=⟨h.nx,by grind [ed.wk],by grind [ed.ep],h.rs,h.g⟩
theorem CI.lk (h:CI k s){a:Int}(ha:(k.N:Int)<=a)(c:a<=2000):CI k (k.lk s a)/\Cl k s (k.lk s a):=by
 unfold ck.lk;split
 ·grind [gQ,Cl.of]
 ·split
  ·obtain⟨d,b⟩:=(h.yH ha c).kf (a:=a+2) aa;exact⟨d,⟨b.nx,by rw[b.wk];simp,by rw[b.ep];simp,b.rs,b.g⟩⟩
  ·split
   ·exact⟨h.ES ha c,⟨rfl,ac,ac,rfl,aG _⟩⟩
   grind [Cl.of,ed.refl]
theorem CI.lu (h:CI k s)(d:hB k.N s.g s.nx=Nc):CI k {k.lk s s.nx with nx:=s.nx+(1+pf (k.ld s s.nx))}/\k.mu {k.lk s s.nx with nx:=s.nx+(1+pf (k.ld s s.nx))}<=k.mu s/\s.nx<(k.N:Int)+k.O:=by
 have hb:=jU d;have hg:=h.hg;have e:=dv (k.ld s s.nx)
 have n1:=h.hO;have f:=h.hN';obtain⟨b,c⟩:=h.lk h.iw aa;refine⟨⟨b.hN,(by assumption),(by assumption),b.hy,b.hg,b.len,b.th,b.nd,b.room,?_,?_,b.i1,b.iJ,b.tl⟩,?_,aa⟩
 ·grind
 ·grind
 ·have g:=c.g;have i:=c.ep
  grind [ck.mu]
theorem eB.lu (h:CI k s)(c:hB k.N s.g s.nx=Nc)(hb:eB k s):eB k {k.lk s s.nx with nx:=s.nx+(1+pf (k.ld s s.nx))}:=by
 have d:=jU c;have hg:=h.hg;have e:=dv (k.ld s s.nx)
 have n1:=h.hO;have f:=h.hN';obtain⟨g,b⟩:=h.lk h.iw aa;have i:=hb.wk;have j:=hb.ep;have l:=b.wk;have m:=b.ep;constructor
 all_goals grind
theorem CI.lb (h:CI k s)(hb:eB k s):∀n,CI k (k.lb n s)/\eB k (k.lb n s)/\k.mu (k.lb n s)<=k.mu s:=by
 intro n
 induction n generalizing s with
 |zero=>exact⟨h,hb,aG _⟩
 |succ n b=>
  grind [lu,eB.lu,ck.lb]
theorem CI.cV {t:List Int×ct}(h:CI k t.2){a:Int}(ha:(k.N:Int)<=a):CI k (k.cV t a).2/\ed k t.2 (k.cV t a).2/\L (k.cV t a).1<=L t.1+1/\∀b∈(k.cV t a).1,b∈t.1\/b=a:=by
 unfold ck.cV;split
 ·simp_all [ed.refl]
 grind [kf,ed.trans]
theorem CI.d8 (h:CI k s):∀l:List Int,(∀a∈l,(k.N:Int)<=a)->CI k (k.d8 s l).2/\ed k s (k.d8 s l).2/\L (k.d8 s l).1<=L l/\∀b∈(k.d8 s l).1,b∈l:=by
 have key:∀(l:List Int)(t:List Int×ct),CI k t.2->(∀a∈l,(k.N:Int)<=a)->CI k (l.foldl k.cV t).2/\ed k t.2 (l.foldl k.cV t).2/\L (l.foldl k.cV t).1<=L t.1+L l/\∀b∈(l.foldl k.cV t).1,b∈t.1\/b∈l:=by
  intro l
  induction l with
  |nil=>grind [ed.refl]
  |cons a l f=>
   grind [cV,ed.trans]
 intro l hl;obtain⟨c,d,g,e⟩:=key l ([],s) h hl;exact⟨c,d,by show L (l.foldl k.cV ([],s)).1<=L l;grind,fun b hb=>by simpa using e b hb⟩
theorem CI.kv (h:CI k s)(hb:eB k s):CI k (k.kv s).2/\eB k (k.kv s).2/\k.mu (k.kv s).2<=k.mu s/\((k.kv s).1=Nc->k.mu (k.kv s).2<k.mu s):=by
 obtain⟨b,c,f,d⟩:=h.d8 s.ep (fun a ha=>(h.iJ a ha).1)
 have e:=c.nx;have g:=c.g;have b2:=hb.ep;refine⟨⟨b.hN,b.hN',b.hO,b.hy,b.hg,b.len,b.th,b.nd,b.room,b.iw,b.jW,b.i1,fun a ha=>h.iJ a (d a ha),b.tl⟩,⟨?_,?_⟩,?_,fun hk=>?_⟩
 ·show L (k.d8 s s.ep).2.wk+M (k.N+k.O+13-(k.d8 s s.ep).2.nx)<=4000;rw[e,c.wk];exact hb.wk
 all_goals grind [ck.mu,ck.kv]
theorem ed.mu {t:ct}(h:ed k s t):k.mu t<=k.mu s:=by unfold ck.mu;rw[h.nx,h.ep];have:=h.g;omega
theorem ed.cb {t:ct}(h:ed k s t)(hb:eB k s):eB k t:=⟨by rw[h.wk,h.nx];exact hb.wk,by rw[h.ep,h.nx];exact hb.ep⟩
theorem CI.h7 {s:ct×List cf}(h:CI k s.1):∀n,CI k (h7 k.al k.br s n).1.1/\ed k s.1 (h7 k.al k.br s n).1.1/\L (h7 k.al k.br s n).1.2=L s.2/\((h7 k.al k.br s n).2=Nc->s.1.g<(h7 k.al k.br s n).1.1.g)
 |0=>(by grind [ed.refl,YtpkjkjhanlbcoaaGreat.h7])
 |n+1=>by
  obtain⟨d,b,f,g⟩:=CI.h7 h n;have e:Proofs.YtpkjkjhanlbcoaaGreat.h7 k.al k.br s (n+1)=dI k.al k.br (Proofs.YtpkjkjhanlbcoaaGreat.h7 k.al k.br s n) n:=by simp[Proofs.YtpkjkjhanlbcoaaGreat.h7,Bi]
  rw[e];generalize Proofs.YtpkjkjhanlbcoaaGreat.h7 k.al k.br s n=t at d b f g⊢;unfold dI;split
  ·grind
  ·rename_i c;obtain⟨i,j,l⟩:=d.br (X t.1.2 n (0,0)).2;have hl:k.ls t.1.1 (X t.1.2 n (0,0)).2=Nc:=by grind [ck.al]
   refine⟨i,b.trans j,by grind,fun _=>?_⟩
   exact Nat.lt_of_le_of_lt b.g (by grind)
theorem CI.wa {s:ct×List cf}(h:CI k s.1)(hb:eB k s.1):CI k (k.wa s).1.1/\eB k (k.wa s).1.1/\L (k.wa s).1.2=L s.2/\k.mu (k.wa s).1.1<=k.mu s.1/\((k.wa s).2=Nc->k.mu (k.wa s).1.1<k.mu s.1):=by
 obtain⟨b,c,d,f⟩:=h.h7 _;refine⟨b,c.cb hb,d,c.mu,fun e=>?_⟩
 have g:=f e;have i:=b.hg;show k.mu (Proofs.YtpkjkjhanlbcoaaGreat.h7 k.al k.br s (L s.2)).1.1<_
 grind [ed.nx,ed.ep,ck.mu]
theorem CI.cP (h:CI k s):∀n,CI k (k.cP s n)/\(k.cP s n).nx=s.nx/\(k.cP s n).wk=s.wk/\(k.cP s n).ep=s.ep/\s.g<=(k.cP s n).g/\L (k.cP s n).rs=L s.rs
 |0=>⟨h,rfl,rfl,rfl,aG _,rfl⟩
 |n+1=>by
  obtain⟨d,e,f,g,i,j⟩:=CI.cP h n;obtain⟨b,c,_⟩:=d.br _;refine⟨⟨b.hN,b.hN',b.hO,b.hy,b.hg,b.len,b.th,b.nd,b.room,b.iw,b.jW,b.i1,b.iJ,b.tl⟩,c.nx.trans e,c.wk.trans f,c.ep.trans g,aU i c.g,?_⟩
  show L ((k.br _ _).2.rs.set n _)=_
  grind [ed.rs]
theorem CI.e3 (h:CI k s){a:Int}(ha:(k.N:Int)<=a):CI k (k.e3 s a)/\ed k s (k.e3 s a):=by
 unfold ck.e3;split
 ·exact⟨h.st aa _,⟨rfl,rfl,rfl,rfl,aG _⟩⟩
 ·exact⟨h.st aa _,⟨rfl,rfl,rfl,rfl,aG _⟩⟩
theorem CI.hI (h:CI k s){a:Int}(ha:(k.N:Int)<=a):CI k (k.hI s a)/\ed k s (k.hI s a):=
 ⟨(h.st aa _).st aa _,⟨rfl,rfl,rfl,rfl,aG _⟩⟩
theorem CI.fold (f:ct->Int->ct)(b:∀s a,CI k s->(k.N:Int)<=a->CI k (f s a)/\ed k s (f s a)):∀(l:List Int)(s:ct),CI k s->(∀a∈l,(k.N:Int)<=a)->CI k (l.foldl f s)/\ed k s (l.foldl f s)
 |[],s,h,_=>⟨h,ed.refl _ _⟩
 |a::l,s,h,hl=>by
  obtain⟨c,d⟩:=b s a h (hl a ac)
  obtain⟨e,g⟩:=CI.fold f b l (f s a) c (by grind)
  grind [ed.trans]
theorem CI.mw (h:CI k s){l:List Int}(hl:∀a∈l,(k.N:Int)<=a):CI k (k.mw s l)/\ed k s (k.mw s l):=CI.fold k.e3 (by grind [e3]) l s h hl
theorem CI.be (h:CI k s){l:List Int}(hl:∀a∈l,(k.N:Int)<=a):CI k (k.be s l)/\ed k s (k.be s l):=CI.fold k.hI (by grind [hI]) l s h hl
end
def eK (q:List cf)(g:Int):List Int:=(q.filter (fun e=>e.1==g)).map (·.2)
theorem ET (q:List cf)(g:Int)(j:Nat)(h:j<L q)(e:(X q j (0,0)).1=g):eK (q.take (j+1)) g=eK (q.take j) g++[(X q j (0,0)).2]:=by unfold eK;rw[g9 q j h (0,0),r2,iB,JI,e];simp
theorem EU (q:List cf)(g:Int)(j:Nat)(h:j<L q)(e:¬(X q j (0,0)).1=g):eK (q.take (j+1)) g=eK (q.take j) g:=by unfold eK;rw[g9 q j h (0,0),r2,iB,JI];rw[aI (by simpa using e)];simp
theorem pJ (q:List cf)(g:Int):L (eK q g)<=L q:=by unfold eK;rw[aZ];exact bm _ _
theorem t5 (w:az)(p:Nat)(v0:bD)(a1:Option bG)(k1:Nat)(q:List cf)(g:Int)(h:w.heap[p]?=Z (R #[v0,M0 a1 (L q) k1] 153 (0,0)))(hp:dA w a1 q)(hm:L q<=90000):
 J Ng 252 #[aq p,ak g] w fun e w'=>∃ad cap,e=E (M0 ad (L (eK q g)) cap)/\aC w' (I (G w)) 2 1 (M0 ad (L (eK q g)) cap) (L (eK q g)) ((eK q g).map (Value.int M4))/\C (I (G w)) w w':=by
 obtain⟨S,hi,W,ab,ag⟩:=info_parts w_;have c1:V w (av p 1)=Z (M0 a1 (L q) k1):=aD h
 have ai:=hide hp;clear h hp;go_enter func252,ntmps252;go_wp2_with fail
 go_loopw [5,13] (fun tv iv wr=>∃(j:Nat)(T:List Int)(b:Option bG)(c:Nat),j<=L q/\iv=ak j/\aA (T=eK (q.take j) g)/\tv=M0 b (L T) c/\aC wr (I (G w)) 2 1 (M0 b (L T) c) (L T) (T.map (Value.int M4))/\C (I (G w)) w wr) (fun _ iv _=>L q-M (bN iv))
 exact⟨0,[],Y,0,a5 _,rfl,rfl,rfl,bf _ _ _ _,aH _ _⟩
 ·
   obtain⟨j,T,b,c,d,rfl,f,rfl,l,hb⟩:=hrel;have aB:L T<=90000:=by
    have:=pJ (q.take j) g;rw[f.o];simp at this
    omega
   by_cases o:j<L q
   ·obtain⟨aF,aR,al,aV,hc⟩:=ai.o.below hb aa;obtain⟨t,v⟩:=hc j o;clear hc;subst al;have hs:=hb.size;by_cases i:(X q j (0,0)).1=g
    ·have m:aA (T++[(X q j (0,0)).2]=eK (q.take (j+1)) g):=by show _=_;rw[ET q g j o i,f.o]
     rw[i] at t;generalize (X q j (0,0)).2=z at v m;clear i;have s:=fC l (R #[U M4 g,U M4 z] 103)
     have n:=hb.alloc hs (R #[U M4 g,U M4 z] 103)
     go_wp2_with (at_builtin;refine wpList_append_own_at _ rfl _ _ 53 rfl (I (G w)) 2 S (ak 0) 1 8 underlying53 hi W ab ag rfl ae (M0 b (L T) c) (L T) (T.map (Value.int M4)) rfl (fC s _) ⟨I (G wr)+1,0,Y⟩ 1 1 [ak z] rfl rfl ?_ ?_ ?_ ?_ ?_ ?_;(intro j u d;match j,d with|0,d=>(simp at d;subst d;simp[Addr.add]));(intro u B;simp at B;subst B;rfl);(unfold bW;omega);omega;(simp;omega);intro a0 am F an _ a2;obtain⟨b4,N,ao⟩:=eW F (Nat.succ_pos _);subst ao)
     have ap:aC am (I (G w)) 2 1 (M0 (au b4) (L (T++[z])) N) (L (T++[z])) ((T++[z]).map (Value.int M4)):=by simpa using F
     have ar:=(n.alloc n.size _).grown an (by simp;omega) (fun k e=>(cv l k e.symm).1)
     go_wp2_with fail;go_roundw;exact⟨j+1,T++[z],au b4,N,aa,aj,m,ac,ap,ar⟩
     simp[bN];omega
    ·have m:aA (T=eK (q.take (j+1)) g):=by show _=_;rw[EU q g j o i,f.o]
     generalize (X q j (0,0)).1=x at t i;generalize (X q j (0,0)).2=z at v;have s:=fC l (R #[U M4 x,U M4 z] 103)
     have n:=hb.alloc hs (R #[U M4 x,U M4 z] 103)
     go_wp2_with fail;go_roundw;exact⟨j+1,T,b,c,aa,aj,m,rfl,s,n⟩
     simp[bN];omega
   ·obtain rfl:j=L q:=aa;rw[bk] at f;go_wp2_with fail;go_ret;rw[<-f.o];exact⟨b,c,rfl,l,hb⟩
structure Kf (B:Nat)(w w':az):Prop where
 os:w'.os=w.os
 tape:w'.tape=w.tape
 output:w'.output=w.output
 size:I (G w)<=I (G w')
 low:∀k:Nat,k<I (G w)->k<B->w'.heap[k]?=w.heap[k]?
 df:∀(k:Nat) cs e m,w.heap[k]?=Z (Obj.cells cs e m)->e≠129->e≠107->w'.heap[k]?=w.heap[k]?
section
variable {B:Nat}{w w' w'':az}
theorem Kf.refl (B:Nat)(w:az):Kf B w w:=⟨rfl,rfl,rfl,aG _,fun _ _ _=>rfl,fun _ _ _ _ _ _ _=>rfl⟩
theorem Kf.trans (h:Kf B w w')(k:Kf B w' w''):Kf B w w'':=
 ⟨k.os.trans h.os,k.tape.trans h.tape,k.output.trans h.output,aU h.size k.size,fun i hi hb=>(k.low i (aO hi h.size) hb).trans (h.low i hi hb),fun i b e m hi c d=>(k.df i b e m ((h.df i b e m hi c d).trans hi) c d).trans (h.df i b e m hi c d)⟩
theorem Kf.of (h:C (I (G w)) w w'):Kf B w w':=⟨h.os,h.tape,h.output,h.size,fun k hk _=>h.block k hk,fun k _ _ _ hi _ _=>h.block k (lt_of_some hi)⟩
theorem Kf.below (h:Kf B w w')(hB:B<=I (G w)):C B w w':=⟨h.os,h.tape,h.output,h.size,fun k hk=>h.low k aa hk⟩
theorem Kf.set {pk o:Nat}{b:Array bD}{m:Nat×Nat}{e:TypeId}{v:bD}(hp:w.heap[pk]?=Z (R b e m))(he:e=129\/e=107)(hB:B<=pk):Kf B w (ay w ⟨pk,o,Y⟩ v):=
 ⟨rfl,rfl,rfl,by simp[World.setCell],fun k _ hk=>aX _ _ _ _ (fun c=>by have c:k=pk:=c;omega),fun k g i j hk d f=>aX _ _ _ _ (fun c=>by
  rw[c,hp] at hk;simp at hk;rcases he with he|he
  ·exact d (hk.2.1.symm.trans he)
  ·exact f (hk.2.1.symm.trans he))⟩
theorem Kf.grown {row:Option Nat}(g:w.grownBy w' row)(hr:∀k,row=Z k->B<=k/\∀b e m,w.heap[k]?=Z (R b e m)->e=129\/e=107):Kf B w w':=
 ⟨g.os,g.tape,g.output,g.size,fun k hk hb=>g.block k hk (fun e=>by have:=(hr k e.symm).1;omega),fun k b e m hk d f=>g.block k (lt_of_some hk) (fun c=>((hr k c.symm).2 b e m hk).elim d f)⟩
theorem fS.kf {ad:Option bG}{l:List _}(h:fS w ad l)(k:Kf B w w'):fS w' ad l:=by exact yx
end
structure nF (w:az)(pw p q N O y g:Nat)(ws:List Int)(sd:Nat)(v0:bD)(a1:Option bG)(k1:Nat)(Q:List cf):Prop where
 c0:V w (av pw 0)=Z (aq p)
 c2:V w (av pw 2)=Z (aq sd)
 ar:At w p q N O y g ws
 hs:w.heap[sd]?=Z (R #[v0,M0 a1 (L Q) k1] 153 (0,0))
 hp:dA w a1 Q
 hm:L Q<=90000
theorem nF.low {w0 w:az}{pw p q N O y g:Nat}{ws:List Int}{sd:Nat}{v0:bD}{a1:Option bG}{k1:Nat}{Q:List cf}(h:nF w0 pw p q N O y g ws sd v0 a1 k1 Q)(hb:C (I (G w0)) w0 w):nF w pw p q N O y g ws sd v0 a1 k1 Q:=
 ⟨(
  hb.cell (aT w0 _ h.c0)).trans h.c0,(hb.cell (aT w0 _ h.c2)).trans h.c2,h.ar.below hb b8,(hb.block sd (lt_of_some h.hs)).trans h.hs,
  h.hp.keep hb.size (fun hp a e=>by obtain⟨d,f,b,c,_⟩:=h.hp hp;rw[b] at e;cases e;exact hb.block _ c),h.hm⟩
def nb (ms:List Int)(a:Int):Int:=if bR ms a=Nc then(ms.idxOf a:Int) else-1
theorem EV {ms:List Int}{a:Int}(hn:a∉ms)(b:Int):nb (ms++[a]) b=if b=a then(L ms:Int) else nb ms b:=by
 unfold nb;by_cases e:b=a
 ·subst e;rw[aJ rfl,aJ ac,MO,aI hn];simp
 ·rw[aI e];by_cases c:b∈ms
  ·rw[aJ (by simp[c]),aJ (by simpa using c),MO,aJ c]
  ·rw[aI (by simp[c,e]),aI (by simpa using c)]
theorem EW {ms:List Int}{a:Int}(hn:a∉ms):nb ms a=-1:=by unfold nb;rw[aI (by simpa using hn)]
theorem EX {ms:List Int}{a:Int}(h:a∈ms):nb ms a=(ms.idxOf a:Int):=by unfold nb;rw[aJ (by simpa using h)]
theorem jg:Maps.Keyed Ng 3:=Maps.int_keyed underlying3
theorem mI (w:az):(zeroValue 3).run Ng w=.ok (ak 0) w:=ah
def Nm (w:az)(cu:Nat)(T ms:List Int):Prop:=
 ∃D:DataW Unit,w.ownsMap Ng 3 (pg Ng 3) cu T.length D/\(∀a:Int,Maps.has D (.int M4 a)=T.contains a)/\∀a∈T,D.atKey (.int M4 a) (.lit (.int M4 0))=.lit (.int M4 (nb ms a))
theorem Nm.same {w w':az}{cu:Nat}{T ms:List Int}(h:Nm w cu T ms)(e:w'.heap[cu]?=w.heap[cu]?):Nm w' cu T ms:=by obtain⟨D,b,c,d⟩:=h;exact⟨D,tW b e,c,d⟩
structure Wk (w0 w:az)(pk cu pw:Nat)(T:List Int)(s:cX)(vn:bD)(m:List d6):Prop where
 blk:w.heap[pk]?=Z (R #[aq pw,.map (Z cu),vn] 129 (0,0))
 lo:I (G w0)<=pk/\I (G w0)<=cu
 mp:Nm w cu T s.1
 row:aC w (I (G w0)) 107 2 vn (L m) (nv m)
 nd:iG m=s.2
 fl:∀x∈m,fS w x.2.1 x.2.2.2
 eX:C (I (G w0)) w0 w
section
variable {w0 w w':az}{pk cu pw:Nat}{T:List Int}{s:cX}{vn:bD}{m:List d6}
theorem Wk.below (h:Wk w0 w pk cu pw T s vn m)(hb:C (I (G w)) w w'):Wk w0 w' pk cu pw T s vn m:=by obtain⟨D,o1,c,d⟩:=h.mp;exact⟨(hb.block pk (lt_of_some h.blk)).trans h.blk,h.lo,h.mp.same (hb.block cu o1.lt),cM h.row (fun k hk=>hb.block k (cv h.row k hk).2),h.nd,fun x b=>(h.fl x b).kf (Kf.of (B:=0) hb),h.eX.trans (hb.mono h.eX.size)⟩
theorem Wk.cells (h:Wk w0 w pk cu pw T s vn m):V w (av pk 0)=Z (aq pw)/\V w (av pk 1)=Z (.map (Z cu))/\V w (av pk 2)=Z vn/\pk<I (G w):=
 ⟨by simp[World.cell?,h.blk],by simp[World.cell?,h.blk],by simp[World.cell?,h.blk],lt_of_some h.blk⟩
theorem Wk.len (h:Wk w0 w pk cu pw T s vn m):L m=L s.2:=by rw[<-h.nd];simp[iG]
end
theorem nG (x:Int)(h:(Lit.int M4 x).wf=Nc):pg (H:=Unit) Ng 3 (U M4 x)=Z (.lit (.int M4 x),[]):=plainElem_int underlying3 h
theorem jL {a:Int}(h0:0<=a)(b:a<1152921504606846976):keyOf Ng 3 (.int M4 a)=Z (.int M4 a):=Maps.keyOf_int_mk underlying3 (WalkArith.wf_i64 ⟨aa,aa⟩)
theorem Nm.add {w w':az}{cu n:Nat}{T:List Int}{a:Int}{D:DataW Unit}(c:w.ownsMap Ng 3 (pg Ng 3) cu T.length D)(f:∀a:Int,Maps.has D (.int M4 a)=T.contains a)(g:∀a∈T,D.atKey (.int M4 a) (.lit (.int M4 0))=.lit (.int M4 (nb [] a)))
 (hn:n=T.length+1)(d:w'.ownsMap Ng 3 (pg Ng 3) cu n (D.put (.int M4 a) (.lit (.int M4 (-1))))):Nm w' cu (T++[a]) []:=by
 refine⟨_,by rw[hn] at d;simpa using d,fun b=>?_,fun b hb=>?_⟩
 ·by_cases e:b=a
  ·subst e;rw[Maps.has_put_same (k:=.int M4 b) c.isMap trivial];simp
  ·rw[Maps.has_put_other (by simpa using e),f];simp[e]
 ·by_cases e:b=a
  ·subst e;rw[Maps.atKey_put_same (k:=.int M4 b) c.isMap trivial];rfl
  ·rw[Maps.atKey_put_other (by simpa using e)];refine g b ?_;rcases bE.1 hb with hb|hb
   ·exact hb
   ·simp at hb;exact absurd hb e
theorem Nm.put {w w':az}{cu n:Nat}{T ms:List Int}{a:Int}{D:DataW Unit}(c:w.ownsMap Ng 3 (pg Ng 3) cu T.length D)(d:∀a:Int,Maps.has D (.int M4 a)=T.contains a)(f:∀a∈T,D.atKey (.int M4 a) (.lit (.int M4 0))=.lit (.int M4 (nb ms a)))
 (ha:a∈T)(hm:a∉ms)(g:w'.ownsMap Ng 3 (pg Ng 3) cu n (D.put (.int M4 a) (.lit (.int M4 ms.length)))):Nm w' cu T (ms++[a]):=by
 have hs:Maps.size (D.put (.int M4 a) (.lit (.int M4 ms.length)))<=T.length:=by rw[Maps.size_put (c.tidy jg),d,aJ (by simpa using ha)];exact c.size_le
 refine⟨_,(tX g rfl).mono hs,fun b=>?_,fun b hb=>?_⟩
 ·by_cases e:b=a
  ·subst e;rw[Maps.has_put_same (k:=.int M4 b) c.isMap trivial];simp[ha]
  ·rw[Maps.has_put_other (by simpa using e),d]
 ·rw[EV hm];by_cases e:b=a
  ·subst e;rw[Maps.atKey_put_same (k:=.int M4 b) c.isMap trivial,aJ rfl]
  ·rw[Maps.atKey_put_other (by simpa using e),aI e];exact f b hb
section
variable {w:az}{pw p q N O y g:Nat}{ws:List Int}
theorem oG (a:Int)(h:a∈eN N y g ws):0<=a/\a<y:=nB _ _ _ h
theorem qV (a:Int)(h:a∈dM N y g ws):(N:Int)<=a/\a<(N:Int)+g:=nB _ _ _ h
theorem bw {α:Type _}(«as» bs cs:List α):«as» ++ bs ++ cs = «as» ++ (bs ++ cs):=List.append_assoc ..
theorem EY (c0:V w (av pw 0)=Z (aq p))(h:At w p q N O y g ws):
 J Ng 64 #[aq pw] w fun e w'=>∃a3 cu,e=E (aq a3)/\Wk w w' a3 cu pw (eN N y g ws++dM N y g ws) ([],[]) (M0 Y 0 0) []:=by
 have b6:=@run_makeMap Ng;have a4:L (eN N y g ws)<=2000:=je _ _;have hO:L (dM N y g ws)<=2000:=je _ _;have hv:=nG (-1) ae;have k1:=h.hN';have ca:=h.hy;have cb:=h.hO;have cc:=h.hg;have ag:aA (∀a∈eN N y g ws,0<=a/\a<2000):=fun a ha=>by have:=oG a ha;omega
 have ai:aA (∀a∈dM N y g ws,0<=a/\a<2000):=fun a ha=>by have:=qV a ha;omega
 have ba:Nm (bj w (.map #[] 0)) (I (G w)) [] []:=⟨_,(World.ownsMap_made w Ng 3 (pg (H:=Unit) Ng 3)),fun _=>rfl,fun a ha=>by simp at ha⟩
 have n:=(aw w (.map #[] 0)).alloc ac (R #[bJ (Z ⟨pw,0,Y⟩),.map (Z (I (G w))),M0 Y 0 0] 129)
 have al:=aP (bj w (.map #[] 0)) (R #[bJ (Z ⟨pw,0,Y⟩),.map (Z (I (G w))),M0 Y 0 0] 129)
 have bb:=ba.same (w':=bj (bj w (.map #[] 0)) (R #[bJ (Z ⟨pw,0,Y⟩),.map (Z (I (G w))),M0 Y 0 0] 129)) (aS _ _ _ ac)
 have bn:=(n.cell (p:=av pw 0) (aT w _ c0)).trans c0;have P:=qO _ (h.below n b8)
 clear ba h;generalize eN N y g ws=gz at P a4 hO ag ai⊢;generalize dM N y g ws=d at P a4 hO ag ai⊢;go_enter func64,ntmps64;go_wp2_with fail;refine P.mono ?_;clear P;rintro e ab ⟨v1,v2,rfl,u,v,ad⟩
 obtain⟨bd,bo,rfl⟩:=eZ u;obtain⟨be,bp,rfl⟩:=eZ v;have br:=n.trans (ad.mono n.size)
 rw[World.size_alloc] at al;have am:=(ad.block (I (G w)+1) ac).trans al;have bg:=bb.same (ad.block (I (G w)) (by simp;omega))
 have an:=hZ u;have ao:=hZ v;have bi:∀k,Z k=Nh (Value.slice bd (L (gz)) bo)->k≠I (G w):=fun k e=>by have:=(cv u k e).1;simp at this;omega
 have bl:∀k,Z k=Nh (Value.slice be (L (d)) bp)->k≠I (G w):=fun k e=>by have:=(cv v k e).1;simp at this;omega
 have bs:aA (∀s,Fr (fun k=>k=I (G w)) ab s->jb s bd (gz)):=fun s f=>an.keep f.size (fun hp a e=>f.block _ (by obtain⟨b,o,l,hb,_⟩:=an hp;rw[e] at l;cases l;exact hb) (fun c=>by obtain⟨b,cap,l⟩:=eW u hp;cases l;cases e;exact bi _ rfl c))
 have bt:aA (∀s,Fr (fun k=>k=I (G w)) ab s->jb s be (d)):=fun s f=>ao.keep f.size (fun hp a e=>f.block _ (by obtain⟨b,o,l,hb,_⟩:=ao hp;rw[e] at l;cases l;exact hb) (fun c=>by obtain⟨b,cap,l⟩:=eW v hp;cases l;cases e;exact bl _ rfl c))
 have ap:=lt_of_some am;have ar:=hide am;clear bi bl an ao u v bb al bn n ad am;go_wp2_with fail
 go_loopw [24] (fun iv wr=>∃(j:Nat),j<=L gz/\iv=ak j/\Nm wr (I (G w)) (gz.take j) []/\Fr (fun k=>k=I (G w)) ab wr) (fun iv _=>L gz-M (bN iv))
 exact⟨0,a5 _,rfl,bg,Fr.refl _ _⟩
 ·
   obtain⟨j,bx,rfl,hN,i⟩:=hrel;clear bg;have aB:V wr (av (I (G w)+1) 1)=Z (.map (Z (I (G w)))):=by have:=(i.block (I (G w)+1) ap aa).trans ar.o;simp[World.cell?,this]
   by_cases m:j<L gz
   ·obtain⟨b0,b1,aF,n,hc⟩:=bs.o wr i aa;have aR:=hc j m;subst aF;clear hc;have B:X gz j 0∈gz:=by rw[aL,aN m];exact a9 m
    have aV:=ag.o _ B;have F:=hide (g9 gz j m 0)
    clear B;generalize X gz j 0=z at aR aV F;have b2:=jL (a:=z) aa aa;obtain⟨D,o1,S,W⟩:=hN;have b3:L (gz.take j)<100000:=by simp;omega
    have t:=g_ o1 S W;clear S W;generalize gz.take j=a0 at*;go_wp2_with (first
     |(at_mapUpdate;refine r4 _ rfl _ _ _ 127 rfl 3 3 jg underlying127 (pg (H:=Unit) Ng 3) (I (G w)) (L a0) D rfl o1 (by unfold bW;omega) _ _ _ rfl rfl b2 _ [] hv ?_;intro b4 a1 a2)
     |go_in)
    go_roundw;exact⟨j+1,aa,aj,by rw[F.o];exact Nm.add t.o.1 t.o.2.1 t.o.2.2 rfl a1,i.grown a2 (fun k e=>aM (by cases e;rfl))⟩
    simp[bN];omega
   ·obtain rfl:j=L gz:=aa;rw[bk] at hN;clear aB;go_wp2_with fail
    go_loopw [36] (fun iv wr=>∃(j:Nat),j<=L d/\iv=ak j/\Nm wr (I (G w)) (gz++d.take j) []/\Fr (fun k=>k=I (G w)) ab wr) (fun iv _=>L d-M (bN iv))
    exact⟨0,a5 _,rfl,by simpa using hN,i⟩
    ·
      clear hN i;obtain⟨j,bx,rfl,hN,i⟩:=hrel;rename_i cd _ _ _ wr _ _;have aB:V wr (av (I (G w)+1) 1)=Z (.map (Z (I (G w)))):=by have:=(i.block (I (G w)+1) ap aa).trans ar.o;simp[World.cell?,this]
      by_cases m:j<L d
      ·obtain⟨b0,b1,aF,n,hc⟩:=bt.o wr i aa;have aR:=hc j m;subst aF;clear hc;have B:X d j 0∈d:=by rw[aL,aN m];exact a9 m
       have aV:=ai.o _ B;have F:aA (gz++d.take (j+1)=(gz++d.take j)++[X d j 0]):=by show _=_;rw[g9 d j m 0,bw]
       clear B;generalize X d j 0=z at aR aV F;obtain⟨D,o1,S,W⟩:=hN;have b3:L (gz++d.take j)<100000:=by simp;omega
       have t:=g_ o1 S W;clear S W;generalize gz++d.take j=a0 at*;go_wp2_with (first
        |(at_mapUpdate;refine r4 _ rfl _ _ _ 127 rfl 3 3 jg underlying127 (pg (H:=Unit) Ng 3) (I (G w)) (L a0) D rfl o1 (by unfold bW;omega) _ _ _ rfl rfl (jL (a:=z) aa aa) _ [] hv ?_;intro b4 a1 a2)
        |go_in)
       go_roundw;exact⟨j+1,aa,aj,by rw[F.o];exact Nm.add t.o.1 t.o.2.1 t.o.2.2 rfl a1,i.grown a2 (fun k e=>aM (by cases e;rfl))⟩
       simp[bN];omega
      ·obtain rfl:j=L d:=aa;rw[bk] at hN;clear aB;go_wp2_with fail;go_ret;exact⟨I (G w)+1,I (G w),rfl,(i.block (I (G w)+1) ap aa).trans ar.o,⟨aa,aG _⟩,hN,bf _ _ _ _,rfl,fun x b5=>by simp at b5,br.trans (i.below aa (fun k e=>by have e:=e;omega))⟩
end
end Go.Proofs.YtpkjkjhanlbcoaaGreat
