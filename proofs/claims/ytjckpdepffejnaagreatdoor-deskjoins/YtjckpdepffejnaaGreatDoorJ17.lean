import Derived.Test.YtjckpdepffejnaaGreatDoorJ16
open Array renaming size->I
open Bool renaming false->D,true->C
open Go renaming Addr->bB,Calls->M,Value->a7
open Go.Ending renaming returned->Q
open Go.IntKind renaming i64->R
open Go.Obj renaming cells->OX
open Go.Proofs.Tryz renaming prog->J
open Go.RowKit renaming Below->O
open Go.Value renaming agg->bz,int->U,ownBlock->O9,slice->Z,tuple->ay
open Go.World renaming alloc->bu,cell?->V,heap->G,ownsRow->aC,setCell->O8
open Iff renaming rfl->gp
open Int renaming eq_ofNat_of_zero_le->bC,toNat->K
open List renaming getD->X,length->OQ,mem_map->bS,mem_singleton->bN,take_add_one->va,take_of_length_le->pg
open Nat renaming add_zero->Mw,le_succ->jl,zero_add->bW
open Option renaming none->Y,some->OR
open Option.some renaming inj->kg
namespace Go.Proofs.YtjckpdepffejnaaGreatDoor
set_option maxRecDepth 100000
set_option maxHeartbeats 8000000
open Tryz
open Go.RowKit W Kp ch
theorem BW {P:Prop}(h:P:=by obtain⟨F',j,t⟩:=Ke g1 (g4.trans hrb) hF (fr.mono (λb e=>by rw[e,h.g3.so];decide)) g2;exact⟨F',rfl,j,t,fr.block b7 ti (λc=>by have:=h.bo;rw[c,h.g3.so] at this;omega)⟩):P:=h
theorem BX {P:Prop}(h:P:=by
 go_wp2_with fail;refine P2.mono ?_;rintro e w2 ⟨wR,wS,n12,n22,hm2,rfl,g2,t2⟩
 have HF:=cU g2 t2;go_wp2_with fail;go_end0;exact⟨wR,wS,n12,n22,hm2,rfl,HF.o.1,HF.o.2⟩):P:=h
def jA (A:List Bool)(t:cH):List (Int×Int):=if t.1=4/\eN A (X t.2.1 0 (0,0))=D then[(2,0),(2,0)] else if t.1=3/\eN A (X t.2.1 0 (0,0))=D then[(2,0),X t.2.1 1 (0,0)] else t.2.1
def gY (A:List Bool)(T:List cH)(left:Int->Bool)(i:Nat):List (Int×Int):=if left i=C then(X T i t0).2.1 else jA A (X T i t0)
structure iC (T:List cH)(fm:Fm)(A:List Bool)(lab:Nat->Nat)(cp ab n1:Nat)(fs:Nat->List (Int×Int))(w:az):Prop where
 c1:V w (av cp 1)=OR (.map (OR ab))
 hM:eT w ab n1 (fD T fm A)
 row:∀i,cx A i->aC w 0 139 2 (ff T fm i) (OQ (X T i t0).2.1) (ev (fs i))
 lb:∀i,cx A i->∀k,OR k=O9 (ff T fm i)->lab k=10+i
 no:lab cp=0/\lab ab=0
structure pP (T:List cH)(A:List Bool):Prop where
 l2:∀i,cx A i->(X T i t0).1=3\/(X T i t0).1=4->OQ (X T i t0).2.1=2
 v0:∀i,cx A i->(X (X T i t0).2.1 0 (0,0)).1=3->0<=(X (X T i t0).2.1 0 (0,0)).2/\(X (X T i t0).2.1 0 (0,0)).2<10000
section
variable {T:List cH}{fm:Fm}{A:List Bool}{lab:Nat->Nat}{cp ab n1:Nat}{fs:Nat->List (Int×Int)}{w w':az}
theorem iC.keep (h:iC T fm A lab cp ab n1 fs w)(hk:∀b,b=cp\/b=ab\/10<=lab b->w'.heap[b]?=w.heap[b]?):iC T fm A lab cp ab n1 fs w':=
 ⟨(aS (by grind)).trans h.c1,h.hM.same (by grind),λi hi=>cK (h.row i hi) (by grind [lb]),h.lb,h.no⟩
theorem iC.set (h:iC T fm A lab cp ab n1 fs w){i b cap:Nat}(hi:cx A i)(e:ff T fm i=Z (au b) (OQ (X T i t0).2.1) cap){c:Nat->List _}(hg:∀j,j≠i->c j=fs j)
 (hr:aC w' 0 139 2 (ff T fm i) (OQ (X T i t0).2.1) (ev (c i)))(fr:Fr (λk=>k=b) w w'):iC T fm A lab cp ab n1 c w':=by
 have lb:=h.lb i hi b (by rw[e];rfl)
 have h0:=h.no;refine⟨(aS (fr.block cp (aT w _ h.c1) (by grind))).trans h.c1,h.hM.same (fr.block ab h.hM.lt (by grind)),λj d=>?_,h.lb,h.no⟩
 by_cases f:j=i
 ·grind
 ·rw[hg j f];exact cK (h.row j d) (λk g=>fr.block k (cu (h.row j d) k g).2 (by grind [lb]))
theorem iC.put (h:iC T fm A lab cp ab n1 fs w){i b cap:Nat}(hi:cx A i)(e:ff T fm i=.slice (au b) (OQ (X T i t0).2.1) cap)(j:Nat)(y:Int×Int):
 iC T fm A lab cp ab n1 (λk=>if k=i then(fs i).set j y else fs k) (O8 (O8 w ⟨b,j*2,Y⟩ (.int R y.1)) ⟨b,j*2+1,Y⟩ (.int R y.2))/\Fr (λk=>k=b) w (O8 (O8 w ⟨b,j*2,Y⟩ (.int R y.1)) ⟨b,j*2+1,Y⟩ (.int R y.2)):=by grind [Fr.set,Fr.refl,set,row,vy,qq]
theorem iC.congr {b:Nat->List _}(h:iC T fm A lab cp ab n1 fs w)(e:∀j,b j=fs j):iC T fm A lab cp ab n1 b w:=by rwa [show b=fs from funext e]
theorem Kh (left:Int->Bool)(i:Nat):(∀j,j≠i->gY A T (λy=>left y&&!(y==(i:Int))) j=gY A T left j)/\gY A T (λy=>left y&&!(y==(i:Int))) i=jA A (X T i t0):=by grind [gY]
theorem Ki (h:iC T fm A lab cp ab n1 (λi=>(T.getD i t0).2.1) w)(ht:pP T A)(hl:∀b,lab b≠0->b<I (G w))(b1:∀i,cx A i->i<10000):
 M J 286 #[aq cp] w λe w'=>e=Q (ay #[])/\iC T fm A lab cp ab n1 (λi=>jA A (T.getD i t0)) w'/\Fr (λb=>10<=lab b) w w':=by
 obtain⟨w1,cC,W,ar,gr,sz⟩:=h.hM.range (t:=194) (e:=271) underlying194;have cf:=bZ.grown gr bY (λj cD=>by cases cD)
 have c1:=h.c1;have ch:=aT w _ h.c1;have cE:=ge ht hl b1;have ci:aA (_/\O (I (G w)) w w1/\iC T fm A lab cp ab n1 (gY A T (λx=>(fD T fm A x).isSome)) w1):=⟨ar,cf,by
  have a1:=h.keep (w':=w1) (λb hb=>cf.block b (by
   rcases hb with d|d|d
   ·rw[d];exact ch
   ·rw[d];exact h.hM.lt
   ·exact hl b aa))
  refine⟨a1.c1,a1.hM,λi hi=>?_,a1.lb,a1.no⟩
  unfold gY;rw[aN (by dsimp only;rw[wP aa,cZ,Int.toNat_natCast];exact hi)];exact a1.row i hi⟩
 go_enter func286,ntmps286;go_wp2_with fail
 go_loopw [3] (λ_ wr=>∃(left:Int->Bool)(k:Nat),aA (hV wr ab (I (G w)) n1 (fD T fm A) left k/\iC T fm A lab cp ab n1 (gY A T left) wr/\Fr (λb=>10<=lab b) w wr)) (λ_ wr=>wr.rangeLeft ab (I (G w)))
 case atStart=>
  obtain⟨r,b,g⟩:=ci.o;exact⟨_,cC,r,g,Fr.of b⟩
 case round=>
  clear W c1;obtain⟨left,k,b2⟩:=hrel;obtain⟨ar,g,fr⟩:=b2.o;rcases ar.next 0 with⟨h0,hl,W⟩|⟨x,v,l,k2,ck,an,W,bg,cl,cm,cF,a2⟩
  ·have cn:gY A T left=λi=>jA A (T.getD i t0):=by
    funext i
    unfold gY;rw[hl,aJ ae]
   rw[cn] at g;have ao:aA (_/\_):=⟨g,fr⟩
   clear ar g fr hl b2 cn;go_wp2_with fail;go_end0;exact⟨rfl,ao.o.1,ao.o.2⟩
  ·have bi:0<=x/\A.getD (K x) D=C:=by
    unfold fD at an;split at an
    ·assumption
    ·cases an
   obtain⟨i,rfl⟩:=bC bi.1;have aB:cx A i:=by simpa[cx] using bi.2
   have hv:v=gX T fm i:=by unfold fD at an;rw[aN bi] at an;exact(kg an).symm
   obtain⟨b3,bl,b1⟩:=cE.o;obtain⟨b4,b5⟩:=Kh (A:=A) (T:=T) left i;have bn:gY A T left i=(T.getD i t0).2.1:=by unfold gY;rw[aN ck]
   have bo:Fr (λb=>b=I (G w)) wr l:=(Fr.refl _ wr).grown cm (λj e=>aK (by cases e;rfl))
   have g2:iC T fm A lab cp ab n1 (gY A T left) l:=g.keep (λb hb=>bo.block b (by
    rcases hb with d|d|d
    ·rw[d];exact aT wr _ g.c1
    ·rw[d];exact g.hM.lt
    ·exact aL (bl b aa) fr.size) (by
    rcases hb with d|d|d
    ·rw[d];exact Nat.ne_of_lt ch
    ·rw[d];exact Nat.ne_of_lt h.hM.lt
    ·have:=bl b aa;omega))
   have bb:aA (∀c,O (I (G l)) l c->_/\_/\Fr (λb=>10<=lab b) w c):=λc hb=>⟨bg.same (hb.block _ bg.oK.lt) (hb.block _ bg.lt),g2.keep (λb cG=>hb.block b (by
    rcases cG with d|d|d
    ·rw[d];exact aT l _ g2.c1
    ·rw[d];exact g2.hM.lt
    ·have:=bl b aa;exact aL this (aQ fr.size bo.size))),(fr.trans bo (λb e=>aI (by rw[e];exact aG _))).trans (Fr.of (X:=λb=>10<=lab b) hb) (λ_ d=>aK d)⟩
   have ag:aA (_/\k2<k):=⟨ar.left_eq,cl⟩
   have bp:aA (jA A (T.getD i t0)=(T.getD i t0).2.1->gY A T (λy=>left y&&!(y==(i:Int)))=gY A T left):=λe=>by
    funext j
    by_cases s:j=i
    ·subst s;rw[b5,e,bn]
    ·exact b4 j s
   have v0:=b3.v0 i aB;have b6:=b3.l2 i aB;have hrow:=g2.row i aB;rw[bn] at hrow;have S:aA (_/\_/\_/\_):=⟨aB,b4,b5,bn⟩
   have b7:=g2.lb i aB;have co:=g2.no;have aF:aA (_):=g2;dsimp only [gX] at hv;subst hv;clear ar g fr ck an bg cl cm cF bi aB b3 b1 b4 b5 bn bo g2 b2 ci;by_cases ai:(T.getD i t0).1=3\/(T.getD i t0).1=4
   ·have l2:=b6 ai;obtain⟨b,cap,al⟩:=fi hrow aa;have aR:=cj (fI hrow b (by rw[al];rfl)).choose_spec;obtain⟨cQ,cq⟩:=fI hrow b (by rw[al];rfl)
    have cr:∀o,l.frozen? (av b o)=D:=λo=>by simp[World.frozen?,cq]
    obtain⟨cR,cS,cs,_,b8⟩:=iQ hrow aa;have ct:_=_:=(Value.slice.inj al).1;rw[ct] at cs;cases cs;obtain⟨z0,b9⟩:=b8 0 aa;obtain⟨ca,y1⟩:=b8 1 aa;rw[Nat.zero_mul,Mw] at z0 b9;rw[bW,Nat.one_mul] at ca y1;rw[l2] at al;have cu:aA (ff T fm i=Z (au b) (OQ (T.getD i t0).2.1) cap):=by show _=_;rw[l2];exact al
    have cb:10<=lab b:=by rw[b7 b (by rw[al];rfl)];omega
    have pH:_:=bl b aa;have cT:b≠I (G l):=aa;have cU:I (G l)≠b:=aa;have cV:aA (_/\_):=⟨cb,aR⟩
    have cv:aA ((T.getD i t0).2.1=[(T.getD i t0).2.1.getD 0 (0,0),(T.getD i t0).2.1.getD 1 (0,0)]):=by
     show _=_
     match hq:(T.getD i t0).2.1,l2 with
     |[p,q],_=>rfl
    have cw:aA (eN A ((T.getD i t0).2.1.getD 0 (0,0))=C->jA A (T.getD i t0)=(T.getD i t0).2.1):=λe=>by unfold jA;rw[aJ (λd=>by rw[e] at d;cases d.2),aJ (λd=>by rw[e] at d;cases d.2)]
    have B:aA ((T.getD i t0).1=3->eN A ((T.getD i t0).2.1.getD 0 (0,0))=D->jA A (T.getD i t0)=(T.getD i t0).2.1.set 0 (2,0)):=λk3 e=>by
     unfold jA;rw[aJ (λd=>by omega),aN ⟨k3,e⟩]
     conv=>rhs;rw[cv.o]
     rfl
    have cy:aA ((T.getD i t0).1=4->eN A ((T.getD i t0).2.1.getD 0 (0,0))=D->jA A (T.getD i t0)=((T.getD i t0).2.1.set 0 (2,0)).set 1 (2,0)):=λk4 e=>by
     unfold jA;rw[aN ⟨k4,e⟩]
     conv=>rhs;rw[cv.o]
     rfl
    have br:aA (∀c,O (I (G l)) l c->hV (O8 (O8 c ⟨b,0*2,Y⟩ (U R 2)) ⟨b,0*2+1,Y⟩ (U R 0)) ab (I (G w)) n1 (fD T fm A) (λy=>left y&&!(y==(i:Int))) k2/\iC T fm A lab cp ab n1 (λk=>if k=i then(gY A T left i).set 0 (2,0) else gY A T left k) (O8 (O8 c ⟨b,0*2,Y⟩ (U R 2)) ⟨b,0*2+1,Y⟩ (U R 0))/\Fr (λb=>10<=lab b) w (O8 (O8 c ⟨b,0*2,Y⟩ (U R 2)) ⟨b,0*2+1,Y⟩ (U R 0))/\Fr (λk=>k=b) c (O8 (O8 c ⟨b,0*2,Y⟩ (U R 2)) ⟨b,0*2+1,Y⟩ (U R 0))):=λc hb=>by
     obtain⟨r,m,f⟩:=bb.o c hb;obtain⟨cc,fb⟩:=m.put S.o.1 cu.o 0 (2,0)
     exact⟨r.same (fb.block _ r.oK.lt (λd=>by have h0:=co.2;rw[d] at h0;omega)) (fb.block _ r.lt (λd=>by omega)),cc,f.trans fb (λk e=>aK (by rw[e];exact cb)),fb⟩
    have cd:aA (∀c,O (I (G l)) l c->∀bd,bd=O8 (O8 (O8 (O8 c ⟨b,0*2,Y⟩ (U R 2)) ⟨b,0*2+1,Y⟩ (U R 0)) ⟨b,1*2,Y⟩ (U R 2)) ⟨b,1*2+1,Y⟩ (U R 0)->hV bd ab (I (G w)) n1 (fD T fm A) (λy=>left y&&!(y==(i:Int))) k2/\iC T fm A lab cp ab n1 (λk=>if k=i then((gY A T left i).set 0 (2,0)).set 1 (2,0) else gY A T left k) bd/\Fr (λb=>10<=lab b) w bd):=λc hb bd cH=>by
     obtain⟨r,m,f,_⟩:=br.o c hb;obtain⟨cc,fb⟩:=m.put S.o.1 cu.o 1 (2,0)
     rw[cH];refine⟨r.same (fb.block _ r.oK.lt (λd=>by have h0:=co.2;rw[d] at h0;omega)) (fb.block _ r.lt (λd=>by omega)),cc.congr (λj=>?_),f.trans fb (λk e=>aK (by rw[e];exact cb))⟩
     by_cases s:j=i
     ·rw[aN s,aN s,aN rfl]
     ·rw[aJ s,aJ s,aJ s]
    have be:=aw l (OX #[U R (T.getD i t0).1,Z (OR ⟨b,0,Y⟩) 2 cap] 271)
    have cz:=aO l (OX #[U R (T.getD i t0).1,Z (OR ⟨b,0,Y⟩) 2 cap] 271)
    have P:=BV (cp:=cp) ((be.cell (p:=av cp 1) (aT l _ aF.o.c1)).trans aF.o.c1) (aF.o.hM.same (be.block ab aF.o.hM.lt)) ((T.getD i t0).2.1.getD 0 (0,0)) (λcA=>⟨(v0 cA).1,by have:=(v0 cA).2;omega⟩)
    have ce:∀c,O (I (G l)) l c->_/\_/\_/\_/\∀o,c.frozen? (av b o)=D:=λc hb=>⟨(hb.cell (p:=av b 0) aR).trans z0,(hb.cell (p:=av b 1) aR).trans b9,(hb.cell (p:=av b 2) aR).trans ca,(hb.cell (p:=av b (2+1)) aR).trans y1,λo=>(hb.frozen (p:=av b o) aR).trans (cr o)⟩
    have bs:aA (_):=ce;obtain⟨aV,a0,_,_,_⟩:=ce _ be;have ev:(Value.agg #[ak (T.getD i t0).1,ff T fm i])=bz #[ak (T.getD i t0).1,Z (au b) 2 cap]:=by rw[al]
    rw[ev] at W a2;have N:aA (_):=be;have am:aA (_=_):=cz;clear hrow b7 b6 v0 cq cr b8 z0 b9 ca y1 ct al ce be cz aF ev l2;generalize (T.getD i t0).2.1.getD 0 (0,0)=u at*;generalize (T.getD i t0).2.1.getD 1 (0,0)=t at*;obtain⟨u0,cJ⟩:=u;dsimp only at aV a0 P;cases hin:eN A (u0,cJ)
    ·rw[hin] at P;have bt:aA ((T.getD i t0).1=3->∀j,gY A T (λy=>left y&&!(y==(i:Int))) j=(λk=>if k=i then(gY A T left i).set 0 (2,0) else gY A T left k) j):=λk3 j=>by
      dsimp only;by_cases s:j=i
      ·subst s;rw[aN rfl,S.o.2.2.1,B.o k3 hin,S.o.2.2.2]
      ·rw[aJ s];exact S.o.2.1 j s
     have bx:aA ((T.getD i t0).1=4->∀j,gY A T (λy=>left y&&!(y==(i:Int))) j=(λk=>if k=i then((gY A T left i).set 0 (2,0)).set 1 (2,0) else gY A T left k) j):=λk4 j=>by
      dsimp only;by_cases s:j=i
      ·subst s;rw[aN rfl,S.o.2.2.1,cy.o k4 hin,S.o.2.2.2]
      ·rw[aJ s];exact S.o.2.1 j s
     clear bb bp S cw B cy hin;rcases ai with k3|k3
     ·have bt:aA (_):=bt.o k3;rw[k3] at P W a2 aV a0 N am;clear bx;go_wp2_with fail;refine P.mono ?_;clear P;rintro e c ⟨rfl,B⟩
      have ap:=N.o.trans (B.mono N.o.size)
      obtain⟨j0,cK,j2,cI,cL⟩:=bs.o c ap;obtain⟨cM,cN,_,cO⟩:=dt ((B.block _ (cj am.o)).trans am.o)
      have F:aA (_):=br.o c ap;clear B ap N am br cd bs aV a0;go_wp2_with fail;go_roundw
      case rel=>exact⟨_,k2,F.o.1,F.o.2.1.congr bt.o,F.o.2.2.1⟩
      rw[F.o.1.left_eq,ag.o.1];exact ag.o.2
     ·have bx:aA (_):=bx.o k3;rw[k3] at P W a2 aV a0 N am;clear bt;go_wp2_with fail;refine P.mono ?_;clear P;rintro e c ⟨rfl,B⟩
      have ap:=N.o.trans (B.mono N.o.size)
      obtain⟨j0,cK,j2,cI,cL⟩:=bs.o c ap;obtain⟨cM,cN,_,cO⟩:=dt ((B.block _ (cj am.o)).trans am.o)
      have F:aA (_):=cd.o c ap;clear B ap N am br cd bs aV a0;go_wp2_with fail;go_roundw
      case rel=>exact⟨_,k2,(F.o _ rfl).1,(F.o _ rfl).2.1.congr bx.o,(F.o _ rfl).2.2⟩
      rw[(F.o _ rfl).1.left_eq,ag.o.1];exact ag.o.2
    ·rw[hin] at P;have b0:=bp.o (cw.o hin)
     have ao:aA (∀c,O (I (G l)) l c->hV c ab (I (G w)) n1 (fD T fm A) (λy=>left y&&!(y==(i:Int))) k2/\iC T fm A lab cp ab n1 (gY A T (λy=>left y&&!(y==(i:Int)))) c/\Fr (λb=>10<=lab b) w c):=by show∀c,_;rw[b0];exact bb.o
     rcases ai with k3|k3
     all_goals
      rw[k3] at P W a2 aV a0 N;go_wp2_with fail;refine P.mono ?_;rintro e c ⟨rfl,B⟩
      have F:=cg (ao.o c (N.o.trans (B.mono N.o.size)))
      go_wp2_with fail;go_roundw;exact⟨_,k2,F⟩
      case measure=>rw[F.o.1.left_eq,ag.o.1];exact ag.o.2
   ·have cB:jA A (T.getD i t0)=(T.getD i t0).2.1:=by unfold jA;rw[aJ (λd=>ai (aI d.1)),aJ (λd=>ai (aK d.1))]
    have b0:=bp.o cB;have ao:aA (∀c,O (I (G l)) l c->hV c ab (I (G w)) n1 (fD T fm A) (λy=>left y&&!(y==(i:Int))) k2/\iC T fm A lab cp ab n1 (gY A T (λy=>left y&&!(y==(i:Int)))) c/\Fr (λb=>10<=lab b) w c):=by show∀c,_;rw[b0];exact bb.o
    have cW:_:=λe=>ai (aK e)
    have n4:_:=λe=>ai (aI e)
    clear cB b0 bb bp S aF hrow b7 b6 v0 ai;dsimp only [ff] at W a2;generalize (T.getD i t0).1=kd at*;generalize OQ (T.getD i t0).2.1=n at*;generalize (fm i).1=ad at*;generalize (fm i).2=cP at*;go_wp2_with fail;go_roundw
    case rel=>exact⟨_,k2,ao.o _ (bZ.alloc bY _)⟩
    case measure=>rw[(ao.o _ ((aH _ l).alloc bY (OX #[U R kd,Z ad n cP] 271))).1.left_eq,ag.o.1];exact ag.o.2
end
theorem BY (w:az):(zeroValue 90).run J w=.ok (Z Y 0 0) w:=ah
section
variable {c:Cp}{own own':Nat->Nat}{vt cV:a7}{n1 n2 n1' eI:Nat}{hm hm':Int->Option bB×Nat}{st st':dG}{F:Nat->Prop}{w w':az}
abbrev wT (hd:Int->List (Int×Int))(hm:Int->Option bB×Nat)(x:Int):Value:=(hdF hd hm x).getD (.slice Y 0 0)
theorem Kj {hd:Int->List (Int×Int)}{x:Int}(h:hd x=[]):hdF hd hm x=Y:=by grind [hdF]
theorem Kk {hd:Int->List _}{x:Int}(h:hd x≠[]):hdF hd hm x=OR (Z (hm x).1 (OQ (hd x)) (hm x).2):=by grind [hdF]
theorem Kl (w:az):aC w 0 139 2 (Z Y 0 0) 0 (ev []):=⟨rfl,aK ⟨rfl,rfl⟩⟩
theorem c7.hrow (h:c7 c own vt n1 n2 hm st w)(x:Int):∃ad cap,wT st.hd hm x=.slice ad (OQ (st.hd x)) cap/\aC w 0 139 2 (.slice ad (OQ (st.hd x)) cap) (OQ (st.hd x)) (ev (st.hd x))/\(∀k,OR k=O9 (Value.slice ad (OQ (st.hd x)) cap)->own k=10+x.toNat):=by
 by_cases e:st.hd x=[]
 ·rw[wT,Kj e,e];exact⟨Y,0,rfl,Kl w,λk e=>by cases e⟩
 ·rw[wT,Kk e];exact⟨_,_,rfl,(h.hr x e).2,h.hro x e⟩
theorem Km (k:c7 c own' cV n1' eI hm' st' w')(e:∀b,F b↔b<I (G c.w0)\/own b≠0)(fr:Fr (λb=>own b≠0) w w')(hn:∀b,own' b≠0->own b≠0\/I (G w)<=b):∃d,(tf c).J d st' w'/\b9 F w d w':=
 ⟨λb=>b<I (G c.w0)\/own' b≠0,⟨own',cV,n1',eI,hm',k,λ_=>gp⟩,(by grind [Fr.mono]),λb hb=>(by grind)⟩
theorem c7.hold {x:Int}{u:Int×Int}{b4 d:Nat}(h:c7 c own vt n1 n2 hm st w)(j:0<=x)(fr:Fr (λb=>own b=4\/own b=10+K x) w w')(hM:eT w' c.hb (n2+1) (kG (hdF st.hd hm) x (Z (au b4) (OQ (st.hd x)+1) d)))
 (g:aC w' 0 139 2 (Z (au b4) (OQ (st.hd x)+1) d) (OQ (st.hd x)+1) (ev (st.hd x++[u])))(hb:own b4=10+K x\/I (G w)<=b4):
 ∃own',c7 c own' vt n1 (n2+1) (λy=>if y=x then(au b4,d) else hm y) {st with hd:=λy=>if y=x then st.hd y++[u] else st.hd y,m:=st.m+1} w'/\(∀b,own' b≠0->own b≠0\/I (G w)<=b):=by
 have he:∀b,own b≠0->(if I (G w)<=b then(if b=b4 then 10+K x else 0) else own b)=own b:=λb hb=>aJ (by have:=(h.lt b hb).2;omega)
 have hk:∀b,own b≠0->own b≠4->own b≠10+K x->_=_:=λb h0 l n=>fr.block b (h.lt b h0).2 aa;have hs:=h.sz;refine⟨λb=>if I (G w)<=b then(if b=b4 then 10+K x else 0) else own b,?_,λb hb=>?_⟩
 ·refine {
   ol:=λk i=>(fr.block k aa (λcc=>?_)).trans (h.ol k i),sz:=aQ h.sz fr.size,cb:=(by grind [co,cb]),co:=(by grind [co]),am:=h.am.same (by grind [ao]),ao:=(by grind [ao]),an:=h.an
   tr:=cK h.tr (by grind [tw]),tw:=λk e=>(by grind [tw]),tn:=h.tn,hq:=?_,ho:=(by grind [ho]),hn:=by have:=h.hn;grind,hr:=λy hy=>?_,hro:=λy hy k e=>?_,lt:=λb hb=>?_}
  ·have:=(h.lt k aa).1;omega
  ·refine(show kG _ x _=hdF _ _ from ?_)▸hM
   funext y
   unfold kG;by_cases e:y=x
   all_goals simp_all [hdF]
  ·by_cases e:y=x
   ·grind
   ·simp only [if_neg e] at hy⊢;exact⟨(h.hr y hy).1,cK (h.hr y hy).2 (λk f=>hk k (by grind [hro]) (by grind [hro]) (by have:=(h.hr y hy).1;grind [hro]))⟩
  ·by_cases f:y=x
   ·subst f;simp only at e;cases e
    grind
   grind [hro]
  ·split at hb
   ·split at hb
    ·rename_i e;rw[e];exact⟨aa,(cu g b4 rfl).2⟩
    omega
   grind [lt,Fr.size,aL]
 grind
theorem kI.one (h:c7 c own vt n1 n2 hm st w)(v:Int×Int):kI own (bu w (OX #[U R v.1,U R v.2] 139)) (au (I (G w))) [v]:=by
 obtain⟨b,f,_,lw⟩:=dt (aO w (OX #[U R v.1,U R v.2] 139))
 refine⟨λ_=>⟨I (G w),0,rfl,lw,λi hi=>?_⟩,λ_ z e d=>?_⟩
 ·grind
 ·cases e;have:=(h.lt (I (G w)) (by grind)).2;omega
theorem Kn (hg:dO c.b7 c.ce c.grow c.l c.s c.w0)(i:OQ c.s.T<=10000)(hlen:OQ st.A=OQ c.s.T)(h:c7 c own vt n1 n2 hm st w)(k v:Int×Int)(hk:k.1=3->0<=k.2/\cz c.s.T (K k.2))(hv:v.1=3->0<=v.2/\cz c.s.T (K v.2))(hi:eN st.A k=C):
 M J 328 #[aq c.cp,bz #[ak k.1,ak k.2],bz #[ak v.1,ak v.2]] w λe w'=>∃own' cV n1',e=Q (ay #[])/\c7 c own' cV n1' n2 hm (eF st v) w'/\gm own w own' w':=by
 obtain⟨k0,k1⟩:=k;obtain⟨v0,v1⟩:=v;have b1:O (I (G w)) w (bu (bu w (OX #[U R k0,U R k1] 139)) (OX #[U R v0,U R v1] 139)):=(by simp_all [Below.alloc,Below.refl])
 have P:=wQ (h.below b1) (k0,k1) (λd=>⟨(hk d).1,by have:=(hk d).2.1;omega⟩)
 rw[hi] at P;have j:aA (∀w1,O (I (G w)) w w1->M J 314 #[aq c.cp,Z (au (I (G w1))) 1 1] (bu w1 (OX #[U R v0,U R v1] 139)) λe w'=>∃own' cV n1',e=Q (ay #[])/\c7 c own' cV n1' n2 hm (eF st (v0,v1)) w'/\gm own w own' w'):=λw1 hb=>by
  have f:=hb.alloc hb.size (OX #[U R v0,U R v1] 139)
  refine(nJ hg i hlen (h.below f) (au (I (G w1))) 1 [(v0,v1)] (kI.one (h.below hb) (v0,v1)) (by grind) ac).mono ?_;rintro e w' ⟨own',cV,n1',rfl,g,t⟩
  exact⟨own',cV,n1',rfl,g,(gm.of f (λb hb=>(h.lt b hb).2)).trans t⟩
 go_enter func328,ntmps328;go_wp2_with fail;refine P.mono ?_;rintro e w1 ⟨rfl,hb⟩
 obtain⟨q0,q1,_,_⟩:=dt ((hb.block (I (G w)+1) ac).trans (jz w (OX #[U R k0,U R k1] 139) (OX #[U R v0,U R v1] 139)))
 have P:=j.o w1 (b1.trans (hb.mono b1.size))
 go_wp2_with fail;refine P.mono ?_;rintro e l ⟨own',cV,n1',rfl,g,t⟩
 have m:aA (_/\_):=⟨g,t⟩
 go_wp2_with fail;go_end0
 grind
theorem Ko (h:c7 c own vt n1 n2 hm st w)(k v:Int×Int)(hk:k.1=3->0<=k.2/\k.2<10000)(hi:eN st.A k=D)(bs:st.m<=20000)(aF:OQ (st.hd k.2)<=20000):
 M J 328 #[aq c.cp,.agg #[ak k.1,ak k.2],.agg #[ak v.1,ak v.2]] w λe w'=>∃own' hm',e=Q (ay #[])/\c7 c own' vt n1 (n2+1) hm' {st with hd:=λy=>if y=k.2 then st.hd y++[v] else st.hd y,m:=st.m+1} w'/\Fr (λb=>own b≠0) w w'/\(∀b,own' b≠0->own b≠0\/I (G w)<=b):=by
 obtain⟨k0,x⟩:=k;obtain⟨W,_⟩:=oG hi;dsimp only at W hk aF⊢;subst W;obtain⟨s,bt⟩:=hk rfl;obtain⟨v0,v1⟩:=v;have b1:O (I (G w)) w ((w.alloc (OX #[.int R 3,.int R x] 139)).alloc (OX #[.int R v0,.int R v1] 139)):=(by simp_all [Below.alloc,Below.refl])
 have P:=wQ (h.below b1) (3,x) aa;rw[hi] at P;obtain⟨ad,cap,ab,hrow,ag⟩:=h.hrow x;have q:aA (∀w1,O (I (G w)) w w1->V w1 (av c.cp 3)=OR (.map (OR c.hb))/\(Instr.lookup 324 (.map (OR c.hb)) (ak x) D).run J w1=.ok (.slice ad (OQ (st.hd x)) cap) w1/\aC w1 0 139 2 (.slice ad (OQ (st.hd x)) cap) (OQ (st.hd x)) (ev (st.hd x))/\
  ∀f b4 n,w1.grownBy f (Value.slice ad (OQ (st.hd x)) cap).ownBlock->aC f 0 139 2 (.slice (au b4) (OQ (st.hd x)+1) n) (OQ (st.hd x)+1) (ev (st.hd x++[(v0,v1)]))->(OR b4=O9 (Value.slice ad (OQ (st.hd x)) cap)\/I (G w1)<=b4)->
   ∃g,(Instr.mapUpdate 324 (.map (OR c.hb)) (ak x) (.slice (au b4) (OQ (st.hd x)+1) n)).run J f=.ok () g/\(∀b,b=c.cp\/(I (G w)<=b/\b<I (G w1))->f.heap[b]?=w1.heap[b]?/\g.heap[b]?=w1.heap[b]?)/\aA (∃own' hm',c7 c own' vt n1 (n2+1) hm' {st with hd:=λy=>if y=x then st.hd y++[(v0,v1)] else st.hd y,m:=st.m+1} g/\Fr (λb=>own b≠0) w g/\(∀b,own' b≠0->own b≠0\/I (G w)<=b))):=λw1 hb=>by
  have g1:=h.below hb;obtain⟨_,_,_,q3,_,_⟩:=g1.cells;have L:=g1.hq.look (t:=324) (e:=90) underlying324 (BY _) (x:=x) s aa;rw[show(hdF st.hd hm x).getD (.slice Y 0 0)=_ from ab] at L;have aR:=cK hrow (λk e=>hb.block k (cu hrow k e).2)
  refine⟨q3,L,aR,λf b4 n B ai aV=>?_⟩
  have bx:∀k,OR k=O9 (Value.slice ad (OQ (st.hd x)) cap)->k≠c.hb:=λk e d=>by grind [c7.ho]
  have a0:eT f c.hb n2 (hdF st.hd hm):=g1.hq.same (B.block c.hb g1.hq.lt (by grind))
  obtain⟨g,a1,a2,am⟩:=a0.put (t:=324) (e:=90) underlying324 (by have:=g1.hn;omega) s aa (.slice (au b4) (OQ (st.hd x)+1) n)
  have bb:∀b,b=c.cp\/(I (G w)<=b/\b<I (G w1))->f.heap[b]?=w1.heap[b]?/\g.heap[b]?=w1.heap[b]?:=λb an=>by
   have l1:b<I (G w1):=aa;have l2:b≠c.hb:=an.elim (by grind [c7.co,c7.ho]) (λe d=>by have:=h.hq.lt;omega)
   have F:f.heap[b]?=w1.heap[b]?:=B.block b l1 (λe=>by
    have b0:=ag b e;rcases an with d|d
    ·grind [c7.co]
    ·have:=(h.lt b aa).2;omega)
   grind [World.grownBy.block]
  refine⟨g,a1,bb,?_⟩
  have b2:b4≠c.hb:=by
   rcases aV with e|e
   ·grind
   ·have:=g1.hq.lt;omega
  have ao:Fr (λb=>own b=4\/own b=10+x.toNat) w1 g:=((Fr.refl _ w1).grown B (by grind)).grown am (by grind [c7.ho])
  obtain⟨own',c1,c2⟩:=g1.hold s ao a2 (cK ai (λk e=>by cases e;exact am.block _ (cu ai b4 rfl).2 (by grind))) (by grind)
  have hs:=hb.size;exact⟨own',_,c1,((Fr.of hb).trans ao (λi d=>aK d)).mono (λb d=>by omega),λb d=>(by grind)⟩
 clear h hi hk ag hrow ab;generalize st.hd x=H at*;generalize ({st with hd:=λy=>if y=x then st.hd y++[(v0,v1)] else st.hd y,m:=st.m+1}:dG)=b3 at*;go_enter func328,ntmps328;go_wp2_with fail;refine P.mono ?_;clear P;rintro e w1 ⟨rfl,hb⟩
 have o:=b1.trans (hb.mono b1.size)
 obtain⟨b5,bd,_,_⟩:=dt ((hb.block (I (G w)) (by simp;omega)).trans ((aU _ _ _ ac).trans (aO w (OX #[.int R 3,.int R x] 139))))
 obtain⟨q0,q1,_,_⟩:=dt ((hb.block (I (G w)+1) ac).trans (jz w (OX #[.int R 3,.int R x] 139) (OX #[.int R v0,.int R v1] 139)))
 obtain⟨ap,_,_,_⟩:=q.o w1 o;obtain⟨_,b6,_,_⟩:=q.o w1.drew o.drew;obtain⟨_,b7,N,S⟩:=q.o (w1.alloc (OX #[.int R v0,.int R v1] 139)).drew (o.alloc o.size _).drew;have S:aA (_):=S;have N:aA (_):=N;have ar:aA (∀f:az,(∀b,b=c.cp\/(I (G w)<=b/\b<I (G (w1.alloc (OX #[.int R v0,.int R v1] 139)).drew))->f.heap[b]?=(w1.alloc (OX #[.int R v0,.int R v1] 139)).drew.heap[b]?)->V f (av c.cp 3)=OR (.map (OR c.hb))/\V f (av (I (G w)) 1)=OR (ak x)/\V f (av (I (G w)+1) 0)=OR (ak v0)/\V f (av (I (G w)+1) 1)=OR (ak v1)):=λf hk=>by
  have al:∀a:bB,a.block<I (G w1)->V (w1.alloc (OX #[.int R v0,.int R v1] 139)).drew a=V w1 a:=λa ha=>aS (aU w1 _ _ ha)
  have s1:I (G w1)<=I (G (w1.alloc (OX #[.int R v0,.int R v1] 139)).drew):=by simp[World.drew]
  have F:=aT w1 _ ap;have be:=aT w1 _ bd;have aB:=aT w1 _ q0;dsimp only at F be aB;exact⟨(aS (a:=⟨c.cp,3,Y⟩) (hk _ (aK rfl))).trans ((al _ F).trans ap),(aS (a:=⟨I (G w),1,Y⟩) (hk _ (aI ⟨aG _,by dsimp only;omega⟩))).trans (by grind),
   (aS (a:=⟨I (G w)+1,0,Y⟩) (hk _ (aI ⟨jl _,by dsimp only;omega⟩))).trans (by grind),(aS (a:=⟨I (G w)+1,1,Y⟩) (hk _ (aI ⟨jl _,by dsimp only;omega⟩))).trans ((al _ aB).trans q1)⟩
 clear hb b1 q o;obtain⟨bg,bi,bl,bn,bo⟩:=info_parts zr;go_wp2_with fail
 go_region_held3 (λw'=>V w' (av c.cp 3)=OR (.map (OR c.hb))/\V w' (av (I (G w)) 1)=OR (ak x)/\V w' (av (I (G w)+1) 0)=OR (ak v0)/\V w' (av (I (G w)+1) 1)=OR (ak v1)) (go_keep)
  (first|(refine step_append_lies _ rfl (.tmp 21) (.tmp 23) 90 rfl 0 139 bg (.agg #[ak 0,ak 0]) 2 16 underlying90 bi bl bn bo rfl ae (.slice ad (OQ H) cap) (OQ H) (ev H) af N.o ⟨I (G w1),0,Y⟩ 1 1 [ak v0,ak v1] af rfl ?_ ?_ ae (by unfold maxLen;omega) aa ac _ rfl ?_;(intro j u l;match j,l with|0,l=>(simp at l;subst l;simp[Addr.add])|1,l=>(simp at l;subst l;simp[Addr.add]));(intro u p;simp at p;rcases p with p|p<;>(subst p;rfl));intro b4 n f b8 bp b9 ca;obtain⟨g,cb,k5,br⟩:=S.o f b4 n bp (by grind [ev]) (by grind);obtain⟨cc,m1,cd,ce⟩:=ar.o f (by grind);obtain⟨cf,cg,ch,ci⟩:=ar.o g (by grind);clear k5))
 all_goals
  go_wp2_with fail;obtain⟨own',hm',cj,ck,cl⟩:=br.o;exact a3 (v:=ay #[]) (by simp[results,results328,go_sem]) rfl (by grind)
end
structure eW (own:Nat->Nat)(w:az)(own':Nat->Nat)(w':az):Prop where
 fr:Fr (λb=>own b≠0) w w'
 nw:∀b,own' b≠0->own b≠0\/I (G w)<=b
section
variable {c:Cp}{own own' nI:Nat->Nat}{vt cV:a7}{n1 n2 n1' eI:Nat}{hm hm':Int->Option bB×Nat}{st:dG}{F:Nat->Prop}{w w' w'':az}
theorem gm.tk (t:gm own w own' w'):eW own w own' w':=⟨t.fr.mono (λb hb=>by omega),λb hb=>by
 by_cases e:b<I (G w)
 ·rw[t.old b e] at hb;exact aK hb
 ·exact aI aa⟩
theorem eW.of (h:O (I (G w)) w w'):eW own w own w':=⟨Fr.of h,λ_ h=>aK h⟩
theorem eW.trans (h:eW own w own' w')(k:eW own' w' nI w''):eW own w nI w'':=⟨h.fr.trans k.fr h.nw,λb hb=>(k.nw b hb).elim (h.nw b) (λd=>aI (aQ h.fr.size d))⟩
structure iV (c:Cp):Prop where
 g:dO c.b7 c.ce c.grow c.l c.s c.w0
 t:OQ c.s.T<=10000
 iv:e6 c.s.T c.s.wt
 wl:OQ c.s.wt<=90000
structure jI (c:Cp)(st:dG):Prop where
 len:OQ st.A=OQ c.s.T
 hv:∀x,∀v∈st.hd x,v.1=3->0<=v.2/\cz c.s.T (K v.2)
 hl:∀x,OQ (st.hd x)<=20000
 m:st.m<=20000
theorem c7.wU (hg:iV c)(h:c7 c own vt n1 n2 hm st w){i:Nat}(hi:cz c.s.T i):kI own w (c.l.fm i).1 (X c.s.T i t0).2.1:=by
 have hr:=(h.gv hg.g).g2.fl i hi;refine⟨iQ hr,λhp z e d=>?_⟩
 obtain⟨b,cp,f⟩:=fi hr hp;have hb:z.block=b:=by
  dsimp only [ff] at f;rw[e] at f;injection f with g
  injection g with j
  rw[j]
 have k:=hg.g.g2.fC i hi b (by rw[f];rfl)
 have l:=hg.g.lt b aa;rw[hb] at d;have m:=(h.lt b aa).1;omega
theorem Kq (hg:iV c)(h:c7 c own vt n1 n2 hm st w)(hk:jI c st)(x:Int)(b:0<=x)(i:x<10000):∃ad cap,V w (av c.cp 3)=OR (.map (OR c.hb))/\(Instr.lookup 324 (.map (OR c.hb)) (ak x) D).run J w=.ok (.slice ad (OQ (st.hd x)) cap) w/\
 M J 314 #[aq c.cp,.slice ad (OQ (st.hd x)) cap] w λe w'=>∃own' cV n1',e=Q (ay #[])/\c7 c own' cV n1' n2 hm (dz st (st.hd x)) w'/\gm own w own' w':=by
 obtain⟨ad,cap,f,hrow,g⟩:=h.hrow x;obtain⟨_,_,_,q3,_,_⟩:=h.cells;have L:=h.hq.look underlying324 (BY _) b aa;rw[show(hdF st.hd hm x).getD (.slice Y 0 0)=_ from f] at L;refine⟨ad,cap,q3,L,nJ hg.g hg.t hk.len h ad cap (st.hd x) ⟨iQ hrow,λhp z e d=>?_⟩ (hk.hv x) (by have:=hk.hl x;omega)⟩
 have:=g z.block (by rw[e];rfl)
 omega
def Kr (c:Cp)(own:Nat->Nat)(w:az)(x:Int)(b:dG)(w1:az):Prop:=∃ad n cap,V w1 (av c.cp 3)=OR (.map (OR c.hb))/\(Instr.lookup 324 (.map (OR c.hb)) (ak x) D).run J w1=.ok (Z ad n cap) w1/\
 M J 314 #[aq c.cp,Z ad n cap] w1 λe w'=>∃own' cV n1' eI hm',e=Q (ay #[])/\c7 c own' cV n1' eI hm' (dz b (b.hd x)) w'/\eW own w own' w'
theorem rh (hg:iV c)(h:c7 c own' vt n1 n2 hm st w')(hk:jI c st)(t:eW own w own' w')(x:Int)(b:0<=x)(d:x<10000):Kr c own w x st w':=by
 obtain⟨ad,cap,q3,L,P⟩:=Kq hg h hk x b d;refine⟨ad,_,cap,q3,L,P.mono ?_⟩
 rintro e l ⟨f,i,j,rfl,g,k⟩
 exact⟨f,i,j,n2,hm,rfl,g,t.trans k.tk⟩
theorem jI.marks (h:jI c st)(l:List _):jI c (dz st l):=by obtain⟨a,b,d⟩:=kF st l;exact⟨d.trans h.len,by rw[a];exact h.hv,by rw[a];exact h.hl,by rw[b];exact h.m⟩
theorem Ks (hg:iV c)(h:c7 c own vt n1 n2 hm st w)(hk:jI c st)(x:Int)(j:0<=x)(k:cx st.A (K x))(d:cz c.s.T (K x))(l:(X c.s.T (K x) t0).1=1\/(X c.s.T (K x) t0).1=2):
 M J 326 #[aq c.cp,ak x] w λe w'=>∃own' cV n1' eI hm',e=Q (ay #[])/\c7 c own' cV n1' eI hm' (ii c.s.T c.s.wt st x) w'/\eW own w own' w':=by
 have B:x<10000:=by have:=d.1;have:=hg.t;omega
 have L:=h.am.look (t:=194) (e:=271) underlying194 (nH w) (x:=x) j aa;rw[show fD c.s.T c.l.fm st.A x=OR (gX c.s.T c.l.fm (K x)) from by unfold fD;rw[aN ⟨j,k⟩]] at L;dsimp only [Option.getD,gX,ff] at L;obtain⟨_,c1,_,_,_,al⟩:=h.cells;have b1:=aw w (OX #[U R (X c.s.T (K x) t0).1,Z (c.l.fm (K x)).1 (OQ (X c.s.T (K x) t0).2.1) (c.l.fm (K x)).2] 271)
 have P:=nJ hg.g hg.t hk.len (h.below b1) _ (c.l.fm (K x)).2 _ ((h.below b1).wU hg d) (λv hv F=>hg.iv.fv _ d v hv F) (by have:=hg.iv.tl (K x);omega)
 have m:ii c.s.T c.s.wt st x=dz (dz st (X c.s.T (K x) t0).2.1) ((dz st (X c.s.T (K x) t0).2.1).hd x):=by unfold ii hZ;rw[aN l]
 rw[m];have o:aA (∀b f i w1,c7 c b f i n2 hm (dz st (X c.s.T (K x) t0).2.1) w1->eW own w b w1->_):=λb f i w1 g t=>rh hg g (hk.marks _) t x j B;have p:=cg b1;clear hg h hk k d m b1;generalize dz st (X c.s.T (K x) t0).2.1=am at*;generalize (X c.s.T (K x) t0).1=kd at*;generalize OQ (X c.s.T (K x) t0).2.1=n at*;generalize (c.l.fm (K x)).1=ad at*;generalize (c.l.fm (K x)).2=cp at*;rcases l with rfl|rfl
 all_goals
  go_enter func326,ntmps326;go_wp2_with fail;refine P.mono ?_;clear P;rintro e w1 ⟨b,f,i,rfl,g,t⟩
  obtain⟨an,ao,ap,q3,N,q⟩:=o.o b f i w1 g ((eW.of p.o).trans t.tk)
  clear o p g t L c1;go_wp2_with fail;refine q.mono ?_;clear q;rintro e ar ⟨S,W,ab,ag,ai,rfl,g2,s⟩
  have u:=cU g2 s;clear g2 s q3 N;go_wp2_with fail;go_end0;exact⟨S,W,ab,ag,ai,rfl,u.o.1,u.o.2⟩
abbrev nK (c:Cp)(x:Int):Obj:=OX #[ak (X c.s.T (K x) t0).1,Z (c.l.fm (K x)).1 (OQ (X c.s.T (K x) t0).2.1) (c.l.fm (K x)).2] 271
theorem tq (h:c7 c own vt n1 n2 hm st w)(x:Int)(b:0<=x)(e:x<10000)(d:cx st.A (K x)):(Instr.lookup 194 (.map (OR c.ab)) (ak x) D).run J w=.ok (bz #[ak (X c.s.T (K x) t0).1,Z (c.l.fm (K x)).1 (OQ (X c.s.T (K x) t0).2.1) (c.l.fm (K x)).2]) w:=by have L:=h.am.look underlying194 (nH w) b aa;rw[show fD c.s.T c.l.fm st.A x=OR (gX c.s.T c.l.fm (K x)) from by unfold fD;rw[aN ⟨b,d⟩]] at L;exact L
theorem Kt (hg:iV c)(h:c7 c own vt n1 n2 hm st w)(hk:jI c st)(x:Int)(b:0<=x)(d:cx st.A (K x))(f:cz c.s.T (K x))(k0:¬((X c.s.T (K x) t0).1=1\/(X c.s.T (K x) t0).1=2))(k3:¬(X c.s.T (K x) t0).1=3)(k4:¬(X c.s.T (K x) t0).1=4)(k5:¬(X c.s.T (K x) t0).1=5):
 M J 326 #[aq c.cp,ak x] w λe w'=>∃own' cV n1' eI hm',e=Q (ay #[])/\c7 c own' cV n1' eI hm' (ii c.s.T c.s.wt st x) w'/\eW own w own' w':=by
 have g:x<10000:=by have:=f.1;have:=hg.t;omega
 have L:=tq h x b g d;obtain⟨_,c1,_,_,_,u⟩:=h.cells;have b1:=aw w (nK c x)
 have i:ii c.s.T c.s.wt st x=dz st (st.hd x):=by unfold ii hZ;rw[aJ k0,aJ k3,aJ k4,aJ k5]
 rw[i];have j:=rh hg (h.below b1) hk (eW.of b1) x b g;dsimp only [nK] at j;clear hg h hk d f i b1;generalize (X c.s.T (K x) t0).1=kd at*;generalize OQ (X c.s.T (K x) t0).2.1=n at*;generalize (c.l.fm (K x)).1=ad at*;generalize (c.l.fm (K x)).2=cp at*;have k1:¬kd=1:=λe=>k0 (aK e)
 obtain⟨v,B,F,q3,N,l⟩:=j;go_enter func326,ntmps326;go_wp2_with fail;refine l.mono ?_;rintro e S ⟨m,o,p,q,s,rfl,g2,t⟩
 have k:aA (_/\_):=⟨g2,t⟩
 go_wp2_with fail;go_end0;exact⟨m,o,p,q,s,rfl,k.o.1,k.o.2⟩
theorem Ku (hg:iV c)(h:c7 c own vt n1 n2 hm st w)(hk:jI c st)(x:Int)(l:0<=x)(p:cx st.A (K x))(f:cz c.s.T (K x))(k3:(X c.s.T (K x) t0).1=3):
 M J 326 #[aq c.cp,ak x] w λe w'=>∃own' cV n1' eI hm',e=Q (ay #[])/\c7 c own' cV n1' eI hm' (ii c.s.T c.s.wt st x) w'/\eW own w own' w':=by
 have m:x<10000:=by have:=f.1;have:=hg.t;omega
 have L:=tq h x l m p;obtain⟨_,c1,_,_,_,W⟩:=h.cells;have b1:=aw w (nK c x)
 have l2:=hg.iv.fl _ f (aK k3)
 obtain⟨b,o,q,lb,s⟩:=(h.wU hg f).lp aa;obtain⟨z0,ab⟩:=s 1 aa;have B:(X (X c.s.T (K x) t0).2.1 1 (0,0)).1=3->_:=λi=>hg.iv.fv _ f _ (fL aa) i;have F:ii c.s.T c.s.wt st x=dz (dz st [X (X c.s.T (K x) t0).2.1 1 (0,0)]) ((dz st [X (X c.s.T (K x) t0).2.1 1 (0,0)]).hd x):=by unfold ii hZ;rw[aJ aa,aN k3];rfl
 rw[F];dsimp only [nK] at b1;rw[k3,l2,q] at L b1;generalize X (X c.s.T (K x) t0).2.1 1 (0,0)=v at*;generalize (c.l.fm (K x)).2=cp at*;obtain⟨v0,v1⟩:=v;have b2:=b1.alloc b1.size (OX #[U R v0,U R v1] 139)
 have P:=nJ hg.g hg.t hk.len (h.below b2) (au (I (G (bu w (OX #[U R 3,Z (OR ⟨b,o,Y⟩) 2 cp] 271))))) 1 [(v0,v1)] (kI.one (h.below b1) (v0,v1)) (λu n i=>by simp at n;rw[n] at i⊢;exact B i) ac;have N:aA (∀d j k w1,c7 c d j k n2 hm (dz st [(v0,v1)]) w1->eW own w d w1->_):=λd j k w1 g t=>rh hg g (hk.marks _) t x l m;have S:=cg b2;rw[show I (G (bu w (OX #[U R 3,Z (OR ⟨b,o,Y⟩) 2 cp] 271)))=I (G w)+1 by simp] at P;generalize dz st [(v0,v1)]=ad at*;go_enter func326,ntmps326;go_wp2_with fail;refine P.mono ?_;rintro e w1 ⟨d,j,k,rfl,g,t⟩
 obtain⟨ag,ai,al,q3,am,P2⟩:=N.o d j k w1 g ((eW.of S.o).trans t.tk)
 exact BX
theorem iV.fb (hg:iV c){i b o:Nat}(hi:cz c.s.T i)(hp:0<OQ (X c.s.T i t0).2.1)(e:(c.l.fm i).1=OR ⟨b,o,Y⟩):b<I (G c.w0):=by
 obtain⟨f,cp,d⟩:=fi (hg.g.g2.fl i hi) hp;have g:=hg.g.lt f (by rw[hg.g.g2.fC i hi f (by rw[d];rfl)];omega)
 dsimp only [ff] at d;rw[e] at d;have j:b=f:=congrArg Addr.block (kg (Value.slice.inj d).1)
 rw[j];exact g
theorem Kw (hg:iV c)(h:c7 c own vt n1 n2 hm st w)(hk:jI c st)(k v:Int×Int)(b:k.1=3->0<=k.2/\cz c.s.T (K k.2))(hv:v.1=3->0<=v.2/\cz c.s.T (K v.2)):
 M J 328 #[aq c.cp,bz #[ak k.1,ak k.2],bz #[ak v.1,ak v.2]] w λe w'=>∃own' cV n1' eI hm',e=Q (ay #[])/\c7 c own' cV n1' eI hm' (mB st k v) w'/\eW own w own' w':=by
 unfold mB;cases hi:eN st.A k
 ·refine(Ko h k v (λd=>⟨(b d).1,by have:=(b d).2.1;have:=hg.t;omega⟩) hi hk.m (hk.hl _)).mono ?_;rintro e w' ⟨own',hm',rfl,g,f,i⟩
  exact⟨own',vt,n1,n2+1,hm',rfl,g,f,i⟩
 ·refine(Kn hg.g hg.t hk.len h k v b hv hi).mono ?_;rintro e w' ⟨own',cV,n1',rfl,g,t⟩
  exact⟨own',cV,n1',n2,hm,rfl,g,t.tk⟩
theorem Kx (hg:iV c)(h:c7 c own vt n1 n2 hm st w)(hk:jI c st)(x:Int)(N:jI c (hZ c.s.T c.s.wt st x))(S:0<=x)(an:cx st.A (K x))(m:cz c.s.T (K x))(k4:(X c.s.T (K x) t0).1=4):
 M J 326 #[aq c.cp,ak x] w λe w'=>∃own' cV n1' eI hm',e=Q (ay #[])/\c7 c own' cV n1' eI hm' (ii c.s.T c.s.wt st x) w'/\eW own w own' w':=by
 have ab:x<10000:=by have:=m.1;have:=hg.t;omega
 have L:=tq h x S ab an;obtain⟨_,c1,_,_,_,bo⟩:=h.cells;have b1:=aw w (nK c x)
 have l2:=hg.iv.fl _ m (aI k4)
 obtain⟨b,o,ad,lb,ag⟩:=(h.wU hg m).lp aa;obtain⟨ai,y1⟩:=ag 0 aa;obtain⟨z0,ao⟩:=ag 1 aa;have ap:=m4 hg.iv m k4 0 ae;have ar:=m4 hg.iv m k4 1 ae;have aB:hZ c.s.T c.s.wt st x=mB st (X (X c.s.T (K x) t0).2.1 0 (0,0)) (X (X c.s.T (K x) t0).2.1 1 (0,0)):=by unfold hZ;rw[aJ aa,aJ aa,aN k4]
 unfold ii;rw[aB] at N⊢;dsimp only [nK] at b1;rw[k4,l2,ad] at L b1;generalize X (X c.s.T (K x) t0).2.1 0 (0,0)=u at*;generalize X (X c.s.T (K x) t0).2.1 1 (0,0)=v at*;generalize (c.l.fm (K x)).2=cp at*;obtain⟨u0,q⟩:=u;obtain⟨v0,v1⟩:=v;rw[Nat.zero_mul,Mw] at ai y1;have P:=Kw hg (h.below b1.drew) hk (u0,q) (v0,v1) ap ar;have aF:aA (∀f i j k l w1,c7 c f i j k l (mB st (u0,q) (v0,v1)) w1->eW own w f w1->_):=λf i j k l w1 g t=>rh hg g N t x S ab;have n:=cg b1;have aR:aA (∀f i j k l B (w1:az),c7 c f i j k l B w1->eW own (bu w (OX #[U R 4,Z (OR ⟨b,o,Y⟩) 2 cp] 271)).drew f w1->w1.heap[b]?=(bu w (OX #[U R 4,Z (OR ⟨b,o,Y⟩) 2 cp] 271)).heap[b]?/\w1.heap[I (G w)]?=OR (OX #[ak 4,Z (OR ⟨b,o,Y⟩) 2 cp] 271 (0,0))):=λf i j k l B w1 g t=>by have al:=hg.fb m aa ad;refine⟨(g.ol b al).trans (((h.below b1).ol b al).symm),(t.fr.block (I (G w)) (by simp[World.drew]) (λd=>by have:=(h.lt _ d).2;omega)).trans (aO w _)⟩
 generalize mB st (u0,q) (v0,v1)=B at*;go_enter func326,ntmps326;go_wp2_with fail;have hw:=aO w (OX #[U R 4,Z (OR ⟨b,o,Y⟩) 2 cp] 271)
 have aV:=(n.o.cell (p:=av b o) lb).trans ai;have a0:=(n.o.cell (p:=av b (o+1)) lb).trans y1;have j0:=(n.o.cell (p:=av b (o+1*2)) lb).trans z0;have a1:=(n.o.cell (p:=av b (o+1*2+1)) lb).trans ao;generalize bu w (OX #[U R 4,Z (OR ⟨b,o,Y⟩) 2 cp] 271)=W at*;obtain⟨_,bp,_,_⟩:=dt hw
 go_region_held3 (λw'=>V w' (av (I (G w)) 1)=OR (Z (OR ⟨b,o,Y⟩) 2 cp)/\V w' (av b o)=OR (ak u0)/\V w' (av b (o+1))=OR (ak q)/\V w' (av b (o+1*2))=OR (ak v0)/\V w' (av b (o+1*2+1))=OR (ak v1)) (go_keep)
  (first|(go_at_call 328;refine P.mono ?_;rintro e w1 ⟨f,i,j,k,l,rfl,g,t⟩;obtain⟨s,a2⟩:=aR.o f i j k l _ w1 g t;have br:=(aS (a:=⟨b,o,Y⟩) s).trans aV;have bs:=(aS (a:=⟨b,o+1,Y⟩) s).trans a0;have bt:=(aS (a:=⟨b,o+1*2,Y⟩) s).trans j0;have bx:=(aS (a:=⟨b,o+1*2+1,Y⟩) s).trans a1;obtain⟨_,b0,_,_⟩:=dt a2;have F:=aF.o f i j k l w1 g ((eW.of n.o.drew).trans t);have F:=cg F))
 all_goals
  obtain⟨b2,b3,b4,q3,b5,bb⟩:=F.o;go_wp2_with fail;refine bb.mono ?_;rintro e b6 ⟨bd,be,bg,bi,bl,rfl,g2,bn⟩
  have am:=cU g2 bn;go_wp2_with fail;go_end0;exact⟨bd,be,bg,bi,bl,rfl,am.o.1,am.o.2⟩
structure ts (own:Nat->Nat)(w:az)(ad:Option bB)(l:List Int):Prop where
 lp:jn w ad l
 no:0<OQ l->∀z,ad=OR z->¬(own z.block=1\/own z.block=2\/own z.block=3)
theorem ts.tm {ad:Option bB}{l:List Int}(h:ts own w ad l)(t:gm own w own' w'):ts own' w' ad l:=
 ⟨h.lp.keep t.fr.size (λhp z e=>t.fr.block _ (by obtain⟨b,o,c,hb,_⟩:=h.lp hp;rw[e] at c;cases c;exact hb) (h.no hp z e)),λhp z e=>by rw[t.old _ (by obtain⟨b,o,c,hb,_⟩:=h.lp hp;rw[e] at c;cases c;exact hb)];exact h.no hp z e⟩
abbrev lO (l:List Int):List (Int×Int):=l.map λx=>(3,x)
theorem Ky (hg:iV c)(h:c7 c own vt n1 n2 hm st w)(hk:jI c st)(x:Int)(ab:0<=x)(ag:cx st.A (K x))(ai:cz c.s.T (K x))(k5:(X c.s.T (K x) t0).1=5):
 M J 326 #[aq c.cp,ak x] w λe w'=>∃own' cV n1' eI hm',e=Q (ay #[])/\c7 c own' cV n1' eI hm' (ii c.s.T c.s.wt st x) w'/\eW own w own' w':=by
 have al:x<10000:=by have:=ai.1;have:=hg.t;omega
 have L:=tq h x ab al ag;obtain⟨c0,c1,_,_,_,bs⟩:=h.cells;have b1:=aw w (nK c x)
 have q:=(h.below b1).gv hg.g;obtain⟨_,_,_,_,_,g5,_,_,bt⟩:=(h.gv hg.g).cells;have m:=uY _ c.l.bp _ c.l.a1 c.l.k1 c.s.wt x q.g3.sd.cY (iQ q.g3.sd.q0) hg.wl;have am:∀v∈lO (eS c.s.wt x),v.1=3->0<=v.2/\cz c.s.T (K v.2):=λv hv _=>by obtain⟨y,hy,rfl⟩:=bS.1 hv;obtain⟨e,s,a0,rfl⟩:=wL.1 hy;exact hg.iv.wv e s
 have an:=qz c.s.wt x;have an:=aQ an hg.wl;have ao:ii c.s.T c.s.wt st x=dz (dz st (lO (eS c.s.wt x))) ((dz st (lO (eS c.s.wt x))).hd x):=by unfold ii hZ;rw[aJ aa,aJ aa,aJ aa,aN k5]
 rw[ao];dsimp only [nK] at b1 m;rw[k5] at L b1 m;have a1:aA (∀f k l w1,c7 c f k l n2 hm (dz st (lO (eS c.s.wt x))) w1->eW own w f w1->_):=λf k l w1 g t=>rh hg g (hk.marks _) t x ab al;have a2:aA (∀f k l (w1:az)(j:Nat),j<OQ (eS c.s.wt x)->c7 c f k l n2 hm (dz st (lO ((eS c.s.wt x).take j))) w1->M J 314 #[aq c.cp,Z (au (I (G w1))) 1 1] (bu w1 (OX #[U R 3,U R (X (eS c.s.wt x) j 0)] 139)) λe w'=>∃own' cV n1',e=Q (ay #[])/\c7 c own' cV n1' n2 hm (dz st (lO ((eS c.s.wt x).take (j+1)))) w'/\gm f w1 own' w'):=λf k l w1 j B g=>by
  have p:=aw w1 (OX #[U R 3,U R (X (eS c.s.wt x) j 0)] 139)
  have bb:lO ((eS c.s.wt x).take (j+1))=lO ((eS c.s.wt x).take j)++[(3,X (eS c.s.wt x) j 0)]:=by
   have bd:(eS c.s.wt x).take (j+1)=(eS c.s.wt x).take j++[X (eS c.s.wt x) j 0]:=by rw[va,aM,aP B];rfl
   rw[bd,lO,List.map_append];rfl
  rw[bb,BJ];refine(nJ hg.g hg.t (hk.marks _).len (g.below p) (au (I (G w1))) 1 [(3,X (eS c.s.wt x) j 0)] (kI.one g (3,X (eS c.s.wt x) j 0)) (λu ap ar=>?_) ac).mono ?_
  ·simp only [bN] at ap;rw[ap] at ar⊢;exact am _ (bS.2 ⟨_,fL B,rfl⟩) rfl
  ·rintro e w' ⟨own',cV,n1',rfl,be,t⟩
   exact⟨own',cV,n1',rfl,be,(gm.of p (λb hb=>(g.lt b hb).2)).trans t⟩
 have F:=cg h;have N:=cg b1;clear hg h hk ag ai ao b1 k5 q am;generalize eS c.s.wt x=A at*;generalize OQ (X c.s.T (K x) t0).2.1=n at*;generalize (c.l.fm (K x)).1=ad at*;generalize (c.l.fm (K x)).2=cp at*;go_enter func326,ntmps326;go_wp2_with fail;refine m.mono ?_;clear m;rintro e w1 ⟨bg,g_,rfl,S,aB⟩
 have W:=cg (N.o.trans (aB.mono N.o.size))
 have bi:aA (ts own w1 bg A):=⟨ir S,λhp z e d=>by
  have s:=(cu S z.block (by rw[e];rfl)).1;have a0:=(F.o.lt z.block aa).2;have ar:I (G w)+1<=z.block:=by simpa using s
  omega⟩
 clear aB S N L c1 g5;go_wp2_with fail
 go_loopw [55] (λi wr=>∃(j:Nat)(own':Nat->Nat)(cV:a7)(n1':Nat),j<=OQ A/\i=ak j/\c7 c own' cV n1' n2 hm (dz st (lO (A.take j))) wr/\gm own w1 own' wr) (λi _=>OQ A-K (intOf i))
 exact⟨0,own,vt,n1,a4 _,rfl,F.o.below W.o,gm.of bZ (λb hb=>((F.o.below W.o).lt b hb).2)⟩
 ·
   obtain⟨j,own',cV,n1',B,rfl,g,t⟩:=hrel;by_cases aF:j<OQ A
   ·obtain⟨bx,o,aR,lb,aV⟩:=(bi.o.tm t).lp aa;have hc:=aV j aF;have bl:aA (∀w2,O (I (G wr)) wr w2->M J 314 #[aq c.cp,Z (au (I (G w2))) 1 1] (bu w2 (OX #[U R 3,U R (X A j 0)] 139)) λe w'=>∃own' cV n1',e=Q (ay #[])/\c7 c own' cV n1' n2 hm (dz st (lO (A.take (j+1)))) w'/\gm own w1 own' w'):=λw2 hb=>by
     refine(a2.o own' cV n1' w2 j aF (g.below hb)).mono ?_;rintro e w' ⟨wR,wS,n12,rfl,g2,t2⟩
     exact⟨wR,wS,n12,rfl,g2,(t.trans (gm.of hb (λb hb=>(g.lt b hb).2))).trans t2⟩
    rw[aR];have bn:(j:Int)<OQ A:=aa;clear g t aV aR;generalize X A j 0=y at*;go_wp2_with fail;refine(pO y wr).mono ?_;rintro e w2 ⟨rfl,p⟩
    have P:=bl.o w2 p;go_wp2_with fail;refine P.mono ?_;rintro e b0 ⟨bo,bp,br,rfl,g3,t3⟩
    have HF:=cU g3 t3;go_wp2_with fail;go_roundw;exact⟨j+1,bo,bp,br,aa,aj,HF.o.1,HF.o.2⟩
    simp[intOf];omega
   ·have e:A.take j=A:=pg aa;rw[e] at g;obtain⟨b2,bn,b3,q3,b4,P2⟩:=a1.o own' cV n1' wr g ((eW.of W.o).trans t.tk)
    exact BX
theorem Kz (hg:iV c)(h:c7 c own vt n1 n2 hm st w)(hk:jI c st)(x:Int)(g:jI c (hZ c.s.T c.s.wt st x))(b:0<=x)(d:cx st.A (K x))(f:cz c.s.T (K x)):
 M J 326 #[aq c.cp,ak x] w λe w'=>∃own' cV n1' eI hm',e=Q (ay #[])/\c7 c own' cV n1' eI hm' (ii c.s.T c.s.wt st x) w'/\eW own w own' w':=by
 by_cases k1:(X c.s.T (K x) t0).1=1\/(X c.s.T (K x) t0).1=2
 ·exact Ks hg h hk x b d f k1
 by_cases k3:(X c.s.T (K x) t0).1=3
 ·exact Ku hg h hk x b d f k3
 by_cases k4:(X c.s.T (K x) t0).1=4
 ·exact Kx hg h hk x g b d f k4
 by_cases k5:(X c.s.T (K x) t0).1=5
 ·exact Ky hg h hk x b d f k5
 exact Kt hg h hk x b d f k1 k3 k4 k5
end
structure gZ (T:List cH)(wt:List b8)(is:List Bool)(s:dG):Prop where
 mi:fu T wt is s []
 hl:∀x,OQ (s.hd x)<=s.m
 mm:s.m+(OQ s.td+cnt s.A)<=OQ T
structure BZ (T:List cH)(wt:List b8)(is:List Bool)(s s':dG):Prop where
 dy:gZ T wt is s'
 td:s'.td=[]
 up:∀k,cx s.A k->cx s'.A k
section
variable {T:List cH}{wt:List b8}{is:List Bool}{s:dG}
theorem B0 (hl:∀x,OQ (s.hd x)<=s.m)(i:Int):(∀x,OQ ((hZ T wt s i).hd x)<=(hZ T wt s i).m)/\(hZ T wt s i).m<=s.m+1:=by
 have hm:∀l,(∀x,OQ ((dz s l).hd x)<=(dz s l).m)/\(dz s l).m<=s.m+1:=λl=>by obtain⟨a,b,_⟩:=kF s l;rw[a,b];exact⟨hl,aa⟩
 unfold hZ;split
 ·exact hm _
 split
 ·exact hm [_]
 split
 ·unfold mB;split
  ·exact hm [_]
  ·dsimp only;refine⟨λx=>?_,aG _⟩
   have:=hl x;split
   ·simp;omega
   ·omega
 split
 ·exact hm _
 ·exact hm []
theorem KB (hl:∀x,OQ (s.hd x)<=s.m)(i:Int):∀x,OQ ((ii T wt s i).hd x)<=(ii T wt s i).m:=by unfold ii;obtain⟨a,b,_⟩:=kF _ _;rw[a,b];exact(B0 hl i).1
theorem fu.hv {E:List Int}(h:fu T wt is s E)(f:e6 T wt)(x:Int)(v:Int×Int)(hv:v∈s.hd x)(d:v.1=3):0<=v.2/\cz T (K v.2):=by obtain⟨j,a,b,c,e⟩:=h.hd _ _ hv;rw[e] at d⊢;exact m4 f (h.al j a) b 1 ae d
theorem KC {i:Nat}(h:fu T wt is s [(i:Int)])(c:e6 T wt)(hi:cz T i):∀x,∀v∈(hZ T wt s i).hd x,v.1=3->0<=v.2/\cz T (K v.2):=by
 have hm:∀l,∀x,∀v∈(dz s l).hd x,v.1=3->0<=v.2/\cz T (K v.2):=λl x v hv b=>by rw[(kF s l).1] at hv;exact h.hv c x v hv b
 unfold hZ;split
 ·exact hm _
 split
 ·exact hm [_]
 split
 ·rename_i k4;unfold mB;split
  ·exact hm [_]
  ·intro x v hv b;dsimp only at hv;split at hv
   ·rcases List.mem_append.1 hv with hv|hv
    ·exact h.hv c x v hv b
    ·simp only [bN] at hv;rw[hv] at b⊢;exact m4 c hi k4 1 ae b
   ·exact h.hv c x v hv b
 split
 ·exact hm _
 ·exact hm []
theorem KD (i:Int):OQ (hZ T wt s i).A=OQ s.A:=by
 have hm:∀l,_=_:=λl=>(kF s l).2.2;unfold hZ;split
 ·exact hm _
 split
 ·exact hm [_]
 split
 ·unfold mB;split
  ·exact hm [_]
  ·rfl
 split
 ·exact hm _
 ·rfl
end
section
variable {c:Cp}{own own':Nat->Nat}{vt cV:a7}{n1 n2 n1' eI:Nat}{hm hm':Int->Option bB×Nat}{st:dG}{w w':az}{is:List Bool}
theorem c7.todo (h:c7 c own vt n1 n2 hm st w){cV:a7}{t:List Int}(hr:aC w 0 2 1 cV (OQ t) (t.map (Value.int R)))(ho:∀k,OR k=O9 cV->own k=3)(hl:OQ t<=OQ st.td):c7 c own cV n1 n2 hm {st with td:=t} (O8 w ⟨c.cp,2,Y⟩ cV)/\eW own w own (O8 w ⟨c.cp,2,Y⟩ cV):=by
 have fr:Fr (λb=>own b=1) w (O8 w ⟨c.cp,2,Y⟩ cV):=(Fr.refl _ w).set c.cp 2 cV h.co;have hk:∀b,own b≠1->b<I (G w)->_=_:=λb hb hl=>fr.block b hl hb;have g:=h.sz;refine⟨{
  ol:=λk f=>(fr.block k aa (λcc=>?_)).trans (h.ol k f),sz:=aQ h.sz fr.size,cb:=?_,co:=h.co,am:=h.am.same (hk _ (by rw[h.ao];decide) h.am.lt),ao:=h.ao,an:=h.an,tr:=cK hr (λk e=>hk k (by rw[ho k e];decide) (cu hr k e).2),tw:=ho,tn:=by have:=h.tn;dsimp only;omega
  hq:=h.hq.same (hk _ (by rw[h.ho];decide) h.hq.lt),ho:=h.ho,hn:=h.hn,hr:=λx d=>⟨(h.hr x d).1,cK (h.hr x d).2 (λk e=>hk k (by rw[h.hro x d k e];omega) (cu (h.hr x d).2 k e).2)⟩,hro:=h.hro,lt:=λb hb=>⟨(h.lt b hb).1,aL (h.lt b hb).2 fr.size⟩},fr.mono (λb hb=>by omega),λb hb=>aK hb⟩
 ·have:=(h.lt k aa).1;omega
 ·simp only [World.setCell,Array.getElem?_modify,if_true,h.cb,Option.map_some];rfl
theorem B3 (hg:iV c)(h:c7 c own vt n1 n2 hm st w)(ho:gZ c.s.T c.s.wt is st):
 M J 315 #[aq c.cp] w λe w'=>∃own' cV n1' eI hm' d,e=Q (ay #[])/\c7 c own' cV n1' eI hm' d w'/\eW own w own' w'/\BZ c.s.T c.s.wt is st d:=by
 have f:=cg hg;have F:=cU h ho;obtain⟨_,_,c2,_,_,_⟩:=h.cells;obtain⟨ad,cap,ev⟩:=e7 h.tr;rw[ev] at c2;go_enter func315,ntmps315;go_wp2_with fail
 go_loopg [2] (OQ st.td+cnt st.A) (λm nv wr=>∃(own':Nat->Nat)(cV:a7)(n1' eI:Nat)(hm':Int->Option bB×Nat)(d:dG),nv=ak (OQ d.td)/\aA (c7 c own' cV n1' eI hm' d wr/\eW own w own' wr/\gZ c.s.T c.s.wt is d/\(∀k,cx st.A k->cx d.A k)/\OQ d.td+cnt d.A<=m))
 exact⟨own,vt,n1,n2,hm,st,rfl,F.o.1,eW.of bZ,F.o.2,λ_ h=>h,aG _⟩
 case round=>
  obtain⟨own',cV,n1',eI,hm',s1,rfl,N⟩:=hrel;obtain⟨g,t,dy,up,an⟩:=N.o;by_cases S:0<OQ s1.td
  ·obtain⟨_,_,ao,_,ap,lk⟩:=g.cells;have tr:=g.tr;obtain⟨b,cap,ar⟩:=fi tr S;subst ar;have aB:=u_ tr;obtain⟨n,hn⟩:∃n,OQ s1.td=n+1:=⟨OQ s1.td-1,aa⟩
   have aF:V wr (av b n)=OR (ak (X s1.td n 0)):=by obtain⟨b1,b2,e,_,hc⟩:=ir tr S;cases e;have:=hc n aa;rwa [bW] at this
   have W:OQ (s1.td.take n)=n:=by rw[List.length_take];omega
   have ab:s1.td=s1.td.take n++[X s1.td n 0]:=by
    rw[aM,aP aa];have:=va (l:=s1.td) (i:=n)
    rw[aP aa,pg aa] at this
    exact this
   have o:=dy.mi.td (X s1.td n 0) (aI (fL aa))
   have B:=dy.mi.pop f.o.iv ab;obtain⟨i,hi⟩:=bC o.1;have ag:cz c.s.T i:=dy.mi.al i (by have:=o.2;rwa [hi] at this)
   obtain⟨g2,aR⟩:=g.todo (cV:=Z (au b) n cap) (t:=s1.td.take n) (by rw[W,List.map_take];exact uZ tr n aa) (λk e=>g.tw k e) aa;have aV:=dy.mm;have b3:=f.o.t;have a0:jI c {s1 with td:=s1.td.take n}:=⟨dy.mi.len,λx v hv a1=>dy.mi.hv f.o.iv x v hv a1,λx=>by have:=dy.hl x;dsimp only;omega,by dsimp only;omega⟩
   rw[hi] at o B ab;have ai:cx s1.A i:=by simpa using o.2
   have hb:=B0 (T:=c.s.T) (wt:=c.s.wt) (s:={s1 with td:=s1.td.take n}) dy.hl i;have a2:jI c (hZ c.s.T c.s.wt {s1 with td:=s1.td.take n} i):=⟨(KD _).trans dy.mi.len,KC B f.o.iv ag,λx=>by have al:=hb.1 x;have p:=hb.2;dsimp only at p;omega,by have p:=hb.2;dsimp only at p;omega⟩
   have bb:=Kz f.o g2 a0 i a2 aa (by simpa using ai) (by simpa using ag)
   have q:=cg (B.look f.o.iv ai)
   have bd:aA (∀x,OQ ((ii c.s.T c.s.wt {s1 with td:=s1.td.take n} i).hd x)<=(ii c.s.T c.s.wt {s1 with td:=s1.td.take n} i).m):=KB (s:={s1 with td:=s1.td.take n}) dy.hl i;have be:=cg (t.trans aR)
   have bg:=cU hn W;have u:=ge up aV an;rw[hi] at aF;rw[hn] at ao aB⊢;have b4:=ap 2;generalize ii c.s.T c.s.wt {s1 with td:=s1.td.take n} i=j at*;go_wp2_with fail;refine bb.mono ?_;rintro e b5 ⟨bi,bl,bn,bo,bp,rfl,g4,br⟩
   obtain⟨_,_,bs,_⟩:=g4.cells;obtain⟨b6,b7,bt⟩:=e7 g4.tr;rw[bt] at bs;have bx:=q.o.td;have b8:=bg.o;dsimp only at bx;have b9:1<=gk:=by have:=u.o.2.2;omega
   have b0:aA (_/\_/\gZ c.s.T c.s.wt is j/\(∀k,cx st.A k->cx j.A k)/\OQ j.td+cnt j.A<=gk-1):=⟨g4,be.o.trans br,⟨q.o.mi,bd.o,by have al:=q.o.mm;have p:=u.o.2.1;dsimp only at al;omega⟩,λk hk=>q.o.up k (u.o.1 k hk),by have:=u.o.2.2;omega⟩
   go_wp2_with fail
   go_roundg (gk-1)
   case measure=>omega
   exact⟨bi,bl,bn,bo,bp,j,rfl,b0⟩
  ·have am:s1.td=[]:=List.eq_nil_of_length_eq_zero aa;rw[am];go_wp2_with fail;go_end0;obtain⟨g,t,dy,up,_⟩:=N.o;exact⟨own',cV,n1',eI,hm',s1,rfl,g,t,dy,am,up⟩
end
theorem KE {q:List b8}{g:Int}{i:Nat}(hi:i<OQ q)(e:(X q i (0,0)).1=g)(hn:∀e∈q.take i,¬e.1=g):eh g q=i:=by grind [List.findIdx_eq,List.mem_take_iff_getElem,eh]
section
variable {b7 rb:Nat}{ce grow:Int}{l:ik}{F:Nat->Prop}{s:ck}{w w':az}
theorem dO.side (h:dO b7 ce grow l s w){r q:List b8}{a0 a1:Option bB}{k0 k1:Nat}(f:fF w' l.bp a0 k0 a1 k1 r q)(fr:Fr (λk=>k=l.bp) w w')
 (n0:∀k,OR k=O9 (Value.slice a0 (OQ r) k0)->l.own k=5\/I (G w)<=k)(n1:∀k,OR k=O9 (Value.slice a1 (OQ q) k1)->l.own k=6\/I (G w)<=k)
 (j:∀k,I (G w)<=k->OR k=O9 (Value.slice a0 (OQ r) k0)->OR k≠O9 (Value.slice a1 (OQ q) k1)):
 ∃d,dO b7 ce grow d {s with rg:=r,wt:=q} w'/\(∀b,d.own b≠0->l.own b≠0\/I (G w)<=b)/\d.fm=l.fm/\d.rb=l.rb:=by
 refine⟨{l with own:=λb=>if I (G w)<=b then(if OR b=O9 (Value.slice a0 (OQ r) k0) then 5 else if OR b=O9 (Value.slice a1 (OQ q) k1) then 6 else 0) else l.own b,a0:=a0,k0:=k0,a1:=a1,k1:=k1},?_,?_,rfl,rfl⟩
 ·have ho:∀b,l.own b≠0->¬I (G w)<=b:=λb hb=>by have:=h.lt b hb;omega
  have he:∀b,l.own b≠0->(if I (G w)<=b then(if OR b=O9 (Value.slice a0 (OQ r) k0) then 5 else if OR b=O9 (Value.slice a1 (OQ q) k1) then 6 else 0) else l.own b)=l.own b:=λb hb=>(by grind)
  have hk:∀b,l.own b≠0->l.own b≠3->_=_:=λb hb g=>fr.block b (by grind) (λc=>g (by rw[c];exact h.g3.so))
  refine {cY:=(by grind [bo,cY]),bo:=?_,g2:=?_,g3:=?_,g4:=?_,lt:=?_}
  ·grind [bo]
  ·exact {
    mp:=h.g2.mp.same (hk _ (by rw[h.g2.dy];decide) (by rw[h.g2.dy];decide)),mn:=h.g2.mn,dy:=(he _ (by rw[h.g2.dy];decide)).trans h.g2.dy
    fl:=λi hi=>cK (h.g2.fl i hi) (λk e=>hk k (by rw[h.g2.fC i hi k e];omega) (by rw[h.g2.fC i hi k e];omega))
    fC:=λi hi k e=>(he k (by rw[h.g2.fC i hi k e];omega)).trans (h.g2.fC i hi k e),fY:=h.g2.fY,al:=h.g2.al}
  ·refine {sd:=f,so:=(he _ (by rw[h.g3.so];decide)).trans h.g3.so,ro:=λk e=>?_,nG:=λk e=>?_}
   all_goals grind
  ·exact {rt:=(by grind [G4.ro,g4,G4.rt]),rl:=h.g4.rl,ro:=(he _ (by rw[h.g4.ro];decide)).trans h.g4.ro}
  ·intro b hb;dsimp only at hb;by_cases c:I (G w)<=b
   ·rw[aN c] at hb;by_cases c1:OR b=O9 (Value.slice a0 (OQ r) k0)
    ·exact(cu f.r0 b c1).2
    ·rw[aJ c1] at hb;by_cases c2:OR b=O9 (Value.slice a1 (OQ q) k1)
     ·exact(cu f.q0 b c2).2
     grind
   grind [Fr.size,aL]
 grind
theorem Ke {c:ik}{d:ck}(h:dO b7 ce grow c d w')(f:c.rb=rb)(g:∀b,F b↔l.own b≠0)(fr:Fr (λb=>l.own b≠0) w w')(ho:∀b,c.own b≠0->l.own b≠0\/I (G w)<=b):∃e,(cG b7 ce grow rb).J e d w'/\b9 F w e w':=
 ⟨λb=>c.own b≠0,⟨c,h,f,λ_=>gp⟩,(by grind [Fr.mono]),λb hb=>(by grind)⟩
theorem KF (h:(cG b7 ce grow rb).J F s w)(g z:Int)(h0:OQ s.rg<=90000)(f:OQ s.wt<=90000):∃bp,V w (av b7 5)=OR (aq bp)/\
 M prog 167 #[aq bp,bz #[ak g,ak z]] w λe w'=>∃F',e=Q (.bool (!kV (OQ s.rg+OQ s.wt)))/\(cG b7 ce grow rb).J F' (if 24<=OQ s.rg+OQ s.wt then s else {s with rg:=s.rg++[(g,z)]}) w'/\b9 F w F' w'/\w'.heap[b7]?=w.heap[b7]?:=by
 obtain⟨l,h,hrb,hF⟩:=h;obtain⟨_,_,_,_,_,i,_,_,ti⟩:=h.cells;refine⟨l.bp,i,(zV w l.bp l.a0 l.a1 l.k0 l.k1 s.rg s.wt g z h.g3.sd h0 f).mono ?_⟩
 rintro e w' ⟨rfl,⟨d,hb⟩|⟨d,b1,c1,m,hn,fr⟩⟩
 ·rw[aN d];exact⟨F,rfl,⟨l,h.below hb,hrb,hF⟩,b9.of hb,hb.block b7 ti⟩
 ·rw[aJ d];obtain⟨o,g1,g2,_,g4⟩:=h.side m fr (λk e=>aI (by cases e;omega)) (λk e=>aK (h.g3.nG k e)) (λk hk e n=>by have:=(cu h.g3.sd.q0 k n).2;omega)
  exact BW
theorem KG (h:(cG b7 ce grow rb).J F s w)(g:Int)(d:OQ s.wt<=90000):∃bp,V w (av b7 5)=OR (aq bp)/\
 M prog 281 #[aq bp,ak g] w λe w'=>∃F',e=Q (ay #[ak (if eh g s.wt<OQ s.wt then(X s.wt (eh g s.wt) (0,0)).2 else 0),.bool (decide (eh g s.wt<OQ s.wt))])/\
  (cG b7 ce grow rb).J F' (if eh g s.wt<OQ s.wt then {s with wt:=s.wt.take (eh g s.wt)++s.wt.drop (eh g s.wt+1)} else s) w'/\b9 F w F' w'/\w'.heap[b7]?=w.heap[b7]?:=by
 obtain⟨l,h,hrb,hF⟩:=h;obtain⟨_,_,_,_,_,f,_,_,ti⟩:=h.cells;refine⟨l.bp,f,(Bm w l.bp l.a0 l.a1 l.k0 l.k1 s.rg s.wt g h.g3.sd d).mono ?_⟩
 rintro e w' (⟨rfl,hn,hb⟩|⟨i,b1,c1,rfl,hi,m,hn,n,hz,fr⟩)
 ·have hp:¬eh g s.wt<OQ s.wt:=by grind [eh]
  rw[aJ hp,aJ hp,bk hp];exact⟨F,rfl,⟨l,h.below hb,hrb,hF⟩,b9.of hb,hb.block b7 ti⟩
 ·rw[(KE hi m hn),aN hi,aN hi,bm hi];obtain⟨o,g1,g2,_,g4⟩:=h.side n fr (λk e=>aK (h.g3.ro k e)) (λk e=>aI (by
   cases b1 with
   |none=>cases e
   |some z=>cases e;grind)) (λk hk e p=>by
   have:=(cu h.g3.sd.r0 k e).2;omega)
  exact BW
end
end Go.Proofs.YtjckpdepffejnaaGreatDoor
