import Derived.Test.YtjckpdepffejnaaGreatDoorJ03
import Derived.Tactics
import Derived.Tactics2
import Derived.Recover
import Derived.Laws.EntriesVeiled
open Array renaming size->I
open Bool renaming false->O4,true->O5
open Go renaming Addr->bB,Calls->M,Value->a7,splice->lF
open Go.Ending renaming returned->OV
open Go.IntKind renaming i64->OW
open Go.Obj renaming cells->E
open Go.Proofs.Tryz renaming prog->J
open Go.RowKit renaming Below->O,intOf->bG
open Go.Value renaming bool->bA,int->U,ownBlock->O9,pointer->bq,slice->Z
open Go.World renaming alloc->bu,cell?->V,frozen?->bF,heap->G,ownsRow->aC,setCell->P
open Int renaming toNat->K
open List renaming filter_append->Fb,filter_cons->OL,getD->X,length->L,length_filter_le->bX,map_append->bV,map_congr_left->sQ,mem_append->bw,mem_filter->bK,range->lg,range_succ->vT
open Option renaming none->O0,some->OR
namespace Go.Proofs.YtjckpdepffejnaaGreatDoor
set_option maxRecDepth 100000
set_option maxHeartbeats 2000000
open Tryz
open Go.RowKit W Kp ch
theorem uT {P:Prop}(h:P:=by simp only [World.setCell,Array.getElem?_modify,if_true,h,Option.map_some];simp):P:=h
theorem y5:ef 246:=g9 func246 ah rfl
theorem Fp:ef 247:=g9 func247 ah rfl
theorem Fq:ef 251:=g9 func251 ah rfl
def y6:a7->Nat
 |Z _ n _=>n
 |_=>0
def rY (n m:Nat):Nat:=if n=0 then 0 else m+1
theorem Ft {c d y n:Nat}(hc:¬c=0)(h:y+n=d):rY y n<rY c d:=by grind [rY]
theorem uU {w:az}{a:bB}{p i:Nat}{v:a7}(h:a.block≠p):V (P w ⟨p,i,O0⟩ v) a=V w a:=aS (aW _ _ _ _ h)
theorem ib {w:az}{p:Nat}{x y v1 v2:a7}{T:TypeId}(h:w.heap[p]?=OR (E #[x,y] T (0,0))):(P (P w ⟨p,0,O0⟩ v1) ⟨p,1,O0⟩ v2).heap[p]?=OR (E #[v1,v2] T (0,0)):=by exact uT
theorem Fr.unbox {F:Nat->Prop}{w w':az}{p bl b bs:Nat}{d fk e:gI}(h:Fr (λk=>F k\/k=bl\/k=b\/k=bs) w w')(hB:kS w p bl b bs d fk e)(c:kS w' p bl b bs d fk e):Fr F w w':=
 ⟨h.os,h.tape,h.output,h.size,λk hk j=>by
  by_cases f:k=bl
  ·rw[f,hB.l,c.l]
  by_cases g:k=b
  ·rw[g,hB.g,c.g]
  by_cases i:k=bs
  ·rw[i,hB.s,c.s]
  grind [block]⟩
theorem ax(w:World):O (I (G w)) w w:=Below.refl _ w
theorem Fu {an:Type}(o:gh an)(D:Int->Prop)(l fk f:gI)(is:an->Int->Bool)(kp:an->Int->Int×an)(nw:an->Int->Int)(b5:ni o D l fk f is kp nw)(r:List b8)(b6:Option bB)(cs:Nat)(c7:o.vr=Z b6 (L r) cs)(hr:L r<=90000)(hD:∀e∈r,D e.1/\D e.2)
 (F:Nat->Prop)(s:an)(w:az)(dW:∀e∈o.wt (gu o is kp s r),D e.1/\D e.2)(eP:L (o.wt s)+L r<=90000)(bl b bs W:Nat)(be:o.J F s w)(hB:kS w o.p bl b bs l fk f)(ct:w.heap[W]?=OR (E #[oh b bl bs] 246 (0,0)))(b7:¬F bl)(b9:¬F b)(dX:¬F bs)(dY:¬F W)(dZ:W≠bl/\W≠b/\W≠bs)(c8:dQ w b6 r):
 M prog 249 #[aq bs,aq bl,aq W,aq b] w λe w'=>∃a1 c1 a2 c2 ca c9,e=OV (bA O5)/\o.J ca (gu o is kp s r) c9/\Fr (λk=>k=o.p) c9 w'/\
  w'.heap[o.p]?=OR (E #[Z a1 (L (fp o is kp nw s r)) c1,Z a2 (L (fq o is kp nw s r)) c2] 197 (0,0))/\aC w' (I (G w)) 247 2 (Z a1 (L (fp o is kp nw s r)) c1) (L (fp o is kp nw s r)) (ev (fp o is kp nw s r))/\
  aC w' (I (G w)) 247 2 (Z a2 (L (fq o is kp nw s r)) c2) (L (fq o is kp nw s r)) (ev (fq o is kp nw s r))/\Fr F w w'/\(∀k,ca k->F k\/I (G w)<=k)/\(∀k,OR k=O9 (Value.slice a1 (L (fp o is kp nw s r)) c1)->¬ca k)/\(∀k,OR k=O9 (Value.slice a2 (L (fq o is kp nw s r)) c2)->¬ca k)/\(∀k,OR k=O9 (Value.slice a1 (L (fp o is kp nw s r)) c1)->OR k≠O9 (Value.slice a2 (L (fq o is kp nw s r)) c2)):=by
 obtain⟨eQ,eR,hp,_,eS,_⟩:=o.side be;rw[c7] at hp;have c3:V w (av bs 0)=OR (aq o.p):=aD hB.s
 have eT:V w (av o.p 0)=OR (Z b6 (L r) cs):=aD hp
 have l1:bl<I (G w):=cj hB.l;have l2:b<I (G w):=cj hB.g;have eU:bs<I (G w):=cj hB.s;have d0:W<I (G w):=cj ct;have v:aA (ni o D l fk f is kp nw):=b5;have d1:aA (kS w o.p bl b bs l fk f):=hB;have eV:aA (∀e∈r,D e.1/\D e.2):=hD;have d2:aA (∀e∈o.wt (gu o is kp s r),D e.1/\D e.2):=dW;have d3:aA (w.heap[W]?=OR (E #[oh b bl bs] 246 (0,0))):=ct;have c0:V w (av bl 0)=OR l.v:=aD hB.l
 have cv:=uD (λe=>D e.1/\D e.2) 251 #[] #[aq bl] (λe=>is s e.2) Fq w (λw' e hd hs hk=>Fj o.todr D l is b5.ea b5.ha F s w' bl e hd.2 (o.keep be hs (λk h=>hk k (o.lt be k h))) ((aS (a:=⟨bl,0,O0⟩) (hk bl l1)).trans c0)) r b6 cs hD aa c8;obtain⟨A,cb⟩:∃A,aA (A=r.filter (λe=>is s e.2)):=⟨_,rfl⟩
 obtain⟨B,bg⟩:∃B,aA (B=r.filter (λe=>!is s e.2)):=⟨_,rfl⟩
 rw[<-cb.o,<-bg.o] at cv;have d4:L A<=90000:=by rw[cb.o];exact aQ (bX _ _) hr
 have da:L B<=90000:=by rw[bg.o];exact aQ (bX _ _) hr
 have d5:L (o.wt s)+L B<=90000:=by have:=bX (λe=>!is s e.2) r;rw[bg.o];omega
 have db:aA ((e5 (cm o is kp) (L B+1) s B).1=gu o is kp s r):=by show _=_;rw[bg.o];rfl
 have dc:aA (∀e∈A,D e.1/\D e.2):=λe he=>hD e (by rw[cb.o] at he;exact(bK.1 he).1)
 have d6:aA (∀e∈B,D e.1/\D e.2):=λe he=>hD e (by rw[bg.o] at he;exact(bK.1 he).1)
 have dd:aA ((boxed o bl b bs l fk f).J (λk=>F k\/k=bl\/k=b\/k=bs) s w):=⟨F,be,hB,b7,b9,dX,λk=>Iff.rfl⟩
 clear b5 be hp c7 c8 ct hD hB c0;go_enter func249,ntmps249;go_wp2_with fail;refine cv.mono ?_;clear cv;rintro e w1 ⟨a1,bi,a2,cw,rfl,cx,cy,cz⟩
 have de:Fr (λk=>F k\/k=bl\/k=b\/k=bs) w w1:=Fr.of cz;have df:=(boxed o bl b bs l fk f).below dd.o cz;have dg:aA (∀k,(F k\/k=bl\/k=b\/k=bs)->(F k\/k=bl\/k=b\/k=bs)\/I (G w)<=k):=λk h=>aK h;have cA:=(boxed o bl b bs l fk f).lt dd.o;have ao:aA (∀k,OR k=O9 (Value.slice a1 (L A) bi)->¬(F k\/k=bl\/k=b\/k=bs)):=λk e h=>by have:=(cu cx k e).1;have:=cA k h;omega
 have dh:aA (∀k,OR k=O9 (Value.slice a2 (L B) cw)->¬(F k\/k=bl\/k=b\/k=bs)):=λk e h=>by have:=(cu cy k e).1;have:=cA k h;omega
 clear cA cz;go_wp2_with fail
 go_loopw [6,7] (λcB vc wr=>∃(d C:List b8)(ad di:Option bB)(cd cc n:Nat)(aF:Nat->Prop)(s2:an),cB=Z ad (L d) cd/\vc=Z di (L C) cc/\aA (L C=0->s2=gu o is kp s r)/\aA (¬L C=0->(e5 (cm o is kp) n s2 d).1=gu o is kp s r/\L d<n)/\aA (∀e∈d,D e.1/\D e.2)/\L d<=90000/\L C<=90000/\L (o.wt s2)+L d<=90000/\
  aC wr (I (G w)) 247 2 (Z ad (L d) cd) (L d) (ev d)/\aC wr (I (G w)) 247 2 (Z a1 (L A) bi) (L A) (ev A)/\(boxed o bl b bs l fk f).J aF s2 wr/\Fr (λk=>F k\/k=bl\/k=b\/k=bs) w wr/\aA (∀k,aF k->(F k\/k=bl\/k=b\/k=bs)\/I (G w)<=k)/\
  aA (∀k,OR k=O9 (Value.slice a1 (L A) bi)->¬aF k)/\aA (∀k,OR k=O9 (Value.slice ad (L d) cd)->¬aF k)) (λcB vc _=>rY (y6 vc) (y6 cB))
 case atStart=>
  refine⟨B,B,a2,a2,cw,cw,L B+1,(λk=>F k\/k=bl\/k=b\/k=bs),s,rfl,rfl,λh=>?_,λ_=>⟨db.o,Nat.lt_succ_self _⟩,d6,da,da,d5,cy,cx,df,de,dg,ao,dh⟩
  rw[<-db.o,List.eq_nil_of_length_eq_zero h];rfl
 case round=>
  clear cx cy df de dg ao dh;obtain⟨d,C,ad,di,cd,cc,n,aF,s2,rfl,rfl,cC,ce,dj,eW,eX,eY,hd,bn,cD,ap,cE,ao,cF⟩:=hrel;by_cases cf:L C=0
  ·have cg:aA (s2=gu o is kp s r):=cC.o cf;obtain⟨ar,j0,ab,n1,dk,dl,d7⟩:=cD;have dm:V wr (av b 0)=OR (.func (.func 246) #[] #[aq bl]):=aD ab.g
   have dn:V wr (av bl 0)=OR l.v:=aD ab.l
   have dp:V wr (av bl 2)=OR (.func (.func f.f) f.b f.c):=aD ab.l
   have dq:V wr (av bs 0)=OR (aq o.p):=aD ab.s
   obtain⟨bo,bp,ch,dr,br,d8⟩:=o.side j0;have ds:V wr (av o.p 1)=OR (Z bo (L (o.wt s2)) bp):=aD ch
   have m1:=cj ab.l;have cG:=cj ab.g;have cH:=cj ab.s;have cI:=cj ch;have dt:=ap.size;have du:aA (∀(w':az)(e:b8),D e.1/\D e.2->I (G wr)<=I (G w')->(∀k,k<I (G wr)->w'.heap[k]?=wr.heap[k]?)->M prog 246 ((#[]:Array a7).push (en e)++#[aq bl]) w' λr d9=>r=OV (bA (is s2 e.1))/\O (I (G w')) w' d9):=
    λw' e hd hs hk=>y4 o.todr D l is v.o.ea v.o.ha ar s2 w' bl e hd.1 (o.keep j0 hs (λk h=>hk k (o.lt j0 k h))) ((aS (a:=⟨bl,0,O0⟩) (hk bl m1)).trans dn)
   have cJ:=uD (λe=>D e.1/\D e.2) 246 #[] #[aq bl] (λe=>is s2 e.1) y5 wr du.o A a1 bi dc.o aa (iQ bn)
   obtain⟨t,ci⟩:∃t,aA (t=A.filter (λe=>is s2 e.1)):=⟨_,rfl⟩
   rw[<-ci.o] at cJ;have eZ:L t<=90000:=by rw[ci.o];exact aQ (bX _ _) d4
   have ea:aA (∀e∈t,D e.1/\D e.2):=λe he=>dc.o e (by rw[ci.o] at he;exact(bK.1 he).1)
   have eb:L (o.wt s2)<=90000:=aa;have dv:aA (∀e∈o.wt s2,D e.1/\D e.2):=by rw[cg.o];exact d2
   obtain⟨u,ck⟩:∃u,aA (u=(o.wt s2).filter (λe=>is s2 e.1)):=⟨_,rfl⟩
   have e0:L u<=90000:=by rw[ck.o];exact aQ (bX _ _) eb
   have ec:aA (∀e∈u,D e.1/\D e.2):=λe he=>dv.o e (by rw[ck.o] at he;exact(bK.1 he).1)
   have cL:aA (kS wr o.p bl b bs l fk f):=ab;have ed:aA (o.J ar s2 wr):=j0;have ee:aA (i_ wr bo (o.wt s2) bp):=dr;have dw:aA (Fr (λk=>F k\/k=bl\/k=b\/k=bs) w wr):=ap;clear hd bn ab j0 dr ap cC ce ao cF d8;go_wp2_with fail;refine cJ.mono ?_;clear cJ;rintro e cM ⟨b1,cN,b2,cO,rfl,cP,_,S⟩
   have cQ:=uD (λe=>D e.1/\D e.2) 246 #[] #[aq bl] (λe=>is s2 e.1) y5 cM.drew (λw' e hd hs hk=>du.o w' e hd (aQ S.size hs) (λk h=>(hk k (aL h S.size)).trans (S.block k h))) (o.wt s2) bo bp dv.o aa (ee.o.lp.below S.drew)
   rw[<-ck.o] at cQ;have dx:=(S.cell (p:=av b 0) cG).trans dm;have dy:=(S.cell (p:=av bs 0) cH).trans dq;have dz:=(S.cell (p:=av o.p 1) cI).trans ds;have dA:=(S.cell (p:=av bl 2) m1).trans dp;go_wp2_with fail;have bt:=S.size
   go_region_held3 (λw'=>V w' (av bs 0)=OR (aq o.p)/\V w' (av o.p 1)=OR (Z bo (L (o.wt s2)) bp)/\V w' (av b 0)=OR (.func (.func 246) #[] #[aq bl])) (go_keep)
    (first|(go_at_call 250;refine cQ.mono ?_;rintro e g ⟨ef,eg,e1,e2,rfl,dB,_,al⟩;have eh:=(al.cell (p:=av b 0) (aL cG bt)).trans dx;have cR:=(al.cell (p:=av bs 0) (aL cH bt)).trans dy;have ei:=(al.cell (p:=av o.p 1) (aL cI bt)).trans dz;have cS:=(al.cell (p:=av bl 2) (aL m1 bt)).trans dA))
   have bx:O (I (G wr)) wr g:=S.drew.trans (al.mono bt)
   have e3:I (G cM)<=I (G g):=al.size;have dC:=cK (w:=cM) cP (λk e=>al.block k (cu cP k e).2)
   have cl:=o.below ed.o bx;have dD:=(bx.block o.p cI).trans ch;have dE:o.p≠bs:=λe=>dl (by rw[<-e];exact br)
   have dG:o.p≠bl:=λe=>n1 (by rw[<-e];exact br)
   have ej:o.p≠b:=λe=>dk (by rw[<-e];exact br)
   have dH:aA (∀k,ar k->F k\/I (G w)<=k):=λk h=>by grind [Hid.out]
   have ek:aA (ar o.p):=br;have dI:o.p<I (G g):=cj dD;have dJ:bs<I (G g):=aa;have dK:bl<I (G g):=aa;have el:L t<=100000:=aa;have em:L u<=100000:=aa;have dL:=iQ dC;have dM:=iQ dB;have cT:=o.below cl (ax g).drew;have dN:=dL.below (ax g).drew;have dO:=dM.below (ax g).drew;clear cP al S dx dy dz dA dn dm dq ds dp cQ eh ei ch br n1 dk dl d7;go_wp2_with fail
   go_region_held3 (λw'=>V w' (av bs 0)=OR (aq o.p)/\V w' (av bl 2)=OR (.func (.func f.f) f.b f.c)) (first|exact⟨cR,cS⟩|exact⟨cU,cV⟩|exact⟨cW,cX⟩|exact⟨(uU dE.symm).trans cW,(uU dG.symm).trans cX⟩|grind [uU])
    (first
      |(have e4:=ag;go_at_call 252;refine(yJ o.todr D f.f f.b f.c nw v.o.en v.o.ht u ef eg ar s2 _ ec.o em (o.below cT ag) (dO.below ag)).mono ?_;rintro e q ⟨aR,aV,rfl,ai,aB⟩;have e6:=aB.size;have cW:=(aB.cell (p:=av bs 0) (aL dJ b0)).trans cU;have cX:=(aB.cell (p:=av bl 2) (aL dK b0)).trans cV;have b3:=(aB.block o.p (aL dI b0)).trans ((ag.block o.p dI).trans dD);have q0:V q (av o.p 0)=OR o.vr:=aD b3;have q1:V q (av o.p 1)=OR (Z bo (L (o.wt s2)) bp):=aD b3;have eo:bF q (av o.p 0)=O4:=aE b3;have ep:bF q (av o.p 1)=O4:=(by simp[World.frozen?,b3]))
      |(go_at_call 252;refine(yJ o.todr D f.f f.b f.c nw v.o.en v.o.ht t b1 cN ar s2 _ ea.o el cT dN).mono ?_;rintro e cn ⟨a0,bb,rfl,am,ag⟩;have b0:=ag.size;have cU:=(ag.cell (p:=av bs 0) dJ).trans cR;have cV:=(ag.cell (p:=av bl 2) dK).trans cS))
   have eq:O (I (G g)) g cn:=(ax g).drew.trans (ag.mono bY)
   have dP:O (I (G g)) g q:=eq.trans (aB.mono b0)
   have co:O (I (G wr)) wr q:=bx.trans (dP.mono bx.size)
   have er:=o.below cl dP;have es:aA (aC cn (I (G g)) 247 2 (Z a0 (L t) bb) (L t) (ev (t.map λe=>(nw s2 e.1,nw s2 e.2)))):=am;have et:aA (aC q (I (G g)) 247 2 (Z aR (L u) aV) (L u) (ev (u.map λe=>(nw s2 e.1,nw s2 e.2)))):=fA ai (λk e=>aQ b0 (cu ai k e).1)
   have eu:aA (O (I (G cn)) cn q):=aB;have ew:aA (∀k,OR k=O9 (Value.slice a0 (L t) bb)->OR k≠O9 (Value.slice aR (L u) aV)):=λk e ex=>by have b7:=(cu am k e).2;have b9:=(cu ai k ex).1;omega
   clear am ai ag aB dN dO cT dL dM dC dB cU cV cW cX cR cS q0 q1 eo ep;go_wp2_with fail;go_ret;have ey:fp o is kp nw s r=t.map λe=>(nw s2 e.1,nw s2 e.2):=by unfold fp;rw[<-cg.o,<-cb.o,<-ci.o]
   have ez:fq o is kp nw s r=u.map λe=>(nw s2 e.1,nw s2 e.2):=by unfold fq;rw[<-cg.o,<-ck.o]
   have b4:∀k,k≠o.p->(P (P q ⟨o.p,0,O0⟩ (Z a0 (L t) bb)) ⟨o.p,1,O0⟩ (Z aR (L u) aV)).heap[k]?=q.heap[k]?:=λk hk=>(aW _ _ _ _ hk).trans (aW _ _ _ _ hk)
   have am:=es.o;have ai:=et.o;have dR:=dw.o.size;have dS:=bx.size;have eA:kS (P (P q ⟨o.p,0,O0⟩ (Z a0 (L t) bb)) ⟨o.p,1,O0⟩ (Z aR (L u) aV)) o.p bl b bs l fk f:=
    ⟨(b4 bl dG.symm).trans ((co.block bl m1).trans cL.o.l),(b4 b ej.symm).trans ((co.block b cG).trans cL.o.g),(b4 bs dE.symm).trans ((co.block bs cH).trans cL.o.s)⟩
   have dT:Fr (λk=>k=o.p) q (P (P q ⟨o.p,0,O0⟩ (Z a0 (L t) bb)) ⟨o.p,1,O0⟩ (Z aR (L u) aV)):=((Fr.refl (λk=>k=o.p) q).set o.p 0 _ rfl).set o.p 1 _ rfl;rw[ey,ez,a5,a5,<-cg.o];refine⟨a0,bb,aR,aV,ar,q,rfl,er,dT,ib b3,?_,?_,?_,dH.o,λk e h=>?_,λk e h=>?_,ew.o⟩
   ·refine fA (cK am (λk e=>?_)) (λk e=>aQ (aQ dR dS) (cu am k e).1)
    have:=cu am k e;exact(b4 k aa).trans (eu.o.block k this.2)
   ·refine fA (cK ai (λk e=>?_)) (λk e=>aQ (aQ dR dS) (cu ai k e).1)
    have:=cu ai k e;exact b4 k aa
   ·exact((dw.o.trans (Fr.of (X:=λ_=>False) co) (λ_ c=>c.elim)).trans dT (λi c=>by rw[c];exact(dH.o o.p ek.o).imp aK id)).unbox d1.o eA
   ·have:=o.lt cl k h;have:=(cu am k e).1;omega
   ·have:=o.lt cl k h;have:=(cu ai k e).1;omega
  ·have eB:V wr (av W 0)=OR (oh b bl bs):=by
    have hk:=ap.block W d0 (by simp[dY,dZ])
    simp[World.cell?,hk,d3.o]
   have dU:∀j,j<L d->∀x,L (o.wt (kp (dF (cm o is kp) s2 (d.take j)).2.2 x).2)<=90000:=λj e7 x=>by
    have b7:=uS o is kp v.o.hl s2 (d.take j)
    have b9:=qn (cm o is kp) s2 (d.take j)
    rw[v.o.hl,b7];simp at b9;omega
   have cp:=ye (boxed o bl b bs l fk f) (λe=>D e.1/\D e.2) (λs=>∀x,L (o.wt (kp s x).2)<=90000) 247 #[] #[aq b,aq bl,aq bs] (cm o is kp) Fp (Fl o bl b bs D l fk f is kp v.o.ea v.o.gS v.o.ha v.o.hk) d ad cd aF s2 wr dj.o dU aa cD ((iQ hd).apart (λ_ z e=>cF.o z.block (by rw[e];rfl)))
   obtain⟨Y,N,bd,cY⟩:∃Y N bd,aA (dF (cm o is kp) s2 d=(Y,N,bd)):=⟨_,_,_,rfl⟩
   have cZ:=qn (cm o is kp) s2 d;have c4:=uS o is kp v.o.hl s2 d;have cq:=uR (cm o is kp) s2 d;rw[cY.o] at cp cZ cq c4;dsimp only at cp cZ cq c4;have eC:L (o.wt bd)+L N<=90000:=aa;clear c4 dU;obtain⟨n,rfl⟩:∃m,n=m+1:=⟨n-1,by have:=(ce.o cf).2;omega⟩
   have eD:aA (L Y=0->bd=gu o is kp s r):=λh=>by
    have e:=og (cm o is kp) n s2 d (by rw[cY.o];exact h)
    rw[<-(ce.o cf).1,e,cY.o]
   have eE:aA (¬L Y=0->(e5 (cm o is kp) n bd N).1=gu o is kp s r/\L N<n):=λh=>by grind [nh,Hid.out]
   have eF:aA (∀e∈N,D e.1/\D e.2):=λe he=>dj.o e (cq e (aI he))
   clear cq;go_wp2_with fail;refine cp.mono ?_;clear cp;rintro e e8 ⟨b1,cN,b2,cO,cr,rfl,eG,hN,eH,c5,c6,eI,dV⟩
   have dt:=ap.size;have eJ:aA (∀k,cr k->(F k\/k=bl\/k=b\/k=bs)\/I (G w)<=k):=λk h=>(c6 k h).elim (cE.o k) (λh=>aI aa)
   have eK:aA (∀k,OR k=O9 (Value.slice a1 (L A) bi)->¬cr k):=λk e h=>(c6 k h).elim (ao.o k e) (λh=>by have:=(cu bn k e).2;omega)
   have eL:aA (∀k,OR k=O9 (Value.slice b2 (L N) cO)->¬cr k):=dV;have eM:=iq bn c5 ao.o;have eN:=ap.trans c5 cE.o;have eO:=fA hN (base':=I (G w)) (λk e=>aQ dt (cu hN k e).1)
   clear c6 eI dV eG hN bn ap c5 cD cE ao cF hd cC ce eB;go_wp2_with fail;go_roundw
   case rel=>exact⟨N,Y,b2,b1,cO,cN,n,cr,bd,rfl,rfl,eD,eE,eF,aa,aa,eC,eO,eM,eH,eN,eJ,eK,eL⟩
   case measure=>
    exact Ft cf cZ
theorem Fw (a b c:bB)(w:az):
 CallsD J 300 #[bq (OR a),bq (OR b),bq (OR c)] .returning w λe d w'=>e=OV (.tuple #[])/\d=.returning/\w'=w:=by
 refine callsD_of_wpS func300 rfl λf i g=>?_;apply wpS_seq;apply wpS_region;simp[wpOpsS,go_sem,recoverD,g,ntmps300,Exit.thenS];refine wpS_cond (t:=O4) af ?_;refine wpS_of_wp (wp_skip ?_)
 cases f
 simp_all [bodyPostS,results,results300]
theorem y7 (f:Nat)(b c:Array a7)(i:ef f)(w:az)(p:Nat)(a0 a1:Option bB)(n0 k0 n1 k1:Nat)(c0:V w (av p 0)=OR (Z a0 n0 k0))(c1:V w (av p 1)=OR (Z a1 n1 k1))(R:Bool->az->Prop)
 (h:∀w1,w1=bu (bu (bu w (E #[bq (OR ⟨p,0,O0⟩)] 123)) (E #[bA O4] 4)) (E #[Z a0 n0 k0,Z a1 n1 k1] 197)->M J f (b++c) w1 λr d=>∃g,r=OV (bA g)/\R g d/\d.heap[I (G w)+1]?=OR (E #[bA O4] 4 (0,0))):
 M J 248 #[aq p,.func (.func f) b c] w λe w'=>∃g d,e=OV (bA g)/\R g d/\d.heap[I (G w)+1]?=OR (E #[bA O4] 4 (0,0))/\w'=P d ⟨I (G w)+1,0,O0⟩ (bA g):=by
 have k:=aT w _ c0;have H:=cg h;clear h;have l:∀(args:Array a7)(w:az),(callFunc f args).run J w=.ok (.enter f args) w:=i;clear i
 go_enter_defers func248,ntmps248
 go_wp2_with fail;refine(H.o _ rfl).mono ?_;rintro e d ⟨g,rfl,m,hk⟩
 have j:V d (av (I (G w)+1) 0)=OR (bA O4):=aD hk
 have n:bF d (av (I (G w)+1) 0)=O4:=aE hk
 go_wp2_with fail;refine leaves_cons (f:=300) (args:=#[aq (I (G w)+1+1),aq (I (G w)),aq (I (G w)+1)]) ac (by simp[go_sem]) ?_;refine(Fw _ _ _ _).mono ?_;rintro e o q ⟨rfl,rfl,rfl⟩
 simp[Leaves,settle,results,results248,go_sem,(a6 _ _ _ j)];cases g
 all_goals grind
theorem Fx:ef 249:=g9 func249 ah rfl
theorem rZ {p:Type}(o:gh p)(D:Int->Prop)(j fk l:gI)(is:p->Int->Bool)(kp:p->Int->Int×p)(nw:p->Int->Int)(ap:ni o D j fk l is kp nw)(r:List b8)(t:Option bB)(x:Nat)(al:o.vr=Z t (L r) x)(hr:L r<=90000)(hD:∀e∈r,D e.1/\D e.2)
 (F:Nat->Prop)(s:p)(w:az)(ar:∀e∈o.wt (gu o is kp s r),D e.1/\D e.2)(aB:L (o.wt s)+L r<=90000)(B:o.J F s w)(aF:dQ w t r):
 M prog 179 #[aq o.p,.agg #[j.v,fk.v,l.v]] w λe w'=>∃a1 c1 a2 c2 b f,e=OV (.tuple #[])/\o.J b (gu o is kp s r) f/\(∀k,b k->k≠o.p->w'.heap[k]?=f.heap[k]?)/\I (G f)<=I (G w')/\
  w'.heap[o.p]?=OR (E #[Z a1 (L (fp o is kp nw s r)) c1,Z a2 (L (fq o is kp nw s r)) c2] 197 (0,0))/\aC w' (I (G w)) 247 2 (Z a1 (L (fp o is kp nw s r)) c1) (L (fp o is kp nw s r)) (ev (fp o is kp nw s r))/\
  aC w' (I (G w)) 247 2 (Z a2 (L (fq o is kp nw s r)) c2) (L (fq o is kp nw s r)) (ev (fq o is kp nw s r))/\Fr F w w'/\(∀k,b k->F k\/I (G w)<=k)/\(∀k,OR k=O9 (Value.slice a1 (L (fp o is kp nw s r)) c1)->¬b k)/\(∀k,OR k=O9 (Value.slice a2 (L (fq o is kp nw s r)) c2)->¬b k)/\(∀k,OR k=O9 (Value.slice a1 (L (fp o is kp nw s r)) c1)->OR k≠O9 (Value.slice a2 (L (fq o is kp nw s r)) c2)):=by
 obtain⟨am,an,hp,_,bi,_⟩:=o.side B;rw[al] at hp;have c0:V w (av o.p 0)=OR (Z t (L r) x):=aD hp
 have c1:V w (av o.p 1)=OR (Z am (L (o.wt s)) an):=aD hp
 have lp:=cj hp;have aR:aA (∀w1,O (I (G w)) w w1->kS w1 o.p (I (G w)+1) (I (G w)+2) (I (G w)) j fk l->w1.heap[I (G w)+3]?=OR (E #[oh (I (G w)+2) (I (G w)+1) (I (G w))] 246 (0,0))->M prog 249 #[aq (I (G w)),aq (I (G w)+1),aq (I (G w)+3),aq (I (G w)+2)] w1 λe w'=>∃a1 c1 a2 c2 b f,e=OV (bA O5)/\o.J b (gu o is kp s r) f/\Fr (λk=>k=o.p) f w'/\
  w'.heap[o.p]?=OR (E #[Z a1 (L (fp o is kp nw s r)) c1,Z a2 (L (fq o is kp nw s r)) c2] 197 (0,0))/\aC w' (I (G w1)) 247 2 (Z a1 (L (fp o is kp nw s r)) c1) (L (fp o is kp nw s r)) (ev (fp o is kp nw s r))/\
  aC w' (I (G w1)) 247 2 (Z a2 (L (fq o is kp nw s r)) c2) (L (fq o is kp nw s r)) (ev (fq o is kp nw s r))/\Fr F w1 w'/\(∀k,b k->F k\/I (G w1)<=k)/\(∀k,OR k=O9 (Value.slice a1 (L (fp o is kp nw s r)) c1)->¬b k)/\(∀k,OR k=O9 (Value.slice a2 (L (fq o is kp nw s r)) c2)->¬b k)/\(∀k,OR k=O9 (Value.slice a1 (L (fp o is kp nw s r)) c1)->OR k≠O9 (Value.slice a2 (L (fq o is kp nw s r)) c2))):=by
  intro w1 hb hB hc;have q:∀k,I (G w)<=k->¬F k:=λk hk h=>by have:=o.lt B k h;omega
  exact Fu o D j fk l is kp nw ap r t x al hr hD F s w1 ar aB _ _ _ _ (o.below B hb) hB hc (by grind) (by grind) (by grind) (by grind) aa (aF.below hb)
 have aV:=cg B;go_enter func179,ntmps179;go_wp2_with fail;have n:∃d,d=bu (bu (bu (bu w (E #[bq (OR ⟨o.p,0,O0⟩)] 123)) (E #[j.v,fk.v,l.v] 258)) (E #[.func (.func 246) #[] #[bq (OR ⟨I (G w)+1,0,O0⟩)]] 246)) (E #[oh (I (G w)+1+1) (I (G w)+1) (I (G w))] 246):=(by grind)
 obtain⟨d,n⟩:=n;have sz:I (G d)=I (G w)+4:=by rw[n];simp
 have ao:O (I (G w)) w d:=by rw[n];exact((((aH _ w).alloc aa _).alloc ac _).alloc (by simp;omega) _).alloc (by simp;omega) _
 have g0:d.heap[I (G w)]?=OR (E #[aq o.p] 123 (0,0)):=by grind [aU,aO]
 have g1:d.heap[I (G w)+1]?=OR (E #[j.v,fk.v,l.v] 258 (0,0)):=by grind [aU,aO]
 have g2:d.heap[I (G w)+2]?=OR (E #[.func (.func 246) #[] #[aq (I (G w)+1)]] 246 (0,0)):=by grind [aU,aO]
 have g3:d.heap[I (G w)+3]?=OR (E #[oh (I (G w)+1+1) (I (G w)+1) (I (G w))] 246 (0,0)):=by rw[n];simpa using aO (bu (bu (bu w (E #[bq (OR ⟨o.p,0,O0⟩)] 123)) (E #[j.v,fk.v,l.v] 258)) (E #[.func (.func 246) #[] #[bq (OR ⟨I (G w)+1,0,O0⟩)]] 246)) (E #[oh (I (G w)+1+1) (I (G w)+1) (I (G w))] 246)
 rw[<-n];have P:=y7 249 #[] #[aq (I (G w)),aq (I (G w)+1),aq (I (G w)+1+1+1),aq (I (G w)+1+1)] Fx d o.p t am (L r) x (L (o.wt s)) an (by grind [Below.cell]) (by grind [Below.cell])
  (λ_ g=>∃a1 c1 a2 c2 b f,o.J b (gu o is kp s r) f/\Fr (λk=>k=o.p) f g/\
    g.heap[o.p]?=OR (E #[Z a1 (L (fp o is kp nw s r)) c1,Z a2 (L (fq o is kp nw s r)) c2] 197 (0,0))/\aC g (I (G w)+7) 247 2 (Z a1 (L (fp o is kp nw s r)) c1) (L (fp o is kp nw s r)) (ev (fp o is kp nw s r))/\
    aC g (I (G w)+7) 247 2 (Z a2 (L (fq o is kp nw s r)) c2) (L (fq o is kp nw s r)) (ev (fq o is kp nw s r))/\Fr F w g/\(∀k,b k->F k\/I (G w)+7<=k)/\(∀k,OR k=O9 (Value.slice a1 (L (fp o is kp nw s r)) c1)->¬b k)/\(∀k,OR k=O9 (Value.slice a2 (L (fq o is kp nw s r)) c2)->¬b k)/\(∀k,OR k=O9 (Value.slice a1 (L (fp o is kp nw s r)) c1)->OR k≠O9 (Value.slice a2 (L (fq o is kp nw s r)) c2)))
  (by
    intro w1 a0;have s1:I (G w1)=I (G w)+7:=by grind [bh]
    have b1:O (I (G d)) d w1:=by rw[a0];exact(((aH _ d).alloc aa _).alloc ac _).alloc (by simp;omega) _
    have hk:w1.heap[I (G d)+1]?=OR (E #[bA O4] 4 (0,0)):=by grind [aU,aO]
    have b2:=ao.trans (b1.mono aa)
    refine(aR.o w1 b2 ⟨(by grind [Below.block]),(by grind [Below.block]),(by grind [Below.block])⟩ (by grind [Below.block])).mono ?_;rintro e g ⟨a1,c1,a2,c2,b,f,rfl,q1,S,q3,u,v,N,W,ab,ad,ag⟩
    rw[s1] at u v W;refine⟨O5,rfl,⟨a1,c1,a2,c2,b,f,q1,S,q3,u,v,(Fr.of (X:=F) b2).trans N (by grind),W,ab,ad,ag⟩,(N.block _ aa (λh=>?_)).trans hk⟩
    have:=o.lt aV.o _ h;omega)
 refine P.mono ?_;rintro e bl ⟨bb,g,rfl,⟨a1,bd,a2,be,b,f,q1,S,q3,u,v,N,W,ab,ad,ag⟩,hk,rfl⟩
 obtain⟨m,hm⟩:∃m,m=I (G d)+1:=(by grind)
 rw[<-hm];have bg:aA (m=I (G w)+5):=by show m=_;omega
 clear hm hk ao g0 g1 g2 g3 sz n;go_wp2_with fail;go_end0;have hm:=bg.o;have ai:∀k,k≠m->(g.setCell ⟨m,0,O0⟩ (bA bb)).heap[k]?=g.heap[k]?:=λk hk=>aW _ _ _ _ hk;refine⟨a1,bd,a2,be,b,f,rfl,q1,λk bn bo=>?_,?_,(ai _ aa).trans q3,?_,?_,N.trans ((Fr.refl (λk=>k=m) g).set _ 0 _ rfl) (λi c=>aI aa),λk h=>(by grind),ab,ad,ag⟩
 ·grind [dr.lt,Fr.block]
 ·have:=S.size;simpa[World.setCell] using this
 ·exact fA (cK u (λk e=>ai k (by have:=(cu u k e).1;omega))) (by grind [cu])
 ·exact fA (cK v (λk e=>ai k (by have:=(cu v k e).1;omega))) (by grind [cu])
def dj {u:Type}(o:dr u)(p:Nat)(vr:a7):gh (u×List b8) where
 J F s w:=∃b ad cap,o.J b s.1 w/\w.heap[p]?=OR (E #[vr,Z ad (L s.2) cap] 197 (0,0))/\aC w 0 247 2 (Z ad (L s.2) cap) (L s.2) (ev s.2)/\(∀k,b k->F k)/\F p/\¬b p/\(∀k,OR k=O9 (Value.slice ad (L s.2) cap)->F k/\¬b k)/\(∀k,F k->k<I (G w))
 lt:=by rintro F t w ⟨b,ad,cap,n,c,d,f,i,l,m,j⟩ k hk;exact j k hk
 keep:=by rintro F t w w' ⟨b,ad,cap,n,c,d,f,i,l,m,j⟩ hs hk;exact⟨b,ad,cap,o.keep n hs (λk h=>hk k (f k h)),(hk p i).trans c,cK d (λk e=>hk k (m k e).1),f,i,l,m,λk h=>aL (j k h) hs⟩
 p:=p
 vr:=vr
 wt s:=s.2
 put s q:=(s.1,q)
 side:=by
  rintro F s w ⟨b,ad,cap,n,c,d,f,i,l,m,j⟩
  refine⟨ad,cap,c,⟨iQ d,?_,?_⟩,i,λhp z e=>(m z.block (by rw[e];rfl)).1⟩
  ·rcases d.2 with⟨hv,h0⟩|⟨g,B,N,hv,_,_,hc,_⟩
   ·omega
   ·simp at hv;omega
  ·intro S;rcases d.2 with⟨hv,h0⟩|⟨g,B,N,hv,_⟩
   ·simp at hv;exact⟨h0,hv.2.2⟩
   ·rw[S] at hv;simp at hv
 set:=by
  rintro F s w ⟨b,ad,cap,n,c,d,f,i,l,m,j⟩ w1 q b1 g_ hb v;have lp:=cj c;have ab:=cu v b1 rfl;have x:∀k,k≠p->(P w1 ⟨p,1,O0⟩ (Z (OR ⟨b1,0,O0⟩) (L q) g_)).heap[k]?=w1.heap[k]?:=λk hk=>aW _ _ _ _ hk;have hs:I (G (P w1 ⟨p,1,O0⟩ (Z (OR ⟨b1,0,O0⟩) (L q) g_)))=I (G w1):=by simp[World.setCell]
  have ag:=hb.size;refine⟨b,au b1,g_,o.keep (o.below n hb) (by rw[hs];exact aG _) (λk h=>x k (λe=>l (by rw[<-e];exact h))),?_,fA (cK v (λk e=>x k (by simp[Value.ownBlock] at e;omega))) (λ_ _=>a4 _),λk h=>aK (f k h),aK i,l,λk e=>?_,λk h=>?_⟩
  ·have W:=(hb.block p lp).trans c;simp only [World.setCell,Array.getElem?_modify,if_true,W,Option.map_some];simp
  ·simp[Value.ownBlock] at e;exact⟨aI e,λh=>by have:=j k (f k h);omega⟩
  ·rw[hs];rcases h with h|h
   ·have:=j k h;omega
   ·omega
 rX:=λ_ _=>rfl
theorem r2 {b:Type}(o:dr b)(p:Nat)(vr:a7)(D:Int->Prop)(c fk d:gI)(is:b->Int->Bool)(kp:b->Int->Int×b)(nw:b->Int->Int)(ea:ef c.f)(gS:ef fk.f)(en:ef d.f)(ha:lu o D c.f c.b c.c is)(hk:pd o D fk.f fk.b fk.c kp)(ht:mM o D d.f d.b d.c nw):
 ni (dj o p vr) D c fk d (λs x=>is s.1 x) (λs x=>((kp s.1 x).1,((kp s.1 x).2,s.2))) (λs x=>nw s.1 x) where
 ea:=ea
 gS:=gS
 en:=en
 ha:=by
  rintro F s w x hD ⟨f,ad,cap,g,_⟩
  exact ha f s.1 w x hD g
 hk:=by
  rintro F s w x hD _ ⟨f,ad,cap,g,j,n,q,t,u,v,B⟩
  refine(hk f s.1 w x hD g).mono ?_;rintro r w' ⟨l,rfl,m,i,N⟩
  have lp:=cj j;refine⟨λk=>F k\/l k,rfl,⟨l,ad,cap,m,(i.block p lp u).trans j,cK n (by grind [Fr.block]),λk h=>aI h,aK t,λh=>(by grind),λk e=>(by grind),λk h=>?_⟩,i.mono q,λk h=>?_⟩
  ·rcases h with h|h
   ·exact aL (by grind) i.size
   ·exact o.lt m k h
  grind
 ht:=by
  rintro F s w x hD ⟨f,ad,cap,g,_⟩
  exact ht f s.1 w x hD g
 hl:=λ_ _=>rfl
structure r4 {σ:Type}(o:gh σ):Prop where
 y8:∀{F s w},o.J F s w->∀{w1:az}{q:List b8}{a1:Option bB}{c1:Nat},O (I (G w)) w w1->aC w1 (I (G w)) 247 2 (Z a1 (L q) c1) (L q) (ev q)->
  o.J (λk=>F k\/OR k=O9 (Value.slice a1 (L q) c1)) (o.put s q) (P w1 ⟨o.p,1,O0⟩ (Z a1 (L q) c1))
 y9:∀{F s w},o.J F s w->∀{ad:Option bB}{cap:Nat},w.heap[o.p]?=OR (E #[o.vr,Z ad (L (o.wt s)) cap] 197 (0,0))->∀i,i<L (o.wt s)->∀g z:Int,∃b f,ad=OR ⟨b,f,O0⟩/\F b/\b≠o.p/\bF w (av b (f+i*2))=O4/\bF w (av b (f+i*2+1))=O4/\
  o.J F (o.put s ((o.wt s).set i (g,z))) (P (P w ⟨b,f+i*2,O0⟩ (U OW g)) ⟨b,f+i*2+1,O0⟩ (U OW z))
def mQ {b:Type}(o:gh b)(is:b->Int->Bool)(kp:b->Int->Int×b)(t:b×Bool)(i:Nat):b×Bool:=
 if is t.1 (X (o.wt t.1) i (0,0)).2||!is t.1 (X (o.wt t.1) i (0,0)).1 then t
 else(o.put (kp t.1 (X (o.wt t.1) i (0,0)).2).2 ((o.wt (kp t.1 (X (o.wt t.1) i (0,0)).2).2).set i ((X (o.wt t.1) i (0,0)).1,(kp t.1 (X (o.wt t.1) i (0,0)).2).1)),O5)
def gw {b:Type}(o:gh b)(is:b->Int->Bool)(kp:b->Int->Int×b)(s:b)(n:Nat):b×Bool:=(lg n).foldl (mQ o is kp) (o.put s (o.wt s),O4)
theorem Fy {b:Type}(o:gh b)(is:b->Int->Bool)(kp:b->Int->Int×b)(s:b):gw o is kp s 0=(o.put s (o.wt s),O4):=rfl
theorem y_ {b:Type}(o:gh b)(is:b->Int->Bool)(kp:b->Int->Int×b)(s:b)(n:Nat):gw o is kp s (n+1)=mQ o is kp (gw o is kp s n) n:=by simp[gw,vT]
theorem Fz {b:Type}(o:gh b)(is:b->Int->Bool)(kp:b->Int->Int×b)(hl:∀s x,L (o.wt (kp s x).2)=L (o.wt s))(t:b×Bool)(i:Nat):L (o.wt (mQ o is kp t i).1)=L (o.wt t.1):=by grind [gh.rX,mQ]
theorem za {b:Type}(o:gh b)(is:b->Int->Bool)(kp:b->Int->Int×b)(hl:∀s x,L (o.wt (kp s x).2)=L (o.wt s))(s:b):∀n,L (o.wt (gw o is kp s n).1)=L (o.wt s)
 |0=>by grind [Fy,gh.rX]
 |n+1=>by rw[y_,Fz o is kp hl,za o is kp hl s n]
theorem zb {b:Type}{o:gh b}{is:b->Int->Bool}{kp:b->Int->Int×b}{t:b×Bool}{i:Nat}{g z:Int}(hg:(X (o.wt t.1) i (0,0)).1=g)(hz:(X (o.wt t.1) i (0,0)).2=z)(h:is t.1 z=O5\/is t.1 g=O4):mQ o is kp t i=t:=by grind [mQ]
theorem FA {b:Type}{o:gh b}{is:b->Int->Bool}{kp:b->Int->Int×b}{t:b×Bool}{i:Nat}{g z:Int}(hg:(X (o.wt t.1) i (0,0)).1=g)(hz:(X (o.wt t.1) i (0,0)).2=z)(c:is t.1 z=O4)(d:is t.1 g=O5):mQ o is kp t i=(o.put (kp t.1 z).2 ((o.wt (kp t.1 z).2).set i (g,(kp t.1 z).1)),O5):=by grind [mQ]
def nk (n:Nat):Code->Option Code
 |.region m o d=>match m==n with
  |true=>OR (.region m o d)
  |false=>O0
 |.seq a b=>match nk n a with
  |some c=>OR c
  |none=>nk n b
 |.cond _ a b=>match nk n a with
  |some c=>OR c
  |none=>nk n b
 |.block _ c=>nk n c
 |.loop c=>nk n c
 |.scope c=>nk n c
 |_=>O0
theorem FB {s1 s2 c s4 s5 s6 b5 b6 b7 b9 ca cb cc d f g i j k m n o q s t u v x B F N S W ab ag ai al am an ao ap ar aB aF aR aV a0 a2 bb bd be bg bi bl bn bo:a7}{Q:Exit->Act->az->Prop}{bs p cap:Nat}{ad:Option bB}{l:List b8}{w:az}(hl:l.length<=100000)(h:i_ w ad l cap)(c0:V w (av bs 0)=OR (aq p))(c1:V w (av p 1)=OR (.slice ad l.length cap))(cd:bF w (av p 1)=O4)
 (b4:∀(bp br bt bx b0 b1 b2 b3:a7)(a1:Option bB)(k1:Nat)(w1:az),aC w1 (I (G w)) 247 2 (.slice a1 l.length k1) l.length (ev l)->O (I (G w)) w w1->Q .normal ⟨#[aq bs,s1,s2,c,s4,s5,bp,br,bt,bx,b0,b1,b2,b3,d,f,g,i,j,k,m,n,o,q,s,t,u,v,x,B,F,N,S,W,ab,ag,ai,al,am,an,ao,ap,ar,aB,aF,aR,aV,a0,a2,bb,bd,be,bg,bi,bl,bn,bo],[]⟩ (w1.setCell ⟨p,1,O0⟩ (.slice a1 l.length k1))):
 Code.wp J ((Tryz.f298.body.bind (nk 1)).getD .skip) Q ⟨#[aq bs,s1,s2,c,s4,s5,s6,b5,b6,b7,b9,ca,cb,cc,d,f,g,i,j,k,m,n,o,q,s,t,u,v,x,B,F,N,S,W,ab,ag,ai,al,am,an,ao,ap,ar,aB,aF,aR,aV,a0,a2,bb,bd,be,bg,bi,bl,bn,bo],[]⟩ w:=by
 conv=>arg 2;whnf
 refine wp_region_noPanic ?_;have ce:aA (∀(bp br bt bx b0 b1 b2 b3:a7)(a1:Option bB)(k1:Nat)(w1:az),aC w1 (I (G w)) 247 2 (.slice a1 l.length k1) l.length (ev l)->O (I (G w)) w w1->Q .normal ⟨#[aq bs,s1,s2,c,s4,s5,bp,br,bt,bx,b0,b1,b2,b3,d,f,g,i,j,k,m,n,o,q,s,t,u,v,x,B,F,N,S,W,ab,ag,ai,al,am,an,ao,ap,ar,aB,aF,aR,aV,a0,a2,bb,bd,be,bg,bi,bl,bn,bo],[]⟩ (w1.setCell ⟨p,1,O0⟩ (.slice a1 l.length k1))):=b4;have cf:aA (i_ w ad l cap):=h;have l2:=aT w _ c0;have lp:=aT w _ c1;dsimp only at l2 lp;clear b4 h
 go_region_with (go_at_call 299;refine(uE _ ad l cap (cf.o.below (bZ.drew)) hl).mono ?_;rintro e w1 ⟨a1,k1,rfl,cg,b⟩;have ch:=(b.cell (p:=av bs 0) l2).trans c0;have ci:=(b.cell (p:=av p 1) lp).trans c1;have cj:=(b.frozen (p:=av p 1) lp).trans cd)
 all_goals exact NoPanic.normal (ce.o _ _ _ _ _ _ _ _ a1 k1 w1 cg ((aH _ w).drew.trans b))
theorem FC {n:Type}(o:gh n)(b9:r4 o)(D:Int->Prop)(f fk aR:gI)(is:n->Int->Bool)(kp:n->Int->Int×n)(nw:n->Int->Int)(t:ni o D f fk aR is kp nw)(F:Nat->Prop)(s:n)(w:az)(hn:(o.wt s).length<=90000)
 (hD:∀j,j<(o.wt s).length->D ((o.wt (gw o is kp s j).1).getD j (0,0)).1/\D ((o.wt (gw o is kp s j).1).getD j (0,0)).2)(bl bs:Nat)(m:o.J F s w)(ca:w.heap[bl]?=OR (E #[f.v,fk.v,aR.v] 258 (0,0)))(aV:w.heap[bs]?=OR (E #[aq o.p] 123 (0,0)))(cD:¬F bl)(cE:¬F bs):
 M prog 298 #[aq bs,aq bl] w λr w'=>∃cb,r=OV (.bool (gw o is kp s (o.wt s).length).2)/\o.J cb (gw o is kp s (o.wt s).length).1 w'/\Fr F w w'/\∀k,cb k->F k\/I (G w)<=k:=by
 have cc:aA (r4 o):=b9;have cd:aA (lu o.todr D f.f f.b f.c is):=t.ha;have cF:aA (ob o D fk.f fk.b fk.c kp):=t.hk;have cG:aA (∀s x,(o.wt (kp s x).2).length=(o.wt s).length):=t.hl;have cH:aA (∀j,j<(o.wt s).length->D ((o.wt (gw o is kp s j).1).getD j (0,0)).1/\D ((o.wt (gw o is kp s j).1).getD j (0,0)).2):=hD;have cI:aA (o.J F s w):=m;have cJ:aA (w.heap[bl]?=OR (E #[f.v,fk.v,aR.v] 258 (0,0))):=ca;have cK:aA (w.heap[bs]?=OR (E #[aq o.p] 123 (0,0))):=aV;have dd:∀(args:Array a7)(w:az),(callFunc f.f args).run prog w=.ok (.enter f.f args) w:=t.ea;have de:∀(args:Array a7)(w:az),(callFunc fk.f args).run prog w=.ok (.enter fk.f args) w:=t.gS;have c0:V w (av bs 0)=OR (aq o.p):=aD aV
 have l1:bl<I (G w):=(by grind)
 have l2:bs<I (G w):=(by grind)
 obtain⟨ad,cap,hp,al,ce,a0⟩:=o.side m;have c1:V w (av o.p 1)=OR (.slice ad (o.wt s).length cap):=aD hp
 have cL:bF w (av o.p 1)=O4:=aE hp
 have lp:o.p<I (G w):=(by grind)
 have cM:aA (i_ w ad (o.wt s) cap):=al;clear t b9 hD m ca aV hp al a0;go_enter func298,ntmps298
 go_upto_region 1 with fail
 refine FB aa cM.o c0 c1 cL ?_;intro df dg dh di dj dk dl dm a1 k1 w1 a2 bb;have cN:=bb.size;have cf:=cc.o.y8 cI.o bb a2;have cg:Fr F w (w1.setCell ⟨o.p,1,O0⟩ (.slice a1 (o.wt s).length k1)):=(by grind [Fr.of,Fr.set])
 have ch:∀k,F k\/OR k=O9 (Value.slice a1 (o.wt s).length k1)->F k\/I (G w)<=k:=λk h=>h.imp id (λe=>(cu a2 k e).1)
 clear a2;go_wp2_with fail
 go_loopw [3,4] (λcO iv wr=>∃(j:Nat)(b:n)(b1:Bool)(l:Nat->Prop),j<=(o.wt s).length/\iv=ak j/\cO=.bool b1/\aA (gw o is kp s j=(b,b1))/\o.J l b wr/\Fr F w wr/\aA (∀k,l k->F k\/I (G w)<=k)) (λ_ iv _=>(o.wt s).length-(bG iv).toNat)
 case atStart=>exact⟨0,_,O4,_,a4 _,rfl,rfl,rfl,cf,cg,ch⟩
 case round=>
  clear cf cg ch cN bb;obtain⟨j,b,b1,l,dn,rfl,rfl,an,m,u,ao⟩:=hrel;have hlen:(o.wt b).length=(o.wt s).length:=by grind [za,Hid.out]
  obtain⟨ad,cap,hp,al,ce,a0⟩:=o.side m;have dp:=u.size;have n1:¬l bl:=λh=>(by grind [Hid.out])
  have ci:¬l bs:=λh=>(by grind [Hid.out])
  have bd:=(u.block bl l1 cD).trans cJ.o;have be:=(u.block bs l2 cE).trans cK.o;have cP:V wr (av bs 0)=OR (aq o.p):=aD be
  have cQ:V wr (av o.p 1)=OR (.slice ad (o.wt s).length cap):=by simp[World.cell?,hp,hlen]
  by_cases cR:j<(o.wt s).length
  ·obtain⟨dq,dr,cS,ds,hc⟩:=al.lp aa;obtain⟨cj,ck⟩:=hc j aa;obtain⟨bg,ap⟩:=cH.o j cR;rw[an.o] at bg ap;have bi:aA (gw o is kp s (j+1)=mQ o is kp (b,b1) j):=by show _=_;rw[y_,an.o]
   obtain⟨g,hg⟩:∃g,((o.wt b).getD j (0,0)).1=g:=(by grind)
   obtain⟨z,hz⟩:∃z,((o.wt b).getD j (0,0)).2=z:=(by grind)
   rw[hg] at cj;rw[hz] at ck;have bg:D g:=by grind
   have ap:D z:=by grind
   have bn:aA (((o.wt b).getD j (0,0)).1=g):=hg;have bo:aA (((o.wt b).getD j (0,0)).2=z):=hz;subst cS;have v:aA (o.J l b wr):=m;have bp:aA (Fr F w wr):=u;have cT:aA (wr.heap[bs]?=OR (E #[aq o.p] 123 (0,0))):=be;have cl:V wr (av bl 0)=OR (.func (.func f.f) f.b f.c):=aD bd
   have m1:V wr (av bl 1)=OR (.func (.func fk.f) fk.b fk.c):=aD bd
   have br:=(ax wr).alloc aa (E #[.int OW g,.int OW z] 247)
   have cm:bl<I (G wr):=aa;have cU:bs<I (G wr):=aa;have dt:o.p<I (G wr):=aa;have j0:(0:Int)<=(j:Int):=aa;have du:(j:Int)<((o.wt s).length:Int):=aa;clear hc hg hz m u bd be hp al ce a0 an;go_wp2_with fail;refine(cd.o l b _ z ap (o.below v.o br)).mono ?_;rintro r B ⟨rfl,N⟩
   have ar:I (G wr)<I (G B):=by have:=N.size;simp at this;omega
   have S:O (I (G wr)) wr B:=br.trans (N.mono ac)
   have cn:V B (av (I (G wr)) 0)=OR (ak g):=(N.cell ac).trans ac;have y1:V B (av (I (G wr)) 1)=OR (ak z):=(N.cell ac).trans ac;have co:bF B (av (I (G wr)) 1)=O4:=(N.frozen ac).trans ac;have cV:V B (av bl 0)=OR (.func (.func f.f) f.b f.c):=(S.cell cm).trans cl;cases hz1:is b z
   ·go_wp2_with fail;refine(cd.o l b _ g bg (o.below v.o S)).mono ?_;rintro r bt ⟨rfl,W⟩
    have cp:I (G wr)<I (G bt):=by have:=W.size;omega
    have q:O (I (G wr)) wr bt:=S.trans (W.mono aa)
    have z0:=(W.cell (p:=av (I (G wr)) 0) ar).trans cn;have cq:=(W.cell (p:=av (I (G wr)) 1) ar).trans y1;have cr:=(W.frozen (p:=av (I (G wr)) 1) ar).trans co;have cW:V bt (av bl 1)=OR (.func (.func fk.f) fk.b fk.c):=(q.cell cm).trans m1;clear cn y1 co cV W N S cj ck cP cQ;cases hg1:is b g
    ·have bx:aA (gw o is kp s (j+1)=(b,b1)):=bi.o.trans (zb bn.o bo.o (aI hg1))
     go_wp2_with fail;go_roundw
     case rel=>exact⟨j+1,b,b1,l,aa,aj,rfl,bx,o.below v.o q,bp.o.trans (Fr.of (X:=F) q) (λ_ c=>aK c),ao⟩
     case measure=>simp[bG];omega
    ·have b0:aA (gw o is kp s (j+1)=(o.put (kp b z).2 ((o.wt (kp b z).2).set j (g,(kp b z).1)),O5)):=bi.o.trans (FA bn.o bo.o hz1 hg1)
     have ab:aA ((o.wt (kp b z).2).length=(o.wt s).length):=(cG.o b z).trans hlen;go_wp2_with fail;refine(cF.o l b _ z ap (by rw[ab.o];omega) (o.below v.o q)).mono ?_;rintro r d ⟨ag,rfl,b2,am,aB⟩
     generalize (kp b z).1=y at b0⊢;generalize (kp b z).2=s2 at b0 ab b2;have b3:¬l (I (G wr)):=λh=>by have:=o.lt v.o _ h;omega
     have cX:¬ag (I (G wr)):=λh=>(aB _ h).elim b3 aa;have cY:¬ag bs:=λh=>(aB _ h).elim ci aa;have cZ:=am.size;have aF:=am.block _ cp b3;have cs:=((am.block bs aa ci).trans (q.block bs cU)).trans cT.o;have v0:V d (av (I (G wr)) 0)=OR (ak g):=(aS (a:=⟨I (G wr),0,O0⟩) aF).trans z0;have v1:V d (av (I (G wr)) 1)=OR (ak z):=(aS (a:=⟨I (G wr),1,O0⟩) aF).trans cq;have c2:bF d (av (I (G wr)) 1)=O4:=(World.frozen?_of_block (a:=⟨I (G wr),1,O0⟩) aF).trans cr;have b4:∀k:Nat,k≠I (G wr)->(d.setCell ⟨I (G wr),1,O0⟩ (.int OW y)).heap[k]?=d.heap[k]?:=λk hk=>aW _ _ _ _ hk;have c3:I (G (d.setCell ⟨I (G wr),1,O0⟩ (.int OW y)))=I (G d):=by simp[World.setCell]
     have b7:o.J ag s2 (d.setCell ⟨I (G wr),1,O0⟩ (.int OW y)):=o.keep b2 aa (λk hk=>b4 k (λe=>(by simp_all)))
     have t0:V (d.setCell ⟨I (G wr),1,O0⟩ (.int OW y)) (av (I (G wr)) 0)=OR (ak g):=(aY d ⟨I (G wr),1,O0⟩ ⟨I (G wr),0,O0⟩ (ak y) ac).trans v0;have dv:V (d.setCell ⟨I (G wr),1,O0⟩ (.int OW y)) (av (I (G wr)) 1)=OR (ak y):=a6 _ _ _ v1;have t3:V (d.setCell ⟨I (G wr),1,O0⟩ (.int OW y)) (av bs 0)=OR (aq o.p):=(aS (a:=⟨bs,0,O0⟩) (b4 bs aa)).trans (by simp[World.cell?,cs])
     have ct:Fr F w (d.setCell ⟨I (G wr),1,O0⟩ (.int OW y)):=((bp.o.trans (Fr.of (X:=F) q) (λ_ c=>aK c)).trans am (by assumption)).trans ((Fr.refl (λk=>k=I (G wr)) d).set _ 1 _ rfl) (λi c=>aI aa)
     have c4:aA (∀k,ag k->F k\/I (G w)<=k):=λk h=>(aB k h).elim (ao.o k) aa;obtain⟨dw,cv,b8,cw,c5,c6⟩:=o.side b7;obtain⟨b5,ai,cx,cy,dx,dy,dz,cz⟩:=cc.o.y9 b7 b8 j (by rw[ab.o];omega) g y;obtain⟨b6,dA,cA,c7,cB⟩:=cw.lp (by rw[ab.o];omega)
     obtain⟨c8,c9⟩:=cB j (by rw[ab.o];omega)
     rw[cx] at cA;cases cA;subst cx;have dB:V (d.setCell ⟨I (G wr),1,O0⟩ (.int OW y)) (av o.p 1)=OR (.slice (OR ⟨b5,ai,O0⟩) (o.wt s).length cv):=by simp[World.cell?,b8,ab.o]
     have dC:b5≠I (G wr):=λe=>(by simp_all)
     have dD:b5≠bs:=λe=>(by simp_all)
     have dE:aA (ag b5):=cy;generalize ((o.wt s2).getD j (0,0)).1=dF at c8;generalize ((o.wt s2).getD j (0,0)).2=dG at c9;clear z0 cq cr cW aB b2 am aF cs b4 b7 b8 cw c5 c6 cB q br ar cp cZ cX cY c3 c7 b3 cy cl m1;go_wp2_with fail;generalize d.setCell ⟨I (G wr),1,O0⟩ (.int OW y)=cC at*;clear v0 v1 c2
     go_region_held3 (λw'=>V w' (av bs 0)=OR (aq o.p)/\V w' (av o.p 1)=OR (.slice (OR ⟨b5,ai,O0⟩) (o.wt s).length cv)/\V w' (av (I (G wr)) 0)=OR (ak g)/\V w' (av (I (G wr)) 1)=OR (ak y)) (go_keep) (fail)
     have da:=(ct.trans (((Fr.refl (λk=>k=b5) cC).set b5 (ai+j*2) (ak g) rfl).set b5 (ai+j*2+1) (ak y) rfl) (by grind [Hid.out])).drew;have db:=o.keep (w':=((cC.setCell ⟨b5,ai+j*2,O0⟩ (.int OW g)).setCell ⟨b5,ai+j*2+1,O0⟩ (.int OW y)).drew) cz bY (λ_ _=>rfl)
     clear ct cz;go_wp2_with fail;go_roundw
     case rel=>exact⟨j+1,o.put s2 ((o.wt s2).set j (g,y)),O5,ag,aa,aj,rfl,b0,db,da,c4⟩
     case measure=>simp[bG];omega
   ·have bx:aA (gw o is kp s (j+1)=(b,b1)):=bi.o.trans (zb bn.o bo.o (aK hz1))
    go_wp2_with fail;go_roundw
    case rel=>exact⟨j+1,b,b1,l,aa,aj,rfl,bx,o.below v.o S,bp.o.trans (Fr.of (X:=F) S) (λ_ c=>aK c),ao⟩
    case measure=>simp[bG];omega
  ·obtain rfl:j=(o.wt s).length:=aa;have dc:=an.o;go_wp2_with fail;go_ret;rw[dc];exact⟨l,rfl,m,u,ao.o⟩
theorem FD:ef 298:=g9 func298 ah rfl
theorem zc {g:Type}(o:gh g)(S:r4 o)(D:Int->Prop)(l fk n:gI)(is:g->Int->Bool)(kp:g->Int->Int×g)(nw:g->Int->Int)(W:ni o D l fk n is kp nw)(v:Option bB)(x B:Nat)(ab:o.vr=Z v x B)(F:Nat->Prop)(s:g)(w:az)(hn:L (o.wt s)<=90000)
 (hD:∀j,j<L (o.wt s)->D ((o.wt (gw o is kp s j).1).getD j (0,0)).1/\D ((o.wt (gw o is kp s j).1).getD j (0,0)).2)(p:o.J F s w):
 M prog 245 #[aq o.p,.agg #[l.v,fk.v,n.v]] w λe w'=>∃b,e=OV (bA (gw o is kp s (L (o.wt s))).2)/\o.J b (gw o is kp s (L (o.wt s))).1 w'/\Fr F w w'/\∀k,b k->F k\/I (G w)<=k:=by
 obtain⟨ad,ag,hp,_,ar,_⟩:=o.side p;rw[ab] at hp;have c0:V w (av o.p 0)=OR (Z v x B):=aD hp
 have c1:V w (av o.p 1)=OR (Z ad (L (o.wt s)) ag):=aD hp
 have lp:o.p<I (G w):=(by grind)
 have ai:aA (o.J F s w):=p;have aB:aA (∀w1,O (I (G w)) w w1->w1.heap[I (G w)+1]?=OR (E #[l.v,fk.v,n.v] 258 (0,0))->w1.heap[I (G w)]?=OR (E #[aq o.p] 123 (0,0))->M prog 298 #[aq (I (G w)),aq (I (G w)+1)] w1 λr w'=>∃b,r=OV (bA (gw o is kp s (L (o.wt s))).2)/\o.J b (gw o is kp s (L (o.wt s))).1 w'/\Fr F w1 w'/\∀k,b k->F k\/I (G w1)<=k):=by
  intro w1 hb aF aR;have q:∀k,I (G w)<=k->¬F k:=λk hk h=>by have:=o.lt p k h;omega
  exact FC o S D l fk n is kp nw W F s w1 hn hD _ _ (o.below p hb) aF aR (by grind) (by grind)
 clear W p hp ab ar S hD;go_enter func245,ntmps245;go_wp2_with fail;have t:∃d,d=bu (bu w (E #[bq (OR ⟨o.p,0,O0⟩)] 123)) (E #[l.v,fk.v,n.v] 258):=(by grind)
 obtain⟨d,t⟩:=t;have sz:I (G d)=I (G w)+2:=by rw[t];simp
 have al:O (I (G w)) w d:=by simp_all [Below.alloc,Below.refl]
 have g0:d.heap[I (G w)]?=OR (E #[aq o.p] 123 (0,0)):=by grind [aU,aO]
 have g1:d.heap[I (G w)+1]?=OR (E #[l.v,fk.v,n.v] 258 (0,0)):=by grind [aO]
 rw[<-t];have P:=y7 298 #[] #[aq (I (G w)),aq (I (G w)+1)] FD d o.p v ad x B (L (o.wt s)) ag (by grind [Below.cell]) (by grind [Below.cell])
  (λam f=>∃b,am=(gw o is kp s (L (o.wt s))).2/\o.J b (gw o is kp s (L (o.wt s))).1 f/\Fr F w f/\∀k,b k->F k\/I (G w)+5<=k)
  (by
    intro w1 aV;have s1:I (G w1)=I (G w)+5:=by grind [bh]
    have b1:O (I (G d)) d w1:=by rw[aV];exact(((aH _ d).alloc aa _).alloc ac _).alloc (by simp;omega) _
    have hk:w1.heap[I (G d)+1]?=OR (E #[bA O4] 4 (0,0)):=by grind [aU,aO]
    have b2:O (I (G w)) w w1:=al.trans (b1.mono aa)
    refine(aB.o w1 b2 (by grind [Below.block]) (by grind [Below.block])).mono ?_;rintro e f ⟨N,rfl,q1,u,q3⟩
    rw[s1] at q3;refine⟨_,rfl,⟨N,rfl,q1,(Fr.of (X:=F) b2).trans u (by grind),q3⟩,(u.block _ aa (λh=>?_)).trans hk⟩
    have:=o.lt ai.o _ h;omega)
 refine P.mono ?_;clear P;rintro e be ⟨am,f,rfl,⟨N,rfl,q1,u,q3⟩,hk,rfl⟩
 obtain⟨m,hm⟩:∃m,m=I (G d)+1:=(by grind)
 rw[<-hm];have a0:aA (m=I (G w)+3):=by show m=_;omega
 clear hm hk al g0 g1 sz t;have hm:=a0.o;have an:∀k,k≠m->(f.setCell ⟨m,0,O0⟩ (bA (gw o is kp s (L (o.wt s))).2)).heap[k]?=f.heap[k]?:=λk hk=>aW _ _ _ _ hk;have ao:=o.keep (w':=f.setCell ⟨m,0,O0⟩ (bA (gw o is kp s (L (o.wt s))).2)) q1 (by simp[World.setCell]) (λk hk=>an k (λe=>by
  rcases q3 k hk with h|h
  ·have:=o.lt ai.o k h;omega
  omega))
 have ap:=u.trans ((Fr.refl (λk=>k=m) f).set m 0 (bA (gw o is kp s (L (o.wt s))).2) rfl) (λi c=>aI aa)
 have a1:aA (∃b,o.J b (gw o is kp s (L (o.wt s))).1 (f.setCell ⟨m,0,O0⟩ (bA (gw o is kp s (L (o.wt s))).2))/\Fr F w (f.setCell ⟨m,0,O0⟩ (bA (gw o is kp s (L (o.wt s))).2))/\∀k,b k->F k\/I (G w)<=k):=⟨N,ao,ap,λk h=>(by grind)⟩
 clear ao ap an q1 u q3 hm;go_wp2_with fail;go_ret;obtain⟨b,a2,bb,bd⟩:=a1.o;exact⟨b,rfl,a2,bb,bd⟩
structure cf where
 N:Nat
 O:Nat
 y:Nat
 T:List Int
structure cn where
 g:Nat
 ws:List Int
 f:Int->Int
 nx:Int
 wk:List Int
 ep:List Int
 rs:List Int
def cf.ld (k:cf)(s:cn)(a:Int):Int:=Proofs.YtjckpdepffejnaaGreatDoor.ld k.N k.y s.g s.ws a
def cf.cP (k:cf)(x:Int):Bool:=di x&&k.T.contains (cq x)
def cf.ls (k:cf)(s:cn)(x:Int):Bool:=k.cP x&&(s.f (cq x)==-1)
def cf.nw (k:cf)(s:cn)(x:Int):Int:=if(k.cP x&&!(s.f (cq x)==-1))=O5 then ew 3 (s.f (cq x)) else x
def ic (f:Int->Int)(a v:Int):Int->Int:=λb=>if b=a then v else f b
def cf.cp (k:cf)(s:cn)(a:Int):cn:={s with g:=kP k.N k.O k.y s.g s.ws a,ws:=kQ k.N k.O k.y s.g s.ws a,f:=ic s.f a (n9 k.N k.O k.y s.g s.ws a)}
def cf.br (k:cf)(s:cn)(x:Int):Int×cn:=if k.ls s x=O5 then(k.nw (k.cp s (cq x)) x,k.cp s (cq x)) else(k.nw s x,s)
def cf.st (k:cf)(s:cn)(a x:Int):cn:={s with ws:=if dB k.N k.y s.g a=O5 then s.ws.set (K a) x else s.ws}
def cf.kf (k:cf)(s:cn)(a:Int):cn:=k.st (k.br s (k.ld s a)).2 a (k.br s (k.ld s a)).1
def cf.hJ (k:cf)(s:cn)(a:Int):Nat->cn
 |0=>s
 |n+1=>k.kf (k.hJ s a n) (a+1+n)
def cf.lk (k:cf)(s:cn)(a:Int):cn:=
 if pk (k.ld s a)=1\/pk (k.ld s a)=2 then k.hJ s a (K (pf (k.ld s a)))
 else if pk (k.ld s a)=3 then k.kf {s with wk:=s.wk++[a]} (a+2)
 else if pk (k.ld s a)=4 then {s with ep:=s.ep++[a]} else s
def cf.lb (k:cf):Nat->cn->cn
 |0,s=>s
 |n+1,s=>if hB k.N s.g s.nx=O5 then k.lb n {k.lk s s.nx with nx:=s.nx+(1+pf (k.ld s s.nx))} else s
def cf.cX (k:cf)(t:List Int×cn)(a:Int):List Int×cn:=if k.ls t.2 (k.ld t.2 (a+1))=O5 then(t.1++[a],t.2) else(t.1,k.kf (k.kf t.2 (a+1)) (a+2))
def cf.em (k:cf)(s:cn)(l:List Int):List Int×cn:=l.foldl k.cX ([],s)
def cf.kv (k:cf)(s:cn):Bool×cn:=(decide (L (k.em s s.ep).1<L s.ep),{(k.em s s.ep).2 with ep:=(k.em s s.ep).1})
def dN {b:Type}(is:b->Int->Bool)(kp:b->Int->Int×b)(t:(b×List b8)×Bool)(i:Nat):(b×List b8)×Bool:=
 if is t.1.1 (X t.1.2 i (0,0)).2||!is t.1.1 (X t.1.2 i (0,0)).1 then t
 else(((kp t.1.1 (X t.1.2 i (0,0)).2).2,t.1.2.set i ((X t.1.2 i (0,0)).1,(kp t.1.1 (X t.1.2 i (0,0)).2).1)),O5)
def it {b:Type}(is:b->Int->Bool)(kp:b->Int->Int×b)(s:b×List b8)(n:Nat):(b×List b8)×Bool:=(lg n).foldl (dN is kp) (s,O4)
def cf.al (k:cf)(s:cn)(x:Int):Bool:=!k.ls s x
def cf.wa (k:cf)(s:cn×List b8):(cn×List b8)×Bool:=it k.al k.br s (L s.2)
def cf.mu (k:cf)(s:cn):Nat:=K (k.N+k.O+13-s.nx)+L s.ep+(k.O-s.g)
def cf.de (k:cf):Nat->cn×List b8->cn×List b8
 |0,s=>s
 |n+1,s=>
  if(k.kv (k.lb (k.O+1) s.1)).1=O5 then k.de n ((k.kv (k.lb (k.O+1) s.1)).2,s.2)
  else if(k.wa ((k.kv (k.lb (k.O+1) s.1)).2,s.2)).2=O5 then k.de n (k.wa ((k.kv (k.lb (k.O+1) s.1)).2,s.2)).1
  else(k.wa ((k.kv (k.lb (k.O+1) s.1)).2,s.2)).1
def cf.sp (k:cf)(s:cn×List b8):cn×List b8:=k.de (k.mu s.1+1) s
def cf.ke (k:cf)(s:cn×List b8)(x:Int):Int×(cn×List b8):=((k.br s.1 x).1,k.sp ((k.br s.1 x).2,s.2))
def cf.cO (k:cf)(s:cn):Nat->cn
 |0=>s
 |n+1=>{(k.br (k.cO s n) (X (k.cO s n).rs n 0)).2 with rs:=(k.br (k.cO s n) (X (k.cO s n).rs n 0)).2.rs.set n (k.br (k.cO s n) (X (k.cO s n).rs n 0)).1}
def cf.hK (k:cf)(e c:Int)(M:List Int)(s:cn)(a:Int):cn:=if a+pf (k.ld s a)<e then(if(gR k.N c a&&M.contains (cN k.N a))=O5 then k.lk s a else s) else s
def cf.lm (k:cf)(c:Int)(M:List Int)(s:cn)(l:List Int):cn:=l.foldl (k.hK s.nx c M) s
def cf.e8 (k:cf)(s:cn)(a:Int):cn:=if k.ls s (k.ld s (a+1))=O5 then k.st s (a+1) 3 else k.st s (a+1) (k.nw s (k.ld s (a+1)))
def cf.mw (k:cf)(s:cn)(l:List Int):cn:=l.foldl k.e8 s
def cf.ie (k:cf)(s:cn)(a:Int):cn:=k.st (k.st s (a+1) 3) (a+2) 3
def cf.be (k:cf)(s:cn)(l:List Int):cn:=l.foldl k.ie s
def cf.sz (k:cf)(s:cn):Nat:=((k.T.filter (λa=>s.f a==-1)).map (λa=>1+K (pf (k.ld s a)))).sum
structure CI (k:cf)(s:cn):Prop where
 hN:16<=k.N
 hN':k.N<=256
 hO:k.O<=1024
 hy:k.y<=k.N
 hg:s.g<=k.O
 len:L s.ws=k.N+k.O
 th:∀a∈k.T,0<=a/\pc (k.ld s a)=0/\a+1+pf (k.ld s a)<=k.y
 nd:k.T.Nodup
 room:k.sz s<=k.O-s.g
 i0:(k.N:Int)<=s.nx
 kw:s.nx<=(k.N:Int)+k.O+13
 jc:∀a∈s.wk,(k.N:Int)<=a/\a<=2000
 i1:∀a∈s.ep,(k.N:Int)<=a/\a<=2000
 tl:L k.T<=2000
structure eD (k:cf)(s:cn):Prop where
 wk:L s.wk+K (k.N+k.O+13-s.nx)<=4000
 ep:L s.ep+K (k.N+k.O+13-s.nx)<=4000
open Go.RowKit W Kp ch qx
section
variable {k:cf}{s:cn}
theorem CI.uV (h:CI k s){a:Int}(ha:a∈k.T):0<=a/\a<k.y/\dB k.N k.y s.g a=O5:=by
 obtain⟨b,c,d⟩:=h.th a ha;have e:=du (k.ld s a)
 grind [jE]
theorem cf.pm (hl:L s.ws=k.N+k.O)(hy:k.y<=k.N)(hg:s.g<=k.O)(a x b:Int):k.ld (k.st s a x) b=if b=a/\dB k.N k.y s.g a=O5 then x else k.ld s b:=by
 unfold cf.ld cf.st;by_cases ha:dB k.N k.y s.g a=O5
 ·have hb:=ku ha hy hg;rw[aN ha];by_cases e:b=a
  ·grind [gg]
  ·rw[aJ aa];unfold Proofs.YtjckpdepffejnaaGreatDoor.ld;by_cases hi:dB k.N k.y s.g b=O5
   ·have c:=ku hi hy hg
    grind
   grind
 grind
theorem cf.pn {a:Int}(hc:jb k.N k.O k.y s.g s.ws a=O5):k.cp s a={s with g:=s.g+(1+K (pf (k.ld s a))),ws:=lF s.ws (k.N+s.g) ((s.ws.drop (K a)).take (1+K (pf (k.ld s a)))),f:=ic s.f a ((k.N+s.g:Nat):Int)}:=by
 unfold cf.cp kP kQ n9 cf.ld
 grind
theorem uW {b:Type}(l m:List b)(t:Nat)(h:t+L m<=L l):L (lF l t m)=L l:=by
 unfold lF
 grind
theorem po (N y g:Nat)(a:Int):dB N y g a=O5↔(0<=a/\a<y)\/((N:Int)<=a/\a<(N:Int)+g):=by simp[dB,hB]
theorem cf.uX (hl:L s.ws=k.N+k.O)(hy:k.y<=k.N)(hg:s.g<=k.O){a:Int}(a0:0<=a)(a1:a+1+pf (k.ld s a)<=k.y)(hc:jb k.N k.O k.y s.g s.ws a=O5)(b:Int):
 k.ld (k.cp s a) b=if(k.N:Int)+s.g<=b/\b<(k.N:Int)+s.g+(1+pf (k.ld s a)) then k.ld s (a+(b-(k.N+s.g))) else k.ld s b:=by
 obtain⟨f,g,c⟩:=qw hc;have hp:=du (k.ld s a)
 have c:1+pf (k.ld s a)<=(k.O:Int)-s.g:=c;rw[cf.pn hc];obtain⟨n,hn⟩:∃n,n=K (pf (k.ld s a)):=(by grind)
 rw[<-hn];have d:∀i:Nat,_=_:=λi=>rW s.ws (k.N+s.g) (K a) (1+n) i aa aa;by_cases hb:(k.N:Int)+s.g<=b/\b<(k.N:Int)+s.g+(1+pf (k.ld s a))
 ·rw[aN hb];have e:dB k.N k.y (s.g+(1+n)) b=O5:=(by grind [po])
  show Proofs.YtjckpdepffejnaaGreatDoor.ld k.N k.y _ _ b=Proofs.YtjckpdepffejnaaGreatDoor.ld k.N k.y s.g s.ws _;rw[gg e,gg (by grind [po]),d,aN aa]
  congr 1
  omega
 ·rw[aJ hb];show Proofs.YtjckpdepffejnaaGreatDoor.ld k.N k.y _ _ b=Proofs.YtjckpdepffejnaaGreatDoor.ld k.N k.y s.g s.ws b
  grind [po,YtjckpdepffejnaaGreatDoor.ld]
theorem zd (T:List Int)(f:Int->Int)(a v:Int)(hv:v≠-1):T.filter (λb=>ic f a v b==-1)=(T.filter (λb=>f b==-1)).filter (λb=>!(b==a)):=by
 rw[List.filter_filter]
 congr 1
 funext b
 unfold ic;by_cases e:b=a
 ·simp[e,hv]
 ·simp[e]
theorem qy (g:Int->Nat):∀(l:List Int)(a:Int),l.Nodup->a∈l->((l.filter (λb=>!(b==a))).map g).sum+g a=(l.map g).sum
 |[],a,_,h=>by grind
 |b::l,a,hn,h=>by
  rw[List.nodup_cons] at hn;by_cases e:b=a
  ·grind [List.filter_eq_self]
  ·have hm:a∈l:=by grind
   have c:=qy g l a hn.2 hm
   grind
theorem ze:∀l:List Int,(l.map (λ_=>1)).sum=L l
 |[]=>rfl
 |_::l=>by simp[ze l];omega
theorem FE (l:List Int)(a:Int)(hn:l.Nodup)(h:a∈l):L (l.filter (λb=>!(b==a)))+1=L l:=by
 have:=qy (λ_=>1) l a hn h
 grind [ze]
theorem CI.jb (h:CI k s){a:Int}(ha:a∈k.T)(c:s.f a=-1):jb k.N k.O k.y s.g s.ws a=O5:=by
 obtain⟨d,b,f⟩:=h.th a ha;have g:=du (k.ld s a)
 have hm:a∈k.T.filter (λa=>s.f a==-1):=(by grind)
 have hs:=qy (λa=>1+K (pf (k.ld s a))) _ a (h.nd.filter _) hm;have hr:=h.room;have hg:=h.hg;unfold cf.sz at hr;have e:hB 0 (k.y:Int) a=O5:=by simp[hB];omega
 unfold Proofs.YtjckpdepffejnaaGreatDoor.jb ia;rw[aN e];refine bm ⟨b,?_,?_⟩
 ·show 1+pf (k.ld s a)<=(k.y:Int)-a;omega
 ·show 1+pf (k.ld s a)<=(k.O:Int)-s.g;omega
theorem CI.st (h:CI k s){a:Int}(ha:(k.N:Int)<=a)(x:Int):CI k (k.st s a x):=by
 have hl:∀b∈k.T,k.ld (k.st s a x) b=k.ld s b:=λb hb=>by
  have:=h.uV hb
  grind [hy,cf.pm,len,hg]
 refine⟨h.hN,h.hN',h.hO,h.hy,h.hg,?_,λb hb=>(hl b hb▸h.th b hb),h.nd,?_,h.i0,h.kw,h.jc,h.i1,h.tl⟩
 ·grind [len,cf.st]
 ·have e:k.sz (k.st s a x)=k.sz s:=by
   unfold cf.sz
   congr 1
   refine sQ (λb hb=>?_)
   grind
  rw[e];exact h.room
theorem CI.cp (h:CI k s){a:Int}(ha:a∈k.T)(c:s.f a=-1):CI k (k.cp s a)/\s.g<(k.cp s a).g:=by
 have hc:=h.jb ha c;obtain⟨d,e,f⟩:=h.th a ha;have hm:a∈k.T.filter (λa=>s.f a==-1):=(by grind)
 have hs:=qy (λa=>1+K (pf (k.ld s a))) _ a (h.nd.filter _) hm;have hr:=h.room;have hg:=h.hg;have hl:∀b∈k.T,k.ld (k.cp s a) b=k.ld s b:=λb hb=>by
  have:=h.uV hb
  grind [hy,cf.uX,len]
 have g:k.T.filter (λb=>(k.cp s a).f b==-1)=(k.T.filter (λb=>s.f b==-1)).filter (λb=>!(b==a)):=(cf.pn hc▸zd _ _ _ _ aa)
 have i:(k.cp s a).g=s.g+(1+K (pf (k.ld s a))):=by rw[cf.pn hc]
 have es:k.sz (k.cp s a)+(1+K (pf (k.ld s a)))=k.sz s:=by grind [sQ,cf.sz]
 refine⟨⟨h.hN,h.hN',h.hO,h.hy,aa,?_,λb hb=>(hl b hb▸h.th b hb),h.nd,aa,h.i0,h.kw,h.jc,h.i1,h.tl⟩,?_⟩
 all_goals grind [cf.pn,len,uW]
structure ez (k:cf)(s t:cn):Prop where
 nx:t.nx=s.nx
 wk:t.wk=s.wk
 ep:t.ep=s.ep
 rs:t.rs=s.rs
 g:s.g<=t.g
theorem ez.refl (k:cf)(s:cn):ez k s s:=⟨rfl,rfl,rfl,rfl,aG _⟩
theorem ez.trans {a b c:cn}(h:ez k a b)(j:ez k b c):ez k a c:=⟨j.nx.trans h.nx,j.wk.trans h.wk,j.ep.trans h.ep,j.rs.trans h.rs,aQ h.g j.g⟩
theorem cf.oi {x:Int}(h:k.ls s x=O5):di x=O5/\cq x∈k.T/\s.f (cq x)=-1:=by grind [ls,cP]
theorem CI.br (h:CI k s)(x:Int):CI k (k.br s x).2/\ez k s (k.br s x).2/\(k.ls s x=O5->s.g<(k.br s x).2.g):=by
 unfold cf.br;by_cases c:k.ls s x=O5
 ·obtain⟨c1,c2,c3⟩:=cf.oi c;obtain⟨b,d⟩:=h.cp c2 c3;rw[aN c];exact⟨b,⟨rfl,rfl,rfl,rfl,by grind⟩,λ_=>d⟩
 grind [ez.refl]
theorem CI.kf (h:CI k s){a:Int}(ha:(k.N:Int)<=a):CI k (k.kf s a)/\ez k s (k.kf s a):=by obtain⟨c,b,_⟩:=h.br _;exact⟨c.st ha _,⟨b.nx,b.wk,b.ep,b.rs,b.g⟩⟩
theorem CI.hJ (h:CI k s){a:Int}(ha:(k.N:Int)<=a):∀n,CI k (k.hJ s a n)/\ez k s (k.hJ s a n)
 |0=>⟨h,ez.refl _ _⟩
 |n+1=>by obtain⟨b,c⟩:=CI.hJ h ha n;obtain⟨d,e⟩:=b.kf (a:=a+1+n) aa;exact⟨d,c.trans e⟩
theorem CI.zf (h:CI k s){a:Int}(ha:(k.N:Int)<=a)(c:a<=2000):CI k {s with wk:=s.wk++[a]}:=
 ⟨h.hN,h.hN',h.hO,h.hy,h.hg,h.len,h.th,h.nd,h.room,h.i0,h.kw,λb hb=>by
  rcases bw.1 hb with hb|hb
  ·exact h.jc b hb
  grind,h.i1,h.tl⟩
theorem CI.FF (h:CI k s){a:Int}(ha:(k.N:Int)<=a)(c:a<=2000):CI k {s with ep:=s.ep++[a]}:=
 ⟨h.hN,h.hN',h.hO,h.hy,h.hg,h.len,h.th,h.nd,h.room,h.i0,h.kw,h.jc,λb hb=>by
  rcases bw.1 hb with hb|hb
  ·exact h.i1 b hb
  grind,h.tl⟩
structure Cl (k:cf)(s t:cn):Prop where
 nx:t.nx=s.nx
 wk:L t.wk<=L s.wk+1
 ep:L t.ep<=L s.ep+1
 rs:t.rs=s.rs
 g:s.g<=t.g
theorem Cl.of {t:cn}(h:ez k s t):Cl k s t:=⟨h.nx,by grind [ez.wk],by grind [ez.ep],h.rs,h.g⟩
theorem CI.lk (h:CI k s){a:Int}(ha:(k.N:Int)<=a)(c:a<=2000):CI k (k.lk s a)/\Cl k s (k.lk s a):=by
 unfold cf.lk;split
 ·grind [hJ,Cl.of]
 ·split
  ·obtain⟨d,b⟩:=(h.zf ha c).kf (a:=a+2) aa;exact⟨d,⟨b.nx,by rw[b.wk];simp,by rw[b.ep];simp,b.rs,b.g⟩⟩
  ·split
   ·exact⟨h.FF ha c,⟨rfl,ac,ac,rfl,aG _⟩⟩
   grind [Cl.of,ez.refl]
theorem CI.l9 (h:CI k s)(d:hB k.N s.g s.nx=O5):CI k {k.lk s s.nx with nx:=s.nx+(1+pf (k.ld s s.nx))}/\k.mu {k.lk s s.nx with nx:=s.nx+(1+pf (k.ld s s.nx))}<=k.mu s/\s.nx<(k.N:Int)+k.O:=by
 have hb:=kM d;have hg:=h.hg;have e:=du (k.ld s s.nx)
 have n1:=h.hO;have f:=h.hN';obtain⟨b,c⟩:=h.lk h.i0 aa;refine⟨⟨b.hN,(by assumption),(by assumption),b.hy,b.hg,b.len,b.th,b.nd,b.room,?_,?_,b.jc,b.i1,b.tl⟩,?_,aa⟩
 ·grind
 ·grind
 ·have g:=c.g;have i:=c.ep
  grind [cf.mu]
theorem eD.l9 (h:CI k s)(c:hB k.N s.g s.nx=O5)(hb:eD k s):eD k {k.lk s s.nx with nx:=s.nx+(1+pf (k.ld s s.nx))}:=by
 have d:=kM c;have hg:=h.hg;have e:=du (k.ld s s.nx)
 have n1:=h.hO;have f:=h.hN';obtain⟨g,b⟩:=h.lk h.i0 aa;have i:=hb.wk;have j:=hb.ep;have l:=b.wk;have m:=b.ep;constructor
 all_goals grind
theorem CI.lb (h:CI k s)(hb:eD k s):∀n,CI k (k.lb n s)/\eD k (k.lb n s)/\k.mu (k.lb n s)<=k.mu s:=by
 intro n
 induction n generalizing s with
 |zero=>exact⟨h,hb,aG _⟩
 |succ n b=>
  grind [l9,eD.l9,cf.lb]
theorem CI.cX {t:List Int×cn}(h:CI k t.2){a:Int}(ha:(k.N:Int)<=a):CI k (k.cX t a).2/\ez k t.2 (k.cX t a).2/\L (k.cX t a).1<=L t.1+1/\∀b∈(k.cX t a).1,b∈t.1\/b=a:=by
 unfold cf.cX;split
 ·simp_all [ez.refl]
 grind [kf,ez.trans]
theorem CI.em (h:CI k s):∀l:List Int,(∀a∈l,(k.N:Int)<=a)->CI k (k.em s l).2/\ez k s (k.em s l).2/\L (k.em s l).1<=L l/\∀b∈(k.em s l).1,b∈l:=by
 have key:∀(l:List Int)(t:List Int×cn),CI k t.2->(∀a∈l,(k.N:Int)<=a)->CI k (l.foldl k.cX t).2/\ez k t.2 (l.foldl k.cX t).2/\L (l.foldl k.cX t).1<=L t.1+L l/\∀b∈(l.foldl k.cX t).1,b∈t.1\/b∈l:=by
  intro l
  induction l with
  |nil=>grind [ez.refl]
  |cons a l f=>
   grind [cX,ez.trans]
 intro l hl;obtain⟨c,d,g,e⟩:=key l ([],s) h hl;exact⟨c,d,by show L (l.foldl k.cX ([],s)).1<=L l;grind,λb hb=>by simpa using e b hb⟩
theorem CI.kv (h:CI k s)(hb:eD k s):CI k (k.kv s).2/\eD k (k.kv s).2/\k.mu (k.kv s).2<=k.mu s/\((k.kv s).1=O5->k.mu (k.kv s).2<k.mu s):=by
 obtain⟨b,c,f,d⟩:=h.em s.ep (λa ha=>(h.i1 a ha).1)
 have e:=c.nx;have g:=c.g;have b2:=hb.ep;refine⟨⟨b.hN,b.hN',b.hO,b.hy,b.hg,b.len,b.th,b.nd,b.room,b.i0,b.kw,b.jc,λa ha=>h.i1 a (d a ha),b.tl⟩,⟨?_,?_⟩,?_,λhk=>?_⟩
 ·show L (k.em s s.ep).2.wk+K (k.N+k.O+13-(k.em s s.ep).2.nx)<=4000;rw[e,c.wk];exact hb.wk
 all_goals grind [cf.mu,cf.kv]
theorem ez.mu {t:cn}(h:ez k s t):k.mu t<=k.mu s:=by unfold cf.mu;rw[h.nx,h.ep];have:=h.g;omega
theorem ez.cb {t:cn}(h:ez k s t)(hb:eD k s):eD k t:=⟨by rw[h.wk,h.nx];exact hb.wk,by rw[h.ep,h.nx];exact hb.ep⟩
theorem CI.it {s:cn×List b8}(h:CI k s.1):∀n,CI k (it k.al k.br s n).1.1/\ez k s.1 (it k.al k.br s n).1.1/\L (it k.al k.br s n).1.2=L s.2/\((it k.al k.br s n).2=O5->s.1.g<(it k.al k.br s n).1.1.g)
 |0=>(by grind [ez.refl,YtjckpdepffejnaaGreatDoor.it])
 |n+1=>by
  obtain⟨d,b,f,g⟩:=CI.it h n;have e:Proofs.YtjckpdepffejnaaGreatDoor.it k.al k.br s (n+1)=dN k.al k.br (Proofs.YtjckpdepffejnaaGreatDoor.it k.al k.br s n) n:=by simp[Proofs.YtjckpdepffejnaaGreatDoor.it,vT]
  rw[e];generalize Proofs.YtjckpdepffejnaaGreatDoor.it k.al k.br s n=t at d b f g⊢;unfold dN;split
  ·grind
  ·rename_i c;obtain⟨i,j,l⟩:=d.br (X t.1.2 n (0,0)).2;have hl:k.ls t.1.1 (X t.1.2 n (0,0)).2=O5:=by grind [cf.al]
   refine⟨i,b.trans j,by grind,λ_=>?_⟩
   exact Nat.lt_of_le_of_lt b.g (by grind)
theorem CI.wa {s:cn×List b8}(h:CI k s.1)(hb:eD k s.1):CI k (k.wa s).1.1/\eD k (k.wa s).1.1/\L (k.wa s).1.2=L s.2/\k.mu (k.wa s).1.1<=k.mu s.1/\((k.wa s).2=O5->k.mu (k.wa s).1.1<k.mu s.1):=by
 obtain⟨b,c,d,f⟩:=h.it _;refine⟨b,c.cb hb,d,c.mu,λe=>?_⟩
 have g:=f e;have i:=b.hg;show k.mu (Proofs.YtjckpdepffejnaaGreatDoor.it k.al k.br s (L s.2)).1.1<_
 grind [ez.nx,ez.ep,cf.mu]
theorem CI.cO (h:CI k s):∀n,CI k (k.cO s n)/\(k.cO s n).nx=s.nx/\(k.cO s n).wk=s.wk/\(k.cO s n).ep=s.ep/\s.g<=(k.cO s n).g/\L (k.cO s n).rs=L s.rs
 |0=>⟨h,rfl,rfl,rfl,aG _,rfl⟩
 |n+1=>by
  obtain⟨d,e,f,g,i,j⟩:=CI.cO h n;obtain⟨b,c,_⟩:=d.br _;refine⟨⟨b.hN,b.hN',b.hO,b.hy,b.hg,b.len,b.th,b.nd,b.room,b.i0,b.kw,b.jc,b.i1,b.tl⟩,c.nx.trans e,c.wk.trans f,c.ep.trans g,aQ i c.g,?_⟩
  show L ((k.br _ _).2.rs.set n _)=_
  grind [ez.rs]
theorem CI.e8 (h:CI k s){a:Int}(ha:(k.N:Int)<=a):CI k (k.e8 s a)/\ez k s (k.e8 s a):=by
 unfold cf.e8;split
 ·exact⟨h.st aa _,⟨rfl,rfl,rfl,rfl,aG _⟩⟩
 ·exact⟨h.st aa _,⟨rfl,rfl,rfl,rfl,aG _⟩⟩
theorem CI.ie (h:CI k s){a:Int}(ha:(k.N:Int)<=a):CI k (k.ie s a)/\ez k s (k.ie s a):=
 ⟨(h.st aa _).st aa _,⟨rfl,rfl,rfl,rfl,aG _⟩⟩
theorem CI.fold (f:cn->Int->cn)(b:∀s a,CI k s->(k.N:Int)<=a->CI k (f s a)/\ez k s (f s a)):∀(l:List Int)(s:cn),CI k s->(∀a∈l,(k.N:Int)<=a)->CI k (l.foldl f s)/\ez k s (l.foldl f s)
 |[],s,h,_=>⟨h,ez.refl _ _⟩
 |a::l,s,h,hl=>by
  obtain⟨c,d⟩:=b s a h (hl a ac)
  obtain⟨e,g⟩:=CI.fold f b l (f s a) c (by grind)
  grind [ez.trans]
theorem CI.mw (h:CI k s){l:List Int}(hl:∀a∈l,(k.N:Int)<=a):CI k (k.mw s l)/\ez k s (k.mw s l):=CI.fold k.e8 (by grind [e8]) l s h hl
theorem CI.be (h:CI k s){l:List Int}(hl:∀a∈l,(k.N:Int)<=a):CI k (k.be s l)/\ez k s (k.be s l):=CI.fold k.ie (by grind [ie]) l s h hl
end
def eS (q:List b8)(g:Int):List Int:=(q.filter (λe=>e.1==g)).map (·.2)
theorem FG (q:List b8)(g:Int)(j:Nat)(h:j<L q)(e:(X q j (0,0)).1=g):eS (q.take (j+1)) g=eS (q.take j) g++[(X q j (0,0)).2]:=by unfold eS;rw[h_ q j h (0,0),Fb,bV,OL,e];simp
theorem FH (q:List b8)(g:Int)(j:Nat)(h:j<L q)(e:¬(X q j (0,0)).1=g):eS (q.take (j+1)) g=eS (q.take j) g:=by unfold eS;rw[h_ q j h (0,0),Fb,bV,OL];rw[aJ (by simpa using e)];simp
theorem qz (q:List b8)(g:Int):L (eS q g)<=L q:=by unfold eS;rw[a5];exact bX _ _
theorem uY (w:az)(p:Nat)(v0:a7)(a1:Option bB)(k1:Nat)(q:List b8)(g:Int)(h:w.heap[p]?=OR (E #[v0,Z a1 (L q) k1] 197 (0,0)))(hp:dQ w a1 q)(hm:L q<=90000):
 M J 321 #[aq p,ak g] w λe w'=>∃ad cap,e=OV (Z ad (L (eS q g)) cap)/\aC w' (I (G w)) 2 1 (Z ad (L (eS q g)) cap) (L (eS q g)) ((eS q g).map (Value.int OW))/\O (I (G w)) w w':=by
 obtain⟨S,hi,W,ab,ag⟩:=info_parts yc;have c1:V w (av p 1)=OR (Z a1 (L q) k1):=aD h
 have ai:=cg hp;clear h hp;go_enter func321,ntmps321;go_wp2_with fail
 go_loopw [5,13] (λtv iv wr=>∃(j:Nat)(T:List Int)(b:Option bB)(c:Nat),j<=L q/\iv=ak j/\aA (T=eS (q.take j) g)/\tv=Z b (L T) c/\aC wr (I (G w)) 2 1 (Z b (L T) c) (L T) (T.map (Value.int OW))/\O (I (G w)) w wr) (λ_ iv _=>L q-K (bG iv))
 exact⟨0,[],O0,0,a4 _,rfl,rfl,rfl,a9 _ _ _ _,aH _ _⟩
 ·
   obtain⟨j,T,b,c,d,rfl,f,rfl,l,hb⟩:=hrel;have aB:L T<=90000:=by
    have:=qz (q.take j) g;rw[f.o];simp at this
    omega
   by_cases o:j<L q
   ·obtain⟨aF,aR,al,aV,hc⟩:=ai.o.below hb aa;obtain⟨t,v⟩:=hc j o;clear hc;subst al;have hs:=hb.size;by_cases i:(X q j (0,0)).1=g
    ·have m:aA (T++[(X q j (0,0)).2]=eS (q.take (j+1)) g):=by show _=_;rw[FG q g j o i,f.o]
     rw[i] at t;generalize (X q j (0,0)).2=z at v m;clear i;have s:=gq l (E #[U OW g,U OW z] 247)
     have n:=hb.alloc hs (E #[U OW g,U OW z] 247)
     go_wp2_with (at_builtin;refine wpList_append_own_at _ rfl _ _ 66 rfl (I (G w)) 2 S (ak 0) 1 8 underlying66 hi W ab ag rfl ae (Z b (L T) c) (L T) (T.map (Value.int OW)) rfl (gq s _) ⟨I (G wr)+1,0,O0⟩ 1 1 [ak z] rfl rfl ?_ ?_ ?_ ?_ ?_ ?_;(intro j u d;match j,d with|0,d=>(simp at d;subst d;simp[Addr.add]));(intro u B;simp at B;subst B;rfl);(unfold maxLen;omega);omega;(simp;omega);intro a0 am F an _ a2;obtain⟨b4,N,ao⟩:=fi F (Nat.succ_pos _);subst ao)
     have ap:aC am (I (G w)) 2 1 (Z (au b4) (L (T++[z])) N) (L (T++[z])) ((T++[z]).map (Value.int OW)):=by simpa using F
     have ar:=(n.alloc n.size _).grown an (by simp;omega) (λk e=>(cu l k e.symm).1)
     go_wp2_with fail;go_roundw;exact⟨j+1,T++[z],au b4,N,aa,aj,m,ac,ap,ar⟩
     simp[bG];omega
    ·have m:aA (T=eS (q.take (j+1)) g):=by show _=_;rw[FH q g j o i,f.o]
     generalize (X q j (0,0)).1=x at t i;generalize (X q j (0,0)).2=z at v;have s:=gq l (E #[U OW x,U OW z] 247)
     have n:=hb.alloc hs (E #[U OW x,U OW z] 247)
     go_wp2_with fail;go_roundw;exact⟨j+1,T,b,c,aa,aj,m,rfl,s,n⟩
     simp[bG];omega
   ·obtain rfl:j=L q:=aa;rw[ba] at f;go_wp2_with fail;go_ret;rw[<-f.o];exact⟨b,c,rfl,l,hb⟩
end Go.Proofs.YtjckpdepffejnaaGreatDoor
