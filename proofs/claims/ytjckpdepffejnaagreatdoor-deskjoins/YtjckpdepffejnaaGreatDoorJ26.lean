import Derived.Test.YtjckpdepffejnaaGreatDoorJ25
import Derived.SliceStrings
import Derived.SizedLaws
import Derived.Test.YtjckpdepffejnaaGreatDoorRows
import Derived.Lib.LaidU8
import Derived.Shelf.Vars
import Derived.ProofKit
import Derived.Lay
import Derived.SevenTiedAt
import Derived.ShutString
import Derived.ChangeOld
import Derived.HandedShaped
import Derived.JoinedOf
import Derived.Test.YtjckpdepffejnaaGreatDoorJF
open Array renaming size->I
open Bool renaming false->O4,true->O5
open Classical renaming byContradiction->fo
open Go renaming Addr->bB,Calls->M,TypeId->bI,Value->a7
open Go.Ending renaming returned->Q
open Go.IntKind renaming i64->R
open Go.Obj renaming cells->E
open Go.Proofs.Tryz renaming prog->J
open Go.RowKit renaming Below->O,intOf->bG
open Go.Value renaming agg->bz,bool->bA,int->U,pointer->bq,slice->Z,tuple->ay
open Go.World renaming alloc->bu,heap->G,setCell->O8
open Int renaming toNat->K
open List renaming getD->OZ,getD_eq_getElem?_getD->bR,length->OQ,mem_append->bw,mem_append_left->kr,mem_append_right->ko,take_append_drop->Cq
open Nat renaming le_of_lt->uh,sub_self->Jl
open Option renaming none->Y,some->OR
open Option.some renaming inj->kg
namespace Go.Proofs.YtjckpdepffejnaaGreatDoor
set_option maxRecDepth 100000
set_option maxHeartbeats 16000000
open Go.Proofs.Tryz
open Go.RowKit W Kp ch
section
variable {wb w:az}{D:Nat->Prop}{d m:Nat}{s:Option (Nat×Nat×ck)}{g:fM}
theorem Ot {w:az}{base cap:Nat}{ao:Option bB}{L:List ByteArray}(h:w.ownsRow base 9 1 (Z ao (OQ L) cap) (OQ L) (L.map Value.string)):gG w ao L/\OQ L<=cap/\∀b o,ao=OR ⟨b,o,Y⟩->base<=b:=by
 rcases h.2 with⟨hv,e⟩|⟨g,c,f,hv,hb,hg,hc,_⟩
 ·have d:L=[]:=by simpa using e
  subst d;cases hv;exact⟨λhp=>absurd hp ac,aG _,λb o e=>by cases e⟩
 ·cases hv;refine⟨gG.of h,hc,λb o e=>by cases e;exact hb⟩
theorem ue (w:az):M J 8 #[] w λe w'=>e=Q (aq (I (G w)))/\w'=bu w (E #[bq Y] 45):=by go_wp2;go_ret;exact⟨rfl,rfl⟩
theorem ip.anew (hb:O (I (G wb)) wb w):ip wb (λb=>b=I (G w)) (I (G w)) Y 0 (bu w (E #[bq Y] 45)):=by
 have h:=aO w (E #[bq Y] 45)
 exact⟨h,rfl,λb e=>by rw[e];exact hb.size,λb e=>by rw[e];exact cj h,hb.alloc hb.size _⟩
theorem Ou (d:Nat)(L:List ByteArray)(ad:Option bB)(cp:Nat)(w:az)(o:gG w ad L)(hl:OQ L<=300)(hc:(gL L).1≠0):
 M J 9 #[aq d,Z ad (OQ L) cp] w λe w'=>e=Q (ay #[.string .empty,bz #[ak (gL L).1,ak (gL L).2]])/\O (I (G w)) w w':=by
 have i:=aw w (E #[U R 0,U R 0] 33)
 have P:=DN L ad cp _ (o.below i) hl;have p:((gL L).1==0)=O4:=by simpa using hc
 generalize gL L=q at*;obtain⟨q0,q1⟩:=q;have c:=cU i (aO w (E #[U R 0,U R 0] 33))
 go_enter func9,ntmps9;go_wp2_with fail;generalize bu w (E #[U R 0,U R 0] 33)=w1 at*;refine P.mono ?_;rintro e b ⟨rfl,j⟩
 have f:=(j.block _ (cj c.o.2)).trans c.o.2;have l:=cU (c.o.1.trans (j.mono c.o.1.size)) f;obtain⟨s,y1,t,u⟩:=kq f;have l2:I (G w)<I (G b):=cj f;go_wp2
 go_region_law (fail)
 all_goals
  go_wp2;have hs:=xO (l.o.2:b.heap[I (G w)]?=OR (E #[ak 0,ak 0] 33 (0,0))) (ak q0) (ak q1)
  have m:O (I (G w)) w (O8 (O8 b ⟨I (G w),0,Y⟩ (U R q0)) ⟨I (G w),1,Y⟩ (U R q1)):=l.o.1.trans ((((Fr.refl (λk=>k=I (G w)) b).set (I (G w)) 0 _ rfl).set (I (G w)) 1 _ rfl).below (uh l2) (λx e=>by omega))
  generalize O8 (O8 b ⟨I (G w),0,Y⟩ (U R q0)) ⟨I (G w),1,Y⟩ (U R q1)=g at*;have n:=(aw g (E #[U R q0,U R q1] 33)).drew;obtain⟨r0,r1,_⟩:=kq ((n.block _ (cj hs)).trans hs)
  generalize (bu g (E #[U R q0,U R q1] 33)).drew=B at*;refine a3 (v:=ay #[.string ⟨#[]⟩,bz #[U R q0,U R q1]]) (by simp[results,results9,go_sem,r0,r1]) rfl ⟨rfl,(m.trans (n.mono m.size))⟩
theorem DO (h:ip wb D d s m w)(bo:g7 wb)(hg:∀T wt,e6 T wt->dS T wt (g T wt))(L:List ByteArray)(ad:Option bB)(cp:Nat)(a2:gG w ad L)(bp:0<OQ L->∀b o,ad=OR ⟨b,o,Y⟩->¬D b)(hl:OQ L<=300)(hz:∀x∈L,x.size<=4000000000)(hm:m+OQ L<=8000)(hc:(gL L).1=0):
 M J 9 #[aq d,Z ad (OQ L) cp] w λe w'=>e=Q (ay #[.string (bs (eB g s L).2),bz #[ak 0,ak 0]])/\OQ (eB g s L).2<=OQ L*5100000000/\∃c,ip wb c d (eB g s L).1 (m+OQ L) w'/\b9 D w c w':=by
 have bb:=aw w (E #[U R 0,U R 0] 33)
 have br:=aO w (E #[U R 0,U R 0] 33)
 have P:=DN L ad cp _ (a2.below bb) hl;generalize gL L=q at*;obtain⟨q0,q1⟩:=q;subst hc;have N:=cU bb br;have l:=qk h bo hg a2 bp;have ap:=ge hl hz hm;have lw:I (G w)<I (G (bu w (E #[U R 0,U R 0] 33))):=ac;go_enter func9,ntmps9;go_wp2_with fail;generalize bu w (E #[U R 0,U R 0] 33)=w1 at*;refine P.mono ?_;rintro e n ⟨rfl,ar⟩
 have S:=(ar.block _ (cj N.o.2)).trans N.o.2;have ag:=cU (N.o.1.trans (ar.mono N.o.1.size)) S;have l2:I (G w)<I (G n):=cj S;clear ar S N lw;have aB:=aO (bu n (E #[U R 0,U R q1] 33)) (E #[bq (OR ⟨d,0,Y⟩),bq Y,Z Y 0 0] 52)
 have bd:O (I (G w)) w (bu (bu n (E #[U R 0,U R q1] 33)) (E #[bq (OR ⟨d,0,Y⟩),bq Y,Z Y 0 0] 52)):=(ag.o.1.alloc ag.o.1.size _).alloc (by have:=ag.o.1.size;simp;omega) _;have be:(bu (bu n (E #[U R 0,U R q1] 33)) (E #[bq (OR ⟨d,0,Y⟩),bq Y,Z Y 0 0] 52)).heap[I (G w)]?=OR (E #[ak 0,ak 0] 33 (0,0)):=by rw[aU _ _ _ (by simp;omega),aU _ _ _ l2];exact ag.o.2
 have es:I (G (bu n (E #[U R 0,U R q1] 33)))=I (G n)+1:=ac;rw[es] at aB;have lk:I (G w)<I (G n)+1:=aa;go_wp2_with fail;generalize bu (bu n (E #[U R 0,U R q1] 33)) (E #[bq (OR ⟨d,0,Y⟩),bq Y,Z Y 0 0] 52)=u at*;generalize I (G n)+1=k at*;have bt:fO (λb=>b=k) k d [] u:=⟨rfl,bq Y,Z Y 0 0,aB,aK rfl,⟨by simp[Lib.byteCells],aK ⟨rfl,rfl⟩⟩,by simp[Value.ownBlock],λ_=>rfl,λb e=>by simp[Value.ownBlock] at e⟩
 have bx:eO wb (λb=>b=k) D k d s m [] u:=⟨bt,l.o.1.fr (Fr.of (X:=λ_=>False) bd) (λ_ e=>e.elim) (λ_ e=>e.elim),λb e g=>by have:=l.o.1.hD b g;omega,λb e=>by have:=l.o.1.be.size;omega,λb e=>by rw[e];exact cj aB,l.o.2.1⟩
 have B:=ge bd be (cj be)
 have bg:aA (∃t c,eO wb t c k d (eB g s (L.take 0)).1 (m+0) (eB g s (L.take 0)).2 u/\b9 (λb=>b=k\/D b) u (λb=>t b\/c b) u/\OQ (eB g s (L.take 0)).2<=0*5100000000):=⟨_,_,bx,b9.refl _ _,aG _⟩
 go_loopw [21] (λiv wr=>∃i:Nat,i<=OQ L/\iv=ak i/\aA (∃t c,eO wb t c k d (eB g s (L.take i)).1 (m+i) (eB g s (L.take i)).2 wr/\b9 (λb=>b=k\/D b) u (λb=>t b\/c b) wr/\OQ (eB g s (L.take i)).2<=i*5100000000)) (λiv _=>OQ L-K (bG iv))
 case atStart=>exact⟨0,a4 _,rfl,bg⟩
 case round=>
  clear bg;obtain⟨i,hi,rfl,aF⟩:=hrel;by_cases ai:i<OQ L
  ·obtain⟨t,c,f,hn,hlen⟩:=aF.o;obtain⟨F,aR,rfl,lb,b0⟩:=l.o.2.2.2.1 aa;have bi:=b0 i ai;have nb:¬(F=k\/D F):=λe=>e.elim (λe=>by omega) (l.o.2.2.2.2 aa F aR rfl)
   have y1:=(B.o.1.cell (p:=av F (aR+i)) lb).trans bi;have b1:=(aS (w:=u) (a:=⟨F,aR+i,Y⟩) (hn.fr.block F (aL lb B.o.1.size) nb)).trans y1;have hz:=ap.o.2.1 (OZ L i .empty) (by rw[aM,aP ai];exact a_ ai)
   have q1:(i:Int)<(OQ L:Int):=aa;have b2:=cg (show L.take (i+1)=L.take i++[OZ L i .empty] from xH L ai)
   have b3:=Nn (OZ L i .empty) hz wr f.oV;have b4:aA (∀(j:az)(ao:Option bB)(cap:Nat),j.ownsRow (I (G wr)) 9 1 (Z ao (OQ (h9 (OZ L i .empty))) cap) (OQ (h9 (OZ L i .empty))) ((h9 (OZ L i .empty)).map Value.string)->O (I (G wr)) wr j->M J 15 #[aq k,Z ao (OQ (h9 (OZ L i .empty))) cap] j λe w'=>e=Q (ay #[])/\∃al am,eO wb al am k d (eB g s (L.take (i+1))).1 (m+(i+1)) (eB g s (L.take (i+1))).2 w'/\b9 (λb=>b=k\/D b) u (λb=>al b\/am b) w'/\OQ (eB g s (L.take (i+1))).2<=(i+1)*5100000000):=λj ao cap hr hb=>by
    obtain⟨r1,b5,r3⟩:=Ot hr;have bl:m+i<=8000:=by have:=ap.o.2.2;omega
    have ce:=ap.o.1;refine(Ol (f.below hb) l.o.2.2.1 bl (aQ hlen (aQ (Nat.mul_le_mul_right _ (show i<=300 by omega)) ae)) (h9 (OZ L i .empty)) ao cap r1 b5 (λb o e=>⟨λW=>by have:=f.hX b W;have:=r3 b o e;omega,λW=>by have:=f.o.hD b W;have:=r3 b o e;omega⟩) (aQ (Nh _) ae) (λx W=>aQ (Ni _ x W) hz)).mono ?_;rintro e w' ⟨rfl,al,am,b6,b7⟩
    rw[b2.o,NV];refine⟨rfl,al,am,b6,hn.trans ((b9.of hb).trans b7),?_⟩
    have:=f.hlen (g:=g) bl (h9 (OZ L i .empty))
    show OQ (_++_:List UInt8)<=_;rw[aX,Nat.add_mul];omega
   generalize OZ L i .empty=x at*;go_wp2_with (first|(go_at_call 16;refine b3.mono ?_;rintro e j ⟨v,rfl,hr,b8⟩;obtain⟨ao,cap,rfl⟩:=xN hr;have ca:=b4.o j ao cap hr b8)|(go_at_call 15;refine ca.mono ?_;rintro e cf ⟨rfl,cb⟩;have ab:=cg cb))
   go_roundw
   case rel=>exact⟨i+1,aa,aj,ab⟩
   case measure=>simp[bG];omega
  ·obtain rfl:i=OQ L:=aa;rw[ba] at aF;obtain⟨t,c,f,hn,hlen⟩:=aF.o;have cc:=cg hlen;clear hlen;have cd:=On f.t;have old:∀b,t b\/c b->D b\/I (G w)<b:=λb e=>(hn.sub b e).elim (λe=>e.elim (λe=>aI aa) aK) (λe=>aI (by have:=B.o.2.2;omega))
   have aV:¬(t (I (G w))\/c (I (G w))):=λe=>(old _ e).elim (λe=>by have:=l.o.1.hD _ e;omega) (λe=>by omega)
   have S:=(hn.fr.block (I (G w)) B.o.2.2 (λe=>e.elim (λe=>by omega) (λe=>by have:=l.o.1.hD _ e;omega))).trans B.o.2.1;have an:=qk f hn old aV S;go_wp2_with fail;refine cd.mono ?_;rintro e j ⟨rfl,a0⟩
   have a1:=(a0.block (I (G w)) (cj an.o.2.2.2.2) (λe=>an.o.2.2.2.1 (aK e))).trans an.o.2.2.2.2;obtain⟨bi,y1,b1,ch⟩:=kq a1;have ab:=cU a0 a1;clear a0 a1;go_wp2_with fail;obtain⟨r0,r1,_⟩:=kq (xO ab.o.2 (ak 0) (ak 0))
   have bn:Fr (λb=>b=I (G w)) j (O8 (O8 j ⟨I (G w),0,Y⟩ (U R 0)) ⟨I (G w),1,Y⟩ (U R 0)):=((Fr.refl (λb=>b=I (G w)) j).set _ 0 _ rfl).set _ 1 _ rfl;generalize O8 (O8 j ⟨I (G w),0,Y⟩ (U R 0)) ⟨I (G w),1,Y⟩ (U R 0)=ci at*;obtain⟨f,hn,old,aV,_⟩:=an.o;refine a3 (v:=ay #[.string (bs (eB g s L).2),bz #[ak 0,ak 0]]) (by simp[results,results9,go_sem,r0,r1,bs]) rfl ⟨rfl,cc.o,c,?_,?_,?_⟩
   ·refine(f.o.fr ab.o.1 f.ap f.lW).fr bn (λb e g=>by subst e;exact aV (aI g)) (λb e=>by rw[e];exact l.o.1.be.size)
   ·refine(((Fr.of (X:=D) B.o.1).trans hn.fr (λb e=>e.elim (λe=>aI aa) aK)).trans ab.o.1 (λb e=>(old b (aK e)).imp id uh)).trans bn (λb e=>aI aa)
   ·exact λb e=>(old b (aI e)).imp id uh
end
def p8:ByteArray:=bs [110,101,119,32,49,54,32,56]
def p9:ByteArray:=bs [105,110,116,32,48,32,55]
def p_:ByteArray:=bs [112,97,105,114,32,49,32,48,32,48]
def qa:ByteArray:=bs [103,101,116,32,50,32,49,32,53]
def qb:ByteArray:=bs [109,105,110,111,114]
def qc:ByteArray:=bs [118,105,101,119]
def qd:ByteArray:=bs [119,104,97,116]
def qe:List UInt8:=[111,107,10,111,107,10,111,107,10,110,111,32,49,10,111,107,10,114,111,111,116,115,32,55,32,35,48,32,110,105,108,32,110,105,108,32,110,105,108,32,110,105,108,32,110,105,108,32,110,105,108,32,110,105,108,32,110,105,108,32,110,105,108,32,110,105,108,10,35,48,32,112,97,105,114,32,55,32,55,10,117,115,101,100,32,48,32,51,10,119,104,97,116,10]
def dP:Wc:={pw:=0,p:=0,q:=0,pc:=0,sd:=0,nb:=0,N:=16,O:=8}
def rH:cv:=((jv 16 8).1.hd dP 1 0 0 0 0 7).2
def rI:cv:=(rH.hd dP 4 1 0 0 0 0).2
def rJ:cv:=(rI.hd dP 11 2 1 0 5 0).2
def jY:cv:=(rJ.hd dP 15 0 0 0 0 0).2
def xR:List (Int×Int):=[(1,7),(3,0),(0,0),(0,0),(0,0),(0,0),(0,0),(0,0),(0,0),(0,0),(0,0),(0,0)]
theorem Ov {g:fM}(hg:∀T wt,e6 T wt->dS T wt (g T wt)):(eB g Y [p8,p9,p_,qa,qb,qc,qd]).2=qe:=by
 have p:cL dP (jv 16 8).1.s:=⟨ae,ae,ae,ae,ae,ae,ae⟩
 have b1:cL dP rH.s:=⟨ae,ae,ae,by decide+kernel,by decide+kernel,by decide+kernel,by decide+kernel⟩
 have b2:cL dP rI.s:=⟨ae,ae,ae,by decide+kernel,by decide+kernel,by decide+kernel,by decide+kernel⟩
 have b3:cL dP rJ.s:=⟨ae,ae,ae,by decide+kernel,by decide+kernel,by decide+kernel,by decide+kernel⟩
 have b4:cL dP jY.s:=⟨ae,ae,ae,by decide+kernel,by decide+kernel,by decide+kernel,by decide+kernel⟩
 have k0:=ed.start dP 16 8;have k1:ed dP rH 1:=(k0.hd p 1 0 0 0 0 7).1;have k2:ed dP rI 2:=(k1.hd b1 4 1 0 0 0 0).1;have k3:ed dP rJ 3:=(k2.hd b2 11 2 1 0 5 0).1;obtain⟨c,k⟩:∃c,c=(jv 16 8).2:=⟨_,rfl⟩
 obtain⟨d,l⟩:∃d,d=(c.dI g 16 8 1 0 0 0 0 7).2:=⟨_,rfl⟩
 obtain⟨e,m⟩:∃e,e=(d.dI g 16 8 4 1 0 0 0 0).2:=⟨_,rfl⟩
 obtain⟨f,n⟩:∃f,f=(e.dI g 16 8 11 2 1 0 5 0).2:=⟨_,rfl⟩
 obtain⟨b,o⟩:∃b,b=(f.dI g 16 8 15 0 0 0 0 0).2:=⟨_,rfl⟩
 have q:=cE.start dP 16 8;rw[<-k] at q;obtain⟨c1,m1,aV,a0,w⟩:lU dP ((jv 16 8).1.hd dP 1 0 0 0 0 7) (c.dI g dP.N dP.O 1 0 0 0 0 7):=q.hds k0 p hg 1 0 0 0 0 7;obtain⟨c2,a1,a2,G2,x⟩:lU dP (rH.hd dP 4 1 0 0 0 0) ((c.dI g dP.N dP.O 1 0 0 0 0 7).2.dI g dP.N dP.O 4 1 0 0 0 0):=w.hds k1 b1 hg 4 1 0 0 0 0;obtain⟨c3,bb,bd,G3,B⟩:lU dP (rI.hd dP 11 2 1 0 5 0) (((c.dI g dP.N dP.O 1 0 0 0 0 7).2.dI g dP.N dP.O 4 1 0 0 0 0).2.dI g dP.N dP.O 11 2 1 0 5 0):=x.hds k2 b2 hg 11 2 1 0 5 0;obtain⟨j,be,bg,G4,i⟩:lU dP (rJ.hd dP 15 0 0 0 0 0) ((((c.dI g dP.N dP.O 1 0 0 0 0 7).2.dI g dP.N dP.O 4 1 0 0 0 0).2.dI g dP.N dP.O 11 2 1 0 5 0).2.dI g dP.N dP.O 15 0 0 0 0 0):=B.hds k3 b3 hg 15 0 0 0 0 0;have F:((jv 16 8).1.hd dP 1 0 0 0 0 7).1=0:=by decide+kernel
 have N:(rH.hd dP 4 1 0 0 0 0).1=0:=by decide+kernel
 have S:(rI.hd dP 11 2 1 0 5 0).1=1:=by decide+kernel
 have ab:(rJ.hd dP 15 0 0 0 0 0).1=0:=by decide+kernel
 have ad:eb b 4:=by
  have h0:eb c 0:=by rw[k];exact eb.start
  have s:eb d 1:=by rw[l];exact h0.dI aa (hg _ _ h0.iv) _ _ _ _ _ _
  have t:eb e 2:=by rw[m];exact s.dI aa (hg _ _ s.iv) _ _ _ _ _ _
  have u:eb f 3:=by rw[n];exact t.dI aa (hg _ _ t.iv) _ _ _ _ _ _
  rw[o];exact u.dI aa (hg _ _ u.iv) _ _ _ _ _ _
 have ag:(c.dI g 16 8 1 0 0 0 0 7).1=0:=c1.symm.trans F;have ai:(c.dI g dP.N dP.O 1 0 0 0 0 7).2=d:=l.symm;rw[ai] at c2 c3 j i;have al:(d.dI g 16 8 4 1 0 0 0 0).1=0:=c2.symm.trans N;have am:(d.dI g dP.N dP.O 4 1 0 0 0 0).2=e:=m.symm;rw[am] at c3 j i;have an:(e.dI g 16 8 11 2 1 0 5 0).1=1:=c3.symm.trans S;have ao:(e.dI g dP.N dP.O 11 2 1 0 5 0).2=f:=n.symm;rw[ao] at j i;have ap:(f.dI g 16 8 15 0 0 0 0 0).1=0:=j.symm.trans ab;have ar:(f.dI g dP.N dP.O 15 0 0 0 0 0).2=b:=o.symm;rw[ar] at i;obtain⟨v1,v2⟩:=i.view b4 (aQ ad.tj ae)
 have us:ei b.T=((jY.s.y:Int),(jY.s.g:Int)):=i.us b4;have y1:(gN dP.N jY.s.y jY.s.g jY.s.ws jY.q jY.s.rs).1=xR:=by decide+kernel
 have aB:(gN dP.N jY.s.y jY.s.g jY.s.ws jY.q jY.s.rs).2.2=[(1,[(1,7),(1,7)])]:=by decide+kernel
 have v:jY.s.y=0/\jY.s.g=3:=by decide+kernel
 have q1:(ee.eU b.T b.wt b.rs).1=xR:=v1.symm.trans y1;have aF:(ee.eU b.T b.wt b.rs).2.2=[(1,[(1,7),(1,7)])]:=v2.symm.trans aB;have q3:ei b.T=(0,3):=by rw[us,v.1,v.2];rfl
 have g0:iO g Y (h9 p8)=(OR (16,8,c),txt (iD 0)):=by rw[k];kernel_rfl
 have g1:∀W:ck,iO g (OR (16,8,W)) (h9 p9)=(OR (16,8,(W.dI g 16 8 1 0 0 0 0 7).2),txt (iD (W.dI g 16 8 1 0 0 0 0 7).1)):=λW=>by kernel_rfl
 have g2:∀W:ck,iO g (OR (16,8,W)) (h9 p_)=(OR (16,8,(W.dI g 16 8 4 1 0 0 0 0).2),txt (iD (W.dI g 16 8 4 1 0 0 0 0).1)):=λW=>by kernel_rfl
 have g3:∀W:ck,iO g (OR (16,8,W)) (h9 qa)=(OR (16,8,(W.dI g 16 8 11 2 1 0 5 0).2),txt (iD (W.dI g 16 8 11 2 1 0 5 0).1)):=λW=>by kernel_rfl
 have g4:∀W:ck,iO g (OR (16,8,W)) (h9 qb)=(OR (16,8,(W.dI g 16 8 15 0 0 0 0 0).2),txt (iD (W.dI g 16 8 15 0 0 0 0 0).1)):=λW=>by kernel_rfl
 have g5:∀W:ck,iO g (OR (16,8,W)) (h9 qc)=(OR (16,8,W),nc W):=λW=>by kernel_rfl
 have aR:∀W:ck,iO g (OR (16,8,W)) (h9 qd)=(OR (16,8,W),txt [bs [119,104,97,116]]):=λW=>by kernel_rfl
 have hv:nc b=txt (bs [114,111,111,116,115]::xR.map gb)++iX [(1,[(1,7),(1,7)])] 1++txt [bs [117,115,101,100],bs (Lib.itoa 0),bs (Lib.itoa 3)]:=by unfold nc;rw[q1,aF,q3];rfl
 simp only [eB,g0,g1,g2,g3,g4,g5,aR,ag,<-l,al,<-m,an,<-n,ap,<-o,hv];show(_:List UInt8)=_;kernel_rfl
theorem DP (w:az)(d:g7 w):M J 6 #[] w λe w'=>e=Q (bA O5)/\O (I (G w)) w w':=by
 obtain⟨g,hg⟩:=CF;have j:=aw w (E #[bq Y] 45)
 have f:I (G (bu w (E #[bq Y] 45)))=I (G w)+1:=ac;have c:=DO ((ip.anew (ax w)).fr (Fr.of (X:=λ_=>False) ((aH (I (G (bu w (E #[bq Y] 45)))) (bu w (E #[bq Y] 45))).alloc bY (E #[.string p8,.string p9,.string p_,.string qa,.string qb,.string qc,.string qd] 9))) (λ_ e=>e.elim) (λ_ e=>e.elim)) d hg [p8,p9,p_,qa,qb,qc,qd] _ 7 (gG.of (oT (aO (bu w (E #[bq Y] 45)) (E #[.string p8,.string p9,.string p_,.string qa,.string qb,.string qc,.string qd] 9)) (a4 _) rfl ae)) (λ_ b o e=>by cases e;rw[f];omega) ae (by decide+kernel) ae (by decide+kernel)
 rw[Ov hg,f] at c;have i:M J 9 #[aq (I (G w)),Z (au (I (G w)+1)) 7 7] (bu (bu w (E #[bq Y] 45)) (E #[.string p8,.string p9,.string p_,.string qa,.string qb,.string qc,.string qd] 9)) λe w'=>e=Q (ay #[.string (bs qe),bz #[ak 0,ak 0]])/\O (I (G w)) w w':=c.mono (by
  rintro e w' ⟨rfl,_,l,k,m⟩
  exact⟨rfl,k.be⟩)
 have hs:((bs qe).toList==qe)=O5:=by rw[p6];simp[bs]
 clear c j d hg;generalize bs qe=n at i hs;unfold qe at hs;go_enter func6,ntmps6;go_wp2_with (first|(go_at_call 8;refine(ue w).mono ?_;rintro e w1 ⟨rfl,rfl⟩)|(go_at_call 9;refine i.mono ?_;rintro e p ⟨rfl,hb⟩))
 go_ret;exact⟨rfl,hb.alloc hb.size _⟩
theorem Ow (k:Int)(w:az):M J 13 #[ak k] w λe w'=>e=Q (.string (bs (g8 k)))/\O (I (G w)) w w':=by
 have hb:=aw w (E #[.string (bs (stepW 1)),.string (bs (stepW 2)),.string (bs (stepW 3)),.string (bs (stepW 4)),.string (bs (stepW 5)),.string (bs (stepW 6)),.string (bs (stepW 7)),.string (bs (stepW 8)),.string (bs (stepW 9)),.string (bs (stepW 10)),.string (bs (stepW 11)),.string (bs (stepW 12)),.string (bs (stepW 13)),.string (bs (stepW 14)),.string (bs (stepW 15)),.string (bs (stepW 16))] 9)
 unfold g8;by_cases h0:k<1
 ·have b:(if k<0\/17<=k then([]:List UInt8) else stepW (K k))=[]:=by
   split
   ·rfl
   ·rw[show K k=0 by omega];rfl
  rw[b];go_enter func13,ntmps13;go_wp2;go_ret;exact⟨rfl,hb⟩
 ·by_cases c:k>16
  ·rw[aN (aI aa)];go_enter func13,ntmps13;go_wp2;go_ret;exact⟨rfl,hb⟩
  ·have hk:k=1\/k=2\/k=3\/k=4\/k=5\/k=6\/k=7\/k=8\/k=9\/k=10\/k=11\/k=12\/k=13\/k=14\/k=15\/k=16:=aa;rcases hk with rfl|rfl|rfl|rfl|rfl|rfl|rfl|rfl|rfl|rfl|rfl|rfl|rfl|rfl|rfl|rfl
   all_goals
    go_enter func13,ntmps13;go_wp2;go_ret;exact⟨rfl,hb⟩
theorem Ox {k n:Int}(h:g8 k=g8 n):k=n\/g8 k=[]:=by
 have key:∀i,i<17->∀j,j<17->stepW i=stepW j->i=j\/stepW i=[]:=by decide+kernel
 unfold g8 at h⊢;by_cases b:k<0\/17<=k
 ·right;rw[aN b]
 ·rw[aJ b] at h⊢;by_cases c:n<0\/17<=n
  ·right;rw[h,aN c]
  ·rw[aJ c] at h;rcases key (K k) aa (K n) aa h with e|e
   ·left;omega
   ·exact aI e
theorem uf (l b:List UInt8):((bs l).toList==(bs b).toList)=decide (l=b):=by rw[Lib.toList_data,Lib.toList_data];by_cases h:l=b<;>simp[bs,h]
namespace DWs
theorem walk (k n:Int)(w:az)(d:g7 w):M J 5 #[ak k,ak n] w λe w'=>e=Q (bA O5)/\O (I (G w)) w w':=by
 have g:=DP w d;have o:aA (∀w':az,O (I (G w)) w w'->M J 12 #[ak k] w' λe c=>e=Q (.string (bs (g8 k)))/\w'=c):=λw' hb=>xK k w' (d.below hb)
 have p:aA (∀w':az,O (I (G w)) w w'->M J 12 #[ak n] w' λe c=>e=Q (.string (bs (g8 n)))/\w'=c):=λw' hb=>xK n w' (d.below hb)
 have t:((bs (g8 k)).toList==(bs (g8 k)).toList)=O5:=by rw[uf];simp
 have q:aA (∀w',M J 13 #[ak k] w' λe c=>e=Q (.string (bs (g8 k)))/\O (I (G w')) w' c):=λw'=>Ow k w';have hc:((bs (g8 k)).toList==(bs (g8 n)).toList)=O4\/((bs (g8 k)).toList==(bs (g8 n)).toList)=O5/\(k==n)=O5\/((bs (g8 k)).toList==(bs (g8 n)).toList)=O5/\(k==n)=O4/\((bs (g8 k)).toList==[])=O5:=by
  rw[uf];by_cases h:g8 k=g8 n
  ·right;by_cases hk:k=n
   ·left;simp[hk]
   ·right;refine⟨by simp[h],by simpa using hk,?_⟩
    rw[p6];simp[bs,(Ox h).resolve_left hk]
  ·left;simp[h]
 clear d;generalize bs (g8 k)=a at*;generalize bs (g8 n)=b at*;rcases hc with hc|⟨hc,hk⟩|⟨hc,hk,ha⟩
 all_goals
  go_enter func5,ntmps5;go_wp2_with fail;refine g.mono ?_;clear g;rintro e w1 ⟨rfl,f⟩
  have i:=o.o w1 f;have j:=p.o w1 f;have l:=q.o w1;go_wp2_with fail;refine i.mono ?_;clear i;rintro e m ⟨rfl,rfl⟩
  go_wp2_with fail;refine j.mono ?_;clear j;rintro e m ⟨rfl,rfl⟩
  go_wp2_with fail;refine l.mono ?_;clear l;rintro e m ⟨rfl,s⟩
  go_wp2_with fail;go_ret;exact⟨rfl,f.trans (s.mono f.size)⟩
end DWs
open Go.ChangeShapes Go.WideShapes Go.ChangeAt Go.RowKit Go.Joins Go.Deep W
theorem DQ {H:Type}{P:Program}{e:bI}{d:DataW H}:∀{l:List (DataW H)},d∈l->∀n∈d.weights P e,n∈DataW.weightsAll P e l
 |x::l,hd,n,hn=>by
  rcases List.mem_cons.1 hd with rfl|hd
  ·exact kr _ hn
  ·exact ko _ (DQ hd n hn)
theorem Oy:prog.cellsOf 9=1:=ah
theorem open_strs {H:Type}{enc:bI×a7->H}{W:az}{sp:Nat->Bool}{j:Bool}{k len cap:Nat}{ad:Option bB}{x:DataW H×List MemPlace}
 (m:DataW.trod enc J W 0 sp j k 22 [.slice ad len cap]=OR x):∃l:List ByteArray,OQ l=len/\len<=cap/\cap<=maxLen/\gG W ad l/\((∀n∈x.1.weights J 22,n<=reachBytes)->∀s∈l,s.size<=reachBytes)/\(ad=Y->cap=0):=by
 rcases open_strings underlying22 underlying9 Oy m with⟨d,_⟩|⟨z,n,c,f,d,_,hl,hm,hz,p,g,_⟩
 ·simp at d;obtain⟨rfl,rfl,rfl⟩:=d;exact⟨[],rfl,aG _,ae,λh=>absurd h ac,λ_ s hs=>absurd hs ac,λ_=>rfl⟩
 ·obtain⟨rfl,rfl,rfl⟩:=d;have u:len<=OQ f:=by rw[hz];split<;>omega
  refine⟨f.take len,by simp;omega,hl,hm,λhp=>?_,λhw s hs=>?_,λe=>by cases e⟩
  rotate_left
  ·refine hw s.size ?_;rw[p];refine bj _ (kr _ (DQ (List.mem_map.2 ⟨s,hs,rfl⟩) _ ?_))
   simp[DataW.weights]
  have hp:0<len:=by simp at hp;omega
  obtain⟨b,o,q⟩:=z;have h0:=g 0 aa;have t:q=Y:=by simpa[Addr.add] using World.cell?_spot h0
  subst t;refine⟨b,o,rfl,aT W _ h0,λi hi=>?_⟩
  have hi:i<len:=by simp at hi;omega
  have k0:=g i aa;have ea:(⟨b,o,Y⟩:bB).add i=⟨b,o+i,Y⟩:=by simp[Addr.add]
  rw[ea] at k0;rw[k0];simp[bR,hi]
theorem Oz (t:Int)(n:Nat)(hn:n<=300):∃r:Nat,r<=n/\wrap64 ((IntKind.u64.wrap t).tmod ((n:Int)+1))=r:=by
 have h0:0<=IntKind.u64.wrap t:=by rw[IntKind.wrap_u64];omega
 generalize IntKind.u64.wrap t=u at*;rw[(Int.tmod_eq_emod_of_nonneg h0)];have b:=Int.emod_nonneg u (show((n:Int)+1)≠0 by omega)
 have c:=Int.emod_lt_of_pos u (show(0:Int)<(n:Int)+1 by omega)
 generalize u%((n:Int)+1)=v at*;refine⟨K v,aa,?_⟩
 unfold wrap64;omega
theorem ug:∀(l:List ByteArray)(i:Nat),(n3 l i).1≠0↔∃x∈l,p7 x=O5
 |[],_=>by simp[n3]
 |s::l,i=>by
  unfold n3;by_cases h:p7 s=O5
  ·simp[h]
  ·rw[aJ h,ug l (i+1)];simp[h]
theorem OA (l:List ByteArray)(k:Nat):(gL l).1≠0↔(gL (l.take k)).1≠0\/(gL (l.drop k)).1≠0:=by
 unfold gL;rw[ug,ug,ug]
 conv=>lhs;rw[<-Cq k l]
 constructor
 ·rintro⟨x,b,h⟩
  exact(bw.1 b).elim (λe=>aK ⟨x,e,h⟩) (λe=>aI ⟨x,e,h⟩)
 ·rintro(⟨x,b,h⟩|⟨x,b,h⟩)
  ·exact⟨x,kr _ b,h⟩
  ·exact⟨x,ko _ b,h⟩
theorem OB (L:List ByteArray)(ad:Option bB)(cp:Nat)(w:az)(g:gG w ad L)(hm:OQ L<=300)(hz:∀x∈L,x.size<=reachBytes):
 M J 7 #[Z ad (OQ L) cp] w λe w'=>(e=Q (bA O5)\/e=Q (bA O4)/\∀x∈L,x.size<=20000)/\w=w':=by
 have k:=cg g;have l:=cg hm;have m:=cg hz;clear g hm hz;go_enter func7,ntmps7;go_wp2_with fail
 go_loopw [3,4] (λnv iv wr=>∃(i n:Nat),i<=OQ L/\n<=20000/\nv=ak n/\iv=ak i/\aA (∀x∈L.take i,x.size<=20000)/\w=wr) (λ_ iv _=>OQ L-K (bG iv))
 exact⟨0,0,a4 _,aa,rfl,rfl,by intro x d;simp at d,rfl⟩
 ·
   obtain⟨i,n,hi,hn,rfl,rfl,f,rfl⟩:=hrel;by_cases c:i<OQ L
   ·obtain⟨b,o,rfl,lb,hc⟩:=k.o aa;have s:=hc i c;have hm:=l.o;have j:OZ L i .empty∈L:=by rw[aM,aP c];exact a_ c
    have hz:=m.o _ j;unfold reachBytes at hz;have p:=cg (show L.take (i+1)=L.take i++[OZ L i .empty] from xH L c)
    generalize OZ L i .empty=x at*;have q1:(i:Int)<(OQ L:Int):=aa;clear hc j;by_cases d:n+x.size<=20000
    ·have t:¬((n:Int)+(x.size:Int)>20000):=aa;have q:aA (∀y∈L.take (i+1),y.size<=20000):=by
      rw[p.o];intro y hy;rcases bw.1 hy with hy|hy
      ·exact f.o y hy
      ·rw[List.mem_singleton.1 hy];omega
     go_wp2;go_roundw;exact⟨i+1,n+x.size,aa,d,aj,aj,q,trivial⟩
     simp[bG];omega
    ·go_wp2_with fail;go_ret;exact⟨aK rfl,rfl⟩
   ·obtain rfl:i=OQ L:=aa;rw[ba] at f;go_wp2;go_ret;exact⟨aI ⟨rfl,f.o⟩,rfl⟩
section
variable {wb w:az}{D:Nat->Prop}{d m:Nat}{s:Option (Nat×Nat×ck)}{g:fM}
theorem ip.below {w':az}(h:ip wb D d s m w)(hb:O (I (G w)) w w'):ip wb D d s m w':=h.fr (Fr.of (X:=λ_=>False) hb) (λ_ e=>e.elim) (λ_ e=>e.elim)
theorem xS (h:ip wb D d s m w)(l:g7 wb)(hg:∀T wt,e6 T wt->dS T wt (g T wt))(L:List ByteArray)(ad:Option bB)(cp:Nat)(f:gG wb ad L)(hl:OQ L<=300)(hz:∀x∈L,x.size<=4000000000)(hm:m+OQ L<=8000):
 M J 9 #[aq d,Z ad (OQ L) cp] w λe w'=>∃i c2 j c,e=Q (ay #[.string i,bz #[ak (gL L).1,ak c2]])/\ip wb c d j (m+OQ L) w'/\b9 D w c w'/\((gL L).1=0->i=bs (eB g s L).2/\j=(eB g s L).1/\OQ (eB g s L).2<=1600000000000):=by
 have hw:=f.below h.be;by_cases hc:(gL L).1=0
 ·refine(DO h l hg L ad cp hw (λhp b o e hD=>?_) hl hz hm hc).mono ?_
  ·obtain⟨q,t,k,lb,_⟩:=f hp;rw[e] at k;cases k;have:=h.oU b hD;omega
  ·rintro e w' ⟨rfl,hlen,c,n,p⟩
   rw[hc];exact⟨_,_,_,c,rfl,n,p,λ_=>⟨rfl,rfl,aa⟩⟩
 ·refine(Ou d L ad cp w hw hl hc).mono ?_;rintro e w' ⟨rfl,hb⟩
  exact⟨_,_,s,D,rfl,(h.fr (Fr.of (X:=λ_=>False) hb) (λ_ e=>e.elim) (λ_ e=>e.elim)).more aa,b9.of hb,λe=>absurd e hc⟩
end
namespace DJs
theorem walk (ad:Option bB)(cp:Nat)(l:List ByteArray)(cut:Int)(w:az)(am:g7 w)(u:gG w ad l)(cN:OQ l<=cp)(cO:(cp:Int)<=maxLen)(hz:∀x∈l,x.size<=reachBytes)(hn:ad=Y->cp=0):
 M J 4 #[Z ad (OQ l) cp,ak cut] w λe w'=>e=Q (bA O5)/\O (I (G w)) w w':=by
 obtain⟨g,hg⟩:=CF;have aV:=DP w am;by_cases hlen:300<OQ l
 ·have cv:(OQ l:Int)>300:=aa;go_enter func4,ntmps4;go_wp2_with fail;refine aV.mono ?_;exact qt
 ·have cv:¬((OQ l:Int)>300):=aa;obtain⟨k,hk,gS⟩:=Oz cut (OQ l) aa;have b7:aA (∀w1,O (I (G w)) w w1->M J 7 #[Z ad (OQ l) cp] w1 λe w'=>(e=Q (bA O5)\/e=Q (bA O4)/\∀x∈l,x.size<=20000)/\w1=w'):=λw1 hb=>OB l ad cp w1 (u.below hb) aa hz;go_enter func4,ntmps4;go_wp2_with fail;refine aV.mono ?_;rintro e w1 ⟨rfl,hb1⟩
  have P:=b7.o w1 hb1;have B:=cg hb1;clear aV b7 hb1;go_wp2_with fail;refine P.mono ?_;clear P;rintro e cP ⟨rfl|⟨rfl,b8⟩,rfl⟩
  ·go_wp2_with fail;go_ret;exact⟨rfl,B.o⟩
  have a0:aA (∀x∈l,x.size<=4000000000):=λx F=>aQ (b8 x F) ae;have cw:OQ l<=300:=aa;have a1:OQ (l.take k)=k:=by rw[List.length_take];omega
  have an:OQ (l.drop k)=OQ l-k:=List.length_drop;have cx:aA (gG w ad (l.take k)):=λhp=>by
   obtain⟨b,o,e,lb,hc⟩:=u (by rw[a1] at hp;omega)
   refine⟨b,o,e,lb,λi hi=>?_⟩
   rw[a1] at hi;rw[hc i aa];simp[bR,hi]
  have cQ:=cg u;have cy:aA (∀x∈l.take k,x.size<=4000000000):=λx F=>a0.o x (List.mem_of_mem_take F)
  have cz:aA (∀x∈l.drop k,x.size<=4000000000):=λx F=>a0.o x (List.mem_of_mem_drop F)
  have a2:=cg (OA l k)
  have cA:aA ((eB g Y l).2=(eB g Y (l.take k)).2++(eB g (eB g Y (l.take k)).1 (l.drop k)).2):=by
   show(eB g Y l).2=_
   conv=>lhs;rw[<-Cq k l,xP]
  have ao:=cU am hg;have bb:aA (∀(D:Nat->Prop)(d:Nat)(w':az),ip w D d Y 0 w'->M J 9 #[aq d,Z ad (OQ l) cp] w' λe ca=>∃N c2 S W,e=Q (ay #[.string N,bz #[ak (gL l).1,ak c2]])/\ip w W d S (0+OQ l) ca/\b9 D w' W ca/\((gL l).1=0->N=bs (eB g Y l).2/\S=(eB g Y l).1/\OQ (eB g Y l).2<=1600000000000)):=λD d w' h=>xS h am hg l ad cp u cw a0.o aa;have cB:aA (∀z,ad=OR z->cp≠k->gG w (OR (z.add k)) (l.drop k)):=λz ea cR hp=>by
   obtain⟨cC,cD,e,lb,hc⟩:=u (by rw[an] at hp;omega)
   rw[ea] at e;cases e;refine⟨cC,cD+k,by simp[Addr.add],lb,λi hi=>?_⟩
   rw[an] at hi;rw[Nat.add_assoc,hc (k+i) aa];simp[bR]
  have cb:(ad=Y/\cp=0/\k=0/\l=[])\/(∃z,ad=OR z/\cp=k)\/(∃z,ad=OR z/\cp≠k):=by
   rcases ad with _|z
   ·have:=hn rfl;exact aK ⟨rfl,this,aa,List.length_eq_zero_iff.1 aa⟩
   ·by_cases h:cp=k
    ·exact aI (aK ⟨z,rfl,h⟩)
    ·exact aI (aI ⟨z,rfl,h⟩)
  have cE:=cg cb;clear cb hn;have cS:(k:Int)<=(cp:Int):=aa;have k0:(0:Int)<=(k:Int):=aa;have cT:(k:Int)<=(OQ l:Int):=aa;clear b8 am hg u hz hlen;go_wp2_with fail;rw[gS];clear gS;refine(ue w1).mono ?_;rintro e ap ⟨rfl,rfl⟩
  have ab:=ip.anew B.o;have cc:O (I (G w)) w (bu w1 (E #[bq Y] 45)):=B.o.alloc B.o.size _;have cd:I (G (bu w1 (E #[bq Y] 45)))=I (G w1)+1:=ac;go_wp2_with fail;refine(ue _).mono ?_;rintro e ap ⟨rfl,rfl⟩
  have hB:=ip.anew cc;have ab:=ab.fr (Fr.of (X:=λ_=>False) ((aH (I (G (bu w1 (E #[bq Y] 45)))) (bu w1 (E #[bq Y] 45))).alloc bY (E #[bq Y] 45))) (λ_ e=>e.elim) (λ_ e=>e.elim)
  rw[cd] at hB;have cV:I (G w1)+1<I (G (bu (bu w1 (E #[bq Y] 45)) (E #[bq Y] 45))):=ac
  go_upto_region 7 with fail
  generalize bu (bu w1 (E #[bq Y] 45)) (E #[bq Y] 45)=ap at*;clear cc cd B;generalize I (G w1)=m at*;have bd:=xS ab ao.o.1 ao.o.2 (l.take k) ad cp cx.o aa cy.o aa;rw[a1] at bd;go_wp2_with fail;refine bd.mono ?_;clear bd;rintro e p ⟨be,c1,s1,ag,rfl,k1,aB,r1⟩
  generalize (gL (l.take k)).1=q1 at*;have ce:∀b,ag b->b=m\/I (G ap)<=b:=aB.sub;have cW:I (G w)<=m:=ab.oU m rfl;have cf:=hB.fr aB.fr (λb e g=>by have e:b=m:=e;have g:b=m+1:=g;omega) (λb e=>by have e:b=m:=e;omega)
  have ch:=aO p (E #[U R q1,U R c1] 33)
  have c:=aw p (E #[U R q1,U R c1] 33)
  have q:=ql (k1.below c) (cf.below c) ch ce (show¬ag (I (G p)) from λe=>by have:=k1.hD _ e;omega) r1;have cX:I (G ap)<=I (G p):=aB.fr.size;clear k1 aB cf ch c ce r1 ab hB
  go_upto_region 8 with fail
  generalize bu p (E #[U R q1,U R c1] 33)=cF at*;generalize I (G p)=f at*;have ci:=bb.o _ _ cF q.o.2.1;go_wp2_with fail;refine ci.mono ?_;clear ci;rintro e v ⟨ck,c2,s2,cY,rfl,_,bg,cl⟩
  generalize (gL l).1=ai at*;have k5:=q.o.1.fr bg.fr (λb e g=>by have e:b=m+1:=e;have:=q.o.2.2.2.1 b g;omega) (λb e=>by have e:b=m+1:=e;omega)
  have bi:=(bg.fr.block f (cj q.o.2.2.1) (λe=>by have e:f=m+1:=e;omega)).trans q.o.2.2.1;have c:=aw v (E #[U R ai,U R c2] 33)
  have n:=ql (k5.below c) ((c.block _ (cj bi)).trans bi) (aO v (E #[U R ai,U R c2] 33)) (show¬ag (I (G v)) from λe=>by have:=k5.hD _ e;omega) (show(¬ag f)/\(q1=0->be=bs (eB g Y (l.take k)).2/\s1=(eB g Y (l.take k)).1/\OQ (eB g Y (l.take k)).2<=1600000000000) from q.o.2.2.2.2) cl;clear bg k5 bi c cl q
  go_upto_region 9 with fail
  generalize bu v (E #[U R ai,U R c2] 33)=cm at*;generalize I (G v)=cG at*;have s:∀ar,gG w ar (l.drop k)->M J 9 #[bq (OR ⟨m,0,Y⟩),Z ar (OQ l-k) (cp-k)] cm λe w'=>∃N c3 S W,e=Q (ay #[.string N,bz #[U R (gL (l.drop k)).1,U R c3]])/\ip w W m S (0+k+(OQ l-k)) w'/\b9 ag cm W w'/\((gL (l.drop k)).1=0->N=bs (eB g s1 (l.drop k)).2/\S=(eB g s1 (l.drop k)).1/\OQ (eB g s1 (l.drop k)).2<=1600000000000):=λar cH=>by have:=xS n.o.1 ao.o.1 ao.o.2 (l.drop k) ar (cp-k) cH aa cz.o aa;rwa [an] at this
  generalize (gL (l.drop k)).1=q3 at*;have bl:=cg s;have cn:aA (∀ar,OQ l=k->gG w ar (l.drop k)):=λar e hp=>by rw[an] at hp;omega
  rcases cE.o with⟨rfl,rfl,rfl,rfl⟩|⟨z,rfl,rfl⟩|⟨z,rfl,cI⟩
  all_goals
   first
    |have s:=bl.o _ (cB.o z rfl cI)
    |(have s:=bl.o (OR z) (cn.o _ aa);rw[show OQ l-cp=0 by omega,Jl] at s)
    |(have s:=bl.o Y (cn.o _ rfl);simp only [List.length_nil,Jl] at s bb)
   go_wp2_with fail;refine s.mono ?_;rintro e al ⟨co,c3,cZ,c0,rfl,cq,t3,r3⟩
   have bn:=(t3.fr.block f (cj n.o.2.1) n.o.2.2.2.2.1.1).trans n.o.2.1;have bo:=(t3.fr.block cG (cj n.o.2.2.1) n.o.2.2.2.1).trans n.o.2.2.1;have c:=aw al (E #[U R q3,U R c3] 33)
   have j:=ql ((c.block _ (cj bn)).trans bn) ((c.block _ (cj bo)).trans bo) (aO al (E #[U R q3,U R c3] 33)) (cq.below c).be r3 n.o.2.2.2.2;clear t3 cq bn bo c r3 n
   go_upto_region 10 with fail
   generalize bu al (E #[U R q3,U R c3] 33)=t at*;generalize I (G al)=bp at*;obtain⟨y1,_⟩:=kq j.o.1;obtain⟨c4,_⟩:=kq j.o.2.1;obtain⟨c5,_⟩:=kq j.o.2.2.1;by_cases hq:ai=0
   ·have aF:=fo λe=>a2.o.2 (aK e) hq;have aR:=fo λe=>a2.o.2 (aI e) hq;subst hq aF aR;go_wp2_with fail;refine(ue t).mono ?_;rintro e c6 ⟨rfl,rfl⟩
    have hD:=ip.anew j.o.2.2.2.1;have br:=((aw t (E #[bq Y] 45)).block f (cj j.o.1)).trans j.o.1;have bt:=((aw t (E #[bq Y] 45)).block bp (cj j.o.2.2.1)).trans j.o.2.2.1;have cJ:=cj j.o.1;have cK:=cj j.o.2.2.1;go_wp2_with fail;refine(bb.o _ _ _ hD).mono ?_;rintro e bx ⟨st,cr,s4,c7,rfl,cs,b0,ct⟩
    have b4:=(b0.fr.block f (cj br) (λe=>by have e:f=I (G t):=e;omega)).trans br;have b5:=(b0.fr.block bp (cj bt) (λe=>by have e:bp=I (G t):=e;omega)).trans bt;have c:=aw bx (E #[U R 0,U R cr] 33)
    obtain⟨c8,_⟩:=kq ((c.block _ (cj b4)).trans b4)
    obtain⟨c9,_⟩:=kq ((c.block _ (cj b5)).trans b5)
    have hB:=cg (cs.below c).be;obtain⟨b6,cu,cL⟩:=j.o.2.2.2.2.2.1.2 (by first|rfl|trivial)
    obtain⟨rb,_,cM⟩:=j.o.2.2.2.2.1 (by first|rfl|trivial)
    obtain⟨rs,_⟩:=j.o.2.2.2.2.2.2 (by first|rfl|trivial)
    obtain⟨rt,_⟩:=ct (by first|rfl|trivial)
    have da:((be++co).toList==ck.toList)=O5:=by rw[b6,rb,rs,Du,cA.o,cu,uf];simp
    have db:(st.toList==ck.toList)=O5:=by rw[rt,rs,uf];simp
    have ls:¬9223372036854775807<be.size+co.size:=by have hs:∀x:List UInt8,(bs x).size=OQ x:=λ_=>rfl;rw[b6,rb,hs,hs];omega
    clear br bt hD b0 ct b4 b5 cs b6 cu cL rb cM rs rt c j cJ cK
    go_upto_region 13 with fail
    generalize bu bx (E #[U R 0,U R cr] 33)=dc at*;go_wp2_with fail;go_ret;exact⟨rfl,hB.o⟩
   ·have b2:(ai==0)=O4:=by simpa using hq
    by_cases aF:q1=0
    ·have aR:=(a2.o.1 hq).resolve_left (λe=>e aF)
     have b1:(q1==0)=O5:=by simpa using aF
     have b3:(q3==0)=O4:=by simpa using aR
     go_wp2_with fail;go_ret;exact⟨by simpa using aR,j.o.2.2.2.1⟩
    ·go_wp2_with fail;go_ret;exact⟨rfl,j.o.2.2.2.1⟩
end DJs
open Go.RowKit W Kp ch Go.Lib
theorem xT {n:String}{g:Nat}{t T:bI}(h0:((prog.globalNamed n).bind λg=>(prog.globals[g]?).map (·.type))=OR T)(hg:prog.globalNamed n=OR g)(ht:(prog.globals[g]?).map (·.type)=OR t):t=T:=by rw[hg] at h0;exact kg (ht.symm.trans h0)
theorem DR {W:az}{n d:String}{x:DataW Unit}{T:bI}{ms:Array (String×bI)}(h0:((prog.globalNamed n).bind λg=>(prog.globals[g]?).map (·.type))=OR T)(e:prog.underlying T=OR (.interface ms))(h:VarReads J W n (.iface d x)):∃tp p,W.var? J n=OR #[.iface tp p]:=by
 obtain⟨g,t,f,c,p,hg,ht,hv,hd⟩:=h;obtain rfl:=xT h0 hg ht;rw[hv];obtain⟨l⟩:=f;cases c with
 |zero=>simp[DataW.trod] at hd
 |succ c=>
  simp only [DataW.trod,e] at hd;rcases l with _|⟨a,_|⟨b,l⟩⟩
  ·simp at hd
  ·cases a<;>simp at hd
   all_goals exact⟨_,_,rfl⟩
  ·simp at hd
theorem OC {W:World}(b:laidMet Tryz.prog Rows.deskWordsRow.laid W)(l:W.ShapedOpen Tryz.prog):g7 W:=by
 refine⟨cell_of_shapedOpen_int (zero:=#[ak 0]) l (by decide+kernel) ah rfl ah ah Tryz.underlying3,?_,DR ah Tryz.underlying76 (Lib.laidMet.reads b (by simp[Rows.deskWordsRow];rfl)),DR ah Tryz.underlying76 (Lib.laidMet.reads b (by simp[Rows.deskWordsRow];rfl)),?_⟩
 ·obtain⟨g,t,c,o,p,hg,ht,hv,hd⟩:=Lib.laidMet.reads b (n:= "internal/strconv.uint64pow10") (d:=Rows.laid_internal_strconv_uint64pow10) (by simp[Rows.deskWordsRow])
  obtain rfl:t=228:=xT ah hg ht;unfold TabIs;rw[hv,<-cells_of_tab Tryz.underlying228 Tryz.underlying173 ah ah hd]
 ·obtain⟨g,t,c,o,p,hg,ht,hv,hd⟩:=Lib.laidMet.reads b (n:= "underwood/desk.stepWords") (d:=Rows.laid_underwood_desk_stepWords) (by simp[Rows.deskWordsRow])
  obtain rfl:t=58:=xT ah hg ht;intro i hi;obtain⟨f,m,rfl,q,hl,w,u⟩:=DataW.trod_array Tryz.underlying58 hd;have j:=u i hi;rw[show Tryz.prog.cellsOf 9=1 by kernel_rfl,Nat.mul_one,List.getElem?_eq_getElem aa] at j;obtain⟨s,hc,hs,_⟩:=DataW.trod_string Tryz.underlying9 j;have hm:f.map (·.1)=(List.range 17).map (λi=>(DataW.lit (.string (stepW i)):DataW Unit)):=by have h0:Rows.laid_underwood_desk_stepWords=(DataW.agg ((List.range 17).map λi=>.lit (.string (stepW i))):DataW Unit):=ah;exact(DataW.agg.inj (congrArg Prod.fst q)).symm
  have k:(f.map (·.1))[i]?=some (.lit (.string s.data.toList)):=by rw[List.getElem?_map,List.getElem?_eq_getElem aa,Option.map_some,hs]
  rw[hm,List.getElem?_map,List.getElem?_eq_getElem (by simpa using hi)] at k;have e:stepW i=s.data.toList:=by simpa using k
  have v:c.toList[i]?=some (.string s):=by have:=congrArg (·[0]?) hc;simpa[List.getElem?_take,List.getElem?_drop] using this
  rw[World.var?_cell (by kernel_rfl:Tryz.prog.globalNamed "underwood/desk.stepWords" =some 0) hv i,e];simpa using v
open Go.ChangeShapes Go.WideShapes Go.ChangeAt Go.RowKit Go.Joins W
theorem own:ownKnob prog.godebug=Y:=ah
theorem laidOut:laidOutB J=O5:=ah
theorem OE {os:Os}{f:FuncId}{b:Func}{s:ChangeSpec}{H:Type}{enc:bI×a7->H}{c:List (String×DataW Unit)}
 (m:os.Started)(n:prog.inits.idxOf? f=Y)(o:prog.funcs[f]?=OR b)(p:∀w,laidMetH J c w->laidMet J c w)
 (q:∃(w:az)(tape:Tape)(i:Input),w.os=os/\(w.forCall tape i).Shaped J/\i.vars=[]/\Input.okWide J (w.forCall tape i) .any (I (G w)) f i/\
   ((s.pre enc J b [] O4 (w.forCall tape i).memory i.args/\laidMetH J c (w.forCall tape i).memory)/\sizedMet enc J b (OpenSpec.ofChange s) O4 (w.forCall tape i).memory i.args)/\Assume.holds {} J (lone (Frame.enter J f i.args .normal) [] (w.forCall tape i)))
 (walk:∀(W:az)(base:Nat)(args:Array a7)(d g:List (DataW H))(k:List MemPlace),
   (∀(j:Nat) t v,b.params[j]?=OR t->args[j]?=OR v->Value.okWide J W .any base t v)->
   DataW.Whole enc J b.params.toList s.vars O4 W args.toList d g k->(DataW.weightsEach J (b.params.toList++s.plain.varTypes J) (d++g)).all (·<=reachBytes)=O5->laidMet J c W->W.ShapedOpen J->
   M J f args W λe l=>∃v,e=Q v/\s.post enc J b O4 O5 O4 O4 W args v l):
 ReturnsInHanded {} Tryz.checked os f .any (λw args=>(s.pre enc J b [] O4 w args/\laidMetH J c w)/\sizedMet enc J b (OpenSpec.ofChange s) O4 w args) (s.post enc J b O4 O5 O4 O4):=by
 refine returnsInHanded_of_calls (C:=Tryz.checked) own m n q ?_;intro w tape i _ u _ x B _;obtain⟨_,_,_,F,N,_,_,_,_,S⟩:=x;obtain rfl:F=b:=kg (N.symm.trans o)
 obtain⟨⟨⟨d,g,k,hw,_⟩,ab⟩,hz⟩:=B;have ad:laidMet J c (w.forCall tape i):=p _ (ab.of_heap af)
 refine(walk (w.forCall tape i) (I (G w)) i.args d g k S (DataW.Whole.of_heap (w':=w.forCall tape i) af hw) (hz.weights hw) ad u).mono λe l ⟨v,he,hp⟩=>?_;subst he;exact ChangeSpec.post_blind hp
namespace DJs
theorem lifted (os:Os)(k:os.Started)(H:Type)(enc:bI×a7->H):
 ReturnsInHanded {} Tryz.checked os 4 .any (λw args=>(Rows.deskJoinsSpec.pre enc J Tryz.f4 [] O4 w args/\laidMetH J Rows.deskJoinsRow.laid w)/\sizedMet enc J Tryz.f4 (OpenSpec.ofChange Rows.deskJoinsSpec) O4 w args) (Rows.deskJoinsSpec.post enc J Tryz.f4 O4 O5 O4 O4):=by
 refine OE k ah func4 (λw h=>by rwa [MakeChecks.laidMetH_plain _ _ _ ah] at h)
  (ChangeSpec.witness_shaped (enc:=enc) (C:=Tryz.checked) (os:=os) (X:=λw _=>laidMetH J Rows.deskJoinsRow.laid w) O4 (World.laidAll J os Rows.deskJoinsRow.laid) #[.slice Y 0 0,ak 0] 8 (World.laidAll_os _ _ _)
    (World.shaped_of_ZipB ah ah) ah ah ah
    (by rw[MakeChecks.laidMetH_plain _ _ _ ah];exact laidMet_laidAll _ ah ah)) ?_
 intro W base args l an ao d f b o s;have c:∀(j:Nat) t v,Tryz.f4.params[j]?=OR t->args[j]?=OR v->Value.okWide J W .any base t v:=d;have u:=f;obtain⟨p,q,g,B,rfl,ap,ar⟩:=f;have i:DataW.TrodAll enc J W 0 (λ_=>O5) O5 Tryz.f4.params.toList args.toList l p:=g;rw[Tryz.params4] at i c;obtain⟨v0,aB,F,aF,N,q0,aR,rfl,rfl,h0,r0⟩:=trodAll_cons i;obtain⟨v1,aV,a2,bb,bd,q1,rfl,rfl,rfl,S,r1⟩:=trodAll_cons r0;obtain⟨rfl,rfl,rfl⟩:=trodAll_nil r1;obtain rfl:args=#[v0,v1]:=by cases args;simp_all
 obtain⟨rfl,rfl⟩:=trodVars_none B;obtain⟨a0,be,ab,rfl⟩:=okWide_slice underlying22 (c 0 22 v0 rfl rfl)
 have k0:=h0;have ad:∀x∈N,x.block<I (G W):=by obtain⟨m,hm⟩:=k0;exact DataW.trod_lt m _ _ _ hm
 obtain⟨bg,ag⟩:=h0;obtain⟨ai,rfl,c0,bi,al,z0,n0⟩:=open_strs ag;obtain⟨a1,rfl,rfl,rfl,w1⟩:=open_int underlying3 (c 1 3 v1 rfl rfl) S;have am:=z0 (λn hn=>by
  rw[Tryz.params4] at b;have:=List.all_eq_true.1 b n (by
   show n∈DataW.weightsEach J (22::_) (F::_)
   rw[DataW.weightsEach];exact kr _ hn)
  simpa using this)
 clear g d b;refine(walk a0 ab ai a1 W (OC o s) al c0 aa am n0).mono λe bl ⟨he,e9⟩=>?_;subst he;exact⟨_,rfl,_,_,_,[],_,[],u,trodAll_mk1 (shut_bool underlying4 _),(trodAll_cons_mk (Below.trod laidOut ah (of_decide_eq_true ah) k0 e9 ad) (trodAll_cons_mk (shut_int underlying3 w1) trodAll_mk0)),rfl,e9.frame _,λh=>by cases h⟩
end DJs
end Go.Proofs.YtjckpdepffejnaaGreatDoor
