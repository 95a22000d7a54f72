import Derived.Test.YtjckpdepffejnaaGreatDoorJ25
import Derived.Test.YtjckpdepffejnaaGreatDoorRows
import Derived.Lib.LaidU8
import Derived.Shelf.Vars
import Derived.ProofKit
import Derived.Lay
import Derived.SevenTiedAt
import Derived.ShutString
import Derived.ChangeOld
import Derived.HandedShaped
import Derived.JoinedOf
import Derived.Test.YtjckpdepffejnaaGreatDoorJF
open Array renaming size->I
open Bool renaming false->OU,true->OV
open Go renaming Calls->M,TypeId->bI,Value->a7
open Go.Ending renaming returned->Q
open Go.IntKind renaming i64->R
open Go.Obj renaming cells->E
open Go.Proofs.Tryz renaming prog->O
open Go.RowKit renaming Below->J,intOf->bG
open Go.Value renaming agg->bz,int->OP,pointer->bq,slice->Z,tuple->ay
open Go.World renaming alloc->bu,cell?->V,heap->G,setCell->A
open Int renaming toNat->K
open List renaming getD->U,length->OG
open Nat renaming le_of_lt->ve
open Option renaming none->Y,some->OH
open Option.some renaming inj->j3
namespace Go.Proofs.YtjckpdepffejnaaGreatDoor
set_option maxRecDepth 100000
set_option maxHeartbeats 4000000
open Go.Proofs.Tryz
open Go.RowKit W Kp ch
def ub (s:ByteArray):Bool:=decide (0<=Lib.indexByte s.data.toList 10)
def rE:List ByteArray->Nat->Int×Int
 |[],_=>(0,0)
 |s::l,i=>if ub s=OV then(6,i) else rE l (i+1)
def na (l:List ByteArray):Int×Int:=rE l 0
theorem Oj (L:List ByteArray){i:Nat}(hi:i<OG L):L.drop i=U L i .empty::L.drop (i+1):=by rw[aN,aP hi];exact List.drop_eq_getElem_cons hi
theorem Ok (s:ByteArray)(w:az):M O 20 #[.string s,.string ⟨#[10]⟩] w λe w'=>e=Q (.bool (ub s))/\w=w':=
 (Tryz.strings_Contains_one s 10 w).mono λ_ _ h=>⟨h.1,h.2.symm⟩
theorem DI {w:az}{b:Nat}{c:Array a7}{T:bI}(h:w.heap[b]?=OH (E c T (0,0)))(o:Nat)(v:a7):(A w ⟨b,o,Y⟩ v).heap[b]?=OH (E (c.setIfInBounds o v) T (0,0)):=by exact tz
theorem Ol (L:List ByteArray)(ad:Option Addr)(cp:Nat)(w:az)(j:iU w ad L)(hm:OG L<=300):
 M O 14 #[Z ad (OG L) cp] w λe w'=>e=Q (bz #[ak (na L).1,ak (na L).2])/\J (I (G w)) w w':=by
 have k:=aw w (E #[OP R 0,OP R 0] 33)
 have hn:=aO w (E #[OP R 0,OP R 0] 33)
 have o:=cg j;have c:=cY k hn;clear j k hn;have u:(OG L:Int)<=300:=aa;go_enter func14,ntmps14
 go_upto_region 4 with fail
 have q:aA (I (G w)=I (G w)):=rfl;generalize bu w (E #[OP R 0,OP R 0] 33)=w1 at*;have x:V w1 (av (I (G w)) 0)=OH (ak 0):=jC c.o.2 rfl;have B:V w1 (av (I (G w)) 1)=OH (ak 0):=jC c.o.2 rfl;have F:w1.frozen? (av (I (G w)) 0)=OU:=aE c.o.2
 have N:w1.frozen? (av (I (G w)) 1)=OU:=aE c.o.2
 have l:aA (∀a b:Int,V (A (A w1 ⟨I (G w),0,Y⟩ (OP R a)) ⟨I (G w),1,Y⟩ (OP R b)) (av (I (G w)) 0)=OH (ak a)/\V (A (A w1 ⟨I (G w),0,Y⟩ (OP R a)) ⟨I (G w),1,Y⟩ (OP R b)) (av (I (G w)) 1)=OH (ak b)/\J (I (G w)) w (A (A w1 ⟨I (G w),0,Y⟩ (OP R a)) ⟨I (G w),1,Y⟩ (OP R b))):=λa b=>by
  have m:=DI (DI c.o.2 0 (ak a)) 1 (ak b)
  exact⟨jC m rfl,jC m rfl,(c.o.1.setCell (p:=⟨I (G w),0,Y⟩) bY _).setCell (p:=⟨I (G w),1,Y⟩) bY _⟩
 clear q
 go_loopw [11] (λiv wr=>∃i:Nat,i<=OG L/\iv=ak i/\aA (na L=rE (L.drop i) i)/\w1=wr) (λiv _=>OG L-K (bG iv))
 case atStart=>exact⟨0,a4 _,rfl,rfl,rfl⟩
 case round=>
  obtain⟨i,hi,rfl,f,rfl⟩:=hrel;by_cases n:i<OG L
  ·have q0:(0:Int)<=(i:Int):=aa;have q1:(i:Int)<(OG L:Int):=aa;obtain⟨S,W,rfl,l0,hc⟩:=o.o aa;have y:=(c.o.1.cell l0).trans (hc i n)
   have d:=cg (show na L=if ub (U L i .empty)=OV then(6,(i:Int)) else rE (L.drop (i+1)) (i+1) by rw[f.o,Oj L n];rfl)
   clear hc;generalize U L i .empty=s at*;have P:=Ok s w1;cases hb:ub s
   ·rw[hb] at P d;have g:=cg (show na L=rE (L.drop (i+1)) (i+1) from d.o.trans (aJ ae))
    clear d f;go_wp2_with (go_at_call 20;refine P.mono ?_;rintro e t ⟨rfl,rfl⟩)
    go_roundw
    case rel=>exact⟨i+1,aa,aj,g,trivial⟩
    case measure=>simp[bG];omega
   ·rw[hb] at P d;have g:=cg (show na L=(6,(i:Int)) from d.o.trans (aM rfl))
    clear d f;have hs:=l.o 6 i;go_wp2_with (go_at_call 20;refine P.mono ?_;rintro e t ⟨rfl,rfl⟩)
    rw[g.o];refine a3 (v:=bz #[ak 6,ak i]) (by simp only [results,results14];simp[go_sem,hs.1,hs.2.1]) rfl ⟨rfl,hs.2.2⟩
  ·obtain rfl:i=OG L:=aa;have g:=cg (show na L=(0,0) by rw[f.o,List.drop_length];rfl)
   clear f;have hs:=l.o 0 0;go_wp2_with fail;rw[g.o];refine a3 (v:=bz #[ak 0,ak 0]) (by simp only [results,results14];simp[go_sem,hs.1,hs.2.1]) rfl ⟨rfl,hs.2.2⟩
section
variable {wb w:az}{D:Nat->Prop}{d m:Nat}{s:Option (Nat×Nat×cj)}{g:fS}
theorem Om {w:az}{base cap:Nat}{ao:Option Addr}{L:List ByteArray}(h:w.ownsRow base 9 1 (Z ao (OG L) cap) (OG L) (L.map Value.string)):iU w ao L/\OG L<=cap/\∀b o,ao=OH ⟨b,o,Y⟩->base<=b:=by
 rcases h.2 with⟨hv,e⟩|⟨g,c,f,hv,hb,hg,hc,_⟩
 ·have d:L=[]:=by simpa using e
  subst d;cases hv;exact⟨λhp=>absurd hp ac,aG _,λb o e=>by cases e⟩
 ·cases hv;refine⟨iU.of h,hc,λb o e=>by cases e;exact hb⟩
theorem On (w:az):M O 8 #[] w λe w'=>e=Q (aq (I (G w)))/\w'=bu w (E #[bq Y] 45):=by go_enter func8,ntmps8;go_wp2;go_ret;exact⟨rfl,rfl⟩
theorem k_.anew (hb:J (I (G wb)) wb w):k_ wb (λb=>b=I (G w)) (I (G w)) Y 0 (bu w (E #[bq Y] 45)):=by
 have h:=aO w (E #[bq Y] 45)
 exact⟨h,rfl,λb e=>by rw[e];exact hb.size,λb e=>by rw[e];exact ck h,hb.alloc hb.size _⟩
theorem Oo (h:k_ wb D d s m w)(bi:hL wb)(hg:∀T wt,e9 T wt->dW T wt (g T wt))(L:List ByteArray)(ad:Option Addr)(cp:Nat)(aR:iU w ad L)(bl:0<OG L->∀b o,ad=OH ⟨b,o,Y⟩->¬D b)(hl:OG L<=300)(hz:∀x∈L,x.size<=4000000000)(hm:m+OG L<=8000)(hc:(na L).1=0):
 M O 9 #[aq d,Z ad (OG L) cp] w λe w'=>e=Q (ay #[.string (bs (gd g s L).2),bz #[ak 0,ak 0]])/\OG (gd g s L).2<=OG L*5100000000/\∃f,k_ wb f d (gd g s L).1 (m+OG L) w'/\b9 D w f w':=by
 have aV:=aw w (E #[OP R 0,OP R 0] 33)
 have bn:=aO w (E #[OP R 0,OP R 0] 33)
 have P:=Ol L ad cp _ (aR.below aV) hl;generalize na L=q at*;obtain⟨q0,q1⟩:=q;dsimp only at P hc;subst hc;have S:=cY aV bn;have l:=qh h bi hg aR bl;have al:=ge hl hz hm;have lw:I (G w)<I (G (bu w (E #[OP R 0,OP R 0] 33))):=ac;clear aV bn aR h bi hg bl hl hz hm;go_enter func9,ntmps9;go_wp2_with fail;generalize bu w (E #[OP R 0,OP R 0] 33)=w1 at*;refine P.mono ?_;clear P;rintro e n ⟨rfl,a0⟩
 have B:=(a0.block _ (ck S.o.2)).trans S.o.2;have W:=cY (S.o.1.trans (a0.mono S.o.1.size)) B;have l2:I (G w)<I (G n):=ck B;clear a0 B S lw;have am:=aO (bu n (E #[OP R 0,OP R q1] 33)) (E #[bq (OH ⟨d,0,Y⟩),bq Y,Z Y 0 0] 52)
 have a1:J (I (G w)) w (bu (bu n (E #[OP R 0,OP R q1] 33)) (E #[bq (OH ⟨d,0,Y⟩),bq Y,Z Y 0 0] 52)):=(W.o.1.alloc W.o.1.size _).alloc (by have:=W.o.1.size;simp;omega) _;have a2:(bu (bu n (E #[OP R 0,OP R q1] 33)) (E #[bq (OH ⟨d,0,Y⟩),bq Y,Z Y 0 0] 52)).heap[I (G w)]?=OH (E #[ak 0,ak 0] 33 (0,0)):=by rw[aU _ _ _ (by simp;omega),aU _ _ _ l2];exact W.o.2
 have es:I (G (bu n (E #[OP R 0,OP R q1] 33)))=I (G n)+1:=ac;rw[es] at am;have lk:I (G w)<I (G n)+1:=aa;go_wp2_with fail;generalize bu (bu n (E #[OP R 0,OP R q1] 33)) (E #[bq (OH ⟨d,0,Y⟩),bq Y,Z Y 0 0] 52)=u at*;generalize I (G n)+1=k at*;have bo:fN (λb=>b=k) k d [] u:=⟨rfl,bq Y,Z Y 0 0,am,aK rfl,⟨by simp[Lib.byteCells],aK ⟨rfl,rfl⟩⟩,by simp[Value.ownBlock],λ_=>rfl,λb e=>by simp[Value.ownBlock] at e⟩
 have bp:eN wb (λb=>b=k) D k d s m [] u:=⟨bo,l.o.1.fr (Fr.of (X:=λ_=>False) a1) (λ_ e=>e.elim) (λ_ e=>e.elim),λb e g=>by have:=l.o.1.hD b g;omega,λb e=>by have:=l.o.1.be.size;omega,λb e=>by rw[e];exact ck am,l.o.2.1⟩
 have F:=ge a1 a2 (ck a2)
 have br:aA (∃t f,eN wb t f k d (gd g s (L.take 0)).1 (m+0) (gd g s (L.take 0)).2 u/\b9 (λb=>b=k\/D b) u (λb=>t b\/f b) u/\OG (gd g s (L.take 0)).2<=0*5100000000):=⟨_,_,bp,b9.refl _ _,aG _⟩
 clear bo bp a1 a2 am W es
 go_loopw [21] (λiv wr=>∃i:Nat,i<=OG L/\iv=ak i/\aA (∃t f,eN wb t f k d (gd g s (L.take i)).1 (m+i) (gd g s (L.take i)).2 wr/\b9 (λb=>b=k\/D b) u (λb=>t b\/f b) wr/\OG (gd g s (L.take i)).2<=i*5100000000)) (λiv _=>OG L-K (bG iv))
 case atStart=>exact⟨0,a4 _,rfl,br⟩
 case round=>
  clear br;obtain⟨i,hi,rfl,ab⟩:=hrel;by_cases an:i<OG L
  ·obtain⟨t,f,c,hn,hlen⟩:=ab.o;obtain⟨N,bb,rfl,lb,bt⟩:=l.o.2.2.2.1 aa;have bd:=bt i an;have nb:¬(N=k\/D N):=λe=>e.elim (λe=>by omega) (l.o.2.2.2.2 aa N bb rfl)
   have y1:=(F.o.1.cell (p:=av N (bb+i)) lb).trans bd;have b3:=(aQ (w:=u) (a:=⟨N,bb+i,Y⟩) (hn.fr.block N (aL lb F.o.1.size) nb)).trans y1;have hz:=al.o.2.1 (U L i .empty) (by rw[aN,aP an];exact a_ an)
   have q0:(0:Int)<=(i:Int):=aa;have q1:(i:Int)<(OG L:Int):=aa;have bx:=cg (show L.take (i+1)=L.take i++[U L i .empty] from Dk L an)
   have b4:=Ng (U L i .empty) hz wr c.oS;have b5:aA (∀(j:az)(ao:Option Addr)(cap:Nat),j.ownsRow (I (G wr)) 9 1 (Z ao (OG (hZ (U L i .empty))) cap) (OG (hZ (U L i .empty))) ((hZ (U L i .empty)).map Value.string)->J (I (G wr)) wr j->M O 15 #[aq k,Z ao (OG (hZ (U L i .empty))) cap] j λe w'=>e=Q (ay #[])/\∃ap ar,eN wb ap ar k d (gd g s (L.take (i+1))).1 (m+(i+1)) (gd g s (L.take (i+1))).2 w'/\b9 (λb=>b=k\/D b) u (λb=>ap b\/ar b) w'/\OG (gd g s (L.take (i+1))).2<=(i+1)*5100000000):=λj ao cap hr hb=>by
    obtain⟨r1,b6,r3⟩:=Om hr;have b0:m+i<=8000:=by have:=al.o.2.2;omega
    have b7:=al.o.1;have b8:OG (gd g s (L.take i)).2<=140730000000000:=aS hlen (aS (Nat.mul_le_mul_right _ (show i<=300 by omega)) ae)
    refine(Og (c.below hb) l.o.2.2.1 b0 b8 (hZ (U L i .empty)) ao cap r1 b6 (λb o e=>⟨λag=>by have:=c.hX b ag;have:=r3 b o e;omega,λag=>by have:=c.o.hD b ag;have:=r3 b o e;omega⟩) (aS (Na _) ae) (λx ag=>aS (Nb _ x ag) hz)).mono ?_;rintro e w' ⟨rfl,ap,ar,ca,cb⟩
    rw[bx.o,NQ];refine⟨rfl,ap,ar,ca,hn.trans ((b9.of hb).trans cb),?_⟩
    have:=c.hlen (g:=g) b0 (hZ (U L i .empty))
    show OG (_++_:List UInt8)<=_;rw[aX,Nat.add_mul];omega
   generalize U L i .empty=x at*;have b7:=al.o.1;clear c hn hlen bd y1 bt hz ab bx;go_wp2_with (first|(go_at_call 16;refine b4.mono ?_;rintro e j ⟨v,rfl,hr,cc⟩;obtain⟨ao,cap,rfl⟩:=xI hr;have cd:=b5.o j ao cap hr cc)|(go_at_call 15;refine cd.mono ?_;rintro e ch ⟨rfl,ce⟩;have ai:=cg ce))
   go_roundw
   case rel=>exact⟨i+1,aa,aj,ai⟩
   case measure=>simp[bG];omega
  ·obtain rfl:i=OG L:=aa;have q1:¬((OG L:Int)<(OG L:Int)):=aa;rw[bc] at ab;obtain⟨t,f,c,hn,hlen⟩:=ab.o;have cf:=cg hlen;clear hlen;have b1:=Oi c.t;have old:∀b,t b\/f b->D b\/I (G w)<b:=λb e=>(hn.sub b e).elim (λe=>e.elim (λe=>aI aa) aK) (λe=>aI (by have:=F.o.2.2;omega))
   have aB:¬(t (I (G w))\/f (I (G w))):=λe=>(old _ e).elim (λe=>by have:=l.o.1.hD _ e;omega) (λe=>by omega)
   have B:=(hn.fr.block (I (G w)) F.o.2.2 (λe=>e.elim (λe=>by omega) (λe=>by have:=l.o.1.hD _ e;omega))).trans F.o.2.1;have aF:=qh c hn old aB B;clear c hn old aB B ab;go_wp2_with fail;refine b1.mono ?_;clear b1;rintro e j ⟨rfl,be⟩
   have bg:=(be.block (I (G w)) (ck aF.o.2.2.2.2) (λe=>aF.o.2.2.2.1 (aK e))).trans aF.o.2.2.2.2;obtain⟨bd,y1,b3,ci⟩:=oT bg;have ai:=cY be bg;clear be bg;go_wp2_with fail;obtain⟨r0,r1,_⟩:=oT (Dz ai.o.2 (ak 0) (ak 0))
   have b2:Fr (λb=>b=I (G w)) j (A (A j ⟨I (G w),0,Y⟩ (OP R 0)) ⟨I (G w),1,Y⟩ (OP R 0)):=((Fr.refl (λb=>b=I (G w)) j).set _ 0 _ rfl).set _ 1 _ rfl;generalize A (A j ⟨I (G w),0,Y⟩ (OP R 0)) ⟨I (G w),1,Y⟩ (OP R 0)=cj at*;obtain⟨c,hn,old,aB,_⟩:=aF.o;refine a3 (v:=ay #[.string (bs (gd g s L).2),bz #[ak 0,ak 0]]) (by simp[results,results9,go_sem,r0,r1,bs]) rfl ⟨rfl,cf.o,f,?_,?_,?_⟩
   ·refine(c.o.fr ai.o.1 c.ap c.lU).fr b2 (λb e g=>by subst e;exact aB (aI g)) (λb e=>by rw[e];exact l.o.1.be.size)
   ·refine(((Fr.of (X:=D) F.o.1).trans hn.fr (λb e=>e.elim (λe=>aI aa) aK)).trans ai.o.1 (λb e=>(old b (aK e)).imp id ve)).trans b2 (λb e=>aI aa)
   ·exact λb e=>(old b (aI e)).imp id ve
end
def p5:ByteArray:=bs [110,101,119,32,49,54,32,56]
def p6:ByteArray:=bs [105,110,116,32,48,32,55]
def p7:ByteArray:=bs [112,97,105,114,32,49,32,48,32,48]
def p8:ByteArray:=bs [103,101,116,32,50,32,49,32,53]
def p9:ByteArray:=bs [109,105,110,111,114]
def p_:ByteArray:=bs [118,105,101,119]
def qa:ByteArray:=bs [119,104,97,116]
def qb:List UInt8:=[111,107,10,111,107,10,111,107,10,110,111,32,49,10,111,107,10,114,111,111,116,115,32,55,32,35,48,32,110,105,108,32,110,105,108,32,110,105,108,32,110,105,108,32,110,105,108,32,110,105,108,32,110,105,108,32,110,105,108,32,110,105,108,32,110,105,108,10,35,48,32,112,97,105,114,32,55,32,55,10,117,115,101,100,32,48,32,51,10,119,104,97,116,10]
def dP:Wc:={pw:=0,p:=0,q:=0,pc:=0,sd:=0,nb:=0,N:=16,O:=8}
def rF:cv:=((ju 16 8).1.hd dP 1 0 0 0 0 7).2
def rG:cv:=(rF.hd dP 4 1 0 0 0 0).2
def rH:cv:=(rG.hd dP 11 2 1 0 5 0).2
def jX:cv:=(rH.hd dP 15 0 0 0 0 0).2
def xK:List (Int×Int):=[(1,7),(3,0),(0,0),(0,0),(0,0),(0,0),(0,0),(0,0),(0,0),(0,0),(0,0),(0,0)]
theorem Oq {g:fS}(hg:∀T wt,e9 T wt->dW T wt (g T wt)):(gd g Y [p5,p6,p7,p8,p9,p_,qa]).2=qb:=by
 have p:cL dP (ju 16 8).1.s:=⟨ae,ae,ae,ae,ae,ae,ae⟩
 have b1:cL dP rF.s:=⟨ae,ae,ae,by decide+kernel,by decide+kernel,by decide+kernel,by decide+kernel⟩
 have b2:cL dP rG.s:=⟨ae,ae,ae,by decide+kernel,by decide+kernel,by decide+kernel,by decide+kernel⟩
 have b3:cL dP rH.s:=⟨ae,ae,ae,by decide+kernel,by decide+kernel,by decide+kernel,by decide+kernel⟩
 have b4:cL dP jX.s:=⟨ae,ae,ae,by decide+kernel,by decide+kernel,by decide+kernel,by decide+kernel⟩
 have k0:=ed.start dP 16 8;have k1:ed dP rF 1:=(k0.hd p 1 0 0 0 0 7).1;have k2:ed dP rG 2:=(k1.hd b1 4 1 0 0 0 0).1;have k3:ed dP rH 3:=(k2.hd b2 11 2 1 0 5 0).1;obtain⟨c,k⟩:∃c,c=(ju 16 8).2:=⟨_,rfl⟩
 obtain⟨d,l⟩:∃d,d=(c.dI g 16 8 1 0 0 0 0 7).2:=⟨_,rfl⟩
 obtain⟨e,m⟩:∃e,e=(d.dI g 16 8 4 1 0 0 0 0).2:=⟨_,rfl⟩
 obtain⟨f,n⟩:∃f,f=(e.dI g 16 8 11 2 1 0 5 0).2:=⟨_,rfl⟩
 obtain⟨b,o⟩:∃b,b=(f.dI g 16 8 15 0 0 0 0 0).2:=⟨_,rfl⟩
 have q:=cE.start dP 16 8;rw[<-k] at q;obtain⟨c1,m1,aV,a0,w⟩:lR dP ((ju 16 8).1.hd dP 1 0 0 0 0 7) (c.dI g dP.N dP.O 1 0 0 0 0 7):=q.hds k0 p hg 1 0 0 0 0 7;obtain⟨c2,a1,a2,G2,x⟩:lR dP (rF.hd dP 4 1 0 0 0 0) ((c.dI g dP.N dP.O 1 0 0 0 0 7).2.dI g dP.N dP.O 4 1 0 0 0 0):=w.hds k1 b1 hg 4 1 0 0 0 0;obtain⟨c3,bb,bd,G3,B⟩:lR dP (rG.hd dP 11 2 1 0 5 0) (((c.dI g dP.N dP.O 1 0 0 0 0 7).2.dI g dP.N dP.O 4 1 0 0 0 0).2.dI g dP.N dP.O 11 2 1 0 5 0):=x.hds k2 b2 hg 11 2 1 0 5 0;obtain⟨j,be,bg,G4,i⟩:lR dP (rH.hd dP 15 0 0 0 0 0) ((((c.dI g dP.N dP.O 1 0 0 0 0 7).2.dI g dP.N dP.O 4 1 0 0 0 0).2.dI g dP.N dP.O 11 2 1 0 5 0).2.dI g dP.N dP.O 15 0 0 0 0 0):=B.hds k3 b3 hg 15 0 0 0 0 0;have F:((ju 16 8).1.hd dP 1 0 0 0 0 7).1=0:=by decide+kernel
 have N:(rF.hd dP 4 1 0 0 0 0).1=0:=by decide+kernel
 have S:(rG.hd dP 11 2 1 0 5 0).1=1:=by decide+kernel
 have ab:(rH.hd dP 15 0 0 0 0 0).1=0:=by decide+kernel
 have ad:eb b 4:=by
  have h0:eb c 0:=by rw[k];exact eb.start
  have s:eb d 1:=by rw[l];exact h0.dI aa (hg _ _ h0.iv) _ _ _ _ _ _
  have t:eb e 2:=by rw[m];exact s.dI aa (hg _ _ s.iv) _ _ _ _ _ _
  have u:eb f 3:=by rw[n];exact t.dI aa (hg _ _ t.iv) _ _ _ _ _ _
  rw[o];exact u.dI aa (hg _ _ u.iv) _ _ _ _ _ _
 have ag:(c.dI g 16 8 1 0 0 0 0 7).1=0:=c1.symm.trans F;have ai:(c.dI g dP.N dP.O 1 0 0 0 0 7).2=d:=l.symm;rw[ai] at c2 c3 j i;have al:(d.dI g 16 8 4 1 0 0 0 0).1=0:=c2.symm.trans N;have am:(d.dI g dP.N dP.O 4 1 0 0 0 0).2=e:=m.symm;rw[am] at c3 j i;have an:(e.dI g 16 8 11 2 1 0 5 0).1=1:=c3.symm.trans S;have ao:(e.dI g dP.N dP.O 11 2 1 0 5 0).2=f:=n.symm;rw[ao] at j i;have ap:(f.dI g 16 8 15 0 0 0 0 0).1=0:=j.symm.trans ab;have ar:(f.dI g dP.N dP.O 15 0 0 0 0 0).2=b:=o.symm;rw[ar] at i;obtain⟨v1,v2⟩:=i.view b4 (aS ad.tj ae)
 have us:el b.T=((jX.s.y:Int),(jX.s.g:Int)):=i.us b4;have y1:(gM dP.N jX.s.y jX.s.g jX.s.ws jX.q jX.s.rs).1=xK:=by decide+kernel
 have aB:(gM dP.N jX.s.y jX.s.g jX.s.ws jX.q jX.s.rs).2.2=[(1,[(1,7),(1,7)])]:=by decide+kernel
 have v:jX.s.y=0/\jX.s.g=3:=by decide+kernel
 have q1:(ee.eT b.T b.wt b.rs).1=xK:=v1.symm.trans y1;have aF:(ee.eT b.T b.wt b.rs).2.2=[(1,[(1,7),(1,7)])]:=v2.symm.trans aB;have q3:el b.T=(0,3):=by rw[us,v.1,v.2];rfl
 have g0:iL g Y (hZ p5)=(OH (16,8,c),txt (iz 0)):=by rw[k];kernel_rfl
 have g1:∀W:cj,iL g (OH (16,8,W)) (hZ p6)=(OH (16,8,(W.dI g 16 8 1 0 0 0 0 7).2),txt (iz (W.dI g 16 8 1 0 0 0 0 7).1)):=λW=>by kernel_rfl
 have g2:∀W:cj,iL g (OH (16,8,W)) (hZ p7)=(OH (16,8,(W.dI g 16 8 4 1 0 0 0 0).2),txt (iz (W.dI g 16 8 4 1 0 0 0 0).1)):=λW=>by kernel_rfl
 have g3:∀W:cj,iL g (OH (16,8,W)) (hZ p8)=(OH (16,8,(W.dI g 16 8 11 2 1 0 5 0).2),txt (iz (W.dI g 16 8 11 2 1 0 5 0).1)):=λW=>by kernel_rfl
 have g4:∀W:cj,iL g (OH (16,8,W)) (hZ p9)=(OH (16,8,(W.dI g 16 8 15 0 0 0 0 0).2),txt (iz (W.dI g 16 8 15 0 0 0 0 0).1)):=λW=>by kernel_rfl
 have g5:∀W:cj,iL g (OH (16,8,W)) (hZ p_)=(OH (16,8,W),m_ W):=λW=>by kernel_rfl
 have aR:∀W:cj,iL g (OH (16,8,W)) (hZ qa)=(OH (16,8,W),txt [bs [119,104,97,116]]):=λW=>by kernel_rfl
 have hv:m_ b=txt (bs [114,111,111,116,115]::xK.map gb)++iV [(1,[(1,7),(1,7)])] 1++txt [bs [117,115,101,100],bs (Lib.itoa 0),bs (Lib.itoa 3)]:=by unfold m_;rw[q1,aF,q3];rfl
 simp only [gd,g0,g1,g2,g3,g4,g5,aR,ag,<-l,al,<-m,an,<-n,ap,<-o,hv];show(_:List UInt8)=_;kernel_rfl
theorem Ot (w:az)(d:hL w):M O 6 #[] w λe w'=>e=Q (.bool OV)/\J (I (G w)) w w':=by
 obtain⟨g,hg⟩:=Mm;have k:=On w;have hD:=k_.anew (ax w)
 have l:=aw w (E #[bq Y] 45)
 have f:=(aH (I (G (bu w (E #[bq Y] 45)))) (bu w (E #[bq Y] 45))).alloc bY (E #[.string p5,.string p6,.string p7,.string p8,.string p9,.string p_,.string qa] 9)
 have hn:=aO (bu w (E #[bq Y] 45)) (E #[.string p5,.string p6,.string p7,.string p8,.string p9,.string p_,.string qa] 9)
 have i:I (G (bu w (E #[bq Y] 45)))=I (G w)+1:=ac;have c:=Oo (hD.fr (Fr.of (X:=λ_=>False) f) (λ_ e=>e.elim) (λ_ e=>e.elim)) d hg [p5,p6,p7,p8,p9,p_,qa] _ 7 (iU.of (oR hn (a4 _) rfl ae)) (λ_ b o e=>by cases e;rw[i];omega) ae (by decide+kernel) ae (by decide+kernel)
 rw[Oq hg,i] at c;have j:M O 9 #[aq (I (G w)),Z (au (I (G w)+1)) 7 7] (bu (bu w (E #[bq Y] 45)) (E #[.string p5,.string p6,.string p7,.string p8,.string p9,.string p_,.string qa] 9)) λe w'=>e=Q (ay #[.string (bs qb),bz #[ak 0,ak 0]])/\J (I (G w)) w w':=c.mono (by
  rintro e w' ⟨rfl,_,n,m,p⟩
  exact⟨rfl,m.be⟩)
 have hs:((bs qb).toList==qb)=OV:=by rw[p4];simp[bs]
 clear c hD l f hn d hg;generalize bs qb=q at j hs;unfold qb at hs;go_enter func6,ntmps6;go_wp2_with (first|(go_at_call 8;refine k.mono ?_;rintro e w1 ⟨rfl,rfl⟩)|(go_at_call 9;refine j.mono ?_;rintro e s ⟨rfl,hb⟩))
 go_ret;exact⟨rfl,hb.alloc hb.size _⟩
theorem Ou (k:Int)(w:az):M O 13 #[ak k] w λe w'=>e=Q (.string (bs (gY k)))/\J (I (G w)) w w':=by
 have hb:=aw w (E #[.string (bs (stepW 1)),.string (bs (stepW 2)),.string (bs (stepW 3)),.string (bs (stepW 4)),.string (bs (stepW 5)),.string (bs (stepW 6)),.string (bs (stepW 7)),.string (bs (stepW 8)),.string (bs (stepW 9)),.string (bs (stepW 10)),.string (bs (stepW 11)),.string (bs (stepW 12)),.string (bs (stepW 13)),.string (bs (stepW 14)),.string (bs (stepW 15)),.string (bs (stepW 16))] 9)
 unfold gY;by_cases h0:k<1
 ·have b:(if k<0\/17<=k then([]:List UInt8) else stepW (K k))=[]:=by
   split
   ·rfl
   ·rw[show K k=0 by omega];rfl
  rw[b];go_enter func13,ntmps13;go_wp2;go_ret;exact⟨rfl,hb⟩
 ·by_cases c:k>16
  ·rw[aM (aI aa)];go_enter func13,ntmps13;go_wp2;go_ret;exact⟨rfl,hb⟩
  ·have hk:k=1\/k=2\/k=3\/k=4\/k=5\/k=6\/k=7\/k=8\/k=9\/k=10\/k=11\/k=12\/k=13\/k=14\/k=15\/k=16:=aa;rcases hk with rfl|rfl|rfl|rfl|rfl|rfl|rfl|rfl|rfl|rfl|rfl|rfl|rfl|rfl|rfl|rfl
   all_goals
    go_enter func13,ntmps13;go_wp2;go_ret;exact⟨rfl,hb⟩
theorem Ov {k n:Int}(h:gY k=gY n):k=n\/gY k=[]:=by
 have key:∀i,i<17->∀j,j<17->stepW i=stepW j->i=j\/stepW i=[]:=by decide+kernel
 unfold gY at h⊢;by_cases b:k<0\/17<=k
 ·right;rw[aM b]
 ·rw[aJ b] at h⊢;by_cases c:n<0\/17<=n
  ·right;rw[h,aM c]
  ·rw[aJ c] at h;rcases key (K k) aa (K n) aa h with e|e
   ·left;omega
   ·exact aI e
theorem DJ (l b:List UInt8):((bs l).toList==(bs b).toList)=decide (l=b):=by rw[Lib.toList_data,Lib.toList_data];by_cases h:l=b<;>simp[bs,h]
namespace DWs
theorem walk (k n:Int)(w:az)(d:hL w):M O 5 #[ak k,ak n] w λe w'=>e=Q (.bool OV)/\J (I (G w)) w w':=by
 have g:=Ot w d;have o:aA (∀w':az,J (I (G w)) w w'->M O 12 #[ak k] w' λe c=>e=Q (.string (bs (gY k)))/\w'=c):=λw' hb=>xF k w' (d.below hb)
 have p:aA (∀w':az,J (I (G w)) w w'->M O 12 #[ak n] w' λe c=>e=Q (.string (bs (gY n)))/\w'=c):=λw' hb=>xF n w' (d.below hb)
 have t:((bs (gY k)).toList==(bs (gY k)).toList)=OV:=by rw[DJ];simp
 have q:aA (∀w',M O 13 #[ak k] w' λe c=>e=Q (.string (bs (gY k)))/\J (I (G w')) w' c):=λw'=>Ou k w';have hc:((bs (gY k)).toList==(bs (gY n)).toList)=OU\/((bs (gY k)).toList==(bs (gY n)).toList)=OV/\(k==n)=OV\/((bs (gY k)).toList==(bs (gY n)).toList)=OV/\(k==n)=OU/\((bs (gY k)).toList==[])=OV:=by
  rw[DJ];by_cases h:gY k=gY n
  ·right;by_cases hk:k=n
   ·left;simp[hk]
   ·right;refine⟨by simp[h],by simpa using hk,?_⟩
    rw[p4];simp[bs,(Ov h).resolve_left hk]
  ·left;simp[h]
 clear d;generalize bs (gY k)=a at*;generalize bs (gY n)=b at*;rcases hc with hc|⟨hc,hk⟩|⟨hc,hk,ha⟩
 all_goals
  go_enter func5,ntmps5;go_wp2_with fail;refine g.mono ?_;clear g;rintro e w1 ⟨rfl,f⟩
  have i:=o.o w1 f;have j:=p.o w1 f;have l:=q.o w1;go_wp2_with fail;refine i.mono ?_;clear i;rintro e m ⟨rfl,rfl⟩
  go_wp2_with fail;refine j.mono ?_;clear j;rintro e m ⟨rfl,rfl⟩
  go_wp2_with fail;refine l.mono ?_;clear l;rintro e m ⟨rfl,s⟩
  go_wp2_with fail;go_ret;exact⟨rfl,f.trans (s.mono f.size)⟩
end DWs
open Go.RowKit W Kp ch Go.Lib
theorem xL {n:String}{g:Nat}{t T:bI}(h0:((prog.globalNamed n).bind λg=>(prog.globals[g]?).map (·.type))=OH T)(hg:prog.globalNamed n=OH g)(ht:(prog.globals[g]?).map (·.type)=OH t):t=T:=by rw[hg] at h0;exact j3 (ht.symm.trans h0)
theorem DK {W:az}{n d:String}{x:DataW Unit}{T:bI}{ms:Array (String×bI)}(h0:((prog.globalNamed n).bind λg=>(prog.globals[g]?).map (·.type))=OH T)(e:prog.underlying T=OH (.interface ms))(h:VarReads O W n (.iface d x)):∃tp p,W.var? O n=OH #[.iface tp p]:=by
 obtain⟨g,t,f,c,p,hg,ht,hv,hd⟩:=h;obtain rfl:=xL h0 hg ht;rw[hv];obtain⟨l⟩:=f;cases c with
 |zero=>simp[DataW.trod] at hd
 |succ c=>
  simp only [DataW.trod,e] at hd;rcases l with _|⟨a,_|⟨b,l⟩⟩
  ·simp at hd
  ·cases a<;>simp at hd
   all_goals exact⟨_,_,rfl⟩
  ·simp at hd
theorem Ow {W:World}(b:laidMet Tryz.prog Rows.deskWordsRow.laid W)(o:W.ShapedOpen Tryz.prog):hL W:=by
 refine⟨cell_of_shapedOpen_int (t:=3) (zero:=#[.int .i64 0]) o (by decide+kernel) ah rfl ah ah Tryz.underlying3,?_,DK (T:=76) ah Tryz.underlying76 (Lib.laidMet.reads b (n:= "strconv.ErrSyntax") (by simp[Rows.deskWordsRow];rfl)),DK (T:=76) ah Tryz.underlying76 (Lib.laidMet.reads b (n:= "strconv.ErrRange") (by simp[Rows.deskWordsRow];rfl)),?_⟩
 ·obtain⟨g,t,c,q,p,hg,ht,hv,hd⟩:=Lib.laidMet.reads b (n:= "internal/strconv.uint64pow10") (d:=Rows.laid_internal_strconv_uint64pow10) (by simp[Rows.deskWordsRow])
  obtain rfl:t=228:=xL ah hg ht;unfold TabIs;rw[hv,<-cells_of_tab (zs:=pow10Tab) Tryz.underlying228 Tryz.underlying173 ah ah hd]
 ·obtain⟨g,t,c,q,p,hg,ht,hv,hd⟩:=Lib.laidMet.reads b (n:= "underwood/desk.stepWords") (d:=Rows.laid_underwood_desk_stepWords) (by simp[Rows.deskWordsRow])
  obtain rfl:t=58:=xL ah hg ht;obtain rfl:g=0:=Option.some.inj (hg.symm.trans ah)
  intro i hi;obtain⟨f,m,rfl,j,hl,w,u⟩:=DataW.trod_array Tryz.underlying58 hd;have k:=u i hi;rw[show Tryz.prog.cellsOf 9=1 by kernel_rfl,Nat.mul_one,List.getElem?_eq_getElem aa] at k;obtain⟨s,hc,hs,_⟩:=DataW.trod_string Tryz.underlying9 k;have hm:f.map (·.1)=(List.range 17).map (λi=>(DataW.lit (.string (stepW i)):DataW Unit)):=by have h0:Rows.laid_underwood_desk_stepWords=(DataW.agg ((List.range 17).map λi=>.lit (.string (stepW i))):DataW Unit):=ah;rw[h0] at j;exact(DataW.agg.inj (congrArg Prod.fst j)).symm
  have l:(f.map (·.1))[i]?=some (.lit (.string s.data.toList)):=by rw[List.getElem?_map,List.getElem?_eq_getElem aa,Option.map_some,hs]
  rw[hm,List.getElem?_map,List.getElem?_eq_getElem (by simpa using hi)] at l;have e:stepW i=s.data.toList:=by simpa using l
  have v:c.toList[i]?=some (.string s):=by have:=congrArg (·[0]?) hc;simpa[List.getElem?_take,List.getElem?_drop] using this
  rw[World.var?_cell (by kernel_rfl:Tryz.prog.globalNamed "underwood/desk.stepWords" =some 0) hv i,e];simpa using v
open Go.ChangeShapes Go.WideShapes Go.ChangeAt Go.RowKit Go.Joins W
theorem own:ownKnob prog.godebug=Y:=ah
theorem Oy {os:Os}{f:FuncId}{b:Func}{s:ChangeSpec}{H:Type}{enc:bI×a7->H}{c:List (String×DataW Unit)}
 (m:os.Started)(n:prog.inits.idxOf? f=Y)(o:prog.funcs[f]?=OH b)(p:∀w,laidMetH O c w->laidMet O c w)
 (q:∃(w:az)(tape:Tape)(i:Input),w.os=os/\(w.forCall tape i).Shaped O/\i.vars=[]/\Input.okWide O (w.forCall tape i) .any (I (G w)) f i/\
   ((s.pre enc O b [] OU (w.forCall tape i).memory i.args/\laidMetH O c (w.forCall tape i).memory)/\sizedMet enc O b (OpenSpec.ofChange s) OU (w.forCall tape i).memory i.args)/\Assume.holds {} O (lone (Frame.enter O f i.args .normal) [] (w.forCall tape i)))
 (walk:∀(W:az)(base:Nat)(args:Array a7)(d g:List (DataW H))(k:List MemPlace),
   (∀(j:Nat) t v,b.params[j]?=OH t->args[j]?=OH v->Value.okWide O W .any base t v)->
   DataW.Whole enc O b.params.toList s.vars OU W args.toList d g k->laidMet O c W->W.ShapedOpen O->
   M O f args W λe l=>∃v,e=Q v/\s.post enc O b OU OV OU OU W args v l):
 ReturnsInHanded {} Tryz.checked os f .any (λw args=>(s.pre enc O b [] OU w args/\laidMetH O c w)/\sizedMet enc O b (OpenSpec.ofChange s) OU w args) (s.post enc O b OU OV OU OU):=by
 refine returnsInHanded_of_calls (C:=Tryz.checked) own m n q ?_;intro w tape i _ u _ x B _;obtain⟨_,_,_,F,N,_,_,_,_,S⟩:=x;obtain rfl:F=b:=j3 (N.symm.trans o)
 obtain⟨⟨⟨d,g,k,hw,_⟩,ab⟩,_⟩:=B;have ad:laidMet O c (w.forCall tape i):=p _ (ab.of_heap af)
 refine(walk (w.forCall tape i) (I (G w)) i.args d g k S (DataW.Whole.of_heap (w':=w.forCall tape i) af hw) ad u).mono λe l ⟨v,he,hp⟩=>?_;subst he;exact ChangeSpec.post_blind hp
namespace DWs
theorem lifted (os:Os)(k:os.Started)(H:Type)(enc:bI×a7->H):
 ReturnsInHanded {} Tryz.checked os 5 .any (λw args=>(Rows.deskWordsSpec.pre enc O Tryz.f5 [] OU w args/\laidMetH O Rows.deskWordsRow.laid w)/\sizedMet enc O Tryz.f5 (OpenSpec.ofChange Rows.deskWordsSpec) OU w args) (Rows.deskWordsSpec.post enc O Tryz.f5 OU OV OU OU):=by
 refine Oy k ah func5 (λw h=>by rwa [MakeChecks.laidMetH_plain _ _ _ ah] at h)
  (ChangeSpec.witness_shaped (enc:=enc) (C:=Tryz.checked) (os:=os) (X:=λw _=>laidMetH O Rows.deskWordsRow.laid w) OU (World.laidAll O os Rows.deskWordsRow.laid) #[ak 0,ak 0] 8 (World.laidAll_os _ _ _)
    (World.shaped_of_ZipB ah ah) ah ah ah
    (by rw[MakeChecks.laidMetH_plain _ _ _ ah];exact laidMet_laidAll _ ah ah)) ?_
 intro W base args l x B c d m n;have o:=Ow m n;have b:∀(j:Nat) t v,Tryz.f5.params[j]?=OH t->args[j]?=OH v->Value.okWide O W .any base t v:=c;have f:=d;obtain⟨p,q,g,s,rfl,F,N⟩:=d;have i:DataW.TrodAll enc O W 0 (λ_=>OV) OV Tryz.f5.params.toList args.toList l p:=g;rw[Tryz.params5] at i b;obtain⟨v0,S,ab,ad,ag,q0,ai,rfl,rfl,h0,r0⟩:=trodAll_cons i;obtain⟨v1,al,am,an,ao,q1,rfl,rfl,rfl,u,r1⟩:=trodAll_cons r0;obtain⟨rfl,rfl,rfl⟩:=trodAll_nil r1;obtain rfl:args=#[v0,v1]:=by cases args;simp_all
 obtain⟨rfl,rfl⟩:=trodVars_none s;obtain⟨a0,rfl,rfl,rfl,w0⟩:=open_int underlying3 (b 0 3 v0 rfl rfl) h0;obtain⟨a1,rfl,rfl,rfl,w1⟩:=open_int underlying3 (b 1 3 v1 rfl rfl) u;clear g c;simp only [List.append_nil] at f;refine(walk a0 a1 W o).mono λe ap ⟨he,fp⟩=>?_;subst he;exact⟨_,rfl,_,_,_,[],[],[],f,trodAll_mk1 (shut_bool underlying4 _),(trodAll_cons_mk (shut_int underlying3 w0) (trodAll_cons_mk (shut_int underlying3 w1) trodAll_mk0)),rfl,fp.frame _,λh=>by cases h⟩
end DWs
end Go.Proofs.YtjckpdepffejnaaGreatDoor
