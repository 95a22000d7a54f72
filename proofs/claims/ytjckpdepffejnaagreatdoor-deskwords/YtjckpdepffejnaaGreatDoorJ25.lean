import Derived.Test.YtjckpdepffejnaaGreatDoorJ24
open Array renaming size->I
open Bool renaming false->OU,true->C
open Go renaming Addr->bB,Calls->M,Ending->LM,TypeId->bI,Value->a7
open Go.Ending renaming returned->OL
open Go.IntKind renaming i64->OM
open Go.Obj renaming cells->E
open Go.Proofs.Tryz renaming prog->O
open Go.RowKit renaming Below->J,intOf->bG
open Go.Value renaming bool->bA,int->OP,pointer->bq,slice->Z,tuple->ay
open Go.World renaming alloc->bu,cell?->V,frozen?->bF,heap->G,setCell->OZ
open Int renaming toNat->K
open List renaming getD->U,getElem?_map->gp,length->L,length_cons->ko,length_map->vG,mem_cons->bQ,mem_map->bR,mem_singleton->bN
open Nat renaming add_mul->OF,le_succ->jh,mul_le_mul_right->Cs
open Option renaming none->OQ,some->H
open Option.some renaming inj->j3
namespace Go.Proofs.YtjckpdepffejnaaGreatDoor
set_option maxRecDepth 100000
set_option maxHeartbeats 4000000
open Tryz
open Go.RowKit W Kp ch
theorem Ds {P:Prop}(h:P:=by
 go_enter func15,ntmps15;go_wp2_with fail
 go_region_held3 (λwx=>wx.cell? (av b o)=some (.string a)) (first|exact hc|exact hs1) (first|(go_at_call 21;refine P.mono ?_;rintro e w1 ⟨rfl,hs1,NJ⟩))
 all_goals
  go_wp2_with (go_at_call 22;refine NJ.mono ?_;rintro e w2 ⟨⟨v,rfl⟩,hq⟩)
  go_end0;exact⟨rfl,hq⟩):P:=h
theorem Dt {P:Prop}(h:P:=by
 go_enter func15,ntmps15;go_wp2_with fail
 go_region_held3 (λwx=>wx.cell? (av b o)=some (.string a)) (first|exact hc|exact hs1) (first|(go_at_call 21;refine P.mono ?_;rintro e w1 ⟨rfl,hs1,hq⟩))
 all_goals
  go_wp2;go_end0;exact⟨rfl,hq⟩):P:=h
theorem xH {P:Prop}(h:P:=by
 rintro e w' ⟨rfl,hb'⟩
 exact⟨false,rfl,rfl,hb.trans (hb'.mono hb.size)⟩):P:=h
def km:List Nat->List Int->S6->S6
 |i::l,m::N,x=>km l N (m8 x i m)
 |_,_,x=>x
theorem Du:∀(l:List Nat)(N:List Int)(x:S6)(j:Nat),j<L l->j<L N->km (l.take (j+1)) (N.take (j+1)) x=m8 (km (l.take j) (N.take j) x) (U l j 0) (U N j 0)
 |[],_,_,j,h,_=>by simp at h
 |_::_,[],_,j,_,h=>by simp at h
 |i::l,m::N,x,0,_,_=>by simp[km]
 |i::l,m::N,x,j+1,b,c=>by
  have:=Du l N (m8 x i m) j (by simpa using b) (by simpa using c)
  simpa[km] using this
def fU (k:Int)(N:List Int):S6:=km (slt k) N ⟨k,0,0,0,0,0⟩
theorem NK (k:Int):L (slt k)<=5:=by exact C_
theorem xI {w:az}{base n m:Nat}{e:bI}{v:a7}{l:List a7}(h:w.ownsRow base e m v n l):∃ao cap,v=Z ao n cap:=by
 rcases h.2 with⟨hv,rfl⟩|⟨g,cap,b,hv,_⟩
 ·exact⟨_,_,hv⟩
 ·exact⟨_,_,hv⟩
def nW (w:az)(ad:Option bB)(N:List Int):Prop:=0<L N->∃b o,ad=H ⟨b,o,OQ⟩/\b<I (G w)/\∀i,i<L N->V w (av b (o+i))=H (ak (U N i 0))
abbrev tY (w:az)(b:Nat)(k R A B I n:Int):az:=OZ (OZ (OZ (OZ (OZ (OZ w ⟨b,0,OQ⟩ (OP OM k)) ⟨b,1,OQ⟩ (OP OM R)) ⟨b,2,OQ⟩ (OP OM A)) ⟨b,3,OQ⟩ (OP OM B)) ⟨b,4,OQ⟩ (OP OM I)) ⟨b,5,OQ⟩ (OP OM n)
theorem Dv {w:az}{b:Nat}{k R A B I n:Int}(h:w.heap[b]?=H (cA k R A B I n))(k2 d e B2 f g:Int):(tY w b k2 d e B2 f g).heap[b]?=H (cA k2 d e B2 f g):=by
 have st:∀{w:az}{c:Array a7}(o:Nat)(v:a7),w.heap[b]?=H (E c 105 (0,0))->(OZ w ⟨b,o,OQ⟩ v).heap[b]?=H (E (c.setIfInBounds o v) 105 (0,0)):=λo v h=>by exact tz
 exact st _ _ (st _ _ (st _ _ (st _ _ (st _ _ (st _ _ h)))))
theorem Dw (w:az)(b:Nat)(k R A B I n:Int):Fr (λc=>c=b) w (tY w b k R A B I n):=((((((Fr.refl (λc=>c=b) w).set _ _ _ rfl).set _ _ _ rfl).set _ _ _ rfl).set _ _ _ rfl).set _ _ _ rfl).set _ _ _ rfl
theorem Dy (k:Int)(N:List Int)(ad:Option bB)(cp:Nat)(w:az)(hN:nW w ad N):
 M O 63 #[ak k,Z ad (L N) cp] w λe w'=>J w.heap.size w w'/\((L (slt k)=L N/\e=OL (ay #[dJ (fU k N).k (fU k N).R (fU k N).A (fU k N).B (fU k N).I (fU k N).n,bA C]))\/(L (slt k)≠L N/\e=OL (ay #[dJ 0 0 0 0 0 0,bA OU]))):=by
 have ar:=aw w (cA 0 0 0 0 0 0)
 have aB:=ar.alloc ac (cA k 0 0 0 0 0)
 have am:((w.alloc (cA 0 0 0 0 0 0)).alloc (cA k 0 0 0 0 0)).heap[w.heap.size+1]?=H (cA k 0 0 0 0 0):=by
  have:=aO (w.alloc (cA 0 0 0 0 0 0)) (cA k 0 0 0 0 0)
  rwa [bh] at this
 have P:=ND (w.heap.size+1) k 0 0 0 0 0 _ am;have hr:((w.alloc (cA 0 0 0 0 0 0)).alloc (cA k 0 0 0 0 0)).heap[w.heap.size]?=H (cA 0 0 0 0 0 0):=by exact uZ
 have bn:=cg hN;have s:=ge aB am hr;clear hN ar aB am hr;go_enter func63,ntmps63
 go_upto_region 3 with(go_at_call 92;refine P.mono ?_;rintro e w1 ⟨v,bx,rfl,hrow,an,aF,ai⟩)
 obtain⟨ao,cap,rfl⟩:=xI hrow;have aR:((w.alloc (cA 0 0 0 0 0 0)).alloc (cA k 0 0 0 0 0)).heap.size=w.heap.size+2:=ac;rw[aR] at an hrow;have aV:=(ai.block (w.heap.size+1) (ck s.o.2.1)).trans s.o.2.1;have F:=(ai.block w.heap.size (ck s.o.2.2)).trans s.o.2.2;have a0:=s.o.1.trans (ai.mono s.o.1.size)
 have l:=ge aV hrow (And.intro a0 (And.intro an aF))
 obtain⟨a1,y1,a2,bb,bd,be⟩:=dZ F;have fr:∀j,bF w1 (av w.heap.size j)=OU:=λj=>by simp[World.frozen?,F,cA]
 have bo:=fr 0;have bp:=fr 1;have br:=fr 2;have bs:=fr 3;have bt:=fr 4;have b0:=fr 5;clear fr P aR an hrow aV a0 ai aF s;by_cases hl:L (slt k)=L N
 ·have bg:(L (slt k):Int)=(L N:Int):=aa;have b4:L N<=5:=hl▸NK k
  have t:=cg hl
  go_upto_region 5 with fail
  clear a1 y1 a2 bb bd be;go_wp2_with fail;clear hl bg
  go_loopw [21] (λiv wr=>∃j:Nat,j<=L N/\iv=ak j/\aA (wr.heap[w.heap.size+1]?=H (hY (km ((slt k).take j) (N.take j) ⟨k,0,0,0,0,0⟩))/\wr.heap[bx]?=H (E #[aq (w.heap.size+1)] 167 (0,0))/\Fr (λb=>b=w.heap.size+1) w1 wr)) (λiv _=>L N-K (bG iv))
  case atStart=>exact⟨0,a4 _,rfl,by simpa[km,hY] using l.o.1,l.o.2.2.2.2,Fr.refl _ _⟩
  case round=>
   obtain⟨j,b5,rfl,c⟩:=hrel;by_cases bi:j<L N
   ·have q0:(0:Int)<=(j:Int):=aa;have q1:(j:Int)<(L N:Int):=aa;have b6:(j:Int)<(L (slt k):Int):=by have:=t.o;omega
    obtain⟨g,rfl⟩:∃g,ao=au g:=by
     rcases l.o.2.1.2 with⟨e,b7⟩|⟨g,c2,b8,e,_⟩
     ·have:=t.o;omega
     ·cases e;exact⟨g,rfl⟩
    have hg:=cu l.o.2.1 g rfl;have y:=(kq l.o.2.1 (i:=j) (u:=kl bx (U (slt k) j 0)) (by have hq:j<L (slt k):=(by have:=t.o;omega);rw[gp,aP hq,aN,aP hq];rfl)).1;obtain⟨b1,b9,rfl,l0,hc⟩:=bn.o aa;have z:=(l.o.2.2.1.cell l0).trans (hc j bi)
    have fc:∀{a:bB}{u:a7},V w1 a=H u->a.block≠w.heap.size+1->V wr a=H u:=λ{a u} h hn=>by have:=c.o.2.2.block a.block (aT _ _ h) hn;unfold World.cell? at h⊢;rw[this];exact h
    have y:=fc y (by show g≠_;omega)
    have z:=fc z (by show b1≠_;omega)
    have S:=cg (Du (slt k) N ⟨k,0,0,0,0,0⟩ j (by have:=t.o;omega) bi)
    clear hc fc hg;generalize U N j 0=m at*;generalize U (slt k) j 0=i at*;generalize km ((slt k).take j) (N.take j) ⟨k,0,0,0,0,0⟩=x at*;rcases i with _|_|_|_|i
    ·dsimp only [kl] at y;have n:=NE c.o.1 c.o.2.1 m;go_wp2_with (go_at_call 120;refine n.mono ?_;rintro e o ⟨⟨al,rfl⟩,p,f⟩)
     have q:=cg (show o.heap[w.heap.size+1]?=H (hY (km ((slt k).take (j+1)) (N.take (j+1)) ⟨k,0,0,0,0,0⟩)) by rw[S.o];exact p)
     have d:=cY ((f.block bx (ck c.o.2.1) (by have:=l.o.2.2.2.1;omega)).trans c.o.2.1) (c.o.2.2.trans f (λi hi=>aK hi))
     go_roundw
     case rel=>exact⟨j+1,aa,aj,q.o,d.o.1,d.o.2⟩
     case measure=>simp[bG];omega
    ·dsimp only [kl] at y;have n:=NF c.o.1 c.o.2.1 m;go_wp2_with (go_at_call 121;refine n.mono ?_;rintro e o ⟨⟨al,rfl⟩,p,f⟩)
     have q:=cg (show o.heap[w.heap.size+1]?=H (hY (km ((slt k).take (j+1)) (N.take (j+1)) ⟨k,0,0,0,0,0⟩)) by rw[S.o];exact p)
     have d:=cY ((f.block bx (ck c.o.2.1) (by have:=l.o.2.2.2.1;omega)).trans c.o.2.1) (c.o.2.2.trans f (λi hi=>aK hi))
     go_roundw
     case rel=>exact⟨j+1,aa,aj,q.o,d.o.1,d.o.2⟩
     case measure=>simp[bG];omega
    ·dsimp only [kl] at y;have n:=NG c.o.1 c.o.2.1 m;go_wp2_with (go_at_call 122;refine n.mono ?_;rintro e o ⟨⟨al,rfl⟩,p,f⟩)
     have q:=cg (show o.heap[w.heap.size+1]?=H (hY (km ((slt k).take (j+1)) (N.take (j+1)) ⟨k,0,0,0,0,0⟩)) by rw[S.o];exact p)
     have d:=cY ((f.block bx (ck c.o.2.1) (by have:=l.o.2.2.2.1;omega)).trans c.o.2.1) (c.o.2.2.trans f (λi hi=>aK hi))
     go_roundw
     case rel=>exact⟨j+1,aa,aj,q.o,d.o.1,d.o.2⟩
     case measure=>simp[bG];omega
    ·dsimp only [kl] at y;have n:=NH c.o.1 c.o.2.1 m;go_wp2_with (go_at_call 123;refine n.mono ?_;rintro e o ⟨⟨al,rfl⟩,p,f⟩)
     have q:=cg (show o.heap[w.heap.size+1]?=H (hY (km ((slt k).take (j+1)) (N.take (j+1)) ⟨k,0,0,0,0,0⟩)) by rw[S.o];exact p)
     have d:=cY ((f.block bx (ck c.o.2.1) (by have:=l.o.2.2.2.1;omega)).trans c.o.2.1) (c.o.2.2.trans f (λi hi=>aK hi))
     go_roundw
     case rel=>exact⟨j+1,aa,aj,q.o,d.o.1,d.o.2⟩
     case measure=>simp[bG];omega
    ·dsimp only [kl] at y;have n:=NI c.o.1 c.o.2.1 m;go_wp2_with (go_at_call 124;refine n.mono ?_;rintro e o ⟨⟨al,rfl⟩,p,f⟩)
     have q:=cg (show o.heap[w.heap.size+1]?=H (hY (km ((slt k).take (j+1)) (N.take (j+1)) ⟨k,0,0,0,0,0⟩)) by rw[S.o];exact p)
     have d:=cY ((f.block bx (ck c.o.2.1) (by have:=l.o.2.2.2.1;omega)).trans c.o.2.1) (c.o.2.2.trans f (λi hi=>aK hi))
     go_roundw
     case rel=>exact⟨j+1,aa,aj,q.o,d.o.1,d.o.2⟩
     case measure=>simp[bG];omega
   ·obtain rfl:j=L N:=aa;have bl:=cg (show wr.heap[w.heap.size+1]?=H (hY (fU k N)) by have:=c.o.1;rwa [bc,<-t.o,bc] at this)
    have ap:=(c.o.2.2.block w.heap.size (ck F) aa).trans F;have d:=c.o.2.2;clear c;obtain⟨ca,cb,cc,cd,ce,cf⟩:=dZ bl.o;obtain⟨a1,y1,a2,bb,bd,be⟩:=dZ ap;have fr:∀j,bF wr (av w.heap.size j)=OU:=λj=>by simp[World.frozen?,ap,cA]
    have bo:=fr 0;have bp:=fr 1;have br:=fr 2;have bs:=fr 3;have bt:=fr 4;have b0:=fr 5;clear fr;have hz:=Dv ap (fU k N).k (fU k N).R (fU k N).A (fU k N).B (fU k N).I (fU k N).n;have W:=(((Fr.of (X:=λ_=>False) l.o.2.2.1).trans d (λi hi=>aI aa)).trans (Dw wr w.heap.size (fU k N).k (fU k N).R (fU k N).A (fU k N).B (fU k N).I (fU k N).n) (λi hi=>aI aa)).below (B:=w.heap.size) bY (λ_ h=>h.elim)
    have ab:=cY hz W;clear hz W bl d;generalize hy:fU k N=y at*;have b2:=cg hy;clear hy;obtain⟨s0,s1,s2,b3,s4,s5⟩:=y;go_wp2_with fail;obtain⟨g0,g1,g2,g3,g4,g5⟩:=dZ ab.o.1;have ag:=ab.o.2;unfold tY at g0 g1 g2 g3 g4 g5 ag;refine a3 (v:=ay #[dJ s0 s1 s2 b3 s4 s5,bA C]) (by simp only [results,results63];simp[go_sem,g0,g1,g2,g3,g4,g5]) rfl ⟨ag,aK ⟨t.o,by rw[b2.o]⟩⟩
 ·have bg:¬(L (slt k):Int)=(L N:Int):=aa;have hz:=Dv F 0 0 0 0 0 0;have W:=((Fr.of (X:=λ_=>False) l.o.2.2.1).trans (Dw w1 w.heap.size 0 0 0 0 0 0) (λi hi=>aI aa)).below (B:=w.heap.size) bY (λ_ h=>h.elim)
  have ab:=cY hz W;clear hz W;go_wp2_with fail;obtain⟨g0,g1,g2,g3,g4,g5⟩:=dZ ab.o.1;have ag:=ab.o.2;unfold tY at g0 g1 g2 g3 g4 g5 ag;refine a3 (v:=ay #[dJ 0 0 0 0 0 0,bA OU]) (by simp only [results,results63];simp[go_sem,g0,g1,g2,g3,g4,g5]) rfl ⟨ag,aI ⟨hl,rfl⟩⟩
section
variable {w:az}{k d:Nat}{Q:az->Prop}
theorem Dz {w:az}{b:Nat}{u v:a7}{T:bI}(h:w.heap[b]?=H (E #[u,v] T (0,0)))(x y:a7):(OZ (OZ w ⟨b,0,OQ⟩ x) ⟨b,1,OQ⟩ y).heap[b]?=H (E #[x,y] T (0,0)):=by
 have st:∀{w:az}{c:Array a7}(o:Nat)(v:a7),w.heap[b]?=H (E c T (0,0))->(OZ w ⟨b,o,OQ⟩ v).heap[b]?=H (E (c.setIfInBounds o v) T (0,0)):=λo v h=>by exact tz
 exact st _ _ (st _ _ h)
theorem oT {w:az}{b:Nat}{u v:a7}{T:bI}(h:w.heap[b]?=H (E #[u,v] T (0,0))):V w (av b 0)=H u/\V w (av b 1)=H v/\bF w (av b 0)=OU/\bF w (av b 1)=OU:=by refine⟨?_,?_,?_,?_⟩<;>simp[World.cell?,World.frozen?,h]
theorem NL {N O cd:Int}{j m cp:Nat}(k0:V w (av k 0)=H (aq d))(lk:k<I (G w))(l0:j<I (G w))(c0:V w (av j m)=H (ak N))(c1:V w (av j (m+1))=H (ak O)){tv:a7}(hd:w.heap[d]?=H (E #[tv] 45 (0,0)))
 (p:∀w0,J (I (G w)) w w0->M prog 55 #[ak N,ak O] w0 λe w1=>∃l a,e=OL (ay #[bq l,.agg #[ak cd,ak a]])/\J (I (G w0)) w0 w1/\∀q,Fr (λb=>I (G w)<=b/\b<I (G w0)) w1 q->M prog 56 #[aq k,ak cd,Z OQ 0 0] (OZ q ⟨d,0,OQ⟩ (bq l)) λe w'=>(∃v,e=OL v)/\Q w'):
 M prog 35 #[aq k,Z (H ⟨j,m,OQ⟩) 2 cp] w λe w'=>e=OL (bA C)/\Q w':=by
 have s:J (I (G w)) w w.drew:=(aH _ w).drew;have g:J (I (G w)) w (bu w (E #[OP OM 0,OP OM 0] 33)).drew:=(aw w _).drew;have ld:=ck hd;have nd:¬d=I (G w):=aa;have f:=jk s g k0 hd;have n:=cg p;clear s g p hd;go_enter func35,ntmps35;go_wp2_with fail
 go_region_with (go_at_call 55;first
  |(refine(n.o _ f.o.1).mono ?_;rintro e w1 ⟨l,a,rfl,g,c⟩;have i:=cg (f.o.1.trans (g.mono f.o.1.size));have c:=cg c)
  |(refine(n.o _ f.o.2.1).mono ?_;rintro e w1 ⟨l,a,rfl,g,c⟩;have i:=cg (f.o.2.1.trans (g.mono f.o.2.1.size));have c:=cg c;obtain⟨B,y1,F,S⟩:=oT ((g.block _ ac).trans (aO w (E #[OP OM 0,OP OM 0] 33)))))
 all_goals
  have W:k<I (G w1):=aL lk i.o.size;have t:d<I (G w1):=aL ld i.o.size;have ab:V w1 (av k 0)=H (aq d):=(i.o.cell lk).trans f.o.2.2.1;have o:=(i.o.block d ld).trans f.o.2.2.2;have ad:V w1 (av d 0)=H tv:=aD o
  have ag:bF w1 (av d 0)=OU:=aE o
  have ai:¬k=I (G w):=aa;have lw:=i.o.size;clear o n k0 c0 c1 l0
  first
   |(
    have P:=c.o (OZ (OZ w1 ⟨I (G w),0,OQ⟩ (OP OM cd)) ⟨I (G w),1,OQ⟩ (OP OM a)) (((Fr.refl _ w1).set _ 0 _ ⟨aG _,ac⟩).set _ 1 _ ⟨aG _,ac⟩)
    clear c;go_wp2_with (go_at_call 56;refine P.mono ?_;rintro e u ⟨⟨v,rfl⟩,hq⟩)
    refine a3 (v:=bA C) (by simp[results,results35,go_sem]) rfl ⟨rfl,hq⟩)
   |(
    have P:=c.o (bu w1 (E #[OP OM cd,OP OM a] 33)) (Fr.of (aw w1 _))
    rw[World.setCell_alloc_past _ _ _ _ t] at P;clear c;go_wp2_with (go_at_call 56;refine P.mono ?_;rintro e u ⟨⟨v,rfl⟩,hq⟩)
    refine a3 (v:=bA C) (by simp[results,results35,go_sem]) rfl ⟨rfl,hq⟩)
theorem NM {first:ByteArray}{K:Int}{ad:Option bB}{n cp tp:Nat}{f g i j l m cd:Int}(k0:V w (av k 0)=H (aq d))(lk:k<I (G w))(ld:d<I (G w))(ab:V w (av d 0)=H (aq tp))
 (P:M O 62 #[.string first] w λe w'=>e=OL (ay #[ak K,bA C])/\w=w')
 (al:M O 63 #[ak K,Z ad n cp] w λe w'=>e=OL (ay #[dJ f g i j l m,bA C])/\J (I (G w)) w w')
 (ag:∀w1,J (I (G w)) w w1->M O 64 #[aq tp,dJ f g i j l m] w1 λe N=>e=OL (ay #[ak cd,.agg #[ak 0,ak 0]])/\(I (G w1)<=I (G N)/\∀b,I (G w)<=b->b<I (G w1)->N.heap[b]?=w1.heap[b]?)/\∀B,Fr (λb=>I (G w)<=b/\b<I (G w1)) N B->M O 56 #[aq k,ak cd,Z OQ 0 0] B λe w'=>(∃v,e=OL v)/\Q w'):
 M O 37 #[aq k,.string first,Z ad n cp] w λe w'=>e=OL (bA C)/\Q w':=by
 have F:=cY k0 ab;have ai:=cg ag;clear ag k0 ab;go_enter func37,ntmps37
 go_upto_region 7 with(first|(go_at_call 62;refine P.mono ?_;rintro e w1 ⟨rfl,rfl⟩)|(go_at_call 63;refine al.mono ?_;rintro e c ⟨rfl,t⟩))
 have ar:=t.size;have k4:=(t.cell (p:=av k 0) lk).trans F.o.1;have am:=(t.cell (p:=av d 0) ld).trans F.o.2;have an:k<I (G c):=aa;have ao:d<I (G c):=aa;have S:=aO c (cA f g i j l m)
 have u:J (I (G w)) w (c.alloc (cA f g i j l m)):=t.alloc t.size _;have aB:k<I (G (c.alloc (cA f g i j l m))):=by simp;omega
 have aF:d<I (G (c.alloc (cA f g i j l m))):=by simp;omega
 have aR:=ck S;have k5:V (c.alloc (cA f g i j l m)) (av k 0)=H (aq d):=(u.cell (p:=av k 0) lk).trans F.o.1;have aV:V (c.alloc (cA f g i j l m)) (av d 0)=H (aq tp):=(u.cell (p:=av d 0) ld).trans F.o.2;obtain⟨a0,y1,a1,a2,bb,bd⟩:=dZ S;clear k4 am S t an ao;generalize c.alloc (cA f g i j l m)=o at*;generalize I (G c)=be at*;have x:=cY u.drew (u.alloc u.size (E #[OP OM 0,OP OM 0] 33)).drew;clear u;go_wp2_with fail
 go_region_with (go_at_call 64;first
  |(refine(ai.o _ x.o.1).mono ?_;rintro e s ⟨rfl,W,q⟩;have q:=cg q)
  |(refine(ai.o _ x.o.2).mono ?_;rintro e s ⟨rfl,W,q⟩;have q:=cg q;obtain⟨z0,bg,bi,bl⟩:=oT ((W.2 (I (G o)) x.o.1.size ac).trans (aO o (E #[OP OM 0,OP OM 0] 33)))))
 all_goals
  first
   |(
    have P:=q.o (OZ (OZ s ⟨I (G o),0,OQ⟩ (OP OM 0)) ⟨I (G o),1,OQ⟩ (OP OM 0)) (((Fr.refl _ s).set _ 0 _ ⟨x.o.1.size,ac⟩).set _ 1 _ ⟨x.o.1.size,ac⟩)
    have bn:=(oT (Dz (show s.heap[I (G o)]?=H (E #[ak 0,ak 0] 33 (0,0)) from(W.2 (I (G o)) x.o.1.size ac).trans (aO o (E #[OP OM 0,OP OM 0] 33))) (ak 0) (ak 0))).1;clear q;generalize OZ (OZ s ⟨I (G o),0,OQ⟩ (OP OM 0)) ⟨I (G o),1,OQ⟩ (OP OM 0)=bo at*;go_wp2_with (go_at_call 56;refine P.mono ?_;rintro e B ⟨⟨v,rfl⟩,hq⟩)
    refine a3 (v:=bA C) (by simp[results,results37,go_sem]) rfl ⟨rfl,hq⟩)
   |(
    have P:=q.o (bu s (E #[OP OM 0,OP OM 0] 33)) (Fr.of (aw s _))
    clear q;go_wp2_with (go_at_call 56;refine P.mono ?_;rintro e B ⟨⟨v,rfl⟩,hq⟩)
    refine a3 (v:=bA C) (by simp[results,results37,go_sem]) rfl ⟨rfl,hq⟩)
end
theorem NN (k:Nat)(ad:Option bB)(n cp:Nat)(w:az)(hn:n≠2):
 M O 35 #[aq k,Z ad n cp] w λe w'=>e=OL (bA OU)/\w=w':=by
 have b:((n:Int)==2)=OU:=by simp;omega
 go_enter func35,ntmps35;go_wp2;go_ret;exact⟨rfl,rfl⟩
section
variable {wb w:az}{X D:Nat->Prop}{k d m:Nat}{out:List UInt8}{s:Option (Nat×Nat×cj)}
theorem eN.code (h:eN wb X D k d s m out w)(c:Int)(hc:gK c)(hs:L out<=140737488350000):
 M O 56 #[aq k,ak c,Z OQ 0 0] w λe w'=>(∃v,e=OL v)/\gn wb X D k d s m (out++txt (iz c)) w w':=by
 refine(Nw h.t h.oS c hc hs).mono ?_;rintro e w' ⟨he,g,b,f⟩
 exact⟨he,h.told b f⟩
def nY (N O:Int):Int:=if N<16\/256<N\/O<0\/1024<O then 1 else 0
def rB (N O:Int):Option (Nat×Nat×cj):=if N<16\/256<N\/O<0\/1024<O then OQ else H (K N,K O,(ju (K N) (K O)).2)
theorem NO (h:eN wb X D k d s m out w)(N O:Int)(hs:L out<=140737488350000)(w0:az)(g:J w.heap.size w w0):
 M prog 55 #[ak N,ak O] w0 λe w1=>∃j a,e=OL (ay #[bq j,.agg #[ak (nY N O),ak a]])/\J w0.heap.size w0 w1/\∀f,Fr (λb=>w.heap.size<=b/\b<w0.heap.size) w1 f->M prog 56 #[aq k,ak (nY N O),Z OQ 0 0] (OZ f ⟨d,0,OQ⟩ (bq j)) λe w'=>(∃v,e=OL v)/\gn wb X D k d (rB N O) m (out++txt (iz (nY N O))) w w':=by
 unfold nY rB;by_cases hc:N<16\/256<N\/O<0\/1024<O
 ·rw[aM hc,aM hc];refine(M9 N O w0 hc).mono ?_;rintro e w1 ⟨rfl,hb⟩
  have l:=g.trans (hb.mono g.size)
  refine⟨OQ,-1,rfl,hb,λf i=>?_⟩
  obtain⟨g1,g2⟩:=h.Ny (l.trans (i.below l.size (λb e=>e.1)))
  refine(g1.code 1 ⟨ae,ae⟩ hs).mono ?_;rintro e w' ⟨he,hg⟩
  exact⟨he,gn.trans g2 hg⟩
 ·rw[aJ hc,aJ hc];have o:((K N:Nat):Int)=N:=aa;have p:((K O:Nat):Int)=O:=aa;have P:=M8 (K N) (K O) w0 aa aa aa;rw[o,p] at P;refine P.mono ?_;rintro e w1 ⟨c,t,F,G,rfl,⟨q1,q⟩,n⟩
  refine⟨au t.tp,0,rfl,n.be,λf i=>?_⟩
  obtain⟨g1,g2⟩:=h.made g n i;rw[q1,q] at g1;refine(g1.code 0 ⟨ae,ae⟩ hs).mono ?_;rintro e w' ⟨he,hg⟩
  exact⟨he,gn.trans g2 hg⟩
theorem eN.dv (h:eN wb X D k d s m out w):∃v,w.heap[d]?=H (E #[v] 45 (0,0)):=by exact xz
theorem NP (h:eN wb X D k d s m out w)(N O:Int)(ad:Option bB)(cp:Nat)(hN:nW w ad [N,O])(hs:L out<=140737488350000):
 M prog 35 #[aq k,Z ad 2 cp] w λe w'=>e=OL (bA C)/\gn wb X D k d (rB N O) m (out++txt (iz (nY N O))) w w':=by
 obtain⟨k0,lk⟩:=h.k0;obtain⟨b,c,rfl,l0,hc⟩:=hN ac;obtain⟨tv,hd⟩:=h.dv;exact NL k0 lk l0 (by simpa using hc 0 ac) (by simpa using hc 1 ac) hd (NO h N O hs)
theorem gn.more {j:Nat}{w':az}(h:gn wb X D k d s m out w w')(b:m<=j):gn wb X D k d s j out w w':=by obtain⟨c,e,f,g⟩:=h;exact⟨c,e,f.more b,g⟩
end
def oU (i:Nat)(nd:Int×List (Int×Int)):List UInt8:=txt (bs (35::Lib.itoa i)::bs (lS nd.1)::nd.2.map gb)
def iV (b:List (Int×List (Int×Int)))(n:Nat):List UInt8:=(List.range n).flatMap λi=>oU i (U b i (0,[]))
def m_ (W:cj):List UInt8:=txt (bs [114,111,111,116,115]::(ee.eT W.T W.wt W.rs).1.map gb)++iV (ee.eT W.T W.wt W.rs).2.2 (L (ee.eT W.T W.wt W.rs).2.2)++txt [bs [117,115,101,100],bs (Lib.itoa (el W.T).1),bs (Lib.itoa (el W.T).2)]
def oV (g:fS)(n o:Nat)(W:cj)(k:Int)(N:List Int):Int×cj:=W.dI g n o (fU k N).k (fU k N).R (fU k N).A (fU k N).B (fU k N).I (fU k N).n
def jg (g:fS)(s:Option (Nat×Nat×cj))(first:List UInt8)(N:List Int):Option (Option (Nat×Nat×cj)×List UInt8):=
 if first=[110,101,119] then(if L N=2 then H (rB (U N 0 0) (U N 1 0),txt (iz (nY (U N 0 0) (U N 1 0)))) else OQ)
 else match s with
  |none=>OQ
  |some (n,o,W)=>if first=[118,105,101,119] then(if L N=0 then H (s,m_ W) else OQ)
   else if fH first=0\/L (slt (fH first))≠L N then OQ else H (H (n,o,(oV g n o W (fH first) N).2),txt (iz (oV g n o W (fH first) N).1))
def kI (g:fS)(s:Option (Nat×Nat×cj))(first:ByteArray)(b:List ByteArray):Option (Option (Nat×Nat×cj)×List UInt8):=
 match nums b with
 |none=>OQ
 |some N=>jg g s first.data.toList N
def iL (g:fS)(s:Option (Nat×Nat×cj)):List ByteArray->Option (Nat×Nat×cj)×List UInt8
 |[]=>(s,[])
 |a::l=>(kI g s a l).getD (s,txt [bs [119,104,97,116]])
def gd (g:fS):Option (Nat×Nat×cj)->List ByteArray->Option (Nat×Nat×cj)×List UInt8
 |s,[]=>(s,[])
 |s,x::l=>((gd g (iL g s (hZ x)).1 l).1,(iL g s (hZ x)).2++(gd g (iL g s (hZ x)).1 l).2)
theorem DA (g:fS):∀(l b:List ByteArray)(s),gd g s (l++b)=((gd g (gd g s l).1 b).1,(gd g s l).2++(gd g (gd g s l).1 b).2)
 |[],b,s=>by simp[gd]
 |x::l,b,s=>by rw[List.cons_append,gd,DA g l b,gd];simp
theorem NQ (g:fS)(l:List ByteArray)(x:ByteArray)(s):gd g s (l++[x])=((iL g (gd g s l).1 (hZ x)).1,(gd g s l).2++(iL g (gd g s l).1 (hZ x)).2):=by rw[DA];simp[gd]
theorem join_le (L:List (List UInt8))(B:Nat)(h:∀x∈L,x.length<=B):(Lib.join L [32]).length<=L.length*(B+1):=by
 induction L with
 |nil=>simp[Lib.join]
 |cons x l b=>
  have c:=h x ac;have d:=b (λy hy=>h y (by simp[hy]))
  cases l with
  |nil=>simp[Lib.join];omega
  |cons y l=>
   have e:Lib.join (x::y::l) [32]=x++32::Lib.join (y::l) [32]:=by simp[Lib.join,List.intercalate]
   rw[e,aX,ko,ko (a:=x),OF];omega
theorem tZ (L:List ByteArray)(h:∀x∈L,x.size<=24):(txt L).length<=L.length*25+1:=by
 have:=join_le (L.map (·.data.toList)) 24 (λx b=>by obtain⟨y,hy,rfl⟩:=bR.1 b;exact h y hy)
 simp only [txt,kk,List.length_append,vG,ko,List.length_nil] at this⊢
 omega
theorem DB (v:Int×Int)(h:gK v.2):(gb v).size<=24:=by
 have:=Lib.itoa_length_le v.2 h.1 h.2;show L (rz v)<=24;unfold rz
 repeat' split
 all_goals first|(simp;done)|(simp only [ko];omega)|omega
theorem NR (k:Int):(bs (lS k)).size<=24:=by
 show L (lS k)<=24;unfold lS
 repeat' split
 all_goals simp
theorem NS (c:Int)(h:gK c):L (txt (iz c))<=100:=by
 have:=Lib.itoa_length_le c h.1 h.2;have:=tZ (iz c) (λx b=>by
  unfold iz at b;split at b
  ·rw[bN.1 b];decide
  ·rcases bQ.1 b with rfl|b
   ·decide
   ·rw[bN.1 b];show L (Lib.itoa c)<=24;omega)
 have d:L (iz c)<=2:=by unfold iz;split<;>simp
 omega
theorem DC (i:Nat)(nd:Int×List (Int×Int))(hi:i<=10000)(hn:L nd.2<=20000)(hk:∀v∈nd.2,gK v.2):L (oU i nd)<=500051:=by
 have h0:=Lib.itoa_length_le (i:Int) aa aa;have:=tZ (bs (35::Lib.itoa i)::bs (lS nd.1)::nd.2.map gb) (λx b=>by
  rcases bQ.1 b with rfl|b
  ·show L (35::Lib.itoa i)<=24;simp only [ko];omega
  ·rcases bQ.1 b with rfl|b
   ·exact NR _
   ·obtain⟨v,hv,rfl⟩:=bR.1 b;exact DB v (hk v hv))
 simp only [ko,vG] at this
 unfold oU;omega
theorem DD (b:List (Int×List (Int×Int)))(i:Nat):iV b (i+1)=iV b i++oU i (U b i (0,[])):=by simp[iV,List.range_succ]
theorem t_ (b:List (Int×List (Int×Int)))(hl:L b<=10000)(hn:∀nd∈b,L nd.2<=20000/\∀v∈nd.2,gK v.2):∀i,i<=L b->L (iV b i)<=i*500051
 |0,_=>by simp[iV]
 |i+1,hi=>by
  have c:=t_ b hl hn i aa;have hm:U b i (0,[])∈b:=by rw[aN,aP aa];exact a_ _
  have d:=DC i (U b i (0,[])) aa (hn _ hm).1 (hn _ hm).2;rw[DD,aX,OF];omega
theorem DE (a b:Int)(ha:gK a)(hb:gK b):L (txt [bs [117,115,101,100],bs (Lib.itoa a),bs (Lib.itoa b)])<=76:=by
 have d:=Lib.itoa_length_le a ha.1 ha.2;have e:=Lib.itoa_length_le b hb.1 hb.2;have:=tZ [bs [117,115,101,100],bs (Lib.itoa a),bs (Lib.itoa b)] (λx c=>by
  simp only [bQ,List.not_mem_nil,or_false] at c;rcases c with rfl|rfl|rfl
  ·decide
  ·show L (Lib.itoa a)<=24;omega
  ·show L (Lib.itoa b)<=24;omega)
 simpa using this
theorem ua (b:List (Int×Int))(hl:L b=12)(hk:∀v∈b,gK v.2):L (txt (bs [114,111,111,116,115]::b.map gb))<=326:=by
 have:=tZ (bs [114,111,111,116,115]::b.map gb) (λx c=>by
  rcases bQ.1 c with rfl|c
  ·decide
  ·obtain⟨v,hv,rfl⟩:=bR.1 c;exact DB v (hk v hv))
 simp only [ko,vG] at this
 omega
section
variable {s:cj}{g:fS}{m o:Int}
theorem xJ (f:List Bool->List Bool)(mj:Bool):0<=s.hI f o mj/\s.hI f o mj<=4:=by unfold cj.hI;split<;>omega
theorem NT (n:Int):0<=(s.room g m o n).1/\(s.room g m o n).1<=4:=by
 unfold cj.room;split
 ·exact⟨ac,ac⟩
 ·exact xJ _ _
theorem rC (k:Int)(l:List (Int×Int)):0<=(s.grow g m o k l).2.1/\(s.grow g m o k l).2.1<=4:=by
 unfold cj.grow;split
 ·exact⟨ac,ac⟩
 ·exact NT _
theorem DF (v:Int×Int)(I:Int):0<=s.fc v I/\s.fc v I<=4:=by
 unfold cj.fc;repeat' split
 all_goals omega
theorem NU (v:Int×Int):0<=(s.pop v).2.1/\(s.pop v).2.1<=4:=by
 unfold cj.pop;repeat' split
 all_goals simp
theorem NV (k:Int)(A B:Nat)(I n:Int):0<=(s.rt g m o k A B I n).2.1/\(s.rt g m o k A B I n).2.1<=4:=by
 unfold cj.rt;by_cases b:k=1
 ·rw[aM b];exact⟨ac,ac⟩
 rw[aJ b];by_cases c:k=3
 ·rw[aM c];exact⟨ac,ac⟩
 rw[aJ c];by_cases d:k=4
 ·rw[aM d];exact rC _ _
 rw[aJ d];by_cases e:k=5
 ·rw[aM e];exact rC _ _
 rw[aJ e];by_cases f:k=6
 ·rw[aM f];exact rC _ _
 rw[aJ f];by_cases i:k=7
 ·rw[aM i];exact rC _ _
 rw[aJ i];by_cases j:k=8
 ·rw[aM j];exact rC _ _
 rw[aJ j];by_cases l:k=10
 ·rw[aM l];exact NU _
 rw[aJ l];by_cases p:k=11
 ·rw[aM p];exact DF _ _
 rw[aJ p];by_cases q:k=13
 ·rw[aM q];split<;>exact⟨ac,ac⟩
 rw[aJ q];split<;>exact⟨ac,ac⟩
theorem NW (k R A B n:Int):0<=dY k R A B n/\dY k R A B n<=8:=by
 unfold dY iP vc hc rc;repeat' split
 all_goals omega
theorem DG (k R A B I n:Int):gK (s.dI g m o k R A B I n).1:=by
 have w:∀{a:Int},0<=a/\a<=4->0<=a/\a<=8:=λh=>⟨h.1,aa⟩
 have:0<=(s.dI g m o k R A B I n).1/\(s.dI g m o k R A B I n).1<=8:=by
  unfold cj.dI;repeat' split
  ·unfold cj.reg;repeat' split
   all_goals simp
  ·exact w (DF _ _)
  ·exact w (xJ _ _)
  ·exact w (xJ _ _)
  ·simp
  ·exact w (NV _ _ _ _ _)
  ·exact NW _ _ _ _ _
 exact⟨aa,aa⟩
end
section
variable {wb w:az}{X D:Nat->Prop}{k d m:Nat}{out:List UInt8}{g:fS}
theorem NX (first:ByteArray)(ad:Option bB)(n cp:Nat)(b:hL w)(h0:fH first.data.toList=0):
 M O 37 #[aq k,.string first,Z ad n cp] w λe w'=>e=OL (bA OU)/\J (I (G w)) w w':=by
 have P:=xG first w b
 rw[h0] at P;go_enter func37,ntmps37;go_wp2_with (go_at_call 62;refine P.mono ?_;rintro e w1 ⟨rfl,rfl⟩)
 go_ret;exact⟨rfl,aH _ _⟩
theorem NY (first:ByteArray)(ad:Option bB)(N:List Int)(cp:Nat)(b:hL w)(hN:nW w ad N)(h0:fH first.data.toList≠0)(hl:L (slt (fH first.data.toList))≠L N):
 M O 37 #[aq k,.string first,Z ad (L N) cp] w λe w'=>e=OL (bA OU)/\J (I (G w)) w w':=by
 have P:=xG first w b
 have c:M O 63 #[ak (fH first.data.toList),Z ad (L N) cp] w λe w'=>e=OL (ay #[dJ 0 0 0 0 0 0,bA OU])/\J (I (G w)) w w':=by
  refine(Dy (fH first.data.toList) N ad cp w hN).mono ?_;rintro e w1 ⟨hb,⟨d,_⟩|⟨_,rfl⟩⟩
  ·exact absurd d hl
  ·exact⟨rfl,hb⟩
 have f:(fH first.data.toList !=0)=C:=by simpa using h0
 rw[f] at P;generalize fH first.data.toList=K at*;go_enter func37,ntmps37;go_wp2_with (first|(go_at_call 62;refine P.mono ?_;rintro e w1 ⟨rfl,rfl⟩)|(go_at_call 63;refine c.mono ?_;rintro e w1 ⟨rfl,hb⟩))
 go_ret;exact⟨rfl,hb.alloc hb.size _⟩
theorem NZ {n o:Nat}{W:cj}(h:eN wb X D k d (H (n,o,W)) m out w)(hg:∀T wt,e9 T wt->dW T wt (g T wt))(hm:m<=8000)(kd R A B I x:Int)(hs:L out<=140737488350000):
 ∃tp,(∀w1,J w.heap.size w w1->V w1 (av d 0)=H (aq tp))/\∀w1,J w.heap.size w w1->M O 64 #[aq tp,dJ kd R A B I x] w1 λe j=>e=OL (ay #[ak (W.dI g n o kd R A B I x).1,.agg #[ak 0,ak 0]])/\(w1.heap.size<=j.heap.size/\∀b,w.heap.size<=b->b<w1.heap.size->j.heap[b]?=w1.heap[b]?)/\∀l,Fr (λb=>w.heap.size<=b/\b<w1.heap.size) j l->M O 56 #[aq k,ak (W.dI g n o kd R A B I x).1,Z OQ 0 0] l λe w'=>(∃v,e=OL v)/\gn wb X D k d (H (n,o,(W.dI g n o kd R A B I x).2)) (m+1) (out++txt (iz (W.dI g n o kd R A B I x).1)) w w':=by
 obtain⟨c,t,F,G,S,i,hi,hd,q,⟨rfl,rfl⟩,ad,ag,f⟩:=h.o.s;have ai:d≠t.tp:=λe=>by
  have:=q.tw;rw[<-e,hd] at this
  exact absurd (j3 this) ac
 refine⟨t.tp,λw1 hb=>?_,λw1 hb=>?_⟩
 ·have:=(hb.block d (ck hd)).trans hd;simp[World.cell?,this]
 ·have al:=h.below hb;have am:=(hb.block d (ck hd)).trans hd;refine(M7 (q.below hb) hg (aS hi hm) kd R A B I x).mono ?_;rintro e j ⟨s,u,rfl,q1,p,q3,N⟩
  refine⟨rfl,⟨p.size,λb l1 l2=>p.block b l2 (λe=>by have:=h.o.hD b (f b e);omega)⟩,λl ab=>?_⟩
  obtain⟨g1,g2⟩:=al.turn am hi ad ag f q1 p q3 N ai;have old:∀b,b=d\/s b\/u b\/b=t.tp->b<w.heap.size\/w1.heap.size<=b:=λb e=>by
   rcases e with e|e|e|e
   ·exact aK (e▸ck hd)
   ·exact(q3 b e).imp (λe=>h.o.hD b (f b (aK e))) id
   ·exact(N b e).imp (λe=>h.o.hD b (f b (aI (aK e)))) id
   ·exact aK (h.o.hD b (f b (aI (aI e))))
  have g3:=g1.fr ab (λb an hy=>by have:=h.hX b an;omega) (λb hy e=>by have:=old b e;omega) (λb hy=>aS h.o.be.size hy.1)
  have t3:b9 (λb=>X b\/D b) w (λb=>X b\/b=d\/s b\/u b\/b=t.tp) l:=by have tw:=(b9.of hb).trans g2;exact⟨tw.fr.trans ab (λb e=>aI e.1),tw.sub⟩
  refine(g3.code _ (DG _ _ _ _ _ _) hs).mono ?_;rintro e w' ⟨he,ao⟩
  exact⟨he,gn.trans t3 ao⟩
theorem N0 {n o:Nat}{W:cj}(h:eN wb X D k d (H (n,o,W)) m out w)(hg:∀T wt,e9 T wt->dW T wt (g T wt))(hm:m<=8000)(hs:L out<=140737488350000)(first:ByteArray)(ad:Option bB)(N:List Int)(cp:Nat)(hN:nW w ad N)(h0:fH first.data.toList≠0)(hl:L (slt (fH first.data.toList))=L N):
 M O 37 #[aq k,.string first,Z ad (L N) cp] w λe w'=>e=OL (bA C)/\gn wb X D k d (H (n,o,(oV g n o W (fH first.data.toList) N).2)) (m+1) (out++txt (iz (oV g n o W (fH first.data.toList) N).1)) w w':=by
 have P:=xG first w h.oS
 obtain⟨k0,lk⟩:=h.k0;have b:M O 63 #[ak (fH first.data.toList),Z ad (L N) cp] w λe w'=>e=OL (ay #[dJ (fU (fH first.data.toList) N).k (fU (fH first.data.toList) N).R (fU (fH first.data.toList) N).A (fU (fH first.data.toList) N).B (fU (fH first.data.toList) N).I (fU (fH first.data.toList) N).n,bA C])/\J w.heap.size w w':=by
  refine(Dy (fH first.data.toList) N ad cp w hN).mono ?_;rintro e w1 ⟨hb,⟨_,rfl⟩|⟨c,_⟩⟩
  ·exact⟨rfl,hb⟩
  ·exact absurd hl c
 have f:(fH first.data.toList !=0)=C:=by simpa using h0
 rw[f] at P;unfold oV;generalize fH first.data.toList=K at*;generalize fU K N=x at*;obtain⟨i,j,l,p,q,s⟩:=x;dsimp only at b⊢;obtain⟨tp,q1,t⟩:=NZ h hg hm i j l p q s hs;exact NM k0 lk (h.o.hD d h.o.jD) (q1 w bZ) P b t
end
section
variable {wb w:az}{X D:Nat->Prop}{k d m:Nat}{out:List UInt8}
theorem N1 (k:Nat)(ad:Option bB)(n cp:Nat)(w:az)(hn:n≠0):
 M O 36 #[aq k,Z ad n cp] w λe w'=>e=OL (bA OU)/\w=w':=by
 have b:((n:Int)==0)=OU:=by simp;omega
 go_enter func36,ntmps36;go_wp2;go_ret;exact⟨rfl,rfl⟩
theorem DH {c:Wc}{t:pX}{F G:Nat->Prop}{S:cv}{W:cj}{i j:Nat}(h:ef wb c t F G S W i j w):gK (el W.T).1/\gK (el W.T).2:=by have hb:=pJ h.g;have b:=hb.y1;have d:=hb.g1;have e:=hb.n1;have f:=hb.o1;rw[h.us];exact⟨⟨by show _<=(S.s.y:Int);omega,by show(S.s.y:Int)<=_;omega⟩,⟨by show _<=(S.s.g:Int);omega,by show(S.s.g:Int)<=_;omega⟩⟩
theorem N2 {m:List ec}{b:List (Int×List (Int×Int))}(h:hP m=b){i:Nat}(hi:i<L b):∃x:ec,m[i]?=H x/\U b i (0,[])=(x.1,x.2.2.2)/\x∈m:=by
 subst h;have hi:i<L m:=by simpa[hP] using hi
 exact⟨m[i],aP hi,by simp[hP,List.getD_eq_getElem?_getD,hi],a_ hi⟩
theorem N3 {n o:Nat}{W:cj}(h:eN wb X D k d (H (n,o,W)) m out w)(hm:m<=8000)(ad:Option bB)(cp:Nat)(hs:L out<=140730000000000):
 M O 36 #[aq k,Z ad 0 cp] w λe w'=>e=OL (bA C)/\gn wb X D k d (H (n,o,W)) m (out++m_ W) w w':=by
 obtain⟨k0,lk⟩:=h.k0;obtain⟨c,t,F,G,S,i,hi,hd,am,cO,cP,cQ,bl⟩:=h.o.s;have b2:i<=10000:=aa;have cR:V w (av d 0)=H (aq t.tp):=aD hd
 obtain⟨b3,_⟩:=am.cells;obtain⟨b4,_⟩:=fq am.g;have cv:=am.bd b2;have hk:=am.Dj b2;have cw:=DH am;have b5:=am.C9 b2;have cS:aA (∀l wr:az,J w.heap.size w l->Fr X l wr->ef wb c t F G S W i i wr/\V wr (av d 0)=H (aq t.tp)):=λl wr hb f=>by
  have cx:Fr X w wr:=(Fr.of hb).trans f (λb e=>aK e)
  have b6:¬X d:=λe=>h.ap d e h.o.jD;refine⟨am.tW cx (λb e g=>h.ap b g (bl b (aK e))) (λb e g=>h.ap b g (bl b (aI (aK e)))) (λg=>h.ap _ g (bl _ (aI (aI rfl)))) h.lU,?_⟩
  have:=(cx.block d (ck hd) b6).trans hd;simp[World.cell?,this]
 have q:=ge h hs cv;have ab:=cY hk cw;unfold m_;generalize cT:ee.eT W.T W.wt W.rs=cU at*;obtain⟨s,ms,j⟩:=cU;generalize cy:el W.T=us at*;obtain⟨ao,ap⟩:=us;have cV:=cg cy;dsimp only at b5 q ab⊢;clear cT cy cv hk cw hs h am cO cP cQ bl hd;go_enter func36,ntmps36;go_wp2_with fail;refine b5.mono ?_;clear b5;rintro e w1 ⟨aB,aF,aR,a1,rfl,cz,cA,b7⟩
 go_upto_region 4 with fail
 have b8:J w.heap.size w (bu w1 (E #[Z aB 12 aF,Z aR (L j) a1] 97)):=b7.alloc b7.size _;have bn:=aO w1 (E #[Z aB 12 aF,Z aR (L j) a1] 97)
 have ca:=aw w1 (E #[Z aB 12 aF,Z aR (L j) a1] 97)
 have B:=qh (q.o.1.below b8) b8 (cz.below ca) (cA.below ca) bn;obtain⟨v0,v1,_⟩:=oT bn;have dc:=b7.size;have lx:=ck bn;clear cz cA b8 ca bn;generalize bu w1 (E #[Z aB 12 aF,Z aR (L j) a1] 97)=l at*;generalize w1.heap.size=bo at*;have bp:M O 58 #[aq k,Z aB 12 aF,Z (au l.heap.size) 1 1] (bu l (E #[.string (bs [114,111,111,116,115])] 9)) λe w'=>(∃v,e=OL v)/\∃ag,fN ag k d (out++txt (bs [114,111,111,116,115]::s.map gb)) w'/\b9 X l ag w':=by
  have aV:=aw l (E #[.string (bs [114,111,111,116,115])] 9)
  have hn:=aO l (E #[.string (bs [114,111,111,116,115])] 9)
  have hl:=q.o.2.2.1;have am:=ua s hl ab.o.1.1;have:=Dq B.o.1.t B.o.1.oS aV [bs [114,111,111,116,115]] ae ae l.heap.size 1 (oR hn bY rfl ae) s aB aF B.o.2.2.1.1 ab.o.1.1 aa (by have:=q.o.2.1;show _+L (txt (bs [114,111,111,116,115]::s.map gb))<=_;omega)
  rw[hl] at this
  exact this
 clear cR b3 b4 k0;go_wp2_with fail;refine bp.mono ?_;clear bp;rintro e cB ⟨⟨v,rfl⟩,cb,t3,cc⟩
 have cW:∀{w':az}{ag:Nat->Prop},b9 X l ag w'->V w' (av bo 1)=H (Z aR (L j) a1):=λh=>by rw[aQ (w:=l) (a:=⟨bo,1,OQ⟩) (h.fr.block bo lx (λe=>by have:=q.o.1.hX bo e;omega))];exact v1
 have cX:=cW cc;have cC:aA (fN cb k d (out++txt (bs [114,111,111,116,115]::s.map gb)++iV j 0) cB/\b9 X l cb cB):=⟨by simpa[iV] using t3,cc⟩
 clear t3 cc v0 v1;go_wp2_with fail
 go_loopw [35] (λiv wr=>∃(i:Nat)(ag:Nat->Prop),i<=L j/\iv=ak i/\aA (fN ag k d (out++txt (bs [114,111,111,116,115]::s.map gb)++iV j i) wr/\b9 X l ag wr)) (λiv _=>L j-K (bG iv))
 case atStart=>exact⟨0,cb,a4 _,rfl,cC⟩
 case round=>
  clear cC cX;obtain⟨i,ag,cZ,rfl,N⟩:=hrel;by_cases cd:i<L j
  ·obtain⟨Y,N⟩:∃Y,aA ((fN Y k d (out++txt (bs [114,111,111,116,115]::s.map gb)++iV j i) wr/\b9 X l Y wr)/\∀b,Y b->b<wr.heap.size):=⟨_,⟨N.o.1.cut,⟨N.o.2.fr,λb e=>N.o.2.sub b e.1⟩⟩,λb e=>e.2⟩
   have a2:aA (hL wr):=B.o.1.gl.below (B.o.1.o.be.trans (N.o.1.2.fr.below B.o.1.o.be.size B.o.1.lU))
   have c0:jY wr w.heap.size aR j:=B.o.2.2.2.1.fr N.o.1.2.fr (λb e=>q.o.1.hX b e)
   obtain⟨mm,ce,cD,_,cE⟩:=c0;have c1:L mm=L j:=by rw[<-ce];simp[hP]
   obtain⟨dd,de,rfl,_,l0,hc⟩:=cE aa;obtain⟨x,cF,hn,cG⟩:=N2 ce cd;obtain⟨c2,y1⟩:=hc i x cF;have cf:=cD x cG;have ch:U j i (0,[])∈j:=by rw[aN,aP cd];exact a_ cd
   have br:=q.o.2.2.2.2 _ ch;have bt:=ab.o.1.2 _ ch;rw[hn] at br bt;have bb:L (out++txt (bs [114,111,111,116,115]::s.map gb)++iV j i)<=L out+6000000000:=by have ci:=ua s q.o.2.2.1 ab.o.1.1;have cl:=t_ j q.o.2.2.2.1 (λnd hn=>⟨q.o.2.2.2.2 nd hn,ab.o.1.2 nd hn⟩) i aa;have c3:=q.o.2.2.2.1;rw[aX,aX];have:i*500051<=10000*500051:=Cs _ aa;omega
   have cm:=cg (show out++txt (bs [114,111,111,116,115]::s.map gb)++iV j (i+1)=out++txt (bs [114,111,111,116,115]::s.map gb)++iV j i++oU i (U j i (0,[])) by rw[DD,<-bf])
   rw[hn] at cm;obtain⟨kd,a0,fc,ai⟩:=x;dsimp only at c2 y1 cf br bt cm;have c4:i<=10000:=by have:=q.o.2.2.2.1;omega
   have cn:=cg bb;have q0:(0:Int)<=(i:Int):=aa;have q1:(i:Int)<(L j:Int):=aa;have bd:=aw wr (E #[OP OM kd,Z a0 (L ai) fc] 101)
   have co:=aO wr (E #[OP OM kd,Z a0 (L ai) fc] 101)
   have be:=ck co;have al:=x0 (N.o.1.1.below bd) (N.o.1.2.below bd) (cf.below bd) (a2.o.below bd) (show L ai<=20000/\∀v∈ai,gK v.2 from⟨br,bt⟩) (show∀b,Y b->b<wr.heap.size from N.o.2)
   obtain⟨u0,cq,_⟩:=oT co;clear hc cE cD c1 cF hn cG cf ch br bt bb bd co N a2 ce cZ
   go_upto_region 8 with fail
   generalize bu wr (E #[OP OM kd,Z a0 (L ai) fc] 101)=an at*;generalize wr.heap.size=nb at*;have cH:M O 59 #[OP OM i] an.drew λe u=>e=OL (.string (bs (35::Lib.itoa i)))/\J an.heap.size an u:=by
    refine(Dp i ⟨aa,aa⟩ an.drew (al.o.2.2.2.1.below bZ.drew)).mono ?_;rintro e u ⟨he,hb⟩
    exact⟨he,(aH _ an).drew.trans hb⟩
   have bp:aA (∀u,J an.heap.size an u->M O 58 #[aq k,Z a0 (L ai) fc,Z (au u.heap.size) 2 2] (bu u (E #[.string (bs (35::Lib.itoa i)),.string (bs (lS kd))] 9)) λe w'=>(∃v,e=OL v)/\∃ag,fN ag k d (out++txt (bs [114,111,111,116,115]::s.map gb)++iV j i++oU i (kd,ai)) w'/\b9 Y an ag w'):=λu hb=>by
    have aV:=aw u (E #[.string (bs (35::Lib.itoa i)),.string (bs (lS kd))] 9)
    have hn:=aO u (E #[.string (bs (35::Lib.itoa i)),.string (bs (lS kd))] 9)
    have am:=DC i (kd,ai) c4 al.o.2.2.2.2.1.1 al.o.2.2.2.2.1.2;exact Dq al.o.1 al.o.2.2.2.1 (hb.trans (aV.mono hb.size)) [bs (35::Lib.itoa i),bs (lS kd)] ac ac u.heap.size 2 (oR hn hb.size rfl ac) ai a0 fc al.o.2.2.1 al.o.2.2.2.2.1.2 al.o.2.2.2.2.1.1 (by have ci:=q.o.2.1;have cl:=cn.o;show _+L (oU i (kd,ai))<=_;omega)
   have c5:=cg cH;clear cH
   go_region_held3 (λcI=>V cI (av nb 0)=H (ak kd)/\V cI (av nb 1)=H (Z a0 (L ai) fc)) (first|exact⟨u0,cq⟩|exact⟨s0,s1⟩|exact⟨r0,r1⟩|exact⟨(World.cell?_alloc_past _ _ _ cJ).trans s0,(World.cell?_alloc_past _ _ _ cJ).trans s1⟩) (first
    |(go_at_call 59;refine c5.o.mono ?_;rintro e u ⟨rfl,ar⟩;have cJ:nb<u.heap.size:=aL be ar.size;have s0:=(ar.cell (p:=av nb 0) be).trans u0;have s1:=(ar.cell (p:=av nb 1) be).trans cq)
    |(go_at_call 60;refine(Nt kd _).mono ?_;rintro e wt ⟨rfl,rfl⟩)
    |(go_at_call 58;refine(bp.o u ar).mono ?_;rintro e bx ⟨⟨df,rfl⟩,cr,cK,b0⟩;have r0:=(aQ (w:=an) (a:=⟨nb,0,OQ⟩) (b0.fr.block nb be (λe=>by have:=al.o.2.2.2.2.2 nb e;omega))).trans u0;have r1:=(aQ (w:=an) (a:=⟨nb,1,OQ⟩) (b0.fr.block nb be (λe=>by have:=al.o.2.2.2.2.2 nb e;omega))).trans cq))
   all_goals
    have bg:aA (fN cr k d (out++txt (bs [114,111,111,116,115]::s.map gb)++iV j (i+1)) bx/\b9 X l cr bx):=⟨by rw[cm.o];exact cK,al.o.2.1.trans b0⟩
    clear cK b0;go_wp2_with fail;go_roundw
    case rel=>exact⟨i+1,cr,aa,aj,bg⟩
    case measure=>simp[bG];omega
  ·obtain rfl:i=L j:=aa;have q1:¬((L j:Int)<(L j:Int)):=aa;have a2:aA (hL wr):=B.o.1.gl.below (B.o.1.o.be.trans (N.o.2.fr.below B.o.1.o.be.size B.o.1.lU))
   obtain⟨b1,b6⟩:=cS.o l wr B.o.2.1 N.o.2.fr;obtain⟨kp,kv,hk,_⟩:=N.o.1.mem;have c6:V wr (av k 0)=H (aq d):=aD hk
   obtain⟨b3,_⟩:=b1.cells;obtain⟨b4,c7,_⟩:=fq b1.g;have cs:=b1.C8;rw[cV.o] at cs;have bb:L (out++txt (bs [114,111,111,116,115]::s.map gb)++iV j (L j))<=L out+6000000000:=by
    have ci:=ua s q.o.2.2.1 ab.o.1.1;have cl:=t_ j q.o.2.2.2.1 (λnd hn=>⟨q.o.2.2.2.2 nd hn,ab.o.1.2 nd hn⟩) (L j) bY
    have c3:=q.o.2.2.2.1;rw[aX,aX];have:L j*500051<=10000*500051:=Cs _ aa;omega
   have cn:=cg bb;have dg:=ck hk;clear hk b1 bb;go_wp2_with fail;refine cs.mono ?_;clear cs b3 b4 c7 b6 c6 q1;rintro e u ⟨rfl,ar⟩
   have P:=pZ ao ab.o.2.1 u (a2.o.below ar)
   have cL:=cg ar;clear ar;go_wp2_with fail;refine P.mono ?_;clear P;rintro e bx ⟨rfl,cM⟩
   have bg:=cg (cL.o.trans (cM.mono cL.o.size))
   have P:=pZ ap ab.o.2.2 bx (a2.o.below bg.o)
   clear cM;go_wp2_with fail;refine P.mono ?_;clear P;rintro e bi ⟨rfl,cN⟩
   have ct:=bg.o.trans (cN.mono bg.o.size)
   have aV:=aw bi (E #[.string (bs [117,115,101,100]),.string (bs (Lib.itoa ao)),.string (bs (Lib.itoa ap))] 9)
   have hn:=aO bi (E #[.string (bs [117,115,101,100]),.string (bs (Lib.itoa ao)),.string (bs (Lib.itoa ap))] 9)
   have cu:=ct.trans (aV.mono ct.size)
   have P:M O 22 #[aq k,Z (au bi.heap.size) 3 3] (bu bi (E #[.string (bs [117,115,101,100]),.string (bs (Lib.itoa ao)),.string (bs (Lib.itoa ap))] 9)) λe w'=>(∃v,e=OL v)/\gn wb X D k d (H (n,o,W)) m (out++(txt (bs [114,111,111,116,115]::s.map gb)++iV j (L j)++txt [bs [117,115,101,100],bs (Lib.itoa ao),bs (Lib.itoa ap)])) w w':=by
    have hl:=DE ao ap ab.o.2.1 ab.o.2.2;refine(rx (N.o.1.below cu) [bs [117,115,101,100],bs (Lib.itoa ao),bs (Lib.itoa ap)] _ 3 (iU.of (oR hn (a4 _) rfl ac)) ac ac ac (by have ci:=q.o.2.1;have cl:=cn.o;omega)).mono ?_;rintro e w' ⟨he,dh,c8,c9⟩
    refine⟨he,gn.of B.o.2.1 ?_⟩
    have da:out++(txt (bs [114,111,111,116,115]::s.map gb)++iV j (L j)++txt [bs [117,115,101,100],bs (Lib.itoa ao),bs (Lib.itoa ap)])=out++txt (bs [114,111,111,116,115]::s.map gb)++iV j (L j)++txt [bs [117,115,101,100],bs (Lib.itoa ao),bs (Lib.itoa ap)]:=by simp only [List.append_assoc]
    rw[da];exact B.o.1.told c8 ((N.o.2.below cu).trans c9)
   clear cN ct aV hn cu;go_wp2_with fail;refine P.mono ?_;rintro e w' ⟨⟨di,rfl⟩,db⟩
   go_wp2_with fail;go_ret;exact⟨rfl,db⟩
end
theorem nW.row {w:az}{base cap:Nat}{ao:Option bB}{N:List Int}(h:w.ownsRow base 2 1 (Z ao (L N) cap) (L N) (N.map (Value.int OM))):nW w ao N:=λhp=>by
 rcases h.2 with⟨hv,e⟩|⟨g,c,b,hv,_⟩
 ·rw[e] at hp;exact absurd hp ac
 ·cases hv;refine⟨g,0,rfl,(cu h g rfl).2,λi hi=>?_⟩
  rw[Nat.zero_add];refine(kq h (i:=i) ?_).1;rw[gp,aP hi,aN,aP hi];rfl
theorem p4 (s:ByteArray)(l:List UInt8):(s.toList==l)=decide (s.data.toList=l):=by rw[Lib.toList_data];by_cases h:s.data.toList=l<;>simp[h]
section
variable {w:az}{k d:Nat}{R:LM->az->Prop}{first:ByteArray}{ar:Option bB}{nr cr:Nat}{v:a7}
theorem N4 (P:M O 34 #[Z ar nr cr] w λe w'=>e=OL (ay #[Z OQ 0 0,bA OU])/\J (I (G w)) w w'):
 M O 21 #[aq k,.string first,Z ar nr cr] w λe w'=>e=OL (bA OU)/\J (I (G w)) w w':=by
 go_enter func21,ntmps21;go_wp2_with (go_at_call 34;refine P.mono ?_;rintro e w1 ⟨rfl,hb⟩)
 go_ret;exact⟨rfl,hb⟩
theorem N5 (d:(first.toList==[110,101,119])=C)(P:M O 34 #[Z ar nr cr] w λe w1=>∃v,e=OL (ay #[v,bA C])/\M O 35 #[aq k,v] w1 λe w'=>∃b,e=OL (bA b)/\R (OL (bA b)) w'):
 M O 21 #[aq k,.string first,Z ar nr cr] w R:=by
 go_enter func21,ntmps21;go_wp2_with (first|(go_at_call 34;refine P.mono ?_;rintro e w1 ⟨v,rfl,c⟩)|(go_at_call 35;refine c.mono ?_;rintro e f ⟨b,rfl,hr⟩))
 exact hr
theorem N6 (b:(first.toList==[110,101,119])=OU)(P:M O 34 #[Z ar nr cr] w λe w1=>∃v,e=OL (ay #[v,bA C])/\V w1 (av k 0)=H (aq d)/\V w1 (av d 0)=H (bq OQ)/\R (OL (bA OU)) w1):
 M O 21 #[aq k,.string first,Z ar nr cr] w R:=by
 go_enter func21,ntmps21;go_wp2_with (go_at_call 34;refine P.mono ?_;rintro e w1 ⟨v,rfl,c0,c1,hr⟩)
 exact hr
theorem N7 {tp:bB}(f:(first.toList==[110,101,119])=OU)(hv:(first.toList==[118,105,101,119])=C)(P:M O 34 #[Z ar nr cr] w λe w1=>∃v,e=OL (ay #[v,bA C])/\V w1 (av k 0)=H (aq d)/\V w1 (av d 0)=H (bq (H tp))/\M O 36 #[aq k,v] w1 λe w'=>∃b,e=OL (bA b)/\R (OL (bA b)) w'):
 M O 21 #[aq k,.string first,Z ar nr cr] w R:=by
 go_enter func21,ntmps21;go_wp2_with (first|(go_at_call 34;refine P.mono ?_;rintro e w1 ⟨v,rfl,c0,c1,c⟩)|(go_at_call 36;refine c.mono ?_;rintro e g ⟨b,rfl,hr⟩))
 exact hr
theorem N8 {tp:bB}(f:(first.toList==[110,101,119])=OU)(hv:(first.toList==[118,105,101,119])=OU)(P:M O 34 #[Z ar nr cr] w λe w1=>∃v,e=OL (ay #[v,bA C])/\V w1 (av k 0)=H (aq d)/\V w1 (av d 0)=H (bq (H tp))/\M O 37 #[aq k,.string first,v] w1 λe w'=>∃b,e=OL (bA b)/\R (OL (bA b)) w'):
 M O 21 #[aq k,.string first,Z ar nr cr] w R:=by
 go_enter func21,ntmps21;go_wp2_with (first|(go_at_call 34;refine P.mono ?_;rintro e w1 ⟨v,rfl,c0,c1,c⟩)|(go_at_call 37;refine c.mono ?_;rintro e g ⟨b,rfl,hr⟩))
 exact hr
end
section
variable {w:az}{k:Nat}
theorem N9 (ad:Option bB)(cp:Nat):
 M O 15 #[aq k,Z ad 0 cp] w λe w'=>e=OL (ay #[])/\J (I (G w)) w w':=by
 have hb:=(ax w).drew;go_enter func15,ntmps15;go_wp2_with fail
 go_region
 all_goals
  go_wp2;go_end0;exact⟨rfl,hb⟩
theorem N_ {Q:az->Prop}(a:ByteArray)(b o:Nat)(hc:V w (av b o)=H (.string a))
 (P:M O 21 #[aq k,.string a,Z (H ⟨b,o,OQ⟩) 0 0] w.drew λe w1=>e=OL (bA C)/\V w1 (av b o)=H (.string a)/\Q w1):
 M O 15 #[aq k,Z (H ⟨b,o,OQ⟩) 1 1] w λe w'=>e=OL (ay #[])/\Q w':=by
 exact Dt
theorem Oa {Q:az->Prop}(a:ByteArray)(n b o cp:Nat)(hc:V w (av b o)=H (.string a))(c:n+1<=cp)(d:¬cp=1)
 (P:M O 21 #[aq k,.string a,Z (H ⟨b,o+1,OQ⟩) n (cp-1)] w.drew λe w1=>e=OL (bA C)/\V w1 (av b o)=H (.string a)/\Q w1):
 M O 15 #[aq k,Z (H ⟨b,o,OQ⟩) (n+1) cp] w λe w'=>e=OL (ay #[])/\Q w':=by
 have f:decide ((n:Int)+1>0)=C:=ac;have q1:(1:Int)<=(n:Int)+1:=aa;have g:(n:Int)+1<=cp:=aa;exact Dt
theorem Oc {Q:az->Prop}(a:ByteArray)(b o:Nat)(hc:V w (av b o)=H (.string a))
 (P:M O 21 #[aq k,.string a,Z (H ⟨b,o,OQ⟩) 0 0] w.drew λe w1=>e=OL (bA OU)/\V w1 (av b o)=H (.string a)/\M O 22 #[aq k,Z (au (I (G w1))) 1 1] (bu w1 (E #[.string (bs [119,104,97,116])] 9)) λe w'=>(∃v,e=OL v)/\Q w'):
 M O 15 #[aq k,Z (H ⟨b,o,OQ⟩) 1 1] w λe w'=>e=OL (ay #[])/\Q w':=by
 exact Ds
theorem Od {Q:az->Prop}(a:ByteArray)(n b o cp:Nat)(hc:V w (av b o)=H (.string a))(c:n+1<=cp)(d:¬cp=1)
 (P:M O 21 #[aq k,.string a,Z (H ⟨b,o+1,OQ⟩) n (cp-1)] w.drew λe w1=>e=OL (bA OU)/\V w1 (av b o)=H (.string a)/\M O 22 #[aq k,Z (au (I (G w1))) 1 1] (bu w1 (E #[.string (bs [119,104,97,116])] 9)) λe w'=>(∃v,e=OL v)/\Q w'):
 M O 15 #[aq k,Z (H ⟨b,o,OQ⟩) (n+1) cp] w λe w'=>e=OL (ay #[])/\Q w':=by
 have f:decide ((n:Int)+1>0)=C:=ac;have q1:(1:Int)<=(n:Int)+1:=aa;have g:(n:Int)+1<=cp:=aa;exact Ds
end
section
variable {wb w:az}{X D:Nat->Prop}{k d m:Nat}{out:List UInt8}{s:Option (Nat×Nat×cj)}{g:fS}
def rD (wb:az)(X D:Nat->Prop)(k d m:Nat)(out:List UInt8)(w:az)(r:Option (Option (Nat×Nat×cj)×List UInt8))(e:LM)(w':az):Prop:=
 match r with
 |none=>e=OL (bA OU)/\J (I (G w)) w w'
 |some r=>e=OL (bA C)/\gn wb X D k d r.1 (m+1) (out++r.2) w w'
theorem Oe (h:eN wb X D k d s m out w)(hg:∀T wt,e9 T wt->dW T wt (g T wt))(hm:m<=8000)(hs:out.length<=140730000000000)(first:ByteArray)(L:List ByteArray)(ar:Option bB)(ab:Nat)(am:iU w ar L)(hl:L.length<=10)(hz:∀x∈L,x.size<=4000000000):
 M O 21 #[aq k,.string first,Z ar L.length ab] w (rD wb X D k d m out w (kI g s first L)):=by
 have ag:=Nl L ar ab w am hl hz h.oS;unfold kI;cases hN:nums L with
 |none=>
  refine N4 (ag.mono ?_)
  rintro e w1 ⟨hb,⟨N,v,j,_⟩|⟨_,rfl⟩⟩
  ·rw[hN] at j;cases j
  ·exact⟨rfl,hb⟩
 |some N=>
  have q:M O 34 #[Z ar L.length ab] w λe w1=>∃ao cap,e=OL (ay #[Z ao N.length cap,bA C])/\nW w1 ao N/\J w.heap.size w w1:=ag.mono (by
   rintro e w1 ⟨hb,⟨aF,v,j,rfl,hr⟩|⟨j,_⟩⟩
   ·rw[hN] at j;cases j;obtain⟨ao,cap,rfl⟩:=xI hr;exact⟨ao,cap,rfl,nW.row hr,hb⟩
   ·rw[hN] at j;cases j)
  have hd:=λw1 (hb:J w.heap.size w w1)=>(h.below hb).k0;have ai:∀{v:a7}{r:Option (Option (Nat×Nat×cj)×List UInt8)}{w1:az}{f:Nat},r=OQ->J w.heap.size w w1->M O f #[aq k,v] w1 (λe w'=>e=OL (bA OU)/\J w1.heap.size w1 w')->M O f #[aq k,v] w1 λe w'=>∃b,e=OL (bA b)/\rD wb X D k d m out w r (OL (bA b)) w':=by rintro v r w1 f rfl hb P;refine P.mono ?_;exact xH
  show M _ _ _ _ (rD wb X D k d m out w (jg g s first.data.toList N))
  by_cases l:first.data.toList=[110,101,119]
  ·refine N5 (by rw[p4,l];rfl) (q.mono ?_)
   rintro e w1 ⟨ao,cap,rfl,hi,hb⟩
   refine⟨_,rfl,?_⟩
   by_cases u:N.length=2
   ·have e:jg g s first.data.toList N=H (rB (U N 0 0) (U N 1 0),txt (iz (nY (U N 0 0) (U N 1 0)))):=by unfold jg;rw[aM l,aM u]
    rw[e];obtain⟨an,ap,rfl⟩:∃a b,N=[a,b]:=by
     match N,u with
     |[a,b],_=>exact⟨a,b,rfl⟩
    refine(NP (h.below hb) an ap ao cap hi aa).mono ?_;rintro e w' ⟨rfl,p⟩
    exact⟨C,rfl,rfl,gn.of hb (p.more (jh _))⟩
   ·refine ai (by unfold jg;rw[aM l,aJ u]) hb ((NN k ao N.length cap w1 u).mono ?_)
    rintro e w' ⟨rfl,rfl⟩
    exact⟨rfl,aH _ _⟩
  ·have ad:(first.toList==[110,101,119])=OU:=by rw[p4];simpa using l
   match s,h,hd with
   |none,h,hd=>
    refine N6 (d:=d) ad (q.mono ?_)
    rintro e w1 ⟨ao,cap,rfl,hi,hb⟩
    have j:w1.heap[d]?=H (E #[bq OQ] 45 (0,0)):=(h.below hb).o.s;have e:jg g OQ first.data.toList N=OQ:=by unfold jg;rw[aJ l]
    rw[e];exact⟨_,rfl,(hd w1 hb).1,by simp[World.cell?,j],rfl,hb⟩
   |some (n,o,W),h,hd=>
    have hp:∀w1,J w.heap.size w w1->∃tp:bB,V w1 (av d 0)=H (bq (H tp)):=λw1 hb=>by obtain⟨c,t,F,G,S,i,aR,aB,_⟩:=(h.below hb).o.s;exact⟨_,by simp[World.cell?,aB];rfl⟩
    obtain⟨tp,al⟩:∃tp:bB,∀w1,J w.heap.size w w1->V w1 (av d 0)=H (bq (H tp)):=by
     obtain⟨tp,ht⟩:=hp w bZ
     exact⟨tp,λw1 hb=>(hb.cell (aT _ _ ht)).trans ht⟩
    by_cases hv:first.data.toList=[118,105,101,119]
    ·refine N7 (d:=d) ad (by rw[p4,hv];rfl) (q.mono ?_) (tp:=tp)
     rintro e w1 ⟨ao,cap,rfl,hi,hb⟩
     refine⟨_,rfl,(hd w1 hb).1,al w1 hb,?_⟩
     by_cases B:N.length=0
     ·have e:jg g (H (n,o,W)) first.data.toList N=H (H (n,o,W),m_ W):=by unfold jg;rw[aJ l];simp only;rw[aM hv,aM B]
      rw[e,B];refine(N3 (h.below hb) hm ao cap hs).mono ?_;rintro e w' ⟨rfl,p⟩
      exact⟨C,rfl,rfl,gn.of hb (p.more (jh _))⟩
     ·refine ai (by unfold jg;rw[aJ l];simp only;rw[aM hv,aJ B]) hb ((N1 k ao N.length cap w1 B).mono ?_)
      rintro e w' ⟨rfl,rfl⟩
      exact⟨rfl,aH _ _⟩
    ·refine N8 (d:=d) ad (by rw[p4];simpa using hv) (q.mono ?_) (tp:=tp)
     rintro e w1 ⟨ao,cap,rfl,hi,hb⟩
     refine⟨_,rfl,(hd w1 hb).1,al w1 hb,?_⟩
     have j:=h.below hb;by_cases hk:fH first.data.toList=0
     ·have e:jg g (H (n,o,W)) first.data.toList N=OQ:=by unfold jg;rw[aJ l];simp only;rw[aJ hv,aM (aK hk)]
      rw[e];refine(NX first ao N.length cap j.oS hk).mono ?_;exact xH
     ·by_cases hn:(slt (fH first.data.toList)).length=N.length
      ·have e:jg g (H (n,o,W)) first.data.toList N=H (H (n,o,(oV g n o W (fH first.data.toList) N).2),txt (iz (oV g n o W (fH first.data.toList) N).1)):=by unfold jg;rw[aJ l];simp only;rw[aJ hv,aJ (λe=>e.elim hk (λe=>e hn))]
       rw[e];refine(N0 j hg hm aa first ao N cap hi hk hn).mono ?_;rintro e w' ⟨rfl,p⟩
       exact⟨C,rfl,rfl,gn.of hb p⟩
      ·have e:jg g (H (n,o,W)) first.data.toList N=OQ:=by unfold jg;rw[aJ l];simp only;rw[aJ hv,aM (aI hn)]
       rw[e];refine(NY first ao N cap j.oS hi hk hn).mono ?_;exact xH
theorem eN.Of (h:eN wb X D k d s m out w)(hm:m<=8000){first:List UInt8}{N:List Int}{r:Option (Nat×Nat×cj)×List UInt8}(e:jg g s first N=H r):L r.2<=5100000000:=by
 unfold jg at e;have k0:∀c,gK c->L (txt (iz c))<=5100000000:=λc hc=>aS (NS c hc) ae;split at e
 ·split at e
  ·cases e;refine k0 _ ?_;unfold nY;split<;>exact⟨ae,ae⟩
  ·cases e
 ·match s,h,e with
  |none,_,e=>cases e
  |some (n,o,W),h,e=>
   simp only at e;split at e
   ·split at e
    ·cases e;obtain⟨c,t,F,G,S,i,hi,_,b,_⟩:=h.o.s;have hb:=b.bd (by omega:i<=10000)
     have hk:=b.Dj (by omega:i<=10000)
     have f:=DH b;show L (m_ W)<=_;unfold m_;have j:=ua _ hb.1 hk.1;have l:=t_ _ hb.2.1 (λnd hn=>⟨hb.2.2 nd hn,hk.2 nd hn⟩) _ bY
     have p:=DE _ _ f.1 f.2;have q:=hb.2.1;rw[aX,aX];omega
    ·cases e
   ·split at e
    ·cases e
    ·cases e;exact k0 _ (DG _ _ _ _ _ _)
theorem eN.hlen (h:eN wb X D k d s m out w)(hm:m<=8000)(l:List ByteArray):(iL g s l).2.length<=5100000000:=by
 cases l with
 |nil=>simp[iL]
 |cons a l=>
  show((kI g s a l).getD _).2.length<=_;cases e:kI g s a l with
  |none=>simp[txt,kk,Lib.join,bs]
  |some r=>
   unfold kI at e;split at e
   ·cases e
   ·exact h.Of hm e
theorem Og (h:eN wb X D k d s m out w)(hg:∀T wt,e9 T wt->dW T wt (g T wt))(hm:m<=8000)(hs:out.length<=140730000000000)(L:List ByteArray)(ad:Option bB)(cp:Nat)(f:iU w ad L)(hc:L.length<=cp)(n:∀b o,ad=H ⟨b,o,OQ⟩->¬X b/\¬D b)(hl:L.length<=10)(hz:∀x∈L,x.size<=4000000000):
 M O 15 #[aq k,.slice ad L.length cp] w λe w'=>e=OL (ay #[])/\gn wb X D k d (iL g s L).1 (m+1) (out++(iL g s L).2) w w':=by
 match L,f,hl,hz,hc with
 |[],_,_,_,_=>
  refine(N9 ad cp).mono ?_;rintro e w' ⟨rfl,hb⟩
  refine⟨rfl,X,D,?_,b9.of hb⟩
  show eN wb X D k d s (m+1) (out++[]) w';rw[List.append_nil];exact(h.below hb).more (jh _)
 |a::l,f,hl,hz,hc=>
  obtain⟨b,o,rfl,lb,q⟩:=f ac;have hd:=(ax w).drew;have c0:V w (av b o)=H (.string a):=by simpa using q 0 ac
  have t:iL g s (a::l)=(kI g s a l).getD (s,txt [bs [119,104,97,116]]):=rfl;have Y:∀{e:LM}{w1:az}{r:Option (Nat×Nat×cj)×List UInt8},kI g s a l=H r->rD wb X D k d m out w.drew (kI g s a l) e w1->e=OL (.bool C)/\V w1 (av b o)=H (.string a)/\gn wb X D k d (iL g s (a::l)).1 (m+1) (out++(iL g s (a::l)).2) w w1:=by
   intro e w1 r hr c;rw[hr] at c;rw[t,hr];obtain⟨rfl,u⟩:=c;refine⟨rfl,?_,gn.of hd u⟩
   obtain⟨W,ao,_,ab⟩:=u;rw[aQ (w:=w.drew) (a:=⟨b,o,OQ⟩) (ab.fr.block b lb (λe=>e.elim (n b o rfl).1 (n b o rfl).2))];exact c0
  have N:∀{e:LM}{w1:az},kI g s a l=OQ->rD wb X D k d m out w.drew (kI g s a l) e w1->e=OL (.bool OU)/\V w1 (av b o)=H (.string a)/\M O 22 #[aq k,.slice (au (I (G w1))) 1 1] (w1.alloc (E #[.string (bs [119,104,97,116])] 9)) λe w'=>(∃v,e=OL v)/\gn wb X D k d (iL g s (a::l)).1 (m+1) (out++(iL g s (a::l)).2) w w':=by
   intro e w1 hr c;rw[hr] at c;rw[t,hr];obtain⟨rfl,hb⟩:=c;have hb:J (I (G w)) w w1:=hd.trans hb;refine⟨rfl,(hb.cell (p:=av b o) lb).trans c0,?_⟩
   have ag:=aw w1 (E #[.string (bs [119,104,97,116])] 9)
   have hn:=aO w1 (E #[.string (bs [119,104,97,116])] 9)
   have B:=hb.trans (ag.mono hb.size)
   have S:=h.below B;refine(rx S.t [bs [119,104,97,116]] _ 1 (iU.of (oR hn (a4 _) rfl ae)) ae ae ae (by simp[txt,kk,bs,Lib.join];omega)).mono ?_;rintro e w' ⟨he,W,q1,ai⟩
   exact⟨he,gn.of B ((S.told q1 ai).more (jh _))⟩
  have F:=λar al (am:iU w.drew ar l)=>Oe (h.below hd) hg hm hs a l ar al am (by simp at hl;omega) (λx an=>hz x (by simp[an]))
  by_cases j:cp=1
  ·subst j;obtain rfl:l=[]:=List.length_eq_zero_iff.1 (by simpa using hc)
   have P:=F (H ⟨b,o,OQ⟩) 0 (λhp=>absurd hp ac)
   cases hr:kI g s a [] with
   |some r=>exact N_ a b o c0 (P.mono λe w1 c=>Y hr c)
   |none=>exact Oc a b o c0 (P.mono λe w1 c=>N hr c)
  ·have P:=F (H ⟨b,o+1,OQ⟩) (cp-1) (λhp=>⟨b,o+1,rfl,lb,λi hi=>by
    have:=q (i+1) (by simp;omega)
    rw[show o+(i+1)=o+1+i by omega] at this
    simpa using this⟩)
   cases hr:kI g s a l with
   |some r=>exact Oa a l.length b o cp c0 hc j (P.mono λe w1 c=>Y hr c)
   |none=>exact Od a l.length b o cp c0 hc j (P.mono λe w1 c=>N hr c)
end
theorem cellsByte:prog.cellsOf 5=1:=ah
theorem Oh {X:Nat->Prop}{a w:az}(h:Fr X a w){g:Nat}(hg:X g)(n:Nat):Fr X a (w.freeze ⟨g,0,OQ⟩ n):=by
 by_cases hn:n=0
 ·subst hn;simpa[World.freeze] using h
 ·refine⟨?_,?_,?_,?_,λk hk b=>?_⟩
  ·simpa[World.freeze,hn] using h.os
  ·simpa[World.freeze,hn] using h.tape
  ·simpa[World.freeze,hn] using h.output
  ·simpa[World.freeze,hn] using h.size
  ·rw[<-h.block k hk b];have:k≠g:=λe=>b (e▸hg)
   simp only [World.freeze,if_neg hn,Array.getElem?_modify]
   grind
theorem Oi {X:Nat->Prop}{k d:Nat}{b:List UInt8}{w:az}(h:fN X k d b w):
 M O 17 #[bq (H ⟨k,1,OQ⟩)] w λe w'=>e=OL (.string ⟨b.toArray⟩)/\Fr X w w':=by
 obtain⟨p,v,hk,hp,hrow,l,i,hX⟩:=h.mem;have S:prog.follows Departure.mixedOrders=C:=ah;have f:w.drew.heap[k]?=H (E #[aq d,p,v] 52 (0,0)):=hk;by_cases h0:b=[]
 ·subst h0;obtain rfl:=i rfl;have c1:V w.drew (av k 2)=H (.slice OQ 0 0):=by rw[Lib.cell_of_heap f];rfl
  have n:(Builtin.unsafeString_ #[65,3] 9 #[bq OQ,ak 0]).run O w.drew=.ok (.string .empty) w.drew:=ah;have o:=Lib.run_unsafeSliceData_nil (P:=O) (w:=w.drew) #[48] 65 0 0;clear h hk f hp hrow l i hX;go_enter func17,ntmps17;go_wp2
  go_region_o
  all_goals (go_wp2;go_ret;exact⟨rfl,Fr.drew (Fr.refl X w)⟩)
 ·have q:b.length≠0:=by simpa using h0
  have ho:=hrow;obtain⟨g,cap,c,rfl,W,hg,s,m,t,u⟩:∃g cap c,v=.slice (au g) b.length cap/\0<=g/\w.heap[g]?=H (E c 5 (0,0))/\b.length<=cap/\cap<=maxLen/\c.size=cap*1/\c.toList.take (b.length*1)=Lib.byteCells b:=by
   rcases ho.2 with⟨_,hz⟩|⟨g,cap,c,hv,r⟩
   ·exact absurd hz q
   ·exact⟨g,cap,c,hv,r⟩
  have c1:V w.drew (av k 2)=H (.slice (au g) b.length cap):=by rw[Lib.cell_of_heap f];rfl
  have o:(Builtin.unsafeSliceData_ #[48] 65 #[.slice (au g) b.length cap]).run O w.drew=.ok (aq g) w.drew:=Lib.run_unsafeSliceData_row _ _ _ _ _ _ aa;have n:(Builtin.unsafeString_ #[65,3] 9 #[aq g,ak b.length]).run O w.drew=.ok (.string ⟨b.toArray⟩) (w.drew.freeze ⟨g,0,OQ⟩ b.length):=by
   refine Lib.run_unsafeString_row w.drew 65 3 9 5 underlying65 cellsByte g c.size (by have B:w.drew.heap[g]?=H (E c 5 (0,0)):=hg;simp[World.shape?,B]) b h0 aa (by unfold maxLen at m;omega) ?_;intro j x F;have:=hrow.cells (g:=g) rfl j (OP .u8 x.toNat) (by simp[Lib.byteCells,F])
   exact this
  have N:X g:=hX g rfl;clear h hk f hp hrow ho l i hX hg s m t u;go_enter func17,ntmps17;go_wp2
  go_region_o
  all_goals (go_wp2;go_ret;exact⟨rfl,Oh (Fr.drew (Fr.refl X w)) N _⟩)
end Go.Proofs.YtjckpdepffejnaaGreatDoor
