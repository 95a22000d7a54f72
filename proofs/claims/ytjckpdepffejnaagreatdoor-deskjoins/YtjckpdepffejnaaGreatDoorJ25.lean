import Derived.Test.YtjckpdepffejnaaGreatDoorJ24
open Array renaming size->I
open Bool renaming false->O4,true->C
open Go renaming Addr->bB,Calls->M,Ending->Mh,TypeId->bI,Value->a7
open Go.Ending renaming returned->OV
open Go.IntKind renaming i64->OW
open Go.Obj renaming cells->E
open Go.Proofs.Tryz renaming prog->J
open Go.RowKit renaming Below->O,intOf->bG
open Go.Value renaming agg->bz,bool->bA,int->U,pointer->bq,slice->Z,tuple->ay
open Go.World renaming alloc->bu,cell?->V,frozen?->bF,heap->G,setCell->O8
open Int renaming toNat->K
open List renaming getD->OZ,getElem?_map->iy,length->L,length_cons->la,length_map->vH,mem_cons->bQ,mem_map->bS,mem_singleton->bN
open Nat renaming add_mul->OP,le_succ->jl,mul_le_mul_right->Cs
open Option renaming none->O0,some->H
open Option.some renaming inj->kg
namespace Go.Proofs.YtjckpdepffejnaaGreatDoor
set_option maxRecDepth 100000
set_option maxHeartbeats 4000000
open Tryz
open Go.RowKit W Kp ch
theorem Dz {P:Prop}(h:P:=by
 go_enter func15,ntmps15;go_wp2_with fail
 go_region_held3 (λwx=>wx.cell? (av b o)=some (.string a)) (first|exact hc|exact hs1) (first|(go_at_call 21;refine P.mono ?_;rintro e w1 ⟨rfl,hs1,NO⟩))
 all_goals
  go_wp2_with (go_at_call 22;refine NO.mono ?_;rintro e w2 ⟨⟨v,rfl⟩,hq⟩)
  go_end0;exact⟨rfl,hq⟩):P:=h
theorem DA {P:Prop}(h:P:=by
 go_enter func15,ntmps15;go_wp2_with fail
 go_region_held3 (λwx=>wx.cell? (av b o)=some (.string a)) (first|exact hc|exact hs1) (first|(go_at_call 21;refine P.mono ?_;rintro e w1 ⟨rfl,hs1,hq⟩))
 all_goals
  go_wp2;go_end0;exact⟨rfl,hq⟩):P:=h
theorem xM {P:Prop}(h:P:=by
 rintro e w' ⟨rfl,hb'⟩
 exact⟨false,rfl,rfl,hb.trans (hb'.mono hb.size)⟩):P:=h
def kn:List Nat->List Int->S6->S6
 |i::l,m::N,x=>kn l N (m9 x i m)
 |_,_,x=>x
theorem DB:∀(l:List Nat)(N:List Int)(x:S6)(j:Nat),j<L l->j<L N->kn (l.take (j+1)) (N.take (j+1)) x=m9 (kn (l.take j) (N.take j) x) (OZ l j 0) (OZ N j 0)
 |[],_,_,j,h,_=>by simp at h
 |_::_,[],_,j,_,h=>by simp at h
 |i::l,m::N,x,0,_,_=>by simp[kn]
 |i::l,m::N,x,j+1,b,c=>by
  have:=DB l N (m9 x i m) j (by simpa using b) (by simpa using c)
  simpa[kn] using this
def fU (k:Int)(N:List Int):S6:=kn (slt k) N ⟨k,0,0,0,0,0⟩
theorem NP (k:Int):L (slt k)<=5:=by exact Dg
theorem xN {w:az}{base n m:Nat}{e:bI}{v:a7}{l:List a7}(h:w.ownsRow base e m v n l):∃ao cap,v=Z ao n cap:=by
 rcases h.2 with⟨hv,rfl⟩|⟨g,cap,b,hv,_⟩
 ·exact⟨_,_,hv⟩
 ·exact⟨_,_,hv⟩
def nY (w:az)(ad:Option bB)(N:List Int):Prop:=0<L N->∃b o,ad=H ⟨b,o,O0⟩/\b<I (G w)/\∀i,i<L N->V w (av b (o+i))=H (ak (OZ N i 0))
abbrev ua (w:az)(b:Nat)(k R A B I n:Int):az:=O8 (O8 (O8 (O8 (O8 (O8 w ⟨b,0,O0⟩ (U OW k)) ⟨b,1,O0⟩ (U OW R)) ⟨b,2,O0⟩ (U OW A)) ⟨b,3,O0⟩ (U OW B)) ⟨b,4,O0⟩ (U OW I)) ⟨b,5,O0⟩ (U OW n)
theorem DC {w:az}{b:Nat}{k R A B I n:Int}(h:w.heap[b]?=H (cA k R A B I n))(k2 d e B2 f g:Int):(ua w b k2 d e B2 f g).heap[b]?=H (cA k2 d e B2 f g):=by
 have st:∀{w:az}{c:Array a7}(o:Nat)(v:a7),w.heap[b]?=H (E c 105 (0,0))->(O8 w ⟨b,o,O0⟩ v).heap[b]?=H (E (c.setIfInBounds o v) 105 (0,0)):=λo v h=>by exact tC
 exact st _ _ (st _ _ (st _ _ (st _ _ (st _ _ (st _ _ h)))))
theorem DD (w:az)(b:Nat)(k R A B I n:Int):Fr (λc=>c=b) w (ua w b k R A B I n):=((((((Fr.refl (λc=>c=b) w).set _ _ _ rfl).set _ _ _ rfl).set _ _ _ rfl).set _ _ _ rfl).set _ _ _ rfl).set _ _ _ rfl
theorem DE (k:Int)(N:List Int)(ad:Option bB)(cp:Nat)(w:az)(hN:nY w ad N):
 M J 63 #[ak k,Z ad (L N) cp] w λe w'=>O w.heap.size w w'/\((L (slt k)=L N/\e=OV (ay #[dJ (fU k N).k (fU k N).R (fU k N).A (fU k N).B (fU k N).I (fU k N).n,bA C]))\/(L (slt k)≠L N/\e=OV (ay #[dJ 0 0 0 0 0 0,bA O4]))):=by
 have ar:=aw w (cA 0 0 0 0 0 0)
 have aB:=ar.alloc ac (cA k 0 0 0 0 0)
 have am:((w.alloc (cA 0 0 0 0 0 0)).alloc (cA k 0 0 0 0 0)).heap[w.heap.size+1]?=H (cA k 0 0 0 0 0):=by
  have:=aO (w.alloc (cA 0 0 0 0 0 0)) (cA k 0 0 0 0 0)
  rwa [bh] at this
 have P:=NI (w.heap.size+1) k 0 0 0 0 0 _ am;have hr:((w.alloc (cA 0 0 0 0 0 0)).alloc (cA k 0 0 0 0 0)).heap[w.heap.size]?=H (cA 0 0 0 0 0 0):=by exact vi
 have bn:=cg hN;have s:=ge aB am hr;clear hN ar aB am hr;go_enter func63,ntmps63
 go_upto_region 3 with(go_at_call 92;refine P.mono ?_;rintro e w1 ⟨v,bx,rfl,hrow,an,aF,ai⟩)
 obtain⟨ao,cap,rfl⟩:=xN hrow;have aR:((w.alloc (cA 0 0 0 0 0 0)).alloc (cA k 0 0 0 0 0)).heap.size=w.heap.size+2:=ac;rw[aR] at an hrow;have aV:=(ai.block (w.heap.size+1) (cj s.o.2.1)).trans s.o.2.1;have F:=(ai.block w.heap.size (cj s.o.2.2)).trans s.o.2.2;have a0:=s.o.1.trans (ai.mono s.o.1.size)
 have l:=ge aV hrow (And.intro a0 (And.intro an aF))
 obtain⟨a1,y1,a2,bb,bd,be⟩:=dZ F;have fr:∀j,bF w1 (av w.heap.size j)=O4:=λj=>by simp[World.frozen?,F,cA]
 have bo:=fr 0;have bp:=fr 1;have br:=fr 2;have bs:=fr 3;have bt:=fr 4;have b0:=fr 5;clear fr P aR an hrow aV a0 ai aF s;by_cases hl:L (slt k)=L N
 ·have bg:(L (slt k):Int)=(L N:Int):=aa;have b4:L N<=5:=hl▸NP k
  have t:=cg hl
  go_upto_region 5 with fail
  clear a1 y1 a2 bb bd be;go_wp2_with fail;clear hl bg
  go_loopw [21] (λiv wr=>∃j:Nat,j<=L N/\iv=ak j/\aA (wr.heap[w.heap.size+1]?=H (h8 (kn ((slt k).take j) (N.take j) ⟨k,0,0,0,0,0⟩))/\wr.heap[bx]?=H (E #[aq (w.heap.size+1)] 167 (0,0))/\Fr (λb=>b=w.heap.size+1) w1 wr)) (λiv _=>L N-K (bG iv))
  case atStart=>exact⟨0,a4 _,rfl,by simpa[kn,h8] using l.o.1,l.o.2.2.2.2,Fr.refl _ _⟩
  case round=>
   obtain⟨j,b5,rfl,c⟩:=hrel;by_cases bi:j<L N
   ·have q0:(0:Int)<=(j:Int):=aa;have q1:(j:Int)<(L N:Int):=aa;have b6:(j:Int)<(L (slt k):Int):=by have:=t.o;omega
    obtain⟨g,rfl⟩:∃g,ao=au g:=by
     rcases l.o.2.1.2 with⟨e,b7⟩|⟨g,c2,b8,e,_⟩
     ·have:=t.o;omega
     ·cases e;exact⟨g,rfl⟩
    have hg:=cu l.o.2.1 g rfl;have y:=(kt l.o.2.1 (i:=j) (u:=km bx (OZ (slt k) j 0)) (by have hq:j<L (slt k):=(by have:=t.o;omega);rw[iy,aP hq,aM,aP hq];rfl)).1;obtain⟨b1,b9,rfl,l0,hc⟩:=bn.o aa;have z:=(l.o.2.2.1.cell l0).trans (hc j bi)
    have fc:∀{a:bB}{u:a7},V w1 a=H u->a.block≠w.heap.size+1->V wr a=H u:=λ{a u} h hn=>by have:=c.o.2.2.block a.block (aT _ _ h) hn;unfold World.cell? at h⊢;rw[this];exact h
    have y:=fc y (by show g≠_;omega)
    have z:=fc z (by show b1≠_;omega)
    have S:=cg (DB (slt k) N ⟨k,0,0,0,0,0⟩ j (by have:=t.o;omega) bi)
    clear hc fc hg;generalize OZ N j 0=m at*;generalize OZ (slt k) j 0=i at*;generalize kn ((slt k).take j) (N.take j) ⟨k,0,0,0,0,0⟩=x at*;rcases i with _|_|_|_|i
    ·dsimp only [km] at y;have n:=NJ c.o.1 c.o.2.1 m;go_wp2_with (go_at_call 120;refine n.mono ?_;rintro e o ⟨⟨al,rfl⟩,p,f⟩)
     have q:=cg (show o.heap[w.heap.size+1]?=H (h8 (kn ((slt k).take (j+1)) (N.take (j+1)) ⟨k,0,0,0,0,0⟩)) by rw[S.o];exact p)
     have d:=cU ((f.block bx (cj c.o.2.1) (by have:=l.o.2.2.2.1;omega)).trans c.o.2.1) (c.o.2.2.trans f (λi hi=>aK hi))
     go_roundw
     case rel=>exact⟨j+1,aa,aj,q.o,d.o.1,d.o.2⟩
     case measure=>simp[bG];omega
    ·dsimp only [km] at y;have n:=NK c.o.1 c.o.2.1 m;go_wp2_with (go_at_call 121;refine n.mono ?_;rintro e o ⟨⟨al,rfl⟩,p,f⟩)
     have q:=cg (show o.heap[w.heap.size+1]?=H (h8 (kn ((slt k).take (j+1)) (N.take (j+1)) ⟨k,0,0,0,0,0⟩)) by rw[S.o];exact p)
     have d:=cU ((f.block bx (cj c.o.2.1) (by have:=l.o.2.2.2.1;omega)).trans c.o.2.1) (c.o.2.2.trans f (λi hi=>aK hi))
     go_roundw
     case rel=>exact⟨j+1,aa,aj,q.o,d.o.1,d.o.2⟩
     case measure=>simp[bG];omega
    ·dsimp only [km] at y;have n:=NL c.o.1 c.o.2.1 m;go_wp2_with (go_at_call 122;refine n.mono ?_;rintro e o ⟨⟨al,rfl⟩,p,f⟩)
     have q:=cg (show o.heap[w.heap.size+1]?=H (h8 (kn ((slt k).take (j+1)) (N.take (j+1)) ⟨k,0,0,0,0,0⟩)) by rw[S.o];exact p)
     have d:=cU ((f.block bx (cj c.o.2.1) (by have:=l.o.2.2.2.1;omega)).trans c.o.2.1) (c.o.2.2.trans f (λi hi=>aK hi))
     go_roundw
     case rel=>exact⟨j+1,aa,aj,q.o,d.o.1,d.o.2⟩
     case measure=>simp[bG];omega
    ·dsimp only [km] at y;have n:=NM c.o.1 c.o.2.1 m;go_wp2_with (go_at_call 123;refine n.mono ?_;rintro e o ⟨⟨al,rfl⟩,p,f⟩)
     have q:=cg (show o.heap[w.heap.size+1]?=H (h8 (kn ((slt k).take (j+1)) (N.take (j+1)) ⟨k,0,0,0,0,0⟩)) by rw[S.o];exact p)
     have d:=cU ((f.block bx (cj c.o.2.1) (by have:=l.o.2.2.2.1;omega)).trans c.o.2.1) (c.o.2.2.trans f (λi hi=>aK hi))
     go_roundw
     case rel=>exact⟨j+1,aa,aj,q.o,d.o.1,d.o.2⟩
     case measure=>simp[bG];omega
    ·dsimp only [km] at y;have n:=NN c.o.1 c.o.2.1 m;go_wp2_with (go_at_call 124;refine n.mono ?_;rintro e o ⟨⟨al,rfl⟩,p,f⟩)
     have q:=cg (show o.heap[w.heap.size+1]?=H (h8 (kn ((slt k).take (j+1)) (N.take (j+1)) ⟨k,0,0,0,0,0⟩)) by rw[S.o];exact p)
     have d:=cU ((f.block bx (cj c.o.2.1) (by have:=l.o.2.2.2.1;omega)).trans c.o.2.1) (c.o.2.2.trans f (λi hi=>aK hi))
     go_roundw
     case rel=>exact⟨j+1,aa,aj,q.o,d.o.1,d.o.2⟩
     case measure=>simp[bG];omega
   ·obtain rfl:j=L N:=aa;have bl:=cg (show wr.heap[w.heap.size+1]?=H (h8 (fU k N)) by have:=c.o.1;rwa [ba,<-t.o,ba] at this)
    have ap:=(c.o.2.2.block w.heap.size (cj F) aa).trans F;have d:=c.o.2.2;clear c;obtain⟨ca,cb,cc,cd,ce,cf⟩:=dZ bl.o;obtain⟨a1,y1,a2,bb,bd,be⟩:=dZ ap;have fr:∀j,bF wr (av w.heap.size j)=O4:=λj=>by simp[World.frozen?,ap,cA]
    have bo:=fr 0;have bp:=fr 1;have br:=fr 2;have bs:=fr 3;have bt:=fr 4;have b0:=fr 5;clear fr;have hz:=DC ap (fU k N).k (fU k N).R (fU k N).A (fU k N).B (fU k N).I (fU k N).n;have W:=(((Fr.of (X:=λ_=>False) l.o.2.2.1).trans d (λi hi=>aI aa)).trans (DD wr w.heap.size (fU k N).k (fU k N).R (fU k N).A (fU k N).B (fU k N).I (fU k N).n) (λi hi=>aI aa)).below (B:=w.heap.size) bY (λ_ h=>h.elim)
    have ab:=cU hz W;clear hz W bl d;generalize hy:fU k N=y at*;have b2:=cg hy;clear hy;obtain⟨s0,s1,s2,b3,s4,s5⟩:=y;go_wp2_with fail;obtain⟨g0,g1,g2,g3,g4,g5⟩:=dZ ab.o.1;have ag:=ab.o.2;unfold ua at g0 g1 g2 g3 g4 g5 ag;refine a3 (v:=ay #[dJ s0 s1 s2 b3 s4 s5,bA C]) (by simp only [results,results63];simp[go_sem,g0,g1,g2,g3,g4,g5]) rfl ⟨ag,aK ⟨t.o,by rw[b2.o]⟩⟩
 ·have bg:¬(L (slt k):Int)=(L N:Int):=aa;have hz:=DC F 0 0 0 0 0 0;have W:=((Fr.of (X:=λ_=>False) l.o.2.2.1).trans (DD w1 w.heap.size 0 0 0 0 0 0) (λi hi=>aI aa)).below (B:=w.heap.size) bY (λ_ h=>h.elim)
  have ab:=cU hz W;clear hz W;go_wp2_with fail;obtain⟨g0,g1,g2,g3,g4,g5⟩:=dZ ab.o.1;have ag:=ab.o.2;unfold ua at g0 g1 g2 g3 g4 g5 ag;refine a3 (v:=ay #[dJ 0 0 0 0 0 0,bA O4]) (by simp only [results,results63];simp[go_sem,g0,g1,g2,g3,g4,g5]) rfl ⟨ag,aI ⟨hl,rfl⟩⟩
section
variable {w:az}{k d:Nat}{Q:az->Prop}
theorem xO {w:az}{b:Nat}{u v:a7}{T:bI}(h:w.heap[b]?=H (E #[u,v] T (0,0)))(x y:a7):(O8 (O8 w ⟨b,0,O0⟩ x) ⟨b,1,O0⟩ y).heap[b]?=H (E #[x,y] T (0,0)):=by
 have st:∀{w:az}{c:Array a7}(o:Nat)(v:a7),w.heap[b]?=H (E c T (0,0))->(O8 w ⟨b,o,O0⟩ v).heap[b]?=H (E (c.setIfInBounds o v) T (0,0)):=λo v h=>by exact tC
 exact st _ _ (st _ _ h)
theorem kq {w:az}{b:Nat}{u v:a7}{T:bI}(h:w.heap[b]?=H (E #[u,v] T (0,0))):V w (av b 0)=H u/\V w (av b 1)=H v/\bF w (av b 0)=O4/\bF w (av b 1)=O4:=by refine⟨?_,?_,?_,?_⟩<;>simp[World.cell?,World.frozen?,h]
theorem NQ {N O cd:Int}{j m cp:Nat}(k0:V w (av k 0)=H (aq d))(lk:k<I (G w))(l0:j<I (G w))(c0:V w (av j m)=H (ak N))(c1:V w (av j (m+1))=H (ak O)){tv:a7}(hd:w.heap[d]?=H (E #[tv] 45 (0,0)))
 (p:∀w0,Below (I (G w)) w w0->M J 55 #[ak N,ak O] w0 λe w1=>∃l a,e=OV (ay #[bq l,bz #[ak cd,ak a]])/\Below (I (G w0)) w0 w1/\∀q,Fr (λb=>I (G w)<=b/\b<I (G w0)) w1 q->M J 56 #[aq k,ak cd,Z O0 0 0] (O8 q ⟨d,0,O0⟩ (bq l)) λe w'=>(∃v,e=OV v)/\Q w'):
 M J 35 #[aq k,Z (H ⟨j,m,O0⟩) 2 cp] w λe w'=>e=OV (bA C)/\Q w':=by
 have s:Below (I (G w)) w w.drew:=(aH _ w).drew;have g:Below (I (G w)) w (bu w (E #[U OW 0,U OW 0] 33)).drew:=(aw w _).drew;have ld:=cj hd;have nd:¬d=I (G w):=aa;have f:=jm s g k0 hd;have n:=cg p;clear s g p hd;go_enter func35,ntmps35;go_wp2_with fail
 go_region_with (go_at_call 55;first
  |(refine(n.o _ f.o.1).mono ?_;rintro e w1 ⟨l,a,rfl,g,c⟩;have i:=cg (f.o.1.trans (g.mono f.o.1.size));have c:=cg c)
  |(refine(n.o _ f.o.2.1).mono ?_;rintro e w1 ⟨l,a,rfl,g,c⟩;have i:=cg (f.o.2.1.trans (g.mono f.o.2.1.size));have c:=cg c;obtain⟨B,y1,F,S⟩:=kq ((g.block _ ac).trans (aO w (E #[U OW 0,U OW 0] 33)))))
 all_goals
  have W:k<I (G w1):=aL lk i.o.size;have t:d<I (G w1):=aL ld i.o.size;have ab:V w1 (av k 0)=H (aq d):=(i.o.cell lk).trans f.o.2.2.1;have o:=(i.o.block d ld).trans f.o.2.2.2;have ad:V w1 (av d 0)=H tv:=aD o
  have ag:bF w1 (av d 0)=O4:=aE o
  have ai:¬k=I (G w):=aa;have lw:=i.o.size;clear o n k0 c0 c1 l0
  first
   |(
    have P:=c.o (O8 (O8 w1 ⟨I (G w),0,O0⟩ (U OW cd)) ⟨I (G w),1,O0⟩ (U OW a)) (((Fr.refl _ w1).set _ 0 _ ⟨aG _,ac⟩).set _ 1 _ ⟨aG _,ac⟩)
    clear c;go_wp2_with (go_at_call 56;refine P.mono ?_;rintro e u ⟨⟨v,rfl⟩,hq⟩)
    refine a3 (v:=bA C) (by simp[results,results35,go_sem]) rfl ⟨rfl,hq⟩)
   |(
    have P:=c.o (bu w1 (E #[U OW cd,U OW a] 33)) (Fr.of (aw w1 _))
    rw[World.setCell_alloc_past _ _ _ _ t] at P;clear c;go_wp2_with (go_at_call 56;refine P.mono ?_;rintro e u ⟨⟨v,rfl⟩,hq⟩)
    refine a3 (v:=bA C) (by simp[results,results35,go_sem]) rfl ⟨rfl,hq⟩)
theorem NR {first:ByteArray}{K:Int}{ad:Option bB}{n cp tp:Nat}{f g i j l m cd:Int}(k0:V w (av k 0)=H (aq d))(lk:k<I (G w))(ld:d<I (G w))(ab:V w (av d 0)=H (aq tp))
 (P:M J 62 #[.string first] w λe w'=>e=OV (ay #[ak K,bA C])/\w=w')
 (al:M J 63 #[ak K,Z ad n cp] w λe w'=>e=OV (ay #[dJ f g i j l m,bA C])/\O (I (G w)) w w')
 (ag:∀w1,O (I (G w)) w w1->M J 64 #[aq tp,dJ f g i j l m] w1 λe N=>e=OV (ay #[ak cd,bz #[ak 0,ak 0]])/\(I (G w1)<=I (G N)/\∀b,I (G w)<=b->b<I (G w1)->N.heap[b]?=w1.heap[b]?)/\∀B,Fr (λb=>I (G w)<=b/\b<I (G w1)) N B->M J 56 #[aq k,ak cd,Z O0 0 0] B λe w'=>(∃v,e=OV v)/\Q w'):
 M J 37 #[aq k,.string first,Z ad n cp] w λe w'=>e=OV (bA C)/\Q w':=by
 have F:=cU k0 ab;have ai:=cg ag;clear ag k0 ab;go_enter func37,ntmps37
 go_upto_region 7 with(first|(go_at_call 62;refine P.mono ?_;rintro e w1 ⟨rfl,rfl⟩)|(go_at_call 63;refine al.mono ?_;rintro e c ⟨rfl,t⟩))
 have ar:=t.size;have k4:=(t.cell (p:=av k 0) lk).trans F.o.1;have am:=(t.cell (p:=av d 0) ld).trans F.o.2;have an:k<I (G c):=aa;have ao:d<I (G c):=aa;have S:=aO c (cA f g i j l m)
 have u:O (I (G w)) w (c.alloc (cA f g i j l m)):=t.alloc t.size _;have aB:k<I (G (c.alloc (cA f g i j l m))):=by simp;omega
 have aF:d<I (G (c.alloc (cA f g i j l m))):=by simp;omega
 have aR:=cj S;have k5:V (c.alloc (cA f g i j l m)) (av k 0)=H (aq d):=(u.cell (p:=av k 0) lk).trans F.o.1;have aV:V (c.alloc (cA f g i j l m)) (av d 0)=H (aq tp):=(u.cell (p:=av d 0) ld).trans F.o.2;obtain⟨a0,y1,a1,a2,bb,bd⟩:=dZ S;clear k4 am S t an ao;generalize c.alloc (cA f g i j l m)=o at*;generalize I (G c)=be at*;have x:=cU u.drew (u.alloc u.size (E #[U OW 0,U OW 0] 33)).drew;clear u;go_wp2_with fail
 go_region_with (go_at_call 64;first
  |(refine(ai.o _ x.o.1).mono ?_;rintro e s ⟨rfl,W,q⟩;have q:=cg q)
  |(refine(ai.o _ x.o.2).mono ?_;rintro e s ⟨rfl,W,q⟩;have q:=cg q;obtain⟨z0,bg,bi,bl⟩:=kq ((W.2 (I (G o)) x.o.1.size ac).trans (aO o (E #[U OW 0,U OW 0] 33)))))
 all_goals
  first
   |(
    have P:=q.o (O8 (O8 s ⟨I (G o),0,O0⟩ (U OW 0)) ⟨I (G o),1,O0⟩ (U OW 0)) (((Fr.refl _ s).set _ 0 _ ⟨x.o.1.size,ac⟩).set _ 1 _ ⟨x.o.1.size,ac⟩)
    have bn:=(kq (xO (show s.heap[I (G o)]?=H (E #[ak 0,ak 0] 33 (0,0)) from(W.2 (I (G o)) x.o.1.size ac).trans (aO o (E #[U OW 0,U OW 0] 33))) (ak 0) (ak 0))).1;clear q;generalize O8 (O8 s ⟨I (G o),0,O0⟩ (U OW 0)) ⟨I (G o),1,O0⟩ (U OW 0)=bo at*;go_wp2_with (go_at_call 56;refine P.mono ?_;rintro e B ⟨⟨v,rfl⟩,hq⟩)
    refine a3 (v:=bA C) (by simp[results,results37,go_sem]) rfl ⟨rfl,hq⟩)
   |(
    have P:=q.o (bu s (E #[U OW 0,U OW 0] 33)) (Fr.of (aw s _))
    clear q;go_wp2_with (go_at_call 56;refine P.mono ?_;rintro e B ⟨⟨v,rfl⟩,hq⟩)
    refine a3 (v:=bA C) (by simp[results,results37,go_sem]) rfl ⟨rfl,hq⟩)
end
theorem NS (k:Nat)(ad:Option bB)(n cp:Nat)(w:az)(hn:n≠2):
 M J 35 #[aq k,Z ad n cp] w λe w'=>e=OV (bA O4)/\w=w':=by
 go_wp2;go_ret;exact⟨rfl,rfl⟩
section
variable {wb w:az}{X D:Nat->Prop}{k d m:Nat}{out:List UInt8}{s:Option (Nat×Nat×ck)}
theorem eO.code (h:eO wb X D k d s m out w)(c:Int)(hc:gQ c)(hs:L out<=140737488350000):
 M J 56 #[aq k,ak c,Z O0 0 0] w λe w'=>(∃v,e=OV v)/\gn wb X D k d s m (out++txt (iD c)) w w':=by
 refine(NB h.t h.oV c hc hs).mono ?_;rintro e w' ⟨he,g,b,f⟩
 exact⟨he,h.told b f⟩
def nZ (N O:Int):Int:=if N<16\/256<N\/O<0\/1024<O then 1 else 0
def rE (N O:Int):Option (Nat×Nat×ck):=if N<16\/256<N\/O<0\/1024<O then O0 else H (K N,K O,(jv (K N) (K O)).2)
theorem NT (h:eO wb X D k d s m out w)(N O:Int)(hs:L out<=140737488350000)(w0:az)(g:Below w.heap.size w w0):
 M J 55 #[ak N,ak O] w0 λe w1=>∃j a,e=OV (ay #[bq j,bz #[ak (nZ N O),ak a]])/\Below w0.heap.size w0 w1/\∀f,Fr (λb=>w.heap.size<=b/\b<w0.heap.size) w1 f->M J 56 #[aq k,ak (nZ N O),Z O0 0 0] (O8 f ⟨d,0,O0⟩ (bq j)) λe w'=>(∃v,e=OV v)/\gn wb X D k d (rE N O) m (out++txt (iD (nZ N O))) w w':=by
 unfold nZ rE;by_cases hc:N<16\/256<N\/O<0\/1024<O
 ·rw[aN hc,aN hc];refine(Nf N O w0 hc).mono ?_;rintro e w1 ⟨rfl,hb⟩
  have l:=g.trans (hb.mono g.size)
  refine⟨O0,-1,rfl,hb,λf i=>?_⟩
  obtain⟨g1,g2⟩:=h.ND (l.trans (i.below l.size (λb e=>e.1)))
  refine(g1.code 1 ⟨ae,ae⟩ hs).mono ?_;rintro e w' ⟨he,hg⟩
  exact⟨he,gn.trans g2 hg⟩
 ·rw[aJ hc,aJ hc];have o:((K N:Nat):Int)=N:=aa;have p:((K O:Nat):Int)=O:=aa;have P:=Nd (K N) (K O) w0 aa aa aa;rw[o,p] at P;refine P.mono ?_;rintro e w1 ⟨c,t,F,G,rfl,⟨q1,q⟩,n⟩
  refine⟨H _,0,rfl,n.be,λf i=>?_⟩
  obtain⟨g1,g2⟩:=h.made g n i;rw[q1,q] at g1;refine(g1.code 0 ⟨ae,ae⟩ hs).mono ?_;rintro e w' ⟨he,hg⟩
  exact⟨he,gn.trans g2 hg⟩
theorem eO.dv (h:eO wb X D k d s m out w):∃v,w.heap[d]?=H (E #[v] 45 (0,0)):=by exact xE
theorem NU (h:eO wb X D k d s m out w)(N O:Int)(ad:Option bB)(cp:Nat)(hN:nY w ad [N,O])(hs:L out<=140737488350000):
 M J 35 #[aq k,Z ad 2 cp] w λe w'=>e=OV (bA C)/\gn wb X D k d (rE N O) m (out++txt (iD (nZ N O))) w w':=by
 obtain⟨k0,lk⟩:=h.k0;obtain⟨b,c,rfl,l0,hc⟩:=hN ac;obtain⟨tv,hd⟩:=h.dv;exact NQ k0 lk l0 (by simpa using hc 0 ac) (by simpa using hc 1 ac) hd (NT h N O hs)
theorem gn.more {j:Nat}{w':az}(h:gn wb X D k d s m out w w')(b:m<=j):gn wb X D k d s j out w w':=by obtain⟨c,e,f,g⟩:=h;exact⟨c,e,f.more b,g⟩
end
def oW (i:Nat)(nd:Int×List (Int×Int)):List UInt8:=txt (bs (35::Lib.itoa i)::bs (lV nd.1)::nd.2.map gb)
def iX (b:List (Int×List (Int×Int)))(n:Nat):List UInt8:=(List.range n).flatMap λi=>oW i (OZ b i (0,[]))
def nc (W:ck):List UInt8:=txt (bs [114,111,111,116,115]::(ee.eU W.T W.wt W.rs).1.map gb)++iX (ee.eU W.T W.wt W.rs).2.2 (L (ee.eU W.T W.wt W.rs).2.2)++txt [bs [117,115,101,100],bs (Lib.itoa (ei W.T).1),bs (Lib.itoa (ei W.T).2)]
def oX (g:fM)(n o:Nat)(W:ck)(k:Int)(N:List Int):Int×ck:=W.dI g n o (fU k N).k (fU k N).R (fU k N).A (fU k N).B (fU k N).I (fU k N).n
def jj (g:fM)(s:Option (Nat×Nat×ck))(first:List UInt8)(N:List Int):Option (Option (Nat×Nat×ck)×List UInt8):=
 if first=[110,101,119] then(if L N=2 then H (rE (OZ N 0 0) (OZ N 1 0),txt (iD (nZ (OZ N 0 0) (OZ N 1 0)))) else O0)
 else match s with
  |none=>O0
  |some (n,o,W)=>if first=[118,105,101,119] then(if L N=0 then H (s,nc W) else O0)
   else if gd first=0\/L (slt (gd first))≠L N then O0 else H (H (n,o,(oX g n o W (gd first) N).2),txt (iD (oX g n o W (gd first) N).1))
def kK (g:fM)(s:Option (Nat×Nat×ck))(first:ByteArray)(b:List ByteArray):Option (Option (Nat×Nat×ck)×List UInt8):=
 match nums b with
 |none=>O0
 |some N=>jj g s first.data.toList N
def iO (g:fM)(s:Option (Nat×Nat×ck)):List ByteArray->Option (Nat×Nat×ck)×List UInt8
 |[]=>(s,[])
 |a::l=>(kK g s a l).getD (s,txt [bs [119,104,97,116]])
def eB (g:fM):Option (Nat×Nat×ck)->List ByteArray->Option (Nat×Nat×ck)×List UInt8
 |s,[]=>(s,[])
 |s,x::l=>((eB g (iO g s (h9 x)).1 l).1,(iO g s (h9 x)).2++(eB g (iO g s (h9 x)).1 l).2)
theorem xP (g:fM):∀(l b:List ByteArray)(s),eB g s (l++b)=((eB g (eB g s l).1 b).1,(eB g s l).2++(eB g (eB g s l).1 b).2)
 |[],b,s=>by simp[eB]
 |x::l,b,s=>by rw[List.cons_append,eB,xP g l b,eB];simp
theorem NV (g:fM)(l:List ByteArray)(x:ByteArray)(s):eB g s (l++[x])=((iO g (eB g s l).1 (h9 x)).1,(eB g s l).2++(iO g (eB g s l).1 (h9 x)).2):=by rw[xP];simp[eB]
theorem join_le (L:List _)(B:Nat)(h:∀x∈L,x.length<=B):(Lib.join L [32]).length<=L.length*(B+1):=by
 induction L with
 |nil=>simp[Lib.join]
 |cons x l b=>
  have c:=h x ac;have d:=b (λy hy=>h y (by simp[hy]))
  cases l with
  |nil=>simp[Lib.join];omega
  |cons y l=>
   have e:Lib.join (x::y::l) [32]=x++32::Lib.join (y::l) [32]:=by simp[Lib.join,List.intercalate]
   rw[e,aX,la,la,OP];omega
theorem ub (L:List ByteArray)(h:∀x∈L,x.size<=24):(txt L).length<=L.length*25+1:=by
 have:=join_le _ 24 (λx b=>by obtain⟨y,hy,rfl⟩:=bS.1 b;exact h y hy)
 simp only [txt,kl,List.length_append,vH,la,List.length_nil] at this⊢
 omega
theorem DF (v:Int×Int)(h:gQ v.2):(gb v).size<=24:=by
 have:=Lib.itoa_length_le v.2 h.1 h.2;show L (rD v)<=24;unfold rD
 repeat' split
 all_goals first|(simp;done)|(simp only [la];omega)|omega
theorem NW (k:Int):(bs (lV k)).size<=24:=by
 show L (lV k)<=24;unfold lV
 repeat' split
 all_goals simp
theorem NX (c:Int)(h:gQ c):L (txt (iD c))<=100:=by
 have:=Lib.itoa_length_le c h.1 h.2;have:=ub (iD c) (λx b=>by
  unfold iD at b;split at b
  ·rw[bN.1 b];decide
  ·rcases bQ.1 b with rfl|b
   ·decide
   ·rw[bN.1 b];show L (Lib.itoa c)<=24;omega)
 have d:L (iD c)<=2:=by unfold iD;split<;>simp
 omega
theorem DG (i:Nat)(nd:Int×List _)(hi:i<=10000)(hn:L nd.2<=20000)(hk:∀v∈nd.2,gQ v.2):L (oW i nd)<=500051:=by
 have h0:=Lib.itoa_length_le (i:Int) aa aa;have:=ub (bs (35::Lib.itoa i)::bs (lV nd.1)::nd.2.map gb) (λx b=>by
  rcases bQ.1 b with rfl|b
  ·show L (35::Lib.itoa i)<=24;simp only [la];omega
  ·rcases bQ.1 b with rfl|b
   ·exact NW _
   ·obtain⟨v,hv,rfl⟩:=bS.1 b;exact DF v (hk v hv))
 simp only [la,vH] at this
 unfold oW;omega
theorem DH (b:List _)(i:Nat):iX b (i+1)=iX b i++oW i (OZ b i (0,[])):=by simp[iX,List.range_succ]
theorem uc (b:List _)(hl:L b<=10000)(hn:∀nd∈b,L nd.2<=20000/\∀v∈nd.2,gQ v.2):∀i,i<=L b->L (iX b i)<=i*500051
 |0,_=>by simp[iX]
 |i+1,hi=>by
  have c:=uc b hl hn i aa;have hm:OZ b i (0,[])∈b:=by rw[aM,aP aa];exact a_ _
  have d:=DG i _ aa (hn _ hm).1 (hn _ hm).2;rw[DH,aX,OP];omega
theorem DI (a b:Int)(ha:gQ a)(hb:gQ b):L (txt [bs [117,115,101,100],bs (Lib.itoa a),bs (Lib.itoa b)])<=76:=by
 have d:=Lib.itoa_length_le a ha.1 ha.2;have e:=Lib.itoa_length_le b hb.1 hb.2;have:=ub [bs [117,115,101,100],bs (Lib.itoa a),bs (Lib.itoa b)] (λx c=>by
  simp only [bQ,List.not_mem_nil,or_false] at c;rcases c with rfl|rfl|rfl
  ·decide
  ·show L (Lib.itoa a)<=24;omega
  ·show L (Lib.itoa b)<=24;omega)
 simpa using this
theorem ud (b:List _)(hl:L b=12)(hk:∀v∈b,gQ v.2):L (txt (bs [114,111,111,116,115]::b.map gb))<=326:=by
 have:=ub (bs [114,111,111,116,115]::b.map gb) (λx c=>by
  rcases bQ.1 c with rfl|c
  ·decide
  ·obtain⟨v,hv,rfl⟩:=bS.1 c;exact DF v (hk v hv))
 simp only [la,vH] at this
 omega
section
variable {s:ck}{g:fM}{m o:Int}
theorem xQ (f:List Bool->List Bool)(mj:Bool):0<=s.hP f o mj/\s.hP f o mj<=4:=by unfold ck.hP;split<;>omega
theorem NY (n:Int):0<=(s.room g m o n).1/\(s.room g m o n).1<=4:=by
 unfold ck.room;split
 ·exact⟨ac,ac⟩
 ·exact xQ _ _
theorem rF (k:Int)(l:List _):0<=(s.grow g m o k l).2.1/\(s.grow g m o k l).2.1<=4:=by
 unfold ck.grow;split
 ·exact⟨ac,ac⟩
 ·exact NY _
theorem DJ (v:Int×Int)(I:Int):0<=s.fc v I/\s.fc v I<=4:=by
 unfold ck.fc;repeat' split
 all_goals omega
theorem NZ (v:Int×Int):0<=(s.pop v).2.1/\(s.pop v).2.1<=4:=by
 unfold ck.pop;repeat' split
 all_goals simp
theorem N0 (k:Int)(A B:Nat)(I n:Int):0<=(s.rt g m o k A B I n).2.1/\(s.rt g m o k A B I n).2.1<=4:=by
 unfold ck.rt;by_cases b:k=1
 ·rw[aN b];exact⟨ac,ac⟩
 rw[aJ b];by_cases c:k=3
 ·rw[aN c];exact⟨ac,ac⟩
 rw[aJ c];by_cases d:k=4
 ·rw[aN d];exact rF _ _
 rw[aJ d];by_cases e:k=5
 ·rw[aN e];exact rF _ _
 rw[aJ e];by_cases f:k=6
 ·rw[aN f];exact rF _ _
 rw[aJ f];by_cases i:k=7
 ·rw[aN i];exact rF _ _
 rw[aJ i];by_cases j:k=8
 ·rw[aN j];exact rF _ _
 rw[aJ j];by_cases l:k=10
 ·rw[aN l];exact NZ _
 rw[aJ l];by_cases p:k=11
 ·rw[aN p];exact DJ _ _
 rw[aJ p];by_cases q:k=13
 ·rw[aN q];split<;>exact⟨ac,ac⟩
 rw[aJ q];split<;>exact⟨ac,ac⟩
theorem N1 (k R A B n:Int):0<=dY k R A B n/\dY k R A B n<=8:=by
 unfold dY iS vc hc rc;repeat' split
 all_goals omega
theorem DK (k R A B I n:Int):gQ (s.dI g m o k R A B I n).1:=by
 have w:∀{a:Int},0<=a/\a<=4->_/\a<=8:=λh=>⟨h.1,aa⟩
 have:0<=(s.dI g m o k R A B I n).1/\(s.dI g m o k R A B I n).1<=8:=by
  unfold ck.dI;repeat' split
  ·unfold ck.reg;repeat' split
   all_goals simp
  ·exact w (DJ _ _)
  ·exact w (xQ _ _)
  ·exact w (xQ _ _)
  ·simp
  ·exact w (N0 _ _ _ _ _)
  ·exact N1 _ _ _ _ _
 exact⟨aa,aa⟩
end
section
variable {wb w:az}{X D:Nat->Prop}{k d m:Nat}{out:List UInt8}{g:fM}
theorem N2 (first:ByteArray)(ad:Option bB)(n cp:Nat)(b:g7 w)(h0:gd first.data.toList=0):
 M J 37 #[aq k,.string first,Z ad n cp] w λe w'=>e=OV (bA O4)/\O (I (G w)) w w':=by
 have P:=xL first w b
 go_enter func37,ntmps37;go_wp2_with (go_at_call 62;refine P.mono ?_;rintro e w1 ⟨rfl,rfl⟩)
 go_ret;exact⟨rfl,aH _ _⟩
theorem N3 (first:ByteArray)(ad:Option bB)(N:List Int)(cp:Nat)(b:g7 w)(hN:nY w ad N)(h0:gd first.data.toList≠0)(hl:L (slt (gd first.data.toList))≠L N):
 M J 37 #[aq k,.string first,Z ad (L N) cp] w λe w'=>e=OV (bA O4)/\O (I (G w)) w w':=by
 have P:=xL first w b
 have c:M J 63 #[ak (gd first.data.toList),Z ad (L N) cp] w λe w'=>e=OV (ay #[dJ 0 0 0 0 0 0,bA O4])/\O (I (G w)) w w':=by
  refine(DE _ N ad cp w hN).mono ?_;rintro e w1 ⟨hb,⟨d,_⟩|⟨_,rfl⟩⟩
  ·exact absurd d hl
  ·exact⟨rfl,hb⟩
 have f:(gd first.data.toList !=0)=C:=by simpa using h0
 go_enter func37,ntmps37;go_wp2_with (first|(go_at_call 62;refine P.mono ?_;rintro e w1 ⟨rfl,rfl⟩)|(go_at_call 63;refine c.mono ?_;rintro e w1 ⟨rfl,hb⟩))
 go_ret;exact⟨rfl,hb.alloc hb.size _⟩
theorem N4 {n o:Nat}{W:ck}(h:eO wb X D k d (H (n,o,W)) m out w)(hg:∀T wt,e6 T wt->dS T wt (g T wt))(hm:m<=8000)(kd R A B I x:Int)(hs:L out<=140737488350000):
 ∃tp,(∀w1,O w.heap.size w w1->V w1 (av d 0)=H (aq tp))/\∀w1,O w.heap.size w w1->M J 64 #[aq tp,dJ kd R A B I x] w1 λe j=>e=OV (ay #[ak (W.dI g n o kd R A B I x).1,bz #[ak 0,ak 0]])/\(w1.heap.size<=j.heap.size/\∀b,w.heap.size<=b->b<w1.heap.size->j.heap[b]?=w1.heap[b]?)/\∀l,Fr (λb=>w.heap.size<=b/\b<w1.heap.size) j l->M J 56 #[aq k,ak (W.dI g n o kd R A B I x).1,Z O0 0 0] l λe w'=>(∃v,e=OV v)/\gn wb X D k d (H (n,o,(W.dI g n o kd R A B I x).2)) (m+1) (out++txt (iD (W.dI g n o kd R A B I x).1)) w w':=by
 obtain⟨c,t,F,G,S,i,hi,hd,q,⟨rfl,rfl⟩,ad,ag,f⟩:=h.o.s;have ai:d≠t.tp:=λe=>by
  have:=q.tw;rw[<-e,hd] at this
  exact absurd (kg this) ac
 refine⟨t.tp,λw1 hb=>?_,λw1 hb=>?_⟩
 ·have:=(hb.block d (cj hd)).trans hd;simp[World.cell?,this]
 ·refine(Nc (q.below hb) hg (aQ hi hm) kd R A B I x).mono ?_;rintro e j ⟨s,u,rfl,q1,p,q3,N⟩
  refine⟨rfl,⟨p.size,λb l1 l2=>p.block b l2 (λe=>by have:=h.o.hD b (f b e);omega)⟩,λl ab=>?_⟩
  obtain⟨g1,g2⟩:=(h.below hb).turn ((hb.block d (cj hd)).trans hd) hi ad ag f q1 p q3 N ai;have old:∀b,b=d\/s b\/u b\/b=t.tp->b<w.heap.size\/w1.heap.size<=b:=λb e=>by
   rcases e with e|e|e|e
   ·exact aK (e▸cj hd)
   ·exact(q3 b e).imp (λe=>h.o.hD b (f b (aK e))) id
   ·exact(N b e).imp (λe=>h.o.hD b (f b (aI (aK e)))) id
   ·exact aK (h.o.hD b (f b (aI (aI e))))
  have t3:b9 (λb=>X b\/D b) w (λb=>X b\/b=d\/s b\/u b\/b=t.tp) l:=by have tw:=(b9.of hb).trans g2;exact⟨tw.fr.trans ab (λb e=>aI e.1),tw.sub⟩
  refine((g1.fr ab (λb al hy=>by have:=h.hX b al;omega) (λb hy e=>by have:=old b e;omega) (λb hy=>aQ h.o.be.size hy.1)).code _ (DK _ _ _ _ _ _) hs).mono ?_;rintro e w' ⟨he,am⟩
  exact⟨he,gn.trans t3 am⟩
theorem N5 {n o:Nat}{W:ck}(h:eO wb X D k d (H (n,o,W)) m out w)(hg:∀T wt,e6 T wt->dS T wt (g T wt))(hm:m<=8000)(hs:L out<=140737488350000)(first:ByteArray)(ad:Option bB)(N:List Int)(cp:Nat)(hN:nY w ad N)(h0:gd first.data.toList≠0)(hl:L (slt (gd first.data.toList))=L N):
 M J 37 #[aq k,.string first,Z ad (L N) cp] w λe w'=>e=OV (bA C)/\gn wb X D k d (H (n,o,(oX g n o W (gd first.data.toList) N).2)) (m+1) (out++txt (iD (oX g n o W (gd first.data.toList) N).1)) w w':=by
 have P:=xL first w h.oV
 obtain⟨k0,lk⟩:=h.k0;have b:M J 63 #[ak (gd first.data.toList),Z ad (L N) cp] w λe w'=>e=OV (ay #[dJ (fU (gd first.data.toList) N).k (fU (gd first.data.toList) N).R (fU (gd first.data.toList) N).A (fU (gd first.data.toList) N).B (fU (gd first.data.toList) N).I (fU (gd first.data.toList) N).n,bA C])/\O w.heap.size w w':=by
  refine(DE _ N ad cp w hN).mono ?_;rintro e w1 ⟨hb,⟨_,rfl⟩|⟨c,_⟩⟩
  ·exact⟨rfl,hb⟩
  ·exact absurd hl c
 have f:(gd first.data.toList !=0)=C:=by simpa using h0
 rw[f] at P;unfold oX;generalize gd first.data.toList=K at*;generalize fU K N=x at*;obtain⟨i,j,l,p,q,s⟩:=x;obtain⟨tp,q1,t⟩:=N4 h hg hm i j l p q s hs;exact NR k0 lk (h.o.hD d h.o.jD) (q1 w bZ) P b t
end
section
variable {wb w:az}{X D:Nat->Prop}{k d m:Nat}{out:List UInt8}
theorem N6 (k:Nat)(ad:Option bB)(n cp:Nat)(w:az)(hn:n≠0):
 M J 36 #[aq k,Z ad n cp] w λe w'=>e=OV (bA O4)/\w=w':=by
 go_wp2;go_ret;exact⟨rfl,rfl⟩
theorem DL {c:Wc}{t:pZ}{F G:Nat->Prop}{S:cv}{W:ck}{i j:Nat}(h:ej wb c t F G S W i j w):gQ (ei W.T).1/\gQ (ei W.T).2:=by have hb:=pL h.g;have b:=hb.y1;have d:=hb.g1;have e:=hb.n1;have f:=hb.o1;rw[h.us];exact⟨⟨aa,aa⟩,⟨aa,aa⟩⟩
theorem N7 {m:List ec}{b:List _}(h:hW m=b){i:Nat}(hi:i<L b):∃x:ec,m[i]?=H x/\OZ b i (0,[])=(x.1,x.2.2.2)/\x∈m:=by
 subst h;have hi:i<L m:=by simpa[hW] using hi
 exact⟨m[i],aP hi,by simp[hW,List.getD_eq_getElem?_getD,hi],a_ hi⟩
theorem N8 {n o:Nat}{W:ck}(h:eO wb X D k d (H (n,o,W)) m out w)(hm:m<=8000)(ad:Option bB)(cp:Nat)(hs:L out<=140730000000000):
 M J 36 #[aq k,Z ad 0 cp] w λe w'=>e=OV (bA C)/\gn wb X D k d (H (n,o,W)) m (out++nc W) w w':=by
 obtain⟨k0,lk⟩:=h.k0;obtain⟨c,t,F,G,S,i,hi,hd,am,cO,cP,cQ,bl⟩:=h.o.s;have b2:i<=10000:=aa;have cR:V w (av d 0)=H (aq t.tp):=aD hd
 obtain⟨b3,_⟩:=am.cells;obtain⟨b4,_⟩:=ft am.g;have cv:=am.bd b2;have hk:=am.Dr b2;have cw:=DL am;have b5:=am.Df b2;have cS:aA (∀l wr:az,O w.heap.size w l->Fr X l wr->ej wb c t F G S W i i wr/\V wr (av d 0)=H (aq t.tp)):=λl wr hb f=>by
  have cx:Fr X w wr:=(Fr.of hb).trans f (λb e=>aK e)
  have b6:¬X d:=λe=>h.ap d e h.o.jD;refine⟨am.tZ cx (λb e g=>h.ap b g (bl b (aK e))) (λb e g=>h.ap b g (bl b (aI (aK e)))) (λg=>h.ap _ g (bl _ (aI (aI rfl)))) h.lW,?_⟩
  have:=(cx.block d (cj hd) b6).trans hd;simp[World.cell?,this]
 have q:=ge h hs cv;have ab:=cU hk cw;unfold nc;generalize cT:ee.eU W.T W.wt W.rs=cV at*;obtain⟨s,ms,j⟩:=cV;generalize cy:ei W.T=us at*;obtain⟨ao,ap⟩:=us;have cW:=cg cy;dsimp only at b5 q ab⊢;clear cT cy cv hk cw hs h am cO cP cQ bl hd;go_enter func36,ntmps36;go_wp2_with fail;refine b5.mono ?_;clear b5;rintro e w1 ⟨aB,aF,aR,a1,rfl,cz,cA,b7⟩
 go_upto_region 4 with fail
 have b8:O w.heap.size w (bu w1 (E #[Z aB 12 aF,Z aR (L j) a1] 97)):=b7.alloc b7.size _;have bn:=aO w1 (E #[Z aB 12 aF,Z aR (L j) a1] 97)
 have ca:=aw w1 (E #[Z aB 12 aF,Z aR (L j) a1] 97)
 have B:=qk (q.o.1.below b8) b8 (cz.below ca) (cA.below ca) bn;obtain⟨v0,v1,_⟩:=kq bn;have dc:=b7.size;have lx:=cj bn;clear cz cA b8 ca bn;generalize bu w1 (E #[Z aB 12 aF,Z aR (L j) a1] 97)=l at*;generalize w1.heap.size=bo at*;have bp:M J 58 #[aq k,Z aB 12 aF,Z (au l.heap.size) 1 1] (bu l (E #[.string (bs [114,111,111,116,115])] 9)) λe w'=>(∃v,e=OV v)/\∃ag,fO ag k d (out++txt (bs [114,111,111,116,115]::s.map gb)) w'/\b9 X l ag w':=by
  have aV:=aw l (E #[.string (bs [114,111,111,116,115])] 9)
  have hn:=aO l (E #[.string (bs [114,111,111,116,115])] 9)
  have hl:=q.o.2.2.1;have am:=ud s hl ab.o.1.1;have:=Dw B.o.1.t B.o.1.oV aV [bs [114,111,111,116,115]] ae ae l.heap.size 1 (oT hn bY rfl ae) s aB aF B.o.2.2.1.1 ab.o.1.1 aa (by have:=q.o.2.1;show _+L (txt (bs [114,111,111,116,115]::s.map gb))<=_;omega)
  rw[hl] at this
  exact this
 clear cR b3 b4 k0;go_wp2_with fail;refine bp.mono ?_;clear bp;rintro e cB ⟨⟨v,rfl⟩,cb,t3,cc⟩
 have cX:∀{w':az}{ag:Nat->Prop},b9 X l ag w'->V w' (av bo 1)=H (Z aR (L j) a1):=λh=>by rw[aS (w:=l) (a:=⟨bo,1,O0⟩) (h.fr.block bo lx (λe=>by have:=q.o.1.hX bo e;omega))];exact v1
 have cY:=cX cc;have cC:aA (fO cb k d (out++txt (bs [114,111,111,116,115]::s.map gb)++iX j 0) cB/\b9 X l cb cB):=⟨by simpa[iX] using t3,cc⟩
 clear t3 cc v0 v1;go_wp2_with fail
 go_loopw [35] (λiv wr=>∃(i:Nat)(ag:Nat->Prop),i<=L j/\iv=ak i/\aA (fO ag k d (out++txt (bs [114,111,111,116,115]::s.map gb)++iX j i) wr/\b9 X l ag wr)) (λiv _=>L j-K (bG iv))
 case atStart=>exact⟨0,cb,a4 _,rfl,cC⟩
 case round=>
  clear cC cY;obtain⟨i,ag,cZ,rfl,N⟩:=hrel;by_cases cd:i<L j
  ·obtain⟨Y,N⟩:∃Y,aA ((fO Y k d (out++txt (bs [114,111,111,116,115]::s.map gb)++iX j i) wr/\b9 X l Y wr)/\∀b,Y b->b<wr.heap.size):=⟨_,⟨N.o.1.cut,⟨N.o.2.fr,λb e=>N.o.2.sub b e.1⟩⟩,λb e=>e.2⟩
   have a2:aA (g7 wr):=B.o.1.gl.below (B.o.1.o.be.trans (N.o.1.2.fr.below B.o.1.o.be.size B.o.1.lW))
   have c0:jZ wr w.heap.size aR j:=B.o.2.2.2.1.fr N.o.1.2.fr (λb e=>q.o.1.hX b e)
   obtain⟨mm,ce,cD,_,cE⟩:=c0;have c1:L mm=L j:=by rw[<-ce];simp[hW]
   obtain⟨dd,de,rfl,_,l0,hc⟩:=cE aa;obtain⟨x,cF,hn,cG⟩:=N7 ce cd;obtain⟨c2,y1⟩:=hc i x cF;have cf:=cD x cG;have ch:OZ j i (0,[])∈j:=by rw[aM,aP cd];exact a_ cd
   have br:=q.o.2.2.2.2 _ ch;have bt:=ab.o.1.2 _ ch;rw[hn] at br bt;have bb:L (out++txt (bs [114,111,111,116,115]::s.map gb)++iX j i)<=L out+6000000000:=by have ci:=ud s q.o.2.2.1 ab.o.1.1;have cl:=uc j q.o.2.2.2.1 (λnd hn=>⟨q.o.2.2.2.2 nd hn,ab.o.1.2 nd hn⟩) i aa;have c3:=q.o.2.2.2.1;rw[aX,aX];have:i*500051<=10000*500051:=Cs _ aa;omega
   have cm:=cg (show out++txt (bs [114,111,111,116,115]::s.map gb)++iX j (i+1)=out++txt (bs [114,111,111,116,115]::s.map gb)++iX j i++oW i (OZ j i (0,[])) by rw[DH,<-bf])
   rw[hn] at cm;obtain⟨kd,a0,fc,ai⟩:=x;dsimp only at c2 y1 cf br bt cm;have c4:i<=10000:=by have:=q.o.2.2.2.1;omega
   have cn:=cg bb;have q0:(0:Int)<=(i:Int):=aa;have q1:(i:Int)<(L j:Int):=aa;have bd:=aw wr (E #[U OW kd,Z a0 (L ai) fc] 101)
   have co:=aO wr (E #[U OW kd,Z a0 (L ai) fc] 101)
   have be:=cj co;have al:=ql (N.o.1.1.below bd) (N.o.1.2.below bd) (cf.below bd) (a2.o.below bd) (show L ai<=20000/\∀v∈ai,gQ v.2 from⟨br,bt⟩) (show∀b,Y b->b<wr.heap.size from N.o.2)
   obtain⟨u0,cq,_⟩:=kq co;clear hc cE cD c1 cF hn cG cf ch br bt bb bd co N a2 ce cZ
   go_upto_region 8 with fail
   generalize bu wr (E #[U OW kd,Z a0 (L ai) fc] 101)=an at*;generalize wr.heap.size=nb at*;have cH:M J 59 #[U OW i] an.drew λe u=>e=OV (.string (bs (35::Lib.itoa i)))/\O an.heap.size an u:=by
    refine(Dv i ⟨aa,aa⟩ an.drew (al.o.2.2.2.1.below bZ.drew)).mono ?_;rintro e u ⟨he,hb⟩
    exact⟨he,(aH _ an).drew.trans hb⟩
   have bp:aA (∀u,O an.heap.size an u->M J 58 #[aq k,Z a0 (L ai) fc,Z (au u.heap.size) 2 2] (bu u (E #[.string (bs (35::Lib.itoa i)),.string (bs (lV kd))] 9)) λe w'=>(∃v,e=OV v)/\∃ag,fO ag k d (out++txt (bs [114,111,111,116,115]::s.map gb)++iX j i++oW i (kd,ai)) w'/\b9 Y an ag w'):=λu hb=>by
    have aV:=aw u (E #[.string (bs (35::Lib.itoa i)),.string (bs (lV kd))] 9)
    have hn:=aO u (E #[.string (bs (35::Lib.itoa i)),.string (bs (lV kd))] 9)
    have am:=DG i (kd,ai) c4 al.o.2.2.2.2.1.1 al.o.2.2.2.2.1.2;exact Dw al.o.1 al.o.2.2.2.1 (hb.trans (aV.mono hb.size)) [bs (35::Lib.itoa i),bs (lV kd)] ac ac u.heap.size 2 (oT hn hb.size rfl ac) ai a0 fc al.o.2.2.1 al.o.2.2.2.2.1.2 al.o.2.2.2.2.1.1 (by have ci:=q.o.2.1;have cl:=cn.o;show _+L (oW i (kd,ai))<=_;omega)
   have c5:=cg cH;clear cH
   go_region_held3 (λcI=>V cI (av nb 0)=H (ak kd)/\V cI (av nb 1)=H (Z a0 (L ai) fc)) (first|exact⟨u0,cq⟩|exact⟨s0,s1⟩|exact⟨r0,r1⟩|exact⟨(World.cell?_alloc_past _ _ _ cJ).trans s0,(World.cell?_alloc_past _ _ _ cJ).trans s1⟩) (first
    |(go_at_call 59;refine c5.o.mono ?_;rintro e u ⟨rfl,ar⟩;have cJ:nb<u.heap.size:=aL be ar.size;have s0:=(ar.cell (p:=av nb 0) be).trans u0;have s1:=(ar.cell (p:=av nb 1) be).trans cq)
    |(go_at_call 60;refine(Nz kd _).mono ?_;rintro e wt ⟨rfl,rfl⟩)
    |(go_at_call 58;refine(bp.o u ar).mono ?_;rintro e bx ⟨⟨df,rfl⟩,cr,cK,b0⟩;have r0:=(aS (w:=an) (a:=⟨nb,0,O0⟩) (b0.fr.block nb be (λe=>by have:=al.o.2.2.2.2.2 nb e;omega))).trans u0;have r1:=(aS (w:=an) (a:=⟨nb,1,O0⟩) (b0.fr.block nb be (λe=>by have:=al.o.2.2.2.2.2 nb e;omega))).trans cq))
   all_goals
    have bg:aA (fO cr k d (out++txt (bs [114,111,111,116,115]::s.map gb)++iX j (i+1)) bx/\b9 X l cr bx):=⟨by rw[cm.o];exact cK,al.o.2.1.trans b0⟩
    clear cK b0;go_wp2_with fail;go_roundw
    case rel=>exact⟨i+1,cr,aa,aj,bg⟩
    case measure=>simp[bG];omega
  ·obtain rfl:i=L j:=aa;have q1:¬((L j:Int)<(L j:Int)):=aa;have a2:aA (g7 wr):=B.o.1.gl.below (B.o.1.o.be.trans (N.o.2.fr.below B.o.1.o.be.size B.o.1.lW))
   obtain⟨b1,b6⟩:=cS.o l wr B.o.2.1 N.o.2.fr;obtain⟨kp,kv,hk,_⟩:=N.o.1.mem;have c6:V wr (av k 0)=H (aq d):=aD hk
   obtain⟨b3,_⟩:=b1.cells;obtain⟨b4,c7,_⟩:=ft b1.g;have cs:=b1.De;rw[cW.o] at cs;have bb:L (out++txt (bs [114,111,111,116,115]::s.map gb)++iX j (L j))<=L out+6000000000:=by
    have ci:=ud s q.o.2.2.1 ab.o.1.1;have cl:=uc j q.o.2.2.2.1 (λnd hn=>⟨q.o.2.2.2.2 nd hn,ab.o.1.2 nd hn⟩) (L j) bY
    have c3:=q.o.2.2.2.1;rw[aX,aX];have:L j*500051<=10000*500051:=Cs _ aa;omega
   have cn:=cg bb;have dg:=cj hk;clear hk b1 bb;go_wp2_with fail;refine cs.mono ?_;clear cs b3 b4 c7 b6 c6 q1;rintro e u ⟨rfl,ar⟩
   have P:=p3 ao ab.o.2.1 u (a2.o.below ar)
   have cL:=cg ar;clear ar;go_wp2_with fail;refine P.mono ?_;clear P;rintro e bx ⟨rfl,cM⟩
   have bg:=cg (cL.o.trans (cM.mono cL.o.size))
   have P:=p3 ap ab.o.2.2 bx (a2.o.below bg.o)
   clear cM;go_wp2_with fail;refine P.mono ?_;clear P;rintro e bi ⟨rfl,cN⟩
   have ct:=bg.o.trans (cN.mono bg.o.size)
   have aV:=aw bi (E #[.string (bs [117,115,101,100]),.string (bs (Lib.itoa ao)),.string (bs (Lib.itoa ap))] 9)
   have hn:=aO bi (E #[.string (bs [117,115,101,100]),.string (bs (Lib.itoa ao)),.string (bs (Lib.itoa ap))] 9)
   have cu:=ct.trans (aV.mono ct.size)
   have P:M J 22 #[aq k,Z (au bi.heap.size) 3 3] (bu bi (E #[.string (bs [117,115,101,100]),.string (bs (Lib.itoa ao)),.string (bs (Lib.itoa ap))] 9)) λe w'=>(∃v,e=OV v)/\gn wb X D k d (H (n,o,W)) m (out++(txt (bs [114,111,111,116,115]::s.map gb)++iX j (L j)++txt [bs [117,115,101,100],bs (Lib.itoa ao),bs (Lib.itoa ap)])) w w':=by
    have hl:=DI ao ap ab.o.2.1 ab.o.2.2;refine(rC (N.o.1.below cu) [bs [117,115,101,100],bs (Lib.itoa ao),bs (Lib.itoa ap)] _ 3 (gG.of (oT hn (a4 _) rfl ac)) ac ac ac (by have ci:=q.o.2.1;have cl:=cn.o;omega)).mono ?_;rintro e w' ⟨he,dh,c8,c9⟩
    refine⟨he,gn.of B.o.2.1 ?_⟩
    have da:out++(txt (bs [114,111,111,116,115]::s.map gb)++iX j (L j)++txt [bs [117,115,101,100],bs (Lib.itoa ao),bs (Lib.itoa ap)])=out++txt (bs [114,111,111,116,115]::s.map gb)++iX j (L j)++txt [bs [117,115,101,100],bs (Lib.itoa ao),bs (Lib.itoa ap)]:=by simp only [List.append_assoc]
    rw[da];exact B.o.1.told c8 ((N.o.2.below cu).trans c9)
   clear cN ct aV hn cu;go_wp2_with fail;refine P.mono ?_;rintro e w' ⟨⟨di,rfl⟩,db⟩
   go_wp2_with fail;go_ret;exact⟨rfl,db⟩
end
theorem nY.row {w:az}{base cap:Nat}{ao:Option bB}{N:List Int}(h:w.ownsRow base 2 1 (Z ao (L N) cap) (L N) (N.map (Value.int OW))):nY w ao N:=λhp=>by
 rcases h.2 with⟨hv,e⟩|⟨g,c,b,hv,_⟩
 ·rw[e] at hp;exact absurd hp ac
 ·cases hv;refine⟨g,0,rfl,(cu h g rfl).2,λi hi=>?_⟩
  rw[Nat.zero_add];refine(kt h ?_).1;rw[iy,aP hi,aM,aP hi];rfl
theorem p6 (s:ByteArray)(l:List UInt8):(s.toList==l)=decide (s.data.toList=l):=by rw[Lib.toList_data];by_cases h:s.data.toList=l<;>simp[h]
section
variable {w:az}{k d:Nat}{R:Mh->az->Prop}{first:ByteArray}{ar:Option bB}{nr cr:Nat}{v:a7}
theorem N9 (P:M J 34 #[Z ar nr cr] w λe w'=>e=OV (ay #[Z O0 0 0,bA O4])/\O (I (G w)) w w'):
 M J 21 #[aq k,.string first,Z ar nr cr] w λe w'=>e=OV (bA O4)/\O (I (G w)) w w':=by
 go_enter func21,ntmps21;go_wp2_with (go_at_call 34;refine P.mono ?_;rintro e w1 ⟨rfl,hb⟩)
 go_ret;exact⟨rfl,hb⟩
theorem N_ (d:(first.toList==[110,101,119])=C)(P:M J 34 #[Z ar nr cr] w λe w1=>∃v,e=OV (ay #[v,bA C])/\M J 35 #[aq k,v] w1 λe w'=>∃b,e=OV (bA b)/\R (OV (bA b)) w'):
 M J 21 #[aq k,.string first,Z ar nr cr] w R:=by
 go_enter func21,ntmps21;go_wp2_with (first|(go_at_call 34;refine P.mono ?_;rintro e w1 ⟨v,rfl,c⟩)|(go_at_call 35;refine c.mono ?_;rintro e f ⟨b,rfl,hr⟩))
 exact hr
theorem Oa (b:(first.toList==[110,101,119])=O4)(P:M J 34 #[Z ar nr cr] w λe w1=>∃v,e=OV (ay #[v,bA C])/\V w1 (av k 0)=H (aq d)/\V w1 (av d 0)=H (bq O0)/\R (OV (bA O4)) w1):
 M J 21 #[aq k,.string first,Z ar nr cr] w R:=by
 go_enter func21,ntmps21;go_wp2_with (go_at_call 34;refine P.mono ?_;rintro e w1 ⟨v,rfl,c0,c1,hr⟩)
 exact hr
theorem Oc {tp:bB}(f:(first.toList==[110,101,119])=O4)(hv:(first.toList==[118,105,101,119])=C)(P:M J 34 #[Z ar nr cr] w λe w1=>∃v,e=OV (ay #[v,bA C])/\V w1 (av k 0)=H (aq d)/\V w1 (av d 0)=H (bq (H tp))/\M J 36 #[aq k,v] w1 λe w'=>∃b,e=OV (bA b)/\R (OV (bA b)) w'):
 M J 21 #[aq k,.string first,Z ar nr cr] w R:=by
 go_enter func21,ntmps21;go_wp2_with (first|(go_at_call 34;refine P.mono ?_;rintro e w1 ⟨v,rfl,c0,c1,c⟩)|(go_at_call 36;refine c.mono ?_;rintro e g ⟨b,rfl,hr⟩))
 exact hr
theorem Od {tp:bB}(f:(first.toList==[110,101,119])=O4)(hv:(first.toList==[118,105,101,119])=O4)(P:M J 34 #[Z ar nr cr] w λe w1=>∃v,e=OV (ay #[v,bA C])/\V w1 (av k 0)=H (aq d)/\V w1 (av d 0)=H (bq (H tp))/\M J 37 #[aq k,.string first,v] w1 λe w'=>∃b,e=OV (bA b)/\R (OV (bA b)) w'):
 M J 21 #[aq k,.string first,Z ar nr cr] w R:=by
 go_enter func21,ntmps21;go_wp2_with (first|(go_at_call 34;refine P.mono ?_;rintro e w1 ⟨v,rfl,c0,c1,c⟩)|(go_at_call 37;refine c.mono ?_;rintro e g ⟨b,rfl,hr⟩))
 exact hr
end
section
variable {w:az}{k:Nat}
theorem Oe (ad:Option bB)(cp:Nat):
 M J 15 #[aq k,Z ad 0 cp] w λe w'=>e=OV (ay #[])/\O (I (G w)) w w':=by
 go_wp2
 go_region
 all_goals
  go_wp2;go_end0;exact⟨rfl,(ax w).drew⟩
theorem Of {Q:az->Prop}(a:ByteArray)(b o:Nat)(hc:V w (av b o)=H (.string a))
 (P:M J 21 #[aq k,.string a,Z (H ⟨b,o,O0⟩) 0 0] w.drew λe w1=>e=OV (bA C)/\V w1 (av b o)=H (.string a)/\Q w1):
 M J 15 #[aq k,Z (H ⟨b,o,O0⟩) 1 1] w λe w'=>e=OV (ay #[])/\Q w':=by
 exact DA
theorem Og {Q:az->Prop}(a:ByteArray)(n b o cp:Nat)(hc:V w (av b o)=H (.string a))(c:n+1<=cp)(d:¬cp=1)
 (P:M J 21 #[aq k,.string a,Z (H ⟨b,o+1,O0⟩) n (cp-1)] w.drew λe w1=>e=OV (bA C)/\V w1 (av b o)=H (.string a)/\Q w1):
 M J 15 #[aq k,Z (H ⟨b,o,O0⟩) (n+1) cp] w λe w'=>e=OV (ay #[])/\Q w':=by
 have q1:(1:Int)<=(n:Int)+1:=aa;have f:(n:Int)+1<=cp:=aa;exact DA
theorem Oh {Q:az->Prop}(a:ByteArray)(b o:Nat)(hc:V w (av b o)=H (.string a))
 (P:M J 21 #[aq k,.string a,Z (H ⟨b,o,O0⟩) 0 0] w.drew λe w1=>e=OV (bA O4)/\V w1 (av b o)=H (.string a)/\M J 22 #[aq k,Z (au (I (G w1))) 1 1] (bu w1 (E #[.string (bs [119,104,97,116])] 9)) λe w'=>(∃v,e=OV v)/\Q w'):
 M J 15 #[aq k,Z (H ⟨b,o,O0⟩) 1 1] w λe w'=>e=OV (ay #[])/\Q w':=by
 exact Dz
theorem Oi {Q:az->Prop}(a:ByteArray)(n b o cp:Nat)(hc:V w (av b o)=H (.string a))(c:n+1<=cp)(d:¬cp=1)
 (P:M J 21 #[aq k,.string a,Z (H ⟨b,o+1,O0⟩) n (cp-1)] w.drew λe w1=>e=OV (bA O4)/\V w1 (av b o)=H (.string a)/\M J 22 #[aq k,Z (au (I (G w1))) 1 1] (bu w1 (E #[.string (bs [119,104,97,116])] 9)) λe w'=>(∃v,e=OV v)/\Q w'):
 M J 15 #[aq k,Z (H ⟨b,o,O0⟩) (n+1) cp] w λe w'=>e=OV (ay #[])/\Q w':=by
 have q1:(1:Int)<=(n:Int)+1:=aa;have f:(n:Int)+1<=cp:=aa;exact Dz
end
section
variable {wb w:az}{X D:Nat->Prop}{k d m:Nat}{out:List UInt8}{s:Option (Nat×Nat×ck)}{g:fM}
def rG (wb:az)(X D:Nat->Prop)(k d m:Nat)(out:List UInt8)(w:az)(r:Option (Option (Nat×Nat×ck)×List UInt8))(e:Mh)(w':az):Prop:=
 match r with
 |none=>e=OV (bA O4)/\O (I (G w)) w w'
 |some r=>e=OV (bA C)/\gn wb X D k d r.1 (m+1) (out++r.2) w w'
theorem Oj (h:eO wb X D k d s m out w)(hg:∀T wt,e6 T wt->dS T wt (g T wt))(hm:m<=8000)(hs:out.length<=140730000000000)(first:ByteArray)(L:List ByteArray)(ar:Option bB)(ab:Nat)(am:gG w ar L)(hl:L.length<=10)(hz:∀x∈L,x.size<=4000000000):
 M J 21 #[aq k,.string first,Z ar L.length ab] w (rG wb X D k d m out w (kK g s first L)):=by
 have ag:=Ns L ar ab w am hl hz h.oV;unfold kK;cases hN:nums L with
 |none=>
  refine N9 (ag.mono ?_)
  rintro e w1 ⟨hb,⟨N,v,j,_⟩|⟨_,rfl⟩⟩
  ·rw[hN] at j;cases j
  ·exact⟨rfl,hb⟩
 |some N=>
  have q:M J 34 #[Z ar L.length ab] w λe w1=>∃ao cap,e=OV (ay #[Z ao N.length cap,bA C])/\nY w1 ao N/\O w.heap.size w w1:=ag.mono (by
   rintro e w1 ⟨hb,⟨aF,v,j,rfl,hr⟩|⟨j,_⟩⟩
   ·rw[hN] at j;cases j;obtain⟨ao,cap,rfl⟩:=xN hr;exact⟨ao,cap,rfl,nY.row hr,hb⟩
   ·rw[hN] at j;cases j)
  have hd:=λw1 (hb:O w.heap.size w w1)=>(h.below hb).k0;have ai:∀{v:a7}{r:Option (Option (Nat×Nat×ck)×List UInt8)}{w1:az}{f:Nat},r=O0->O w.heap.size w w1->M J f #[aq k,v] w1 (λe w'=>e=OV (bA O4)/\O w1.heap.size w1 w')->M J f #[aq k,v] w1 λe w'=>∃b,e=OV (bA b)/\rG wb X D k d m out w r (OV (bA b)) w':=by rintro v r w1 f rfl hb P;refine P.mono ?_;exact xM
  show M _ _ _ _ (rG wb X D k d m out w (jj g s first.data.toList N))
  by_cases l:first.data.toList=[110,101,119]
  ·refine N_ (by rw[p6,l];rfl) (q.mono ?_)
   rintro e w1 ⟨ao,cap,rfl,hi,hb⟩
   refine⟨_,rfl,?_⟩
   by_cases u:N.length=2
   ·have e:jj g s first.data.toList N=H (rE (OZ N 0 0) (OZ N 1 0),txt (iD (nZ (OZ N 0 0) (OZ N 1 0)))):=by unfold jj;rw[aN l,aN u]
    rw[e];obtain⟨an,ap,rfl⟩:∃a b,N=[a,b]:=by
     match N,u with
     |[a,b],_=>exact⟨a,b,rfl⟩
    refine(NU (h.below hb) an ap ao cap hi aa).mono ?_;rintro e w' ⟨rfl,p⟩
    exact⟨C,rfl,rfl,gn.of hb (p.more (jl _))⟩
   ·refine ai (by unfold jj;rw[aN l,aJ u]) hb ((NS k ao N.length cap w1 u).mono ?_)
    rintro e w' ⟨rfl,rfl⟩
    exact⟨rfl,aH _ _⟩
  ·have ad:(first.toList==[110,101,119])=O4:=by rw[p6];simpa using l
   match s,h,hd with
   |none,h,hd=>
    refine Oa (d:=d) ad (q.mono ?_)
    rintro e w1 ⟨ao,cap,rfl,hi,hb⟩
    have j:_=_:=(h.below hb).o.s;have e:jj g O0 first.data.toList N=O0:=by unfold jj;rw[aJ l]
    rw[e];exact⟨_,rfl,(hd w1 hb).1,by simp[World.cell?,j],rfl,hb⟩
   |some (n,o,W),h,hd=>
    have hp:∀w1,O w.heap.size w w1->∃tp:bB,V w1 (av d 0)=H (bq (H tp)):=λw1 hb=>by obtain⟨c,t,F,G,S,i,aR,aB,_⟩:=(h.below hb).o.s;exact⟨_,by simp[World.cell?,aB];rfl⟩
    obtain⟨tp,al⟩:∃tp:bB,∀w1,O w.heap.size w w1->V w1 _=H _:=by
     obtain⟨tp,ht⟩:=hp w bZ
     exact⟨tp,λw1 hb=>(hb.cell (aT _ _ ht)).trans ht⟩
    by_cases hv:first.data.toList=[118,105,101,119]
    ·refine Oc (d:=d) ad (by rw[p6,hv];rfl) (q.mono ?_) (tp:=tp)
     rintro e w1 ⟨ao,cap,rfl,hi,hb⟩
     refine⟨_,rfl,(hd w1 hb).1,al w1 hb,?_⟩
     by_cases B:N.length=0
     ·have e:jj g (H (n,o,W)) first.data.toList N=H (H (n,o,W),nc W):=by unfold jj;rw[aJ l];simp only;rw[aN hv,aN B]
      rw[e,B];refine(N8 (h.below hb) hm ao cap hs).mono ?_;rintro e w' ⟨rfl,p⟩
      exact⟨C,rfl,rfl,gn.of hb (p.more (jl _))⟩
     ·refine ai (by unfold jj;rw[aJ l];simp only;rw[aN hv,aJ B]) hb ((N6 k ao N.length cap w1 B).mono ?_)
      rintro e w' ⟨rfl,rfl⟩
      exact⟨rfl,aH _ _⟩
    ·refine Od (d:=d) ad (by rw[p6];simpa using hv) (q.mono ?_) (tp:=tp)
     rintro e w1 ⟨ao,cap,rfl,hi,hb⟩
     refine⟨_,rfl,(hd w1 hb).1,al w1 hb,?_⟩
     have j:=h.below hb;by_cases hk:gd first.data.toList=0
     ·have e:jj g (H (n,o,W)) first.data.toList N=O0:=by unfold jj;rw[aJ l];simp only;rw[aJ hv,aN (aK hk)]
      rw[e];refine(N2 first ao N.length cap j.oV hk).mono ?_;exact xM
     ·by_cases hn:(slt (gd first.data.toList)).length=N.length
      ·have e:jj g (H (n,o,W)) first.data.toList N=H (H (n,o,(oX g n o W (gd first.data.toList) N).2),txt (iD (oX g n o W (gd first.data.toList) N).1)):=by unfold jj;rw[aJ l];simp only;rw[aJ hv,aJ (λe=>e.elim hk (λe=>e hn))]
       rw[e];refine(N5 j hg hm aa first ao N cap hi hk hn).mono ?_;rintro e w' ⟨rfl,p⟩
       exact⟨C,rfl,rfl,gn.of hb p⟩
      ·have e:jj g (H (n,o,W)) first.data.toList N=O0:=by unfold jj;rw[aJ l];simp only;rw[aJ hv,aN (aI hn)]
       rw[e];refine(N3 first ao N cap j.oV hi hk hn).mono ?_;exact xM
theorem eO.Ok (h:eO wb X D k d s m out w)(hm:m<=8000){first:List UInt8}{N:List Int}{r:Option _×List UInt8}(e:jj g s first N=H r):L r.2<=5100000000:=by
 unfold jj at e;have k0:∀c,gQ c->L (txt (iD c))<=5100000000:=λc hc=>aQ (NX c hc) ae;split at e
 ·split at e
  ·cases e;refine k0 _ ?_;unfold nZ;split<;>exact⟨ae,ae⟩
  ·cases e
 ·match s,h,e with
  |none,_,e=>cases e
  |some (n,o,W),h,e=>
   simp only at e;split at e
   ·split at e
    ·cases e;obtain⟨c,t,F,G,S,i,hi,_,b,_⟩:=h.o.s;have hb:=b.bd (by omega:i<=10000)
     have hk:=b.Dr (by omega:i<=10000)
     have f:=DL b;show L (nc W)<=_;unfold nc;have j:=ud _ hb.1 hk.1;have l:=uc _ hb.2.1 (λnd hn=>⟨hb.2.2 nd hn,hk.2 nd hn⟩) _ bY
     have p:=DI _ _ f.1 f.2;rw[aX,aX];omega
    ·cases e
   ·split at e
    ·cases e
    ·cases e;exact k0 _ (DK _ _ _ _ _ _)
theorem eO.hlen (h:eO wb X D k d s m out w)(hm:m<=8000)(l:List ByteArray):(iO g s l).2.length<=5100000000:=by
 cases l with
 |nil=>simp[iO]
 |cons a l=>
  show((kK g s a l).getD _).2.length<=_;cases e:kK g s a l with
  |none=>simp[txt,kl,Lib.join,bs]
  |some r=>
   unfold kK at e;split at e
   ·cases e
   ·exact h.Ok hm e
theorem Ol (h:eO wb X D k d s m out w)(hg:∀T wt,e6 T wt->dS T wt (g T wt))(hm:m<=8000)(hs:out.length<=140730000000000)(L:List ByteArray)(ad:Option bB)(cp:Nat)(f:gG w ad L)(hc:L.length<=cp)(n:∀b o,ad=H ⟨b,o,O0⟩->¬X b/\¬D b)(hl:L.length<=10)(hz:∀x∈L,x.size<=4000000000):
 M J 15 #[aq k,.slice ad L.length cp] w λe w'=>e=OV (ay #[])/\gn wb X D k d (iO g s L).1 (m+1) (out++(iO g s L).2) w w':=by
 match L,f,hl,hz,hc with
 |[],_,_,_,_=>
  refine(Oe ad cp).mono ?_;rintro e w' ⟨rfl,hb⟩
  refine⟨rfl,X,D,?_,b9.of hb⟩
  show eO wb X D k d s (m+1) (out++[]) w';rw[List.append_nil];exact(h.below hb).more (jl _)
 |a::l,f,hl,hz,hc=>
  obtain⟨b,o,rfl,lb,p⟩:=f ac;have hd:=(ax w).drew;have c0:V w (av b o)=H (.string a):=by simpa using p 0 ac
  have q:iO g s (a::l)=(kK g s a l).getD (s,txt [bs [119,104,97,116]]):=rfl;have Y:∀{e:Mh}{w1:az}{r:Option (Nat×Nat×ck)×List UInt8},kK g s a l=H r->rG wb X D k d m out w.drew (kK g s a l) e w1->e=OV (.bool C)/\V w1 (av b o)=H (.string a)/\gn wb X D k d (iO g s (a::l)).1 (m+1) (out++(iO g s (a::l)).2) w w1:=by
   intro e w1 r hr c;rw[hr] at c;rw[q,hr];obtain⟨rfl,t⟩:=c;refine⟨rfl,?_,gn.of hd t⟩
   obtain⟨S,am,_,W⟩:=t;rw[aS (W.fr.block b lb (λe=>e.elim (n b o rfl).1 (n b o rfl).2))];exact c0
  have N:∀{e:Mh}{w1:az},kK g s a l=O0->rG wb X D k d m out w.drew (kK g s a l) e w1->e=OV (.bool O4)/\V w1 (av b o)=H (.string a)/\M J 22 #[aq k,.slice (au (I (G w1))) 1 1] (w1.alloc (E #[.string (bs [119,104,97,116])] 9)) λe w'=>(∃v,e=OV v)/\gn wb X D k d (iO g s (a::l)).1 (m+1) (out++(iO g s (a::l)).2) w w':=by
   intro e w1 hr c;rw[hr] at c;rw[q,hr];obtain⟨rfl,hb⟩:=c;have hb:=hd.trans hb;refine⟨rfl,(hb.cell lb).trans c0,?_⟩
   have u:=hb.trans ((aw w1 (E #[.string (bs [119,104,97,116])] 9)).mono hb.size)
   have B:=h.below u;refine(rC B.t [bs [119,104,97,116]] _ 1 (gG.of (oT (aO w1 (E #[.string (bs [119,104,97,116])] 9)) (a4 _) rfl ae)) ae ae ae (by simp[txt,kl,bs,Lib.join];omega)).mono ?_;rintro e w' ⟨he,S,q1,ab⟩
   exact⟨he,gn.of u ((B.told q1 ab).more (jl _))⟩
  have F:=λar ag (ai:gG w.drew ar l)=>Oj (h.below hd) hg hm hs a l ar ag ai (by simp at hl;omega) (λx al=>hz x (by simp[al]))
  by_cases j:cp=1
  ·subst j;obtain rfl:l=[]:=List.length_eq_zero_iff.1 (by simpa using hc)
   have P:=F (H ⟨b,o,O0⟩) 0 (λhp=>absurd hp ac)
   cases hr:kK g s a [] with
   |some r=>exact Of a b o c0 (P.mono λe w1 c=>Y hr c)
   |none=>exact Oh a b o c0 (P.mono λe w1 c=>N hr c)
  ·have P:=F _ (cp-1) (λhp=>⟨b,o+1,rfl,lb,λi hi=>by
    have:=p (i+1) (by simp;omega)
    rw[show o+(i+1)=o+1+i by omega] at this
    simpa using this⟩)
   cases hr:kK g s a l with
   |some r=>exact Og a l.length b o cp c0 hc j (P.mono λe w1 c=>Y hr c)
   |none=>exact Oi a l.length b o cp c0 hc j (P.mono λe w1 c=>N hr c)
end
theorem cellsByte:prog.cellsOf 5=1:=ah
theorem Om {X:Nat->Prop}{a w:az}(h:Fr X a w){g:Nat}(hg:X g)(n:Nat):Fr X a (w.freeze ⟨g,0,O0⟩ n):=by
 by_cases hn:n=0
 ·subst hn;simpa[World.freeze] using h
 ·refine⟨?_,?_,?_,?_,λk hk b=>?_⟩
  ·simpa[World.freeze,hn] using h.os
  ·simpa[World.freeze,hn] using h.tape
  ·simpa[World.freeze,hn] using h.output
  ·simpa[World.freeze,hn] using h.size
  ·rw[<-h.block k hk b];have:k≠g:=λe=>b (e▸hg)
   simp only [World.freeze,if_neg hn,Array.getElem?_modify]
   grind
theorem On {X:Nat->Prop}{k d:Nat}{b:List UInt8}{w:az}(h:fO X k d b w):
 M J 17 #[bq (H ⟨k,1,O0⟩)] w λe w'=>e=OV (.string ⟨b.toArray⟩)/\Fr X w w':=by
 obtain⟨p,v,hk,hp,hrow,l,i,hX⟩:=h.mem;have S:prog.follows Departure.mixedOrders=C:=ah;have f:w.drew.heap[k]?=H (E #[aq d,p,v] 52 (0,0)):=hk;by_cases h0:b=[]
 ·subst h0;obtain rfl:=i rfl;have c1:V w.drew (av k 2)=H (.slice O0 0 0):=by rw[Lib.cell_of_heap f];rfl
  have n:(Builtin.unsafeString_ #[65,3] 9 #[bq O0,ak 0]).run J w.drew=.ok (.string .empty) w.drew:=ah;have o:=Lib.run_unsafeSliceData_nil (P:=J) (w:=w.drew) #[48] 65 0 0;clear h hk f hp hrow l i hX;go_enter func17,ntmps17;go_wp2
  go_region_o
  all_goals (go_wp2;go_ret;exact⟨rfl,Fr.drew (Fr.refl X w)⟩)
 ·have q:b.length≠0:=by simpa using h0
  have ho:=hrow;obtain⟨g,cap,c,rfl,W,hg,s,m,t,u⟩:∃g cap c,v=.slice (au g) b.length cap/\0<=g/\w.heap[g]?=H (E c 5 (0,0))/\b.length<=cap/\cap<=maxLen/\c.size=cap*1/\c.toList.take (b.length*1)=Lib.byteCells b:=by
   rcases ho.2 with⟨_,hz⟩|⟨g,cap,c,hv,r⟩
   ·exact absurd hz q
   ·exact⟨g,cap,c,hv,r⟩
  have c1:V w.drew (av k 2)=H (.slice (au g) b.length cap):=by rw[Lib.cell_of_heap f];rfl
  have o:(Builtin.unsafeSliceData_ #[48] 65 #[.slice (au g) b.length cap]).run J w.drew=.ok (aq g) w.drew:=Lib.run_unsafeSliceData_row _ _ _ _ _ _ aa;have n:(Builtin.unsafeString_ #[65,3] 9 #[aq g,ak b.length]).run J w.drew=.ok (.string ⟨b.toArray⟩) (w.drew.freeze ⟨g,0,O0⟩ b.length):=by
   refine Lib.run_unsafeString_row w.drew 65 3 9 5 underlying65 cellsByte g c.size (by have B:w.drew.heap[g]?=H (E c 5 (0,0)):=hg;simp[World.shape?,B]) b h0 aa (by unfold maxLen at m;omega) ?_;intro j x F;have:=hrow.cells (g:=g) rfl j (.int .u8 x.toNat) (by simp[Lib.byteCells,F])
   exact this
  have N:X g:=hX g rfl;clear h hk f hp hrow ho l i hX hg s m t u;go_enter func17,ntmps17;go_wp2
  go_region_o
  all_goals (go_wp2;go_ret;exact⟨rfl,Om (Fr.drew (Fr.refl X w)) N _⟩)
def p7 (s:ByteArray):Bool:=decide (0<=Lib.indexByte s.data.toList 10)
def n3:List ByteArray->Nat->Int×Int
 |[],_=>(0,0)
 |s::l,i=>if p7 s=C then(6,i) else n3 l (i+1)
def gL (l:List ByteArray):Int×Int:=n3 l 0
theorem Oo (L:List ByteArray){i:Nat}(hi:i<L.length):L.drop i=OZ L i .empty::L.drop (i+1):=by rw[aM,aP hi];exact List.drop_eq_getElem_cons hi
theorem Oq (s:ByteArray)(w:az):M J 20 #[.string s,.string ⟨#[10]⟩] w λe w'=>e=OV (bA (p7 s))/\w=w':=
 (Tryz.strings_Contains_one s 10 w).mono λ_ _ h=>⟨h.1,h.2.symm⟩
theorem DM {w:az}{b:Nat}{c:Array a7}{T:bI}(h:w.heap[b]?=H (E c T (0,0)))(o:Nat)(v:a7):(O8 w ⟨b,o,O0⟩ v).heap[b]?=H (E (c.setIfInBounds o v) T (0,0)):=by exact tC
theorem DN (L:List ByteArray)(ad:Option bB)(cp:Nat)(w:az)(g:gG w ad L)(hm:L.length<=300):
 M J 14 #[Z ad L.length cp] w λe w'=>e=OV (bz #[ak (gL L).1,ak (gL L).2])/\O (I (G w)) w w':=by
 have j:=aw w (E #[U OW 0,U OW 0] 33)
 have hn:=aO w (E #[U OW 0,U OW 0] 33)
 have o:=cg g;have c:=cU j hn;clear g j hn;have u:(L.length:Int)<=300:=aa;go_enter func14,ntmps14
 go_upto_region 4 with fail
 have q:aA (I (G w)=I (G w)):=rfl;generalize bu w (E #[U OW 0,U OW 0] 33)=w1 at*;have x:V w1 (av (I (G w)) 0)=H (ak 0):=jX c.o.2 rfl;have B:V w1 (av (I (G w)) 1)=H (ak 0):=jX c.o.2 rfl;have F:bF w1 (av (I (G w)) 0)=O4:=aE c.o.2
 have N:bF w1 (av (I (G w)) 1)=O4:=aE c.o.2
 have k:aA (∀a b:Int,V (O8 (O8 w1 ⟨I (G w),0,O0⟩ (U OW a)) ⟨I (G w),1,O0⟩ (U OW b)) (av (I (G w)) 0)=H (ak a)/\V (O8 (O8 w1 ⟨I (G w),0,O0⟩ (U OW a)) ⟨I (G w),1,O0⟩ (U OW b)) (av (I (G w)) 1)=H (ak b)/\O (I (G w)) w (O8 (O8 w1 ⟨I (G w),0,O0⟩ (U OW a)) ⟨I (G w),1,O0⟩ (U OW b))):=λa b=>by
  have l:=DM (DM c.o.2 0 (ak a)) 1 (ak b)
  exact⟨jX l rfl,jX l rfl,(c.o.1.setCell (p:=⟨I (G w),0,O0⟩) bY _).setCell (p:=⟨I (G w),1,O0⟩) bY _⟩
 clear q
 go_loopw [11] (λiv wr=>∃i:Nat,i<=L.length/\iv=ak i/\aA (gL L=n3 (L.drop i) i)/\w1=wr) (λiv _=>L.length-K (bG iv))
 exact⟨0,a4 _,rfl,rfl,rfl⟩
 ·
   obtain⟨i,hi,rfl,m,rfl⟩:=hrel;by_cases n:i<L.length
   ·have q0:(0:Int)<=(i:Int):=aa;have q1:(i:Int)<(L.length:Int):=aa;obtain⟨S,W,rfl,l0,hc⟩:=o.o aa;have y:=(c.o.1.cell l0).trans (hc i n)
    have f:=cg (show gL L=if p7 (OZ L i .empty)=C then(6,(i:Int)) else n3 (L.drop (i+1)) (i+1) by rw[m.o,Oo L n];rfl)
    generalize OZ L i .empty=s at*;have P:=Oq s w1;cases hb:p7 s
    ·rw[hb] at P f;have d:=cg (show gL L=n3 (L.drop (i+1)) (i+1) from f.o.trans (aJ ae))
     go_wp2_with (go_at_call 20;refine P.mono ?_;rintro e t ⟨rfl,rfl⟩)
     go_roundw;exact⟨i+1,aa,aj,d,trivial⟩
     simp[bG];omega
    ·rw[hb] at P f;have d:=cg (show gL L=(6,(i:Int)) from f.o.trans (aN rfl))
     have hs:=k.o 6 i;go_wp2_with (go_at_call 20;refine P.mono ?_;rintro e t ⟨rfl,rfl⟩)
     rw[d.o];refine a3 (v:=bz #[ak 6,ak i]) (by simp only [results,results14];simp[go_sem,hs.1,hs.2.1]) rfl ⟨rfl,hs.2.2⟩
   ·obtain rfl:i=L.length:=aa;have d:=cg (show gL L=(0,0) by rw[m.o,List.drop_length];rfl)
    have hs:=k.o 0 0;go_wp2_with fail;rw[d.o];refine a3 (v:=bz #[ak 0,ak 0]) (by simp only [results,results14];simp[go_sem,hs.1,hs.2.1]) rfl ⟨rfl,hs.2.2⟩
end Go.Proofs.YtjckpdepffejnaaGreatDoor
