import Derived.Test.YtpkjkjhanlbcoaaGreatJ10
import Derived.Lib.SliceRun
open Array renaming size->I
open Bool renaming false->K,true->Nc
open Go renaming Addr->bG,Calls->J,Value->bD
open Go.Ending renaming returned->M6
open Go.IntKind renaming i64->Q
open Go.Obj renaming cells->R
open Go.Proofs.Tryz renaming prog->O
open Go.RowKit renaming Below->C,intOf->bN
open Go.Value renaming bool->bK,int->U,ownBlock->Nh,pointer->bJ,slice->H,tuple->a8
open Go.World renaming cell?->V,heap->G,ownsRow->aC,setCell->ay
open Iff renaming rfl->iy
open Int renaming eq_ofNat_of_zero_le->bH,toNat->M,toNat_natCast->bI
open List renaming getD->M8,getElem?_append_right->lG,getElem?_drop->vb,getElem?_map->kg,length->L,length_cons->bZ,mem_append->bE,mem_cons->bT,mem_of_mem_take->kr,mem_singleton->bQ,replicate->A
open Nat renaming sub_self->Kg
open Option renaming none->Y,some->Z
namespace Go.Proofs.YtpkjkjhanlbcoaaGreat
set_option maxRecDepth 100000
set_option maxHeartbeats 4000000
open Tryz
open Go.RowKit W Kp cq
theorem uy {P:Prop}(h:P:=by
 rintro e w2 ⟨rfl,hA2,hs2⟩
 obtain⟨F2,h2,t2⟩:=hU w2 _ _ _ hA2 hs2;exact⟨F2,rfl,⟨h2,ea,uz,uA⟩,t2⟩):P:=h
theorem zQ {P:Prop}(h:P:=by
 obtain⟨j1,j2,cI⟩:=h1.ma _;refine⟨j1,h2.trans j2,fun i hi=>?_⟩
 by_cases e:i=n
 ·rw[e];exact cI
 ·exact j2.cY (h3 i aa)):P:=h
def dt (c:fI)(k0:cg)(s:cz)(vt b:bD):dC cg where
 J F k w:=(c7 c k vt b).J F s w/\k.a=k0.a/\k.Y=k0.Y/\k.G=k0.G
 lt:=fun h=>(c7 c _ vt b).lt h.1
 keep:=fun h hs hk=>⟨(c7 c _ vt b).keep h.1 hs hk,h.2⟩
def cg.h8 (k:cg)(s:cz)(a:Int):Nat->cg
 |0=>k
 |n+1=>(k.h8 s a n).iN (a+1+n) (k.nw s ((k.h8 s a n).ld (a+1+n)))
def cg.kw (k:cg)(s:cz)(a:Int):cg:=(k.brk s a).h8 s a (M (pf (k.ld a)))
theorem cg.kT {k k0:cg}(s:cz)(x:Int)(b:k.Y=k0.Y)(c:k.G=k0.G):k.nw s x=k0.nw s x:=by unfold cg.nw cg.jt cg.T;rw[b,c]
theorem uB (k:cg)(s:cz)(a:Int):(k.brk s a).a=k.a/\(k.brk s a).Y=k.Y/\(k.brk s a).G=k.G:=by
 unfold cg.brk;split
 ·split<;>exact⟨rfl,rfl,rfl⟩
 ·exact⟨rfl,rfl,rfl⟩
section
variable {c:fI}{k0 k:cg}{vt cy:bD}{F:Nat->Prop}{s:cz}{w:az}{bp:Nat}
theorem iO (h:(dt c k0 s vt cy).J F k w):V w (av c.pk 0)=Z (aq k0.a.pw)/\V w (av c.pk 3)=Z (.map (Z c.cu))/\V w (av k0.a.pw 0)=Z (aq k0.a.p)/\Mp w c.cu k0.T s.f/\At w k0.a.p k0.a.q k0.a.N k0.a.O k.s.y k.s.g k.s.ws:=by
 obtain⟨h,ea,e,f⟩:=h;obtain⟨b,_,_,g,_⟩:=eS h;obtain⟨d,c0,_⟩:=hJ h;obtain⟨hM,_⟩:=pP h;rw[ea] at b d c0;have i:k.T=k0.T:=by unfold cg.T;rw[e,f]
 rw[i] at hM;exact⟨b,g,c0,hM,d⟩
theorem G8 (h:(dt c k0 s vt cy).J F k w)(a:Int):Calls O 98 #[aq k0.a.p,ak a] w fun e w'=>e=M6 (ak (k.ld a))/\C (I (G w)) w w':=by
 have e:k.ld a=ld k0.a.N k.s.y k.s.g k.s.ws a:=by unfold cg.ld;rw[h.2.1]
 rw[e];exact ki a w (iO h).2.2.2.2
theorem zR (h:(dt c k0 s vt cy).J F k w)(x:Int):Calls O 156 #[aq c.pk,ak x] w fun e w'=>e=M6 (ak (k0.nw s x))/\C (I (G w)) w w':=by have P:=zC h.1 x;rw[cg.kT s x h.2.2.1 h.2.2.2] at P;exact P
theorem G9 (h:(dt c k0 s vt cy).J F k w)(a x:Int):Calls O 93 #[aq k0.a.p,ak a,ak x] w fun e w'=>∃b d,e=M6 (bK b)/\(dt c k0 s vt cy).J d (k.iN a x) w'/\ch F w d w':=by
 obtain⟨h,ea,f,g⟩:=h;obtain⟨i,j⟩:=oN h;rw[<-ea];refine(lW a x w i).mono ?_;rintro e l ⟨rfl,m,n⟩
 obtain⟨o,p,q⟩:=j l _ _ _ m n;exact⟨_,o,rfl,⟨p,ea,f,g⟩,q⟩
theorem G_ (h:(dt c k0 s vt cy).J F k w)(a:Int)(ha:0<=a/\a<=2000):Calls O 160 #[aq c.pk,ak a] w fun e w'=>∃b,e=M6 (a8 #[])/\(dt c k0 s vt cy).J b (k.brk s a) w'/\ch F w b w':=by
 refine(G7 h.1 a ha).mono ?_;rintro e m ⟨d,rfl,f,g⟩
 obtain⟨i,j,l⟩:=uB k s a;exact⟨d,rfl,⟨f,i.trans h.2.1,j.trans h.2.2.1,l.trans h.2.2.2⟩,g⟩
theorem Ha (h:(dp (dt c k0 s vt cy) bp (dx c)).J F k w)(a:Int)(ha:0<=a/\a<=2000)(m:Nat)(hm:m<=12):
 Calls O 159 #[ak a,ak (1+m),aq bp] w fun e w'=>∃ad,e=M6 (a8 #[])/\(dp (dt c k0 s vt cy) bp (dx c)).J ad ((k.brk s a).h8 s a m) w'/\ch F w ad w':=by
 have ag:aA (∀x,(k.brk s a).nw s x=k0.nw s x):=by obtain⟨_,a0,a1⟩:=uB k s a;obtain⟨_,⟨_,_,g2,g3⟩,_⟩:=h;exact fun x=>cg.kT s x (a0.trans g2) (a1.trans g3)
 obtain⟨bo,h0,f,lb,o⟩:=hK h;have P:=G_ h0 a ha;have q:=hide o;have t:V w (av bp 0)=Z (aq c.pk):=aD f
 generalize k.brk s a=k1 at P ag⊢;go_enter func159,ntmps159;go_wp2_with fail;refine P.mono ?_;rintro e w1 ⟨a2,rfl,a3,a4⟩
 obtain⟨ba,bb⟩:=q.o a2 _ w1 a3 a4;go_wp2_with fail
 go_loopw [5] (fun iv wr=>∃(j:Nat)(g:Nat->Prop),j<=m/\iv=ak (a+1+j)/\aA ((dp (dt c k0 s vt cy) bp (dx c)).J g (k1.h8 s a j) wr/\ch F w g wr)) (fun iv _=>m-M (bN iv-a-1))
 exact⟨0,_,a5 _,aj,⟨ba,bb⟩⟩
 ·
   obtain⟨j,g,br,rfl,d⟩:=hrel;by_cases bs:j<m
   ·obtain⟨ai,i,f,lb,o⟩:=hK d.o.1;have q:=hide o;have al:=c8 f lb;have u:=hide i;have t:V wr (av bp 0)=Z (aq c.pk):=aD f
    obtain⟨bt,_,c0,_,_⟩:=iO i;have am:=G8 ((dt c k0 s vt cy).below i (aH _ wr).drew) (a+1+j)
    have l:aA (k1.h8 s a (j+1)=(k1.h8 s a j).iN (a+1+j) (k0.nw s ((k1.h8 s a j).ld (a+1+j)))):=by show _=_;rw[<-ag.o];rfl
    generalize (k1.h8 s a j).ld (a+1+j)=x at am l;obtain⟨v,an⟩:∃v,k1.h8 s a (j+1)=v:=⟨_,rfl⟩
    rw[an] at l;have bd:=hide an;generalize k1.h8 s a j=ao at u d i l;go_wp2_with fail
    go_region_held3 (fun w'=>V w' (av bp 0)=Z (aq c.pk)/\V w' (av c.pk 0)=Z (aq k0.a.pw)/\V w' (av k0.a.pw 0)=Z (aq k0.a.p)) (go_keep)
     (first
       |(go_at_call 98;refine am.mono ?_;rintro e B ⟨rfl,be⟩;have N:C (I (G wr)) wr B:=((aH _ wr).drew).trans (be.mono ac);have ap:=(dt c k0 s vt cy).below u.o N;obtain⟨y1,_,bx,_,_⟩:=iO ap;have b0:=(N.cell (p:=av bp 0) al.o.2).trans t;have S:aA ((dt c k0 s vt cy).J ai ao B/\C (I (G wr)) wr B):=⟨ap,N⟩)
       |(go_at_call 156;refine(zR S.o.1 x).mono ?_;rintro e ar ⟨rfl,bg⟩;have W:=S.o.2.trans (bg.mono S.o.2.size);have aB:=(dt c k0 s vt cy).below u.o W;obtain⟨b1,_,b2,_,_⟩:=iO aB;have z0:=(W.cell (p:=av bp 0) al.o.2).trans t;have aF:aA ((dt c k0 s vt cy).J ai ao ar/\C (I (G wr)) wr ar):=⟨aB,W⟩)
       |(go_at_call 93;refine(G9 aF.o.1 (a+1+j) (k0.nw s x)).mono ?_;rintro e n ⟨b3,ab,rfl,aR,bi⟩;obtain⟨r1,_,b4,_,_⟩:=iO aR;obtain⟨aV,bl⟩:=q.o ab _ n aR ((ch.of aF.o.2).trans bi);have r0:V n (av bp 0)=Z (aq c.pk):=(by obtain⟨_,_,e6,_⟩:=aV;simp[World.cell?,e6]);have bn:aA ((dp (dt c k0 s vt cy) bp (dx c)).J (fun b=>ab b\/b=bp) v n/\ch F w (fun b=>ab b\/b=bp) n):=⟨(by rw[l.o];exact aV),d.o.2.trans bl⟩))
    go_wp2_with fail;go_roundw
    case rel=>exact⟨j+1,_,aa,aj,by rw[bd.o];exact bn⟩
    case measure=>simp[bN];omega
   ·obtain rfl:j=m:=aa;go_wp2_with fail;go_end0;exact⟨g,rfl,d.o.1,d.o.2⟩
end
def cg.gw (k:cg)(s:cz):Nat->cg
 |0=>k
 |n+1=>(k.gw s n).rC n (k.nw s (M8 (k.gw s n).s.rs n 0))
def cg.oO (k:cg)(s:cz)(l:List Int):cg:=ik (fun(_:cg) a=>s.f a) (fun k a=>k.kw s a) k l
def cg.cu (k:cg)(t:cz×List cf)(x:Int):Int×(cz×List cf):=((k.mp t.1 x).1,((k.mp t.1 x).2,t.2))
def cg.tS (k:cg)(t:cz×List cf)(r:List cf):cz×List cf:=fQ (dY cz) (fun s x=>k.al s.1 x) k.cu t r
def cg.tR (k:cg)(t:cz×List cf)(r:List cf):List cf:=e9 (dY cz) (fun s x=>k.al s.1 x) k.cu (fun s x=>k.nw s.1 x) t r
def cg.iP (k:cg)(t:cz×List cf)(r:List cf):List cf:=e_ (dY cz) (fun s x=>k.al s.1 x) k.cu (fun s x=>k.nw s.1 x) t r
theorem Hb:dV 159:=gM func159 ah rfl
section
variable {c:fI}{k0 k:cg}{vt cy vr:bD}{F:Nat->Prop}{s:cz}{w:az}{bp:Nat}
theorem Hc (h:(dt c k0 s vt cy).J F k w)(i:Nat)(x:Int):∃b,(dt c k0 s vt cy).J b (k.rC i x) (ay w ⟨k0.a.nb,i,Y⟩ (U Q x))/\ch F w b (ay w ⟨k0.a.nb,i,Y⟩ (U Q x)):=by obtain⟨h,ea,f,g⟩:=h;obtain⟨b,d,e⟩:=G6 h i x;rw[ea] at d e;exact⟨b,⟨d,ea,f,g⟩,e⟩
theorem uC (h:(dt c k0 s vt cy).J F k w):V w (av k0.a.pw 3)=Z (H (au k0.a.nb) 12 12)/\∀i,i<12->V w (av k0.a.nb i)=Z (ak (M8 k.s.rs i 0))/\w.frozen? (av k0.a.nb i)=K:=by obtain⟨h,ea,d,e⟩:=h;obtain⟨_,b,_⟩:=pT h;obtain⟨_,_,_,c3,_,_,_,rt⟩:=kt b;rw[ea] at c3 rt;exact⟨c3,rt⟩
theorem Hd (h:(dp (dt c k0 s vt cy) bp (dx c)).J F k w)(ht:L k0.T<=4000)(hp:∀a∈k0.T,0<=a/\a<=2000){ad:Option bG}{g B:Nat}(hr:aC w B 3 1 (H ad (L k0.T) g) (L k0.T) (k0.T.map (Value.int Q)))(hB:∀b,F b->b<B):
 Calls O 157 #[aq c.pk,H ad (L k0.T) g,.func (.func 159) #[] #[aq bp]] w fun e w'=>∃f,e=M6 (a8 #[])/\(dp (dt c k0 s vt cy) bp (dx c)).J f (k.oO s k0.T) w'/\ch F w f w':=by
 have E:=zO _ (fun(_:cg) a=>s.f a) (fun k a=>pf (k.ld a)) (fun k a=>k.kw s a) (fun _ _=>True) k0.T c.pk k0.a.pw k0.a.p c.cu 159 #[bJ _] Hb k0.T ad g F k w
  (by
    rintro F t l a n;obtain⟨_,d,_⟩:=hK n;obtain⟨c0,c3,c5,hM,o⟩:=iO d;refine⟨c0,c3,c5,hM,(gO a l o).mono ?_⟩
    rintro r w' ⟨rfl,hb⟩
    have p:pf (t.ld a)=pf (ld k0.a.N t.s.y t.s.g t.s.ws a):=by unfold cg.ld;rw[d.2.1]
    exact⟨pk _,pc _,by rw[p],hb⟩)
  (fun t a=>dv _) (fun a ha=>⟨by have:=hp a ha;omega,ha⟩) aa
  (by
    rintro j F t l m _ q _;have hm:M8 k0.T j 0∈k0.T:=by rw[aL,aN m];exact a9 m
    have d:=hp _ hm;have i:=dv (t.ld (M8 k0.T j 0))
    have P:=Ha q _ d (M (pf (t.ld (M8 k0.T j 0)))) aa;rw[show((M (pf (t.ld (M8 k0.T j 0))):Nat):Int)=pf (t.ld (M8 k0.T j 0)) from by omega] at P;exact P)
  (fun _ _ _ _=>trivial) trivial h (hZ hr)
  (fun u z e hz=>by obtain⟨b,cap,v⟩:=eW hr u;cases v;cases e;have i:=(cv hr b rfl).1;have:=hB b hz;omega)
 refine E.mono ?_;rintro r w' ⟨f,rfl,d,i,_⟩
 exact⟨f,rfl,d,i⟩
theorem He {o:Option bG}{p:Nat}{r:List cf}(B:vr=H o (L r) p){t:cz×List cf}(h:(di (dZ c k) c.bs vr).J F t w)(hr:aC w 0 103 2 vr (L r) (ev r))(hq:L t.2+L r<=90000)(bx f:Nat)(N:bx≠f)(S:w.heap[bx]?=Z (dx c))(hy:w.heap[f]?=Z (jY (kR c)))(hn:¬F bx)(hm:¬F f):
 Calls O 78 #[aq c.bs,.agg #[(js bx).v,(iM f).v,(jP c).v]] w fun e w'=>∃a1 c1 n,e=M6 (a8 #[])/\(di (dZ c k) c.bs (H a1 (L (k.tR t r)) c1)).J n ((k.tS t r).1,k.iP t r) w'/\
  aC w' 0 103 2 (H a1 (L (k.tR t r)) c1) (L (k.tR t r)) (ev (k.tR t r))/\(∀b,Z b=Nh (Value.slice a1 (L (k.tR t r)) c1)->¬n b/\I (G w)<=b)/\Fr (fun b=>F b\/b=f\/b=bx) w w'/\(∀b,n b->F b\/I (G w)<=b):=by
 subst B;refine(qS _ (fun _=>True) (js bx) (iM f) (jP c) _ _ _ (qT _ c.bs _ (fun _=>True) (js bx) (iM f) (jP c) k.al k.mp k.nw uq ur ut (uw bx f (kR c)) (ub (zE f)) (mL (mL uv))) r o p rfl aa (fun _ _=>⟨trivial,trivial⟩) _ t w (fun _ _=>⟨trivial,trivial⟩) hq (kL (kL h hy hm) S (fun d=>d.elim hn N)) (it hr)).mono ?_;rintro e w' ⟨a1,c1,a2,c2,W,aR,rfl,⟨q,ad,cap,⟨fT,⟨g,g1,aV,ab,s⟩,g2,g3,g4⟩,a0,a3,ag,a4,ai,ba,bb⟩,q3,al,i,j,l,am,an,ao,ap,ar⟩
 have i:w'.heap[c.bs]?=Z (R #[H a1 (L (k.tR t r)) c1,H a2 (L (k.iP t r)) c2] 153 (0,0)):=i;have j:=j;have l:=l;have u:∀b,g b->q b:=fun b hb=>(g4 b).2 (aM ((s b).2 (aM hb)))
 have m:∀b,g b->W b:=fun b hb=>ag b (u b hb)
 have v:∀b,g b->b≠c.bs:=fun b hb e=>ai (by show q c.bs;rw[<-e];exact u b hb)
 have x:=(dZ c k).keep (w':=w') g1 al (fun b hb=>q3 b (m b hb) (v b hb))
 have aB:F c.bs:=by obtain⟨_,_,_,_,_,_,_,aF,_⟩:=h;exact aF
 refine⟨a1,c1,fun b=>g b\/b=c.bs\/Z b=Nh (Value.slice a2 (L (k.iP t r)) c2),rfl,⟨g,a2,c2,x,i,fq l (fun _ _=>a5 _),fun b hb=>aM hb,aK (aM rfl),fun d=>v _ d rfl,fun b e=>⟨aK (aK e),fun d=>ap b e (m b d)⟩,fun b hb=>?_⟩,fq j (fun _ _=>a5 _),fun b e=>⟨fun d=>?_,(cv j b e).1⟩,am.mono (fun b d=>?_),fun b hb=>?_⟩
 ·rcases hb with hb|hb|hb
  ·exact(dZ c k).lt x b hb
  ·rw[hb];exact lt_of_some i
  ·exact(cv l b hb).2
 ·rcases d with d|d|d
  ·exact ao b e (m b d)
  ·obtain⟨bd,hc⟩:=fF j b e;rw[d,i] at hc;simp at hc
  ·exact ar b e d
 ·rcases d with(d|d)|d
  ·exact aM d
  ·exact aK (aM d)
  ·exact aK (aK d)
 ·rcases hb with hb|hb|hb
  ·rcases an b (m b hb) with((d|d)|d)|d
   ·exact aM d
   ·exact absurd hb (by rw[d];exact ab)
   ·exact absurd ((s b).2 (aM hb)) (by rw[d];exact g3)
   ·exact aK d
  ·exact aM (by rw[hb];exact aB)
  ·exact aK (cv l b hb).1
end
def cg.fD (k:cg)(s:cz):cg:=(k.gw s 12).oO s k.T
section
variable {c:fI}{k0 k:cg}{vt cy vr:bD}{F:Nat->Prop}{s:cz}{w:az}{bp:Nat}
theorem c9.of {k k0:cg}(h:c9 k0 s)(b:k.Y=k0.Y)(c:k.G=k0.G):c9 k s:=by
 have e:k.T=k0.T:=by unfold cg.T;rw[b,c]
 exact⟨by rw[e];exact h.nd,by rw[e];exact h.ps,by rw[e];exact h.td,by rw[e];exact h.ep,by rw[e];exact h.tl,by unfold cg.lost;rw[e];exact h.sum⟩
theorem zS (h:(dt c k0 s vt cy).J F k w):k0.a.nb≠c.pk/\k0.a.nb≠k0.a.pw/\F k0.a.nb:=by
 obtain⟨⟨i,own,h,j⟩,ea,_⟩:=h;have hw:=h.wd;rw[<-ea];have f:=h.w1;obtain⟨m,cU,b,l⟩:=hw;have g:i k.a.nb:=(l _).2 (by rw[b.r1];decide)
 refine⟨fun e=>?_,fun e=>?_,(j _).2 (by rw[(f _).1 g];decide)⟩
 ·have d:=(f _).1 g;rw[e,h.k1] at d;omega
 ·have d:=b.r1;rw[e,b.w1] at d;omega
theorem Hf {cX:Option bG}{cY:Nat}{r:List cf}(cZ:vr=H cX (L r) cY){t:cz×List cf}(h:(di (dZ c k) c.bs vr).J F t w)(hr:aC w 0 103 2 vr (L r) (ev r))(c2:∀b,Z b=Nh vr->¬F b)(hq:L t.2+L r<=90000){v1 v2:bD}(hs:w.heap[k.a.sd]?=Z (R #[v1,v2] 153 (0,0)))(cu:¬F k.a.sd):
 Calls O 83 #[aq c.pk] w fun e w'=>∃a1 c1 o,e=M6 (a8 #[])/\(di (dZ c (k.fD t.1)) c.bs (H a1 (L ((k.fD t.1).tR t r)) c1)).J o (((k.fD t.1).tS t r).1,(k.fD t.1).iP t r) w'/\aC w' 0 103 2 (H a1 (L ((k.fD t.1).tR t r)) c1) (L ((k.fD t.1).tR t r)) (ev ((k.fD t.1).tR t r))/\(∀b,Z b=Nh (Value.slice a1 (L ((k.fD t.1).tR t r)) c1)->¬o b/\I (G w)<=b)/\w'.heap[k.a.sd]?=w'.heap[c.bs]?/\¬o k.a.sd/\Fr (fun b=>F b\/b=k.a.sd) w w'/\(∀b,o b->F b\/I (G w)<=b):=by
 have dH:∀(cw:Fn)(first cap:Array bD)(w:az),(Instr.makeFunc cw first cap).run O w=.ok (.func cw first cap) w:=fun _ _ _ _=>rfl;obtain⟨S,⟨⟨vt,cy,h0⟩,cx⟩,cA⟩:=jB h;have b3:aA (c9 k t.1):=cx;have c4:=aw w (dx c)
 have c5:∀b,S b->b<I (G w):=(c7 c k vt cy).lt h0;have b4:(dp (dt c k t.1 vt cy) (I (G w)) (dx c)).J (fun b=>S b\/b=I (G w)) k (w.alloc (dx c)):=⟨S,⟨(c7 c k vt cy).below h0 c4,rfl,rfl,rfl⟩,aP _ _,fun f=>by have:=c5 _ f;omega,fun b=>iy⟩
 obtain⟨_,b5,W,_,_⟩:=hK b4;obtain⟨a4,_,c0,_,_⟩:=iO b5;obtain⟨c3,_⟩:=uC b5;have am:V (w.alloc (dx c)) (av (I (G w)) 0)=Z (aq c.pk):=by simp only [World.cell?];rw[W];rfl
 clear b5 W cx;go_enter func83,ntmps83;go_wp2_with fail
 go_loopw [12] (fun iv wr=>∃(j:Nat)(ab:Nat->Prop),j<=12/\iv=ak j/\aA ((dp (dt c k t.1 vt cy) (I (G w)) (dx c)).J ab (k.gw t.1 j) wr/\ch (fun b=>S b\/b=I (G w)) (w.alloc (dx c)) ab wr)) (fun iv _=>12-M (bN iv))
 case atStart=>exact⟨0,_,a5 _,rfl,⟨b4,ch.refl _ _⟩⟩
 case round=>
  clear b4 am a4 c0 c3;obtain⟨j,ab,dI,rfl,N⟩:=hrel;obtain⟨ba,u,W,lb,b6⟩:=hK N.o.1;have am:V wr (av (I (G w)) 0)=Z (aq c.pk):=aD W
  obtain⟨a4,_,c0,_,_⟩:=iO u;obtain⟨c3,rt⟩:=uC u;by_cases ca:j<12
  ·have cB:aA (∀bb bd w1,(dt c k t.1 vt cy).J bb bd w1->ch ba wr bb w1->(dp (dt c k t.1 vt cy) (I (G w)) (dx c)).J (fun b=>bb b\/b=I (G w)) bd w1/\ch ab wr (fun b=>bb b\/b=I (G w)) w1):=b6;have v:aA (wr.heap[I (G w)]?=Z (dx c)/\I (G w)<I (G wr)/\(dt c k t.1 vt cy).J ba (k.gw t.1 j) wr):=⟨W,lb,u⟩
   obtain⟨n1,dJ,c6⟩:=zS u;have n4:k.a.nb≠I (G w):=fun e=>by obtain⟨ad,g1,_,g3,_⟩:=N.o.1;exact g3 (by rw[<-e];exact(zS g1).2.2)
   obtain⟨cC,c8⟩:=rt j ca;have cb:=zR ((dt c k t.1 vt cy).below u (aH _ wr).drew) (M8 (k.gw t.1 j).s.rs j 0)
   have be:aA (k.gw t.1 (j+1)=(k.gw t.1 j).rC j (k.nw t.1 (M8 (k.gw t.1 j).s.rs j 0))):=rfl;obtain⟨bg,cc⟩:∃bg,k.gw t.1 (j+1)=bg:=⟨_,rfl⟩
   rw[cc] at be;have da:aA (k.gw t.1 (j+1)=bg):=cc;clear cc u W lb b6 rt c6;generalize M8 (k.gw t.1 j).s.rs j 0=x at cb be cC;generalize k.gw t.1 j=cD at be v N;have j0:(0:Int)<=(j:Int):=aa;have dK:(j:Int)<12:=aa;go_wp2_with fail
   go_region_held3 (fun w'=>V w' (av (I (G w)) 0)=Z (aq c.pk)/\V w' (av c.pk 0)=Z (aq k.a.pw)/\V w' (av k.a.pw 3)=Z (H (au k.a.nb) 12 12)) (go_keep)
    (first
      |(go_at_call 156;refine cb.mono ?_;clear cb;rintro e g ⟨rfl,cE⟩;have bi:C (I (G wr)) wr g:=((aH _ wr).drew).trans (cE.mono ac);have ag:=(dt c k t.1 vt cy).below v.o.2.2 bi;obtain⟨y1,_,_,_,_⟩:=iO ag;obtain⟨db,cF⟩:=uC ag;obtain⟨dc,dd⟩:=cF j ca;have cd:=(bi.cell (p:=av (I (G w)) 0) v.o.2.1).trans am;have i:aA ((dt c k t.1 vt cy).J ba cD g/\C (I (G wr)) wr g):=⟨ag,bi⟩;clear cE bi ag cF))
   have B:aA (∃ad,(dp (dt c k t.1 vt cy) (I (G w)) (dx c)).J ad bg (ay g ⟨k.a.nb,j,Y⟩ (U Q (k.nw t.1 x)))/\ch (fun b=>S b\/b=I (G w)) (w.alloc (dx c)) ad (ay g ⟨k.a.nb,j,Y⟩ (U Q (k.nw t.1 x)))):=by
    obtain⟨ad,de,df⟩:=Hc i.o.1 j (k.nw t.1 x)
    obtain⟨dN,ce⟩:=cB.o ad _ _ de ((ch.of i.o.2).trans df)
    exact⟨_,by rw[be.o];exact dN,N.o.2.trans ce⟩
   clear i cB v N cd y1 db dc dd am a4 c0 c3 cC c8;go_wp2_with fail;go_roundw
   case rel=>
    obtain⟨ad,dN,ce⟩:=B.o;exact⟨j+1,ad,aa,aj,by rw[da.o];exact⟨dN,ce⟩⟩
   case measure=>simp[bN];omega
  ·obtain rfl:j=12:=aa;clear ca rt b6;have ci:aA (L k.T<=4000/\∀a∈k.T,0<=a/\a<=2000):=⟨b3.o.tl,b3.o.ps⟩
   have hd:=(ax wr).drew;have cG:Calls O 141 #[aq c.pk] wr.drew fun e w'=>∃a f,e=M6 (H a (L k.T) f)/\aC w' (I (G wr.drew)) 3 1 (H a (L k.T) f) (L k.T) (k.T.map (Value.int Q))/\C (I (G wr.drew)) wr.drew w':=by
    have e:(k.gw t.1 12).T=k.T:=by unfold cg.T;rw[u.2.2.1,u.2.2.2]
    have P:=zN (c:=c) (k:=k.gw t.1 12) (F:=ba) (s:=t.1) (w:=wr.drew) ⟨vt,cy,(c7 c _ vt cy).below u.1 hd⟩ (by rw[e];exact ci.o.1)
    rw[e] at P;exact P
   have v:aA (I (G w)<I (G wr)/\(dp (dt c k t.1 vt cy) (I (G w)) (dx c)).J ab (k.gw t.1 12) wr.drew/\ch (fun b=>S b\/b=I (G w)) (w.alloc (dx c)) ab wr.drew/\∀b,ab b->b<I (G wr.drew)):=⟨lb,(dp (dt c k t.1 vt cy) (I (G w)) (dx c)).below N.o.1 hd,N.o.2.below hd,fun b hb=>by have:=(dp (dt c k t.1 vt cy) (I (G w)) (dx c)).lt N.o.1 b hb;simpa using this⟩
   have bl:aA (k.fD t.1=(k.gw t.1 12).oO t.1 k.T):=rfl;obtain⟨d,cj⟩:∃d,k.fD t.1=d:=⟨_,rfl⟩
   rw[cj] at bl;have dg:aA (k.fD t.1=d):=cj;clear cj;generalize k.gw t.1 12=cD at bl v N u;clear u W lb hd N a4 c0 c3;go_wp2_with fail
   go_region_held3 (fun w'=>V w' (av (I (G w)) 0)=Z (aq c.pk)) (go_keep)
    (first
      |(go_at_call 141;refine cG.mono ?_;clear cG;rintro e ck ⟨dh,dj,rfl,cH,cl⟩;have cd:V ck (av (I (G w)) 0)=Z (aq c.pk):=(cl.cell (p:=av (I (G w)) 0) (by have:=v.o.1;simpa using this)).trans am;have bn:aA (aC ck (I (G wr.drew)) 3 1 (H dh (L k.T) dj) (L k.T) (k.T.map (Value.int Q))/\C (I (G wr.drew)) wr.drew ck):=⟨cH,cl⟩;clear cH cl)
      |(go_at_call 157;refine(Hd ((dp (dt c k t.1 vt cy) (I (G w)) (dx c)).below v.o.2.1 bn.o.2) ci.o.1 ci.o.2 bn.o.1 v.o.2.2.2).mono ?_;rintro e g ⟨bo,rfl,cm,cI⟩;obtain⟨cJ,an,q,_,_⟩:=hK cm;have cK:V g (av (I (G w)) 0)=Z (aq c.pk):=aD q;clear an q;have cL:aA ((dp (dt c k t.1 vt cy) (I (G w)) (dx c)).J bo d g/\ch (fun b=>S b\/b=I (G w)) (w.alloc (dx c)) bo g):=⟨(by rw[bl.o];exact cm),(v.o.2.2.1.below bn.o.2).trans cI⟩;clear cm cI))
   all_goals
    have bp:aA (∃n,(di (dZ c d) c.bs vr).J n (t.1,t.2) g/\¬n (I (G w))/\g.heap[I (G w)]?=Z (dx c)/\Fr F w g/\(∀b,n b->F b\/I (G w)<=b))/\d.a=k.a:=by
     obtain⟨cJ,an,q,dk,dl⟩:=cL.o.1;have cN:=cL.o.2;have dm:ch S w bo g:=⟨(Fr.of (X:=S) (aw w (dx c))).trans cN.fr (fun b f=>f.imp id (fun e=>by omega)),fun b hb=>(cN.sub b hb).elim (fun f=>f.imp id (fun e=>by omega)) (fun f=>aK (by simp at f;omega))⟩
     obtain⟨n,hM,cO⟩:=cA (dp (dZ c d) (I (G w)) (dx c)) bo t.1 g ⟨cJ,⟨⟨vt,cy,an.1⟩,b3.o.of an.2.2.1 an.2.2.2⟩,q,dk,dl⟩ dm;obtain⟨g1,g2,g3⟩:=rf hM;exact⟨⟨_,g1,fun f=>f.2 rfl,g2,cO.fr,fun b f=>cO.sub b f.1⟩,an.2.1⟩
    obtain⟨bp,dn⟩:=bp;obtain⟨n,hM,cP,cn,br,co⟩:=bp.o;have cQ:aC g 0 103 2 vr (L r) (ev r):=cM hr (fun b e=>br.block b (cv hr b e).2 (c2 b e))
    have cR:g.heap[k.a.sd]?=Z (R #[v1,v2] 153 (0,0)):=(br.block _ (lt_of_some hs) cu).trans hs;have cS:∀b,n b->b<I (G g):=(di (dZ c d) c.bs vr).lt hM;obtain⟨_,⟨⟨dL,dM,ag⟩,_⟩,_⟩:=jB hM;obtain⟨_,_,_,_,cp,_⟩:=eS ag;have cT:=aT g _ cp;have cU:=lt_of_some cn;have ao:¬n k.a.sd/\k.a.sd<I (G w):=⟨fun f=>(co _ f).elim cu (fun f=>by have:=lt_of_some hs;omega),lt_of_some hs⟩
    have i:aA ((di (dZ c d) c.bs vr).J n (t.1,t.2) g/\aC g 0 103 2 vr (L r) (ev r)/\g.heap[k.a.sd]?=Z (R #[v1,v2] 153 (0,0))/\(∀b,n b->b<I (G g))/\¬n (I (G w))/\I (G w)<I (G g)/\(¬n k.a.sd/\k.a.sd<I (G w))/\c.pk<I (G g)/\g.heap[I (G w)]?=Z (dx c)):=⟨hM,cQ,cR,cS,cP,cU,ao,cT,cn⟩
    have bs:aA (Fr F w g/\∀b,n b->F b\/I (G w)<=b):=⟨br,co⟩
    have dq:aA (∀m,C (I (G g)) g m->m.heap[I (G g)]?=Z (dx c)->m.heap[I (G g)+1]?=Z (jY (kR c))->Calls O 78 #[aq c.bs,.agg #[(js (I (G g))).v,(iM (I (G g)+1)).v,(jP c).v]] m fun e w'=>∃a1 c1 o,e=M6 (a8 #[])/\(di (dZ c d) c.bs (H a1 (L (d.tR t r)) c1)).J o ((d.tS t r).1,d.iP t r) w'/\aC w' 0 103 2 (H a1 (L (d.tR t r)) c1) (L (d.tR t r)) (ev (d.tR t r))/\(∀b,Z b=Nh (Value.slice a1 (L (d.tR t r)) c1)->¬o b/\I (G m)<=b)/\Fr (fun b=>n b\/b=I (G g)+1\/b=I (G g)) m w'/\(∀b,o b->n b\/I (G m)<=b)):=fun m aB bt bx=>
     He cZ ((di (dZ c d) c.bs vr).below i.o.1 aB) (cM i.o.2.1 (fun b e=>aB.block b (cv i.o.2.1 b e).2)) hq (I (G g)) (I (G g)+1) aa bt bx (fun f=>by have:=i.o.2.2.2.1 _ f;omega) (fun f=>by have:=i.o.2.2.2.1 _ f;omega)
    clear cd am bn v bl hM cQ cR cS cP cU ao cT cn br co ag bp cA h0 hr hs h;go_wp2_with fail
    go_region_held3 (fun w'=>V w' (av (I (G w)) 0)=Z (aq c.pk)/\V w' (av c.pk 4)=Z (aq c.bs)) (go_keep)
     (first
       |(go_at_call 79;refine(uu (kR c) g.drew c.pk).mono ?_;rintro e m ⟨rfl,bt,bx,aB⟩;have b0:C (I (G g)) g m:=((aH _ g).drew).trans (aB.mono ac);have cq:=(b0.cell (p:=av c.pk 4) i.o.2.2.2.2.2.2.2.1).trans cp;have cr:=(b0.cell (p:=av (I (G w)) 0) i.o.2.2.2.2.2.1).trans cK;have B:aA (m.heap[I (G g)]?=Z (dx c)/\m.heap[I (G g)+1]?=Z (jY (kR c))/\C (I (G g)) g m):=⟨bt,bx,b0⟩;clear bt bx aB b0)
       |(go_at_call 78;refine(dq.o m B.o.2.2 B.o.1 B.o.2.1).mono ?_;rintro e l ⟨a1,c1,ap,rfl,q,aF,ar,aR,aV⟩;obtain⟨_,⟨⟨dr,ds,cs⟩,_⟩,_⟩:=jB q;obtain⟨u0,_,_,_,du,_⟩:=eS cs;have dv:V l (av (I (G w)) 0)=Z (aq c.pk):=(by have ct:=B.o.2.2.block (I (G w)) i.o.2.2.2.2.2.1;have e6:=aR.block (I (G w)) (by have:=B.o.2.2.size;have:=i.o.2.2.2.2.2.1;omega) (fun f=>by rcases f with f|f|f;(exact i.o.2.2.2.2.1 f);(have:=i.o.2.2.2.2.2.1;omega);(have:=i.o.2.2.2.2.2.1;omega));simp[World.cell?,e6,ct,i.o.2.2.2.2.2.2.2.2]);have b2:aA ((di (dZ c d) c.bs (H a1 (L (d.tR t r)) c1)).J ap ((d.tS t r).1,d.iP t r) l/\aC l 0 103 2 (H a1 (L (d.tR t r)) c1) (L (d.tR t r)) (ev (d.tR t r))/\(∀b,Z b=Nh (Value.slice a1 (L (d.tR t r)) c1)->¬ap b/\I (G m)<=b)/\Fr (fun b=>n b\/b=I (G g)+1\/b=I (G g)) m l/\(∀b,ap b->n b\/I (G m)<=b)/\(c7 c d dr ds).J _ (d.tS t r).1 l):=⟨q,aF,ar,aR,aV,cs⟩;clear q aF ar aR aV cs))
    all_goals
     clear cq cr cK cp;have a0:aA (l.heap[k.a.sd]?=Z (R #[v1,v2] 153 (0,0))):=by have l1:=i.o.2.2.2.2.2.2.1;have l2:=i.o.2.2.2.2.2.1;have dw:=B.o.2.2.size;exact((b2.o.2.2.2.1.block k.a.sd aa (fun f=>by rcases f with f|f|f;(exact l1.1 f);omega;omega)).trans (B.o.2.2.block k.a.sd aa)).trans i.o.2.2.1
     obtain⟨_,cV,_⟩:=pT b2.o.2.2.2.2.2;obtain⟨_,_,cW,_⟩:=kt cV;rw[dn] at cW u0;obtain⟨dO,ai,al,_,a2,_⟩:=b2.o.1;have dy:V l (av c.bs 0)=Z (H a1 (L (d.tR t r)) c1):=aD a2
     have b1:V l (av c.bs 1)=Z (H ai (L (d.iP t r)) al):=aD a2
     have s0:V l (av k.a.sd 0)=Z v1:=aD a0.o
     have s1:V l (av k.a.sd 1)=Z v2:=aD a0.o
     have t0:l.frozen? (av k.a.sd 0)=K:=aE a0.o
     have bd:l.frozen? (av k.a.sd 1)=K:=aE a0.o
     have dz:aA (∃o,(di (dZ c d) c.bs (H a1 (L (d.tR t r)) c1)).J o ((d.tS t r).1,d.iP t r) (ay (ay l ⟨k.a.sd,0,Y⟩ (H a1 (L (d.tR t r)) c1)) ⟨k.a.sd,1,Y⟩ (H ai (L (d.iP t r)) al)).drew/\aC (ay (ay l ⟨k.a.sd,0,Y⟩ (H a1 (L (d.tR t r)) c1)) ⟨k.a.sd,1,Y⟩ (H ai (L (d.iP t r)) al)).drew 0 103 2 (H a1 (L (d.tR t r)) c1) (L (d.tR t r)) (ev (d.tR t r))/\(∀b,Z b=Nh (Value.slice a1 (L (d.tR t r)) c1)->¬o b/\I (G w)<=b)/\(ay (ay l ⟨k.a.sd,0,Y⟩ (H a1 (L (d.tR t r)) c1)) ⟨k.a.sd,1,Y⟩ (H ai (L (d.iP t r)) al)).drew.heap[k.a.sd]?=(ay (ay l ⟨k.a.sd,0,Y⟩ (H a1 (L (d.tR t r)) c1)) ⟨k.a.sd,1,Y⟩ (H ai (L (d.iP t r)) al)).drew.heap[c.bs]?/\¬o k.a.sd/\Fr (fun b=>F b\/b=k.a.sd) w (ay (ay l ⟨k.a.sd,0,Y⟩ (H a1 (L (d.tR t r)) c1)) ⟨k.a.sd,1,Y⟩ (H ai (L (d.iP t r)) al)).drew/\(∀b,o b->F b\/I (G w)<=b)):=by
      have l1:=i.o.2.2.2.2.2.2.1;have l2:=i.o.2.2.2.2.2.1;have dw:=B.o.2.2.size;obtain⟨q,aF,ar,aR,aV,_⟩:=b2.o;have ao:¬ap k.a.sd:=fun f=>(aV _ f).elim l1.1 (fun f=>by omega)
      have a3:Fr (fun b=>b=k.a.sd) l (ay (ay l ⟨k.a.sd,0,Y⟩ (H a1 (L (d.tR t r)) c1)) ⟨k.a.sd,1,Y⟩ (H ai (L (d.iP t r)) al)).drew:=(((Fr.refl (fun b=>b=k.a.sd) l).set k.a.sd 0 _ rfl).set k.a.sd 1 _ rfl).drew;have dA:ap c.bs:=by obtain⟨_,_,_,_,_,_,_,ct,_⟩:=q;exact ct
      have dB:Fr F w l:=(bs.o.1.trans (Fr.of (X:=F) B.o.2.2) (fun b f=>aM f)).trans aR (fun b f=>by
       have:=bs.o.1.size;rcases f with f|f|f
       ·exact bs.o.2 b f
       ·exact aK aa
       ·exact aK aa)
      refine⟨ap,(di (dZ c d) c.bs _).keep q a3.size (fun b hb=>a3.block b ((di (dZ c d) c.bs _).lt q b hb) (fun e=>ao (by rw[<-e];exact hb))),cM aF (fun b e=>a3.block b (cv aF b e).2 (fun dP=>by have:=(ar b e).2;omega)),fun b e=>⟨(ar b e).1,by have:=(ar b e).2;omega⟩,?_,ao,(dB.mono (fun b f=>aM f)).trans a3 (fun b e=>aM (aK e)),fun b hb=>(aV b hb).elim (bs.o.2 b) (fun f=>aK aa)⟩
      rw[a3.block c.bs (lt_of_some a2) (fun e=>ao (by rw[<-e];exact dA)),a2];show((l.setCell _ _).setCell _ _).heap[k.a.sd]?=_;simp only [World.setCell,Array.getElem?_modify,if_true,a0.o,Option.map_some];simp
     clear cV a2;go_wp2_with fail
     go_region
     clear dy b1 s0 s1 t0 bd cW u0 du dv;obtain⟨o,dC,dD,dE,cq,cr,dF,dG⟩:=dz.o;go_end0;rw[dg.o];exact⟨a1,c1,o,rfl,dC,dD,dE,cq,cr,dF,dG⟩
end
def cg.l9 (k:cg)(t f n:Nat):cg:=k.ar k.s.y k.s.g (splice k.s.ws t ((k.s.ws.drop f).take n))
def cg.cop (k:cg)(a:Int):cg:=k.ar k.s.y (km k.a.N k.a.O k.s.y k.s.g k.s.ws a) (kn k.a.N k.a.O k.s.y k.s.g k.s.ws a)
section
variable {c:fI}{k0 k:cg}{vt cy:bD}{F:Nat->Prop}{s:cz}{w:az}{bp gF:Nat}
theorem Hg (h:(dt c k0 s vt cy).J F k w)(t f n:Nat)(d:t+n<=k0.a.N+k0.a.O)(h2:f+n<=k0.a.N+k0.a.O):Calls prog 162 #[aq k0.a.p,ak t,ak f,ak n] w fun e w'=>∃b,e=M6 (a8 #[])/\(dt c k0 s vt cy).J b (k.l9 t f n) w'/\ch F w b w':=by obtain⟨h,ea,uz,uA⟩:=h;obtain⟨g,hU⟩:=oN h;rw[<-ea];refine(xP t f n w g (by rw[ea];exact d) (by rw[ea];exact h2)).mono ?_;exact uy
theorem Hh (h:(dt c k0 s vt cy).J F k w)(a:Int):Calls O 165 #[aq k0.a.p,ak a] w fun e w'=>∃b v,e=M6 (ak v)/\(dt c k0 s vt cy).J b (k.cop a) w'/\ch F w b w':=by
 obtain⟨h,ea,d,f⟩:=h;obtain⟨g,i⟩:=oN h;rw[<-ea];refine(x8 a w g).mono ?_;rintro e j ⟨rfl,l,m⟩
 obtain⟨n,o,p⟩:=i j _ _ _ l m;exact⟨n,_,rfl,⟨o,ea,d,f⟩,p⟩
theorem Hi {u:Int}(h:(iz (dp (dt c k0 s vt cy) bp (dx c)) gF).J F (k,u) w)(a:Int)(m:Nat)(ha:a∈k0.T)(hp:0<=a/\a<=2000)(v:0<=s.f a)(x:s.f a+m<=k0.a.N+k0.a.O)(B:a+m<=k0.a.N+k0.a.O)(bd:0<=u/\u<=100000)(hm:m<=13):
 Calls prog 161 #[ak a,ak m,aq bp,aq gF] w fun e w'=>∃j,e=M6 (a8 #[])/\(iz (dp (dt c k0 s vt cy) bp (dx c)) gF).J j (k.l9 (M (s.f a)) (M a) m,u+m) w'/\ch F w j w':=by
 have l:=jL hp.1 aa;obtain⟨be,g1,_,_,N⟩:=l8 h;obtain⟨g,g2,S,lb,W⟩:=hK g1;have ab:V w (av bp 0)=Z (aq c.pk):=aD S
 obtain⟨ad,ag,c0,_,_⟩:=iO g2;have gd:=(dt c k0 s vt cy).below g2 (aH _ w).drew;obtain⟨_,_,_,⟨D,o1,bg,ai⟩,_⟩:=iO gd;obtain⟨z,i,al,bi⟩:=o1.lookup_int (t:=127) (e:=3) (q:=Q) jg underlying127 underlying3 (mI _) l;obtain rfl:z=s.f a:=by have:=al.symm.trans (ai a ha);simpa using this
 obtain⟨tn,am⟩:=bH v;obtain⟨an,ao⟩:=bH hp.1;rw[am] at i x⊢;rw[ao] at i B l⊢;have P:=Hg gd tn an m aa aa;rw[bI,bI];have ap:aA (∀b d w1,(dt c k0 s vt cy).J b d w1->ch g w b w1->∃f,(iz (dp (dt c k0 s vt cy) bp (dx c)) gF).J f (d,u) w1/\ch F w f w1):=fun b d w1 ar t=>by obtain⟨j2,aB⟩:=W b d w1 ar t;obtain⟨cI,t3⟩:=N _ d w1 j2 aB;exact⟨_,cI,t3⟩
 have aF:aA (ch g w g w.drew):=ch.of (aH _ w).drew;go_enter func161,ntmps161;go_wp2_with fail
 go_region_held3 (fun w'=>V w' (av bp 0)=Z (aq c.pk)/\V w' (av c.pk 0)=Z (aq k0.a.pw)/\V w' (av c.pk 3)=Z (.map (Z c.cu))/\V w' (av k0.a.pw 0)=Z (aq k0.a.p)) (go_keep)
  (first
    |(go_at_call 162;refine P.mono ?_;rintro e n ⟨b,rfl,cI,t3⟩;obtain⟨aR,aV,a0,_,_⟩:=iO cI;have a1:=ap.o b _ n cI (aF.o.trans t3);obtain⟨f,cK,o⟩:=a1;have a2:=(oM cK).1;have bl:=(oM cK).2;dsimp only at a2;have a3:V n (av bp 0)=Z (aq c.pk):=(by obtain⟨_,a4,_⟩:=l8 cK;obtain⟨_,_,ba,_⟩:=hK a4;simp[World.cell?,ba]);have p:aA (_/\_):=⟨cK,o⟩;clear cI t3 cK o))
 all_goals
  clear ab ad ag c0 aR aV a0 a3 i;go_wp2_with fail;go_end0;obtain⟨dN,bb⟩:=zP p.o.1 (u+m)
  exact⟨f,rfl,dN,p.o.2.trans bb⟩
theorem Hj (h:(dp (dt c k0 s vt cy) bp (dx c)).J F k w)(a m:Int):
 Calls O 164 #[ak a,ak m,aq bp] w fun e w'=>∃b,e=M6 (a8 #[])/\(dp (dt c k0 s vt cy) bp (dx c)).J b (k.cop a) w'/\ch F w b w':=by
 obtain⟨n,g2,f,lb,g⟩:=hK h;have o:V w (av bp 0)=Z (aq c.pk):=aD f
 obtain⟨p,q,c0,_,_⟩:=iO g2;go_enter func164,ntmps164;go_wp2_with fail;refine(Hh g2 a).mono ?_;rintro e w1 ⟨i,v,rfl,j,l⟩
 have d:=hide ((hide g).o i _ w1 j l)
 go_wp2;go_end0;exact⟨_,rfl,d.o.1,d.o.2⟩
end
def cg.jC (s:cz)(t:cg×Int)(a:Int):cg×Int:=(t.1.l9 (M (s.f a)) (M a) (1+M (pf (t.1.ld a))),t.2+(1+pf (t.1.ld a)))
def cg.l_ (k:cg)(s:cz)(l:List Int):cg×Int:=ik (fun _ a=>s.f a) (cg.jC s) (k,0) l
def cg.pU (k:cg)(s:cz)(l:List Int):cg:=ik (fun(_:cg) a=>s.f a) (fun k a=>k.cop a) k l
def cg.uD (k:cg):cg:={k with s:={k.s with M:=[]}}
def cg.sl1 (k:cg)(s:cz):cg:=(k.l_ s k.G).1.ar (k.l_ s k.G).1.s.y (M (k.l_ s k.G).2) (k.l_ s k.G).1.s.ws
def cg.sl2 (k:cg)(s:cz):cg:=(k.sl1 s).pU s k.Y
def cg.sl (k:cg)(s:cz):cg:=((k.sl2 s).ar 0 (k.sl2 s).s.g (k.sl2 s).s.ws).uD
theorem Hk:dV 161:=gM func161 ah rfl
theorem Hl:dV 164:=gM func164 ah rfl
section
variable {c:fI}{k0 k:cg}{vt cy:bD}{F:Nat->Prop}{s:cz}{w:az}{bp gF:Nat}
theorem Hm (h:(dt c k0 s vt cy).J F k w)(n:Int)(h0:0<=n)(d:n<=k0.a.O):Calls prog 163 #[aq k0.a.p,ak n] w fun e w'=>∃b,e=M6 (a8 #[])/\(dt c k0 s vt cy).J b (k.ar k.s.y (M n) k.s.ws) w'/\ch F w b w':=by obtain⟨h,ea,uz,uA⟩:=h;obtain⟨f,hU⟩:=oN h;rw[<-ea];refine(DU n w f h0 ((ea▸d))).mono ?_;exact uy
theorem Hn (h:(dt c k0 s vt cy).J F k w):Calls O 114 #[aq k0.a.p] w fun e w'=>∃b,e=M6 (a8 #[])/\(dt c k0 s vt cy).J b (k.ar 0 k.s.g k.s.ws) w'/\ch F w b w':=by obtain⟨h,ea,uz,uA⟩:=h;obtain⟨d,hU⟩:=oN h;rw[<-ea];refine(xE w d).mono ?_;exact uy
theorem Ho (h:(dt c k0 s vt cy).J F k w):V w (av k0.a.pw 1)=Z (aq k0.a.pc)/\Calls O 115 #[aq k0.a.pc] w fun e w'=>∃f,e=M6 (a8 #[])/\(dt c k0 s vt cy).J f k.uD w'/\ch F w f w':=by
 obtain⟨h,ea,j,l⟩:=h;obtain⟨u,g1,g2⟩:=pT h;obtain⟨_,c1,_⟩:=kt g1;obtain⟨cU,hc,m⟩:=ze g1;have P:=tY w hc.hp;rw[ea] at c1 P;refine⟨c1,P.mono ?_⟩
 rintro e n ⟨rfl,g,d⟩
 rw[<-ea] at g d;obtain⟨v,o,p⟩:=m n _ _ g ⟨d.os,d.tape,d.output,d.size,fun b hb i _=>d.block b hb i i⟩ (aK b8)
 obtain⟨q,j2,t⟩:=g2 _ _ _ o p;exact⟨q,rfl,⟨j2,ea,j,l⟩,t⟩
theorem oP (h:(dt c k0 s vt cy).J F k w):V w (av c.pk 1)=Z c.yv/\V w (av c.pk 2)=Z c.ov/\aC w 0 3 1 c.yv (L k0.Y) (k0.Y.map (Value.int Q))/\aC w 0 3 1 c.ov (L k0.G) (k0.G.map (Value.int Q)):=by obtain⟨h,ea,b,d⟩:=h;obtain⟨_,e,f,_⟩:=eS h;obtain⟨y,g⟩:=zM h;rw[b] at y;rw[d] at g;exact⟨e,f,y,g⟩
def i4 (k0:cg)(s:cz)(G:Nat->cg×Int->Prop):Prop:=
 (∀j t,j<L k0.G->G j t->s.f (M8 k0.G j 0)≠-1->0<=s.f (M8 k0.G j 0)/\s.f (M8 k0.G j 0)+(1+pf (t.1.ld (M8 k0.G j 0)))<=k0.a.N+k0.a.O/\M8 k0.G j 0+(1+pf (t.1.ld (M8 k0.G j 0)))<=k0.a.N+k0.a.O/\0<=t.2/\t.2<=100000)/\
 (∀j t,j<L k0.G->G j t->G (j+1) (fL (fun _ a=>s.f a) (cg.jC s) t (M8 k0.G j 0)))/\(∀t,G (L k0.G) t->0<=t.2/\t.2<=k0.a.O)
theorem Hp {G:Nat->cg×Int->Prop}(k:i4 k0 s G){t:cg×Int}(h0:G 0 t)(h:(iz (dp (dt c k0 s vt cy) bp (dx c)) gF).J F t w)(hl:L k0.G<=4000)(hp:∀a∈k0.G,0<=a/\a<=2000){ad:Option bG}{d:Nat}(hv:c.ov=H ad (L k0.G) d):
 Calls O 157 #[aq c.pk,H ad (L k0.G) d,.func (.func 161) #[] #[aq bp,aq gF]] w fun e w'=>∃f,e=M6 (a8 #[])/\(iz (dp (dt c k0 s vt cy) bp (dx c)) gF).J f (ik (fun _ a=>s.f a) (cg.jC s) t k0.G) w'/\ch F w f w'/\G (L k0.G) (ik (fun _ a=>s.f a) (cg.jC s) t k0.G):=by
 have l:∀a∈k0.G,a∈k0.T:=fun a ha=>bE.2 (aM ha)
 refine ux _ (fun _ a=>s.f a) (fun t a=>pf _) _ G k0.T c.pk k0.a.pw k0.a.p c.cu 161 #[bJ _,bJ _] Hk k0.G ad d F t w
  (by
    rintro F t m a o;obtain⟨_,g,_⟩:=l8 o;obtain⟨_,b,_⟩:=hK g;obtain⟨c0,c3,c5,hM,p⟩:=iO b;refine⟨c0,c3,c5,hM,(gO a m p).mono ?_⟩
    rintro r w' ⟨rfl,hb⟩
    have q:pf (t.1.ld a)=pf (ld k0.a.N t.1.s.y t.1.s.g t.1.s.ws a):=by unfold cg.ld;rw[b.2.1]
    exact⟨pk _,pc _,by rw[q],hb⟩)
  (fun t a=>dv _) (fun a ha=>⟨by have:=hp a ha;omega,l a ha⟩) aa
  (by
    rintro j F t m u hg i v;have hm:M8 k0.G j 0∈k0.G:=by simp_all
    have b:=hp _ hm;have S:=dv (t.1.ld (M8 k0.G j 0))
    obtain⟨a1,a2,x,B,N⟩:=k.1 j t u hg v;have n:((1+M (pf (t.1.ld (M8 k0.G j 0))):Nat):Int)=1+pf (t.1.ld (M8 k0.G j 0)):=aa;have P:=Hi i _ _ (l _ hm) b a1 aa ((n▸x)) ⟨B,N⟩ aa;rw[n] at P;exact P)
  k.2.1 h0 h (fun f W w' i _=>?_)
 obtain⟨_,g,_⟩:=l8 i;obtain⟨_,b,_⟩:=hK g;have hr:=(oP b).2.2.2;rw[hv] at hr;exact hZ hr
theorem Hq (h:(dp (dt c k0 s vt cy) bp (dx c)).J F k w)(hl:L k0.Y<=4000)(hp:∀a∈k0.Y,0<=a/\a<=2000){ad:Option bG}{f:Nat}(hv:c.yv=H ad (L k0.Y) f):
 Calls O 157 #[aq c.pk,H ad (L k0.Y) f,.func (.func 164) #[] #[aq bp]] w fun e w'=>∃d,e=M6 (a8 #[])/\(dp (dt c k0 s vt cy) bp (dx c)).J d (k.pU s k0.Y) w'/\ch F w d w':=by
 have l:∀a∈k0.Y,a∈k0.T:=fun a ha=>bE.2 (aK ha)
 have E:=ux _ (fun(_:cg) a=>s.f a) (fun t a=>pf (t.ld a)) (fun k a=>k.cop a) (fun _ _=>True) k0.T c.pk k0.a.pw k0.a.p c.cu 164 #[bJ _] Hl k0.Y ad f F k w
  (by
    rintro F t i a m;obtain⟨_,b,_⟩:=hK m;obtain⟨c0,c3,c5,hM,n⟩:=iO b;refine⟨c0,c3,c5,hM,(gO a i n).mono ?_⟩
    rintro r w' ⟨rfl,hb⟩
    have o:pf (t.ld a)=pf (ld k0.a.N t.s.y t.s.g t.s.ws a):=by unfold cg.ld;rw[b.2.1]
    exact⟨pk _,pc _,by rw[o],hb⟩)
  (fun t a=>dv _) (fun a ha=>⟨by have:=hp a ha;omega,l a ha⟩) aa
  (fun j F t i _ _ g _=>Hj g _ _)
  (fun _ _ _ _=>trivial) trivial h (fun d q w' g _=>by obtain⟨_,b,_⟩:=hK g;have hr:=(oP b).2.2.1;rw[hv] at hr;exact hZ hr)
 refine E.mono ?_;rintro r w' ⟨d,rfl,b,p,_⟩
 exact⟨d,rfl,b,p⟩
end
theorem ch.less {X F c:Nat->Prop}{w w':az}(h:ch X w F w')(hs:∀b,c b->F b):ch X w c w':=⟨h.fr,fun b d=>h.sub b (hs b d)⟩
theorem Hr {g:Type}{o:dC g}{bx:Nat}{x:Obj}{F:Nat->Prop}{w:az}{t:g}(h:(dp o bx x).J F t w):∃e,o.J e t w/\w.heap[bx]?=Z x/\bx<I (G w)/\(∀c f w1,o.J c f w1->ch e w c w1->(dp o bx x).J (fun b=>c b\/b=bx) f w1/\ch F w (fun b=>c b\/b=bx) w1)/\∀b,e b->F b:=by
 obtain⟨e,h,g2,g3,g4⟩:=h;refine⟨e,h,g2,lt_of_some g2,fun c f w1 i hT=>⟨⟨c,i,(hT.fr.block bx (lt_of_some g2) g3).trans g2,fun d=>(hT.sub bx d).elim g3 (fun d=>by have:=lt_of_some g2;omega),fun b=>iy⟩,⟨hT.fr.mono (fun b hb=>(g4 b).2 (aM hb)),fun b hb=>?_⟩⟩,fun b hb=>(g4 b).2 (aM hb)⟩
 exact uo
section
variable {c:fI}{k:cg}{vt cy:bD}{F:Nat->Prop}{s:cz}{w:az}
theorem Hs {G:Nat->cg×Int->Prop}(bs:i4 k s G)(bt:G 0 (k,0))(h:(c7 c k vt cy).J F s w)(hl:L k.T<=4000)(hp:∀a∈k.T,0<=a/\a<=2000):
 Calls O 84 #[aq c.pk] w fun e w'=>∃al,e=M6 (a8 #[])/\(c7 c (k.sl s) vt cy).J al s w'/\ch F w al w':=by
 have cF:L k.T=L k.G+L k.Y:=by unfold cg.T;rw[a7]
 have m:aA (_/\_/\(∀a∈k.G,0<=a/\a<=2000)/\(∀a∈k.Y,0<=a/\a<=2000)/\L k.G<=4000/\L k.Y<=4000):=⟨bs,bt,fun a ha=>hp a (bE.2 (aM ha)),fun a ha=>hp a (bE.2 (aK ha)),aa,aa⟩
 have am:=(c7 c k vt cy).lt h;obtain⟨w0,u⟩:∃w0,w.alloc (dx c)=w0:=⟨_,rfl⟩
 have bx:C w.heap.size w w0:=by rw[<-u];exact aw w (dx c)
 have b0:w0.heap.size=w.heap.size+1:=by rw[<-u];simp
 have b1:w0.heap[w.heap.size]?=Z (dx c):=by rw[<-u];exact aP _ _
 obtain⟨w1,W⟩:∃w1,w0.alloc (kS 0)=w1:=⟨_,rfl⟩
 have an:C w0.heap.size w0 w1:=by rw[<-W];exact aw w0 (kS 0)
 have b2:w1.heap[w0.heap.size]?=Z (kS 0):=by rw[<-W];exact aP _ _
 have ao:=bx.trans (an.mono aa)
 have ap:(dt c k s vt cy).J F k w1:=⟨(c7 c k vt cy).below h ao,rfl,rfl,rfl⟩
 have b3:(dp (dt c k s vt cy) w.heap.size (dx c)).J (fun b=>F b\/b=w.heap.size) k w1:=⟨F,ap,(an.block _ aa).trans b1,fun f=>by have:=am _ f;omega,fun b=>iy⟩
 have b4:(iz (dp (dt c k s vt cy) w.heap.size (dx c)) (w.heap.size+1)).J (fun b=>(F b\/b=w.heap.size)\/b=w.heap.size+1) (k,0) w1:=⟨_,b3,by rw[<-b0];exact b2,fun f=>f.elim (fun f=>by have:=am _ f;omega) (fun f=>by omega),fun b=>iy⟩
 have b5:=(eS h).2.2.1;obtain⟨_,b6,yr,gr⟩:=oP ap;obtain⟨ar,aB,ca⟩:=eZ yr;obtain⟨ab,gc,v⟩:=eZ gr;have cG:V w1 (av c.pk 2)=Z (H ab (L k.G) gc):=by rw[b6,v]
 rw[v] at b5;have ad:=hide ca;have cb:=hide v;have hd:=(ax w1).drew;have cc:aA (ch F w (fun b=>(F b\/b=w.heap.size)\/b=w.heap.size+1) w1.drew):=⟨(Fr.of (X:=F) ao).trans (Fr.of (X:=F) hd) (fun b f=>aM f),fun b f=>f.elim (fun f=>f.imp id (fun e=>by omega)) (fun e=>aK aa)⟩
 have aF:=Hp m.o.1 m.o.2.1 ((iz (dp (dt c k s vt cy) w.heap.size (dx c)) (w.heap.size+1)).below b4 hd) m.o.2.2.2.2.1 m.o.2.2.1 v;obtain⟨d,aR⟩:∃d,ik (fun _ a=>s.f a) (cg.jC s) (k,0) k.G=d:=⟨_,rfl⟩
 rw[aR] at aF;have aV:aA (k.sl1 s=d.1.ar d.1.s.y (M d.2) d.1.s.ws):=by show k.sl1 s=_;unfold cg.sl1 cg.l_;rw[aR]
 have o:aA (k.sl s=((k.sl2 s).ar 0 (k.sl2 s).s.g (k.sl2 s).s.ws).uD/\k.sl2 s=(k.sl1 s).pU s k.Y):=⟨rfl,rfl⟩
 generalize k.sl s=cH at o⊢;generalize k.sl2 s=cJ at o;generalize k.sl1 s=cL at o aV;subst W;subst u;go_enter func84,ntmps84;go_wp2_with fail
 go_region_held3 (fun w'=>V w' (av w.heap.size 0)=Z (aq c.pk)/\V w' (av c.pk 2)=Z (H ab (L k.G) gc)) (go_keep)
  (first
    |(go_at_call 157;refine aF.mono ?_;rintro e i ⟨cM,rfl,cI,t3,g3⟩;have p:=g_ cI (cc.o.trans t3) (m.o.1.2.2 _ g3);obtain⟨_,q1,_⟩:=l8 cI;obtain⟨_,q,q3,_⟩:=hK q1;obtain⟨_,cd,_⟩:=oP q;have cN:V i (av w.heap.size 0)=Z (aq c.pk):=aD q3;have cO:V i (av c.pk 2)=Z (H ab (L k.G) gc):=(by rw[cd,cb.o])))
 all_goals
  have x:aA (∃n,(dp (dt c k s vt cy) w.heap.size (dx c)).J n d.1 i.drew/\ch F w n i.drew/\¬n (w.heap.size+1)/\w.heap.size+1<i.heap.size):=by obtain⟨n,cK,dN,B,N⟩:=p.o.1;exact⟨n,(dp (dt c k s vt cy) w.heap.size (dx c)).below cK (aH _ i).drew,(p.o.2.1.less (fun b f=>(N b).2 (aM f))).below (aH _ i).drew,B,lt_of_some dN⟩
  obtain⟨n,cK,ce,n4,cf⟩:=x.o;obtain⟨a0,dN,cP,cQ,a1,ci⟩:=Hr cK;obtain⟨cj,_,ck,_,_⟩:=iO dN;have cl:=(oM p.o.1).1;have S:=Hm dN d.2 p.o.2.2.1 p.o.2.2.2;rw[<-aV.o] at S;have v0:_=_:=cj;have cm:_=_:=ck;have cn:aA (∀g d w1,(dt c k s vt cy).J g d w1->ch a0 i.drew g w1->_/\_):=fun g d w1 j l=>⟨(a1 g d w1 j l).1,ce.trans (a1 g d w1 j l).2⟩
  have a2:_/\¬a0 (w.heap.size+1):=⟨cf,fun f=>n4 (ci _ f)⟩
  go_wp2_with fail
  go_region_held3 (fun w'=>V w' (av w.heap.size 0)=Z (aq c.pk)/\V w' (av c.pk 0)=Z (aq k.a.pw)/\V w' (av k.a.pw 0)=Z (aq k.a.p)/\V w' (av (w.heap.size+1) 0)=Z (ak d.2)) (go_keep)
   (first
     |(go_at_call 163;refine S.mono ?_;rintro e t ⟨co,rfl,B,a3⟩;obtain⟨r0,_,cR,_,_⟩:=iO B;obtain⟨N,cp⟩:=cn.o co _ t B a3;obtain⟨_,_,cq,_⟩:=hK N;have r1:V t (av w.heap.size 0)=Z (aq c.pk):=aD cq;have cS:=(aQ (a:=⟨w.heap.size+1,0,none⟩) (a3.fr.block _ (by simpa using a2.1) a2.2)).trans cl;have ag:=c8 N cp))
  all_goals
   have x:=c8 ((dp (dt c k s vt cy) w.heap.size (dx c)).below ag.o.1 (aH _ t).drew) (ag.o.2.below (aH _ t).drew)
   have a4:=Hq x.o.1 m.o.2.2.2.2.2 m.o.2.2.2.1 ad.o;rw[<-o.o.2] at a4;have cT:V t (av c.pk 1)=Z (H ar (L k.Y) aB):=by obtain⟨_,q,_⟩:=hK ag.o.1;exact(oP q).1.trans (by rw[ad.o])
   go_wp2_with fail
   go_region_held3 (fun w'=>V w' (av w.heap.size 0)=Z (aq c.pk)/\V w' (av c.pk 1)=Z (H ar (L k.Y) aB)) (go_keep)
    (first
      |(go_at_call 157;refine a4.mono ?_;rintro e ba ⟨cU,rfl,bb,cr⟩;obtain⟨_,q,q3,_⟩:=hK bb;have cV:V ba (av w.heap.size 0)=Z (aq c.pk):=aD q3;have m1:_=_:=(oP q).1.trans (by rw[ad.o]);have bd:=c8 bb (x.o.2.trans cr)))
   all_goals
    obtain⟨cs,be,cW,cX,bg⟩:=hK bd.o.1;obtain⟨v0,_,cm,_,_⟩:=iO be;have S:=Hn be;have ct:aA (∀g d w1,(dt c k s vt cy).J g d w1->ch cs ba g w1->_/\_):=fun g d w1 j l=>⟨(bg g d w1 j l).1,bd.o.2.trans (bg g d w1 j l).2⟩
    go_wp2_with fail;refine S.mono ?_;rintro e ai ⟨cu,rfl,cv,cw⟩
    obtain⟨cx,cz⟩:=ct.o cu _ ai cv cw;obtain⟨cA,bi,cB,cY,bl⟩:=hK cx;have z0:V ai (av w.heap.size 0)=Z (aq c.pk):=aD cB
    obtain⟨cZ,_,_,_,_⟩:=iO bi;obtain⟨c0,bn⟩:=Ho bi;rw[<-o.o.1] at bn;have cC:aA (∀g d w1,(dt c k s vt cy).J g d w1->ch cA ai g w1->_/\_):=fun g d w1 j l=>⟨(bl g d w1 j l).1,cz.trans (bl g d w1 j l).2⟩
    go_wp2_with fail;refine bn.mono ?_;rintro e cD ⟨bo,rfl,bp,cE⟩
    have br:=c8 bp.1 ((cC.o bo _ cD bp cE).2.less (fun b f=>aM f))
    go_wp2_with fail;go_end0;exact⟨bo,rfl,br.o.1,br.o.2⟩
end
theorem zT (f:Nat)(c:Array bD)(p:Int->Bool)(k:dV f)(w:az)(l:List Int)
 (hl:∀(w':az)(x:Int),x∈l->C (I (G w)) w w'->J O f (#[ak x]++c) w' fun r o=>r=M6 (bK (p x))/\C (I (G w')) w' o)
 (ad:Option bG)(cap:Nat)(hm:L l<=100000)(hp:jb w ad l):
 J O 241 #[H ad (L l) cap,.func (.func f) #[] c] w fun r w'=>C (I (G w)) w w'/\((r=M6 (ak (-1))/\∀e∈l,p e=K)\/∃i:Nat,r=M6 (ak i)/\i<L l/\p (M8 l i 0)=Nc/\∀e∈l.take i,p e=K):=by
 have q:=hide hl;have s:=hide hp;have N:∀(args:Array bD)(w:az),_=_:=k;clear hl hp k;go_enter func241,ntmps241;go_wp2_with fail
 go_loopw [8] (fun iv wr=>∃j:Nat,j<=L l/\iv=ak j/\aA (∀e∈l.take j,p e=K)/\C (I (G w)) w wr) (fun iv _=>L l-M (bN iv))
 case atStart=>exact⟨0,a5 _,rfl,by simp[aA,Hid],aH _ _⟩
 case round=>
  obtain⟨j,S,rfl,d,hb⟩:=hrel;by_cases b:j<L l
  ·obtain⟨W,ab,t,ag,hc⟩:=s.o.below hb aa;have u:=hc j b;have hd:M8 l j 0∈l:=by rw[aL,aN b];exact a9 b
   obtain⟨x,g⟩:∃x,M8 l j 0=x:=⟨_,rfl⟩
   have m:aA (_=_):=g;rw[g] at u hd;have P:=q.o wr x hd hb;clear hc g hd;subst t;go_wp2_with fail;refine P.mono ?_;rintro r w1 ⟨rfl,v⟩
   have n:=hb.trans (v.mono hb.size)
   cases hp:p x
   ·have B:aA (∀e∈l.take (j+1),p e=K):=fun e he=>by
     rw[g9 l j b 0,bE,bQ] at he;rcases he with he|he
     ·exact d.o e he
     ·rw[he,m.o];exact hp
    go_wp2_with fail;go_roundw
    case rel=>exact⟨j+1,aa,aj,B,n⟩
    case measure=>simp[bN];omega
   ·have F:aA (p (M8 l j 0)=Nc):=by show _=_;rw[m.o];exact hp
    go_wp2_with fail;go_ret;exact⟨n,aK ⟨j,rfl,b,F.o,d.o⟩⟩
  ·obtain rfl:j=L l:=aa;rw[bk] at d;go_wp2_with fail;go_ret;exact⟨hb,aM ⟨rfl,d.o⟩⟩
theorem Ht:dV 214:=gM func214 ah rfl
theorem Hu {pk pw p q N O y g bx be:Nat}{ws:List Int}{e:Int}(w:az)(b:At w p q N O y g ws)(c0:V w (av bx 0)=Z (aq pk))(c1:V w (av pk 0)=Z (aq pw))(c2:V w (av pw 0)=Z (aq p))(c3:V w (av be 0)=Z (ak e))(a:Int)(ha:0<=a/\a<=100000):
 J prog 214 #[ak a,aq bx,aq be] w fun r w'=>r=M6 (bK (decide (e<=a+pf (ld N y g ws a))))/\C (I (G w)) w w':=by
 have P:=gO a w b;have d:=dv (ld N y g ws a)
 clear b;go_enter func214,ntmps214;go_wp2_with fail;refine P.mono ?_;clear P;rintro r w1 ⟨rfl,c⟩
 have f:=(c.cell (p:=av be 0) (aT w _ c3)).trans c3;clear c0 c1 c2 c3;go_wp2;go_ret;exact⟨by first|rfl|(done)|(omega),c⟩
def eF (p:Int->Bool)(l:List Int):List Int:=l.filter (fun x=>!p x)
theorem uE (p:Int->Bool)(l:List Int)(x:Int):eF p (l++[x])=if p x=Nc then eF p l else eF p l++[x]:=by unfold eF;cases h:p x<;>simp[h]
theorem rD {p:Int->Bool}{l:List Int}(h:∀e∈l,p e=K):eF p l=l:=by unfold eF;rw[List.filter_eq_self];intro a ha;rw[h a ha];rfl
theorem zU {base size n g cap i:Nat}{e:TypeId}:∀(d:List bD)(o:Nat){w:az}{b:List bD},aC w base e size (H (au g) n cap) n b->i<=o->∃c,aC (w.setCells g o d) base e size (H (au g) n cap) n c/\c.take i=b.take i
 |[],o,w,b,h,_=>⟨b,h,rfl⟩
 |v::d,o,w,b,h,hi=>by
  obtain⟨c,f,j⟩:=zU d (o+1) (q9 h o v) (by omega:i<=o+1)
  refine⟨c,f,j.trans ?_⟩
  rw[List.take_set_of_le hi]
theorem zV {g:Nat}:∀(c:List bD)(o:Nat)(w:az),Fr (fun b=>b=g) w (w.setCells g o c)
 |[],_,w=>Fr.refl _ w
 |v::c,o,w=>((Fr.refl (fun b=>b=g) w).set g o v rfl).trans (zV c (o+1) _) (fun _ e=>aM e)
theorem Hv (f:Nat)(c:Array bD)(p:Int->Bool)(ab:dV f)(w:az)(l:List Int)(g cap B:Nat)
 (hl:∀(w':az)(x:Int),x∈l->Fr (fun b=>b=g) w w'->J O f (#[ak x]++c) w' fun r a2=>r=M6 (bK (p x))/\C (I (G w')) w' a2)
 (hm:L l<=100000)(hr:aC w B 3 1 (H (au g) (L l) cap) (L l) (l.map (Value.int Q))):
 J O 213 #[H (au g) (L l) cap,.func (.func f) #[] c] w fun r w'=>r=M6 (H (au g) (L (eF p l)) cap)/\aC w' B 3 1 (H (au g) (L (eF p l)) cap) (L (eF p l)) ((eF p l).map (Value.int Q))/\Fr (fun b=>b=g) w w':=by
 have ao:=hide hl;have P:=zT f c p ab w l (fun w' x F hb=>ao.o w' x F (Fr.of hb)) (au g) cap hm (hZ hr)
 have N:aA (_):=hr;have bb:=tq hr;have bd:∀(args:Array bD)(w:az),(callFunc f args).run O w=.ok (.enter f args) w:=ab;clear hl hr ab;go_enter func213,ntmps213;go_wp2_with fail;refine P.mono ?_;clear P;rintro r w1 ⟨n,⟨rfl,hn⟩|⟨m,rfl,ap,ar,hn⟩⟩
 ·have aB:aA (eF p l=l/\aC w1 B 3 1 (H (au g) (L l) cap) (L l) (l.map (Value.int Q))/\Fr (fun b=>b=g) w w1):=⟨rD hn,cM N.o (fun b e=>n.block b (cv N.o b e).2),Fr.of n⟩
  clear n hn;go_wp2_with fail;go_ret;rw[aB.o.1];exact⟨rfl,aB.o.2⟩
 ·have a3:(m:Int)<L l:=aa;have aF:aA (eF p (l.take (m+1))=l.take m/\aC w1 B 3 1 (H (au g) (L l) cap) (L l) (l.map (Value.int Q))/\Fr (fun b=>b=g) w w1):=by
   refine⟨?_,cM N.o (fun b e=>n.block b (cv N.o b e).2),Fr.of n⟩
   rw[g9 l m ap 0,uE,aJ ar,rD hn]
  clear hn ar n;go_wp2_with fail;have aR:((m:Int)==-1)=K:=by rw[beq_eq_false_iff_ne];omega
  rw[aR];clear aR
  go_loopw [5,6] (fun iv ad wr=>∃(i j:Nat),i<j/\j<=L l/\iv=ak i/\ad=ak j/\aA (L (eF p (l.take j))=i/\aC wr B 3 1 (H (au g) (L l) cap) (L l) ((eF p (l.take j)++l.drop i).map (Value.int Q))/\Fr (fun b=>b=g) w wr)) (fun _ ad _=>L l-M (bN ad))
  ·
    refine⟨m,m+1,aa,aa,rfl,aj,?_⟩
    obtain⟨s,S,ag⟩:=aF.o;refine⟨by rw[s,bz];omega,?_,ag⟩
    rw[s,List.take_append_drop];exact S
  ·
    clear aF ap a3;obtain⟨i,j,be,bg,rfl,rfl,d⟩:=hrel;by_cases o:j<L l
    ·have hd:M8 l j 0∈l:=by rw[aL,aN o];exact a9 o
     have F:((eF p (l.take j)++l.drop i).map (Value.int Q))[j]?=Z (ak (M8 l j 0)):=by have e:=d.o.1;rw[kg,lG aa,vb,e,show i+(j-i)=j from by omega,aN o,aL,aN o];rfl
     have aV:=(iW d.o.2.1 F).1;have P:=ao.o wr (M8 l j 0) hd d.o.2.2;have t:aA (_=_):=g9 l j o 0;generalize M8 l j 0=x at aV P t;have j0:(0:Int)<=(j:Int):=aa;have bi:(j:Int)<L l:=aa;have m:(0:Int)<=(i:Int):=aa;have a4:(i:Int)<L l:=aa;clear F hd;go_wp2_with fail;refine P.mono ?_;clear P aV;rintro r u ⟨rfl,ai⟩
     have q:=c8 (cM d.o.2.1 (fun b e=>ai.block b (cv d.o.2.1 b e).2)) (d.o.2.2.trans (Fr.of (X:=fun b=>b=g) ai) (fun _ v=>aM v))
     clear ai;cases hp:p x
     ·have hy:∃y,((eF p (l.take j)++l.drop i).map (Value.int Q))[i]?=Z (Value.int Q y):=by
       have e:=d.o.1;have al:i<L l:=aa;refine⟨l[i],?_⟩
       rw[kg,lG aa,vb,e,Kg,Nat.add_zero,aN al];rfl
      obtain⟨y,hy⟩:=hy;obtain⟨y1,bl⟩:=iW q.o.1 hy;have am:aA (L (eF p (l.take (j+1)))=i+1/\aC (ay u ⟨g,i,Y⟩ (U Q x)) B 3 1 (H (au g) (L l) cap) (L l) ((eF p (l.take (j+1))++l.drop (i+1)).map (Value.int Q))/\Fr (fun b=>b=g) w (ay u ⟨g,i,Y⟩ (U Q x))):=by
       have e:=d.o.1;have al:i<L l:=aa;have gV:eF p (l.take (j+1))=eF p (l.take j)++[x]:=by rw[t.o,uE,hp];rfl
       refine⟨by rw[gV,a7,e];rfl,?_,q.o.2.trans ((Fr.refl (fun b=>b=g) u).set g i _ rfl) (fun _ v=>aM v)⟩
       have W:=q9 q.o.1 i (Value.int Q x)
       have e6:((eF p (l.take j)++l.drop i).map (Value.int Q)).set i (ak x)=(eF p (l.take (j+1))++l.drop (i+1)).map (Value.int Q):=by rw[gV,<-List.map_set,List.set_append_right _ _ aa,e,Kg,List.drop_eq_getElem_cons al,List.set_cons_zero,bw];rfl
       rw[e6] at W;exact W
      clear hp hy d q t;go_wp2_with fail;go_roundw;exact⟨i+1,j+1,aa,aa,aj,aj,am⟩
      simp[bN];omega
     ·have am:aA (L (eF p (l.take (j+1)))=i/\aC u B 3 1 (H (au g) (L l) cap) (L l) ((eF p (l.take (j+1))++l.drop i).map (Value.int Q))/\Fr (fun b=>b=g) w u):=by
       have gV:eF p (l.take (j+1))=eF p (l.take j):=by rw[t.o,uE,hp];rfl
       rw[gV];exact⟨d.o.1,q.o⟩
      clear hp d q t;go_wp2_with fail;go_roundw;exact⟨i,j+1,aa,aa,rfl,aj,am⟩
      simp[bN];omega
    ·obtain rfl:j=L l:=aa;have an:L ((eF p (l.take (L l))++l.drop i).map (Value.int Q))=L l:=by have e:=d.o.1;rw[aZ,a7,e,List.length_drop];omega
     have bn:∀ty,(Builtin.clear_ #[74] ty #[H (Z ⟨g,i,Y⟩) (L l-i) (cap-i)]).run O wr=.ok (a8 #[]) (wr.setCells g i (A (L l-i) (ak 0))):=fun ty=>
      Lib.run_clear_slice wr _ _ ty _ underlying74 (fun w=>mI w) rfl rfl g i _ _ aa (fun k hk=>by rw[(iW d.o.2.1 (aN (by rw[an];omega:i+k<_))).1];rfl) (fun k hk=>(iW d.o.2.1 (aN (by rw[an];omega:i+k<_))).2)
     have a0:aA (L (eF p l)=i/\aC (wr.setCells g i (A (L l-i) (ak 0))) B 3 1 (H (au g) i cap) i ((eF p l).map (Value.int Q))/\Fr (fun b=>b=g) w (wr.setCells g i (A (L l-i) (ak 0)))):=by
      obtain⟨s,S,ag⟩:=d.o;rw[bk] at s S;refine⟨s,?_,ag.trans (zV _ _ _) (fun _ v=>aM v)⟩
      obtain⟨bo,ba,W⟩:=zU (i:=i) (A (L l-i) (Value.int Q 0)) i S b8
      have a1:=ti ba i aa;rw[W,List.map_append,List.take_append_of_le_length (by simp;omega),List.take_of_length_le (by simp;omega)] at a1;exact a1
     have m:(0:Int)<=(i:Int):=aa;have a4:(i:Int)<L l:=aa;clear o d an;go_wp2_with fail;go_ret;rw[a0.o.1];exact⟨rfl,a0.o.2⟩
def eE.j0 (a:Wc)(s:eE):cg:=⟨a,s,eF (fun x=>decide ((s.y:Int)<=x+pf (ld a.N s.y s.g s.ws x))) (eN a.N s.y s.g s.ws),eF (fun x=>decide ((a.N:Int)+s.g<=x+pf (ld a.N s.y s.g s.ws x))) (dM a.N s.y s.g s.ws)⟩
def h9:cz:=⟨fun _=>-1,[],[]⟩
def cw.j2 (a:Wc)(S:cw):cz×List cf:=(S.s.j0 a).sp ((S.s.j0 a).cP h9 12,S.q)
def cw.cI (a:Wc)(S:cw):cz:=((S.s.j0 a).fu (S.j2 a) S.r).1
def cw.r3 (a:Wc)(S:cw):List cf:=(S.s.j0 a).sR (S.j2 a) S.r
def cw.q3 (a:Wc)(S:cw):List cf:=(S.s.j0 a).jM (S.j2 a) S.r
def cw.cK (a:Wc)(S:cw):cz:=((S.s.j0 a).pl (S.cI a)).1
def cw.n4 (a:Wc)(S:cw):Int:=((S.s.j0 a).pl (S.cI a)).2-a.N
def cw.gh (a:Wc)(S:cw):Bool:=decide ((a.O:Int)<S.n4 a)
def cw.k5 (a:Wc)(S:cw):cg:=(S.s.j0 a).fD (S.cK a)
def cw.dN (a:Wc)(S:cw):cz:=((S.k5 a).tS (S.cK a,S.q3 a) (S.r3 a)).1
def cw.k6 (a:Wc)(S:cw):cg:=(S.k5 a).sl (S.dN a)
def cw.dH (a:Wc)(S:cw):cw:=if S.gh a=Nc then S else⟨(S.k6 a).s,(S.k5 a).tR (S.cK a,S.q3 a) (S.r3 a),(S.k5 a).iP (S.cK a,S.q3 a) (S.r3 a)⟩
def cw.i5 (a:Wc)(S:cw):Int:=if S.gh a=Nc then 3 else 0
section
variable {a:Wc}{s:eE}
theorem zW {p:Int->Bool}{l:List Int}{x:Int}(h:x∈eF p l):x∈l:=(List.mem_filter.1 h).1
theorem zX (p:Int->Bool)(l:List Int):L (eF p l)<=L l:=bm _ _
theorem c9.start (hN:a.N<=256)(hO:a.O<=1024)(hy:s.y<=a.N)(hg:s.g<=a.O):c9 (s.j0 a) h9:=by
 have f:∀x∈(s.j0 a).Y,0<=x/\x<s.y:=fun x b=>by
  have c:=oG x (zW b)
  omega
 have g:∀x∈(s.j0 a).G,(a.N:Int)<=x/\x<(a.N:Int)+s.g:=fun x b=>by
  have c:=nB _ _ x (zW b)
  omega
 have nd:(s.j0 a).T.Nodup:=by
  unfold cg.T;rw[List.nodup_append];refine⟨(rh 2000 _).filter _,(rh 2000 0).filter _,fun x b z hz e=>?_⟩
  have c:=g x b;have i:=f z hz;omega
 have tl:L (s.j0 a).T<=4000:=by
  unfold cg.T;rw[a7];have c:L (s.j0 a).G<=2000:=aU (zX _ _) (je _ _)
  have i:L (s.j0 a).Y<=2000:=aU (zX _ _) (je _ _)
  omega
 refine⟨nd,fun x b=>?_,fun x b=>by simp[h9] at b,fun x b=>by simp[h9] at b,tl,?_⟩
 ·rcases bE.1 b with d|d
  ·have:=g x d;omega
  ·have:=f x d;omega
 ·exact bm _ _
end
def cg.oQ (k:cg)(s:cz)(a:Int):Prop:=∀i:Nat,(i:Int)<pf (k.ld a)->k.cY s (k.ld (a+1+i))=K
section
variable {k:cg}{s:cz}
theorem cg.pV {x:Int}(h:k.jt x=Nc):k.cY s x=K↔s.f (cr x)≠-1:=by unfold cg.cY;rw[h,Bool.true_and,beq_eq_false_iff_ne]
theorem oR {x:Int}(h:k.jt x=Nc):cr x∈k.T:=by unfold cg.jt at h;rw[bB] at h;exact List.contains_iff_mem.1 h.2
structure dT (k:cg)(s t:cz):Prop where
 f:∀b,s.f b≠-1->t.f b=s.f b
theorem dT.cY {t:cz}(h:dT k s t){y:Int}(hy:k.cY s y=K):k.cY t y=K:=by
 cases hj:k.jt y
 ·unfold cg.cY;rw[hj];rfl
 ·rw[cg.pV hj] at hy⊢;rw[h.f _ hy];exact hy
theorem dT.refl (s:cz):dT k s s:=⟨fun _ _=>rfl⟩
theorem dT.trans {t u:cz}(h:dT k s t)(j:dT k t u):dT k s u:=⟨fun b hb=>by have e:=h.f b hb;rw[j.f b (by rw[e];exact hb),e]⟩
theorem dT.oQ {t:cz}(h:dT k s t){a:Int}(ha:k.oQ s a):k.oQ t a:=fun i hi=>h.cY (ha i hi)
end
structure nM (k:cg)(s:cz)(a:Int):Prop where
 p:pk (k.ld a)=1\/pk (k.ld a)=2->k.oQ s a
 w:pk (k.ld a)=3->k.cY s (k.ld (a+2))=K
 e:pk (k.ld a)=4->a∈s.ep\/k.cY s (k.ld (a+2))=K
structure dh (k:cg)(X:Int->Prop)(s:cz):Prop where
 fA:c9 k s
 self:∀a∈k.T,s.f a≠-1->s.f a=a
 td:∀a∈s.td,s.f a≠-1
 cmp:∀a∈k.T,s.f a≠-1->a∈s.td\/X a\/nM k s a
section
variable {k:cg}{X:Int->Prop}{s t:cz}
theorem nM.le {a:Int}(h:nM k s a)(l:dT k s t)(he:∀b∈s.ep,b∈t.ep):nM k t a:=
 ⟨fun q=>l.oQ (h.p q),fun q=>l.cY (h.w q),fun q=>(h.e q).imp (he a) l.cY⟩
theorem uF (k:cg)(s:cz)(x:Int):(k.ma s x).ep=s.ep:=by unfold cg.ma;split<;>rfl
theorem dh.ma (h:dh k X s)(x:Int):dh k X (k.ma s x)/\dT k s (k.ma s x)/\k.cY (k.ma s x) x=K:=by
 by_cases c:k.cY s x=Nc
 ·obtain⟨o,l,m⟩:=cg.rA c;have hp:=(h.fA.ps _ l).1;have n:k.jt x=Nc:=by unfold cg.cY at c;rw[bB] at c;exact c.1
  have e:k.ma s x={s with f:=hG s.f (cr x) (cr x),td:=s.td++[cr x]}:=by unfold cg.ma;rw[aJ c]
  have i:∀b,(k.ma s x).f b=if b=cr x then cr x else s.f b:=fun b=>by rw[e];rfl
  have j:(k.ma s x).td=s.td++[cr x]:=by rw[e]
  have le:dT k s (k.ma s x):=⟨fun b hb=>by rw[i,aI (fun e=>hb (by rw[e];exact m))]⟩
  refine⟨⟨(h.fA.ma x).1,fun b hb g=>?_,fun b hb=>?_,fun b hb g=>?_⟩,le,?_⟩
  ·rw[i] at g⊢;by_cases d:b=cr x
   ·rw[aJ d,d]
   ·rw[aI d] at g⊢;exact h.self b hb g
  ·rw[j] at hb;rw[i];by_cases d:b=cr x
   ·omega
   ·rw[aI d];rcases bE.1 hb with hb|hb
    ·exact h.td b hb
    ·simp_all
  ·rw[j];by_cases d:b=cr x
   ·simp_all
   ·rw[i,aI d] at g;rcases h.cmp b hb g with q|q|q
    ·simp_all
    ·simp_all
    ·exact aK (aK (q.le le (fun b hb=>by simp_all)))
  ·rw[cg.pV n,i,aJ rfl];omega
 ·have e:k.ma s x=s:=by unfold cg.ma;rw[aI c]
  rw[e];exact⟨h,dT.refl _,by simpa using c⟩
theorem Hw (k:cg)(s:cz)(a:Int):∀n,(k.fH s a n).ep=s.ep
 |0=>rfl
 |n+1=>(uF _ _ _).trans (Hw k s a n)
theorem dh.fH (h:dh k X s)(a:Int):∀n:Nat,dh k X (k.fH s a n)/\dT k s (k.fH s a n)/\∀i:Nat,i<n->k.cY (k.fH s a n) (k.ld (a+1+i))=K
 |0=>⟨h,dT.refl _,fun i hi=>aa⟩
 |n+1=>by obtain⟨h1,h2,h3⟩:=dh.fH h a n;exact zQ
theorem bu {α:Type _}{a:α}{«as»:List α}(bs:List α):a ∈ «as» -> a ∈ «as» ++ bs:=by intros;apply List.mem_append_left<;>assumption
theorem dh.lk {x:Int}(h:dh k (fun b=>b=x) s)(l:x∈k.T)(hr:k.lost s+L s.td+L s.ep+1<=L k.T):dh k (fun _=>False) (k.lk s x)/\dT k s (k.lk s x):=by
 have d:∀u:cz,dh k (fun b=>b=x) u->nM k u x->dh k (fun _=>False) u:=fun u e m=>⟨e.fA,e.self,e.td,fun a ha f=>by
  rcases e.cmp a ha f with q|q|q
  ·exact aM q
  ·simp_all
  ·simp_all⟩
 have c:=(h.fA.lk l hr).1;unfold cg.lk at c⊢;by_cases c1:pk (k.ld x)=1\/pk (k.ld x)=2
 ·rw[aJ c1];obtain⟨m1,g,j⟩:=h.fH x _;exact⟨d _ m1 ⟨fun _ i hi=>j i aa,fun q=>aa,fun q=>aa⟩,g⟩
 ·rw[aI c1] at c⊢;by_cases c3:pk (k.ld x)=3
  ·rw[aJ c3];obtain⟨m1,g,j⟩:=h.ma _;exact⟨d _ m1 ⟨fun q=>absurd q c1,fun _=>j,fun q=>aa⟩,g⟩
  ·rw[aI c3] at c⊢;by_cases c4:pk (k.ld x)=4
   ·rw[aJ c4] at c⊢;have le:dT k s {s with ep:=s.ep++[x]}:=⟨fun _ _=>rfl⟩
    refine⟨d _ ⟨c,h.self,h.td,fun a ha f=>?_⟩ ⟨fun q=>absurd q c1,fun q=>absurd q c3,fun _=>aM ac⟩,le⟩
    exact(h.cmp a ha f).imp id (fun q=>q.imp id (fun q=>q.le le (fun b hb=>bu _ hb)))
   ·rw[aI c4];exact⟨d _ h ⟨fun q=>absurd q c1,fun q=>absurd q c3,fun q=>absurd q c4⟩,dT.refl _⟩
theorem dh.l1 (h:dh k (fun _=>False) s)(hl:0<L s.td):dh k (fun _=>False) (k.l1 s)/\dT k s (k.l1 s):=by
 obtain⟨x,c⟩:∃x,M8 s.td (L s.td-1) 0=x:=⟨_,rfl⟩
 have hm:x∈s.td:=by rw[<-c,aL,aN aa];exact a9 _
 have d:∀b,b∈s.td->b∈s.td.take (L s.td-1)\/b=x:=fun b hb=>by
  have e:=g9 s.td (L s.td-1) aa 0;rw[show L s.td-1+1=L s.td from by omega,bk,c] at e;have f:b∈s.td.take (L s.td-1)++[x]:=(e▸hb)
  rcases bE.1 f with hb|hb
  ·exact aM hb
  ·exact aK (bQ.1 hb)
 have hs:=h.fA.sum;have l:L (s.td.take (L s.td-1))=L s.td-1:=by simp_all
 have j0:c9 k {s with td:=s.td.take (L s.td-1)}:=⟨h.fA.nd,h.fA.ps,fun a ha=>h.fA.td a (kr ha),h.fA.ep,h.fA.tl,by show k.lost s+L (s.td.take _)+L s.ep<=_;omega⟩
 have h0:dh k (fun b=>b=x) {s with td:=s.td.take (L s.td-1)}:=⟨j0,h.self,fun a ha=>h.td a (kr ha),fun a ha g=>by
  rcases h.cmp a ha g with q|q|q
  ·exact(d a q).imp id aM
  ·exact absurd q id
  ·exact aK (aK ⟨q.p,q.w,q.e⟩)⟩
 obtain⟨m1,i⟩:=h0.lk (h.fA.td x hm) (by show k.lost s+L (s.td.take _)+L s.ep+1<=_;omega)
 have j:k.l1 s=k.lk {s with td:=s.td.take (L s.td-1)} x:=by unfold cg.l1;rw[c]
 rw[j];exact⟨m1,⟨fun b hb=>i.f b hb⟩⟩
theorem dh.lm:∀(n:Nat){s:cz},dh k (fun _=>False) s->dh k (fun _=>False) (k.lm n s)/\dT k s (k.lm n s)
 |0,s,h=>⟨h,dT.refl _⟩
 |n+1,s,h=>by
  unfold cg.lm;by_cases c:0<L s.td
  ·rw[aJ c];obtain⟨b,d⟩:=h.l1 c;obtain⟨e,j2⟩:=dh.lm n b;exact⟨e,d.trans j2⟩
  ·rw[aI c];exact⟨h,dT.refl _⟩
theorem dh.e5 (h:dh k (fun _=>False) s):dh k (fun _=>False) (k.e5 s)/\dT k s (k.e5 s)/\(k.e5 s).td=[]:=by obtain⟨b,c⟩:=dh.lm _ h;exact⟨b,c,GQ h.fA⟩
theorem dh.i3:∀(l:List Int){t:List Int×cz},dh k X t.2->dh k X (l.foldl k.cV t).2/\dT k t.2 (l.foldl k.cV t).2/\(l.foldl k.cV t).2.ep=t.2.ep/\(∀a∈t.1,a∈(l.foldl k.cV t).1)/\∀a∈l,a∈(l.foldl k.cV t).1\/k.cY (l.foldl k.cV t).2 (k.ld (a+2))=K
 |[],t,h=>⟨h,dT.refl _,rfl,fun _ q=>q,fun a ha=>by cases ha⟩
 |a::l,t,h=>by
  have key:dh k X (k.cV t a).2/\dT k t.2 (k.cV t a).2/\(k.cV t a).2.ep=t.2.ep/\(∀b∈t.1,b∈(k.cV t a).1)/\(a∈(k.cV t a).1\/k.cY (k.cV t a).2 (k.ld (a+2))=K):=by
   unfold cg.cV;split
   ·exact⟨h,dT.refl _,rfl,fun b hb=>bu _ hb,aM ac⟩
   ·obtain⟨m1,f,g⟩:=h.ma _;exact⟨m1,f,uF _ _ _,fun _ hb=>hb,aK g⟩
  obtain⟨k1,i,j,m,k5⟩:=key;obtain⟨n,c,o,d,p⟩:=dh.i3 l k1;refine⟨n,i.trans c,o.trans j,fun b hb=>d b (m b hb),fun b hb=>?_⟩
  rcases bT.1 hb with e|hb
  ·rw[e];exact k5.imp (d a) c.cY
  ·exact p b hb
theorem dh.kv (h:dh k (fun _=>False) s):dh k (fun _=>False) (k.kv s).2/\dT k s (k.kv s).2:=by
 obtain⟨b,e,f,_,g⟩:=dh.i3 s.ep (t:=([],s)) h;have b:=b;have le:dT k (k.d8 s s.ep).2 (k.kv s).2:=⟨fun _ _=>rfl⟩
 refine⟨⟨h.fA.kv.1,b.self,b.td,fun a ha i=>?_⟩,e.trans le⟩
 rcases b.cmp a ha i with q|q|q
 ·exact aM q
 ·exact absurd q id
 ·refine aK (aK ⟨fun c=>le.oQ (q.p c),fun c=>le.cY (q.w c),fun c=>?_⟩)
  rcases q.e c with d|d
  ·rw[f] at d;exact(g a d).imp id le.cY
  ·exact aK (le.cY d)
theorem zY:∀(l:List Int)(t:List Int×cz),L t.1+L l<=L (l.foldl k.cV t).1->l.foldl k.cV t=(t.1++l,t.2)/\∀a∈l,k.cY t.2 (k.ld (a+1))=Nc
 |[],t,_=>⟨ac,fun a ha=>by cases ha⟩
 |a::l,t,h=>by
  have f:∀(l:List Int)(t:List Int×cz),L (l.foldl k.cV t).1<=L t.1+L l:=fun l=>by
   induction l with
   |nil=>intro t;simp
   |cons b l g=>
    intro t;rw[a_];have q:=g (k.cV t b)
    have d:L (k.cV t b).1<=L t.1+1:=by
     unfold cg.cV;split
     ·simp
     ·simp
    simp only [bZ];omega
  rw[a_] at h⊢;simp only [bZ] at h;by_cases c:k.cY t.2 (k.ld (a+1))=Nc
  ·have e:k.cV t a=(t.1++[a],t.2):=by unfold cg.cV;rw[aJ c]
   rw[e] at h⊢;obtain⟨q1,d⟩:=zY l (t.1++[a],t.2) (by simp only [List.length_append,bZ,List.length_nil];omega)
   rw[q1];refine⟨ac,fun b hb=>?_⟩
   rcases bT.1 hb with e|hb
   ·rw[e];exact c
   ·exact d b hb
  ·have e:k.cV t a=(t.1,k.ma t.2 (k.ld (a+2))):=by unfold cg.cV;rw[aI c]
   rw[e] at h;have:=f l (t.1,k.ma t.2 (k.ld (a+2)))
   dsimp only at this
   omega
theorem Hx (h:(k.kv s).1=K):(k.kv s).2=s/\∀a∈s.ep,k.cY s (k.ld (a+1))=Nc:=by
 have c:=of_decide_eq_false h;obtain⟨q1,b⟩:=zY s.ep ([],s) (by show 0+L s.ep<=L (k.d8 s s.ep).1;omega)
 have q1:k.d8 s s.ep=(s.ep,s):=by assumption
 refine⟨?_,b⟩
 unfold cg.kv;rw[q1]
end
end Go.Proofs.YtpkjkjhanlbcoaaGreat
