import Derived.Test.YtjckpdepffejnaaGreatDoorJ08
import Derived.Deep.LoopGhost
open Array renaming size->I
open Bool renaming false->O4,true->C
open Go renaming Addr->bB,Calls->M,Value->a7,info_parts->bM,maxLen->bL
open Go.Ending renaming returned->Q
open Go.IntKind renaming i64->OW
open Go.Obj renaming cells->OX
open Go.Proofs.Tryz renaming prog->J
open Go.RowKit renaming Below->O,intOf->bG
open Go.Value renaming int->U,ownBlock->A,pointer->bq,slice->Z,tuple->ay
open Go.World renaming cell?->V,heap->G,ownsRow->aC,setCell->P
open Iff renaming rfl->gp
open Int renaming toNat->K
open List renaming foldl_append->lD,getD->X,getElem_cons_succ->kL,getElem_cons_zero->gT,getElem_toArray->j4,length->OQ,length_take->j3,mem_of_mem_take->vb,setIfInBounds_toArray->iB,set_cons_succ->lT,set_cons_zero->lX
open Nat renaming zero_add->bW
open Option renaming none->Y,some->H
namespace Go.Proofs.YtjckpdepffejnaaGreatDoor
set_option maxRecDepth 100000
set_option maxHeartbeats 4000000
open Tryz
open Go.RowKit W Kp ch
theorem vK {P:Prop}(h:P:=by
 rcases hb with hb|hb
 ·exact(hT.sub b hb).imp (λd=>(g4 b).2 (aK d)) id
 ·exact aK ((g4 b).2 (aI hb))):P:=h
section
variable {c:fR}{k:b_}{F:Nat->Prop}{s:cy}{w:az}
theorem Ht (h:(e_ c k).J F s w)(ao:c8 k s):
 M prog 262 #[aq c.pk] w λe w'=>∃u,e=Q (ay #[])/\(e_ c k).J u (k.lm (k.lost s+OQ s.td+1) s) w'/\b9 F w u w':=by
 have v:=cU h ao;obtain⟨g,B⟩:∃g,k.lm (k.lost s+OQ s.td+1) s=g:=⟨_,rfl⟩
 rw[B];have ap:=cg B;obtain⟨vt,ar,h⟩:=h;obtain⟨_,_,_,_,_,N,_⟩:=e3 h;obtain⟨tr,_⟩:=ow h;obtain⟨ad,cap,q⟩:=e7 tr;subst q;go_enter func262,ntmps262;go_wp2_with fail
 go_loopg [2] (k.lost s+OQ s.td) (λm nv wr=>∃(s1:cy)(i:Nat->Prop),nv=ak (OQ s1.td)/\aA ((e_ c k).J i s1 wr/\c8 k s1/\b9 F w i wr)/\aA (k.lost s1+OQ s1.td<=m/\k.lm (m+1) s1=g))
 exact⟨s,F,rfl,⟨v.o.1,v.o.2,b9.refl _ _⟩,⟨aG _,ap.o⟩⟩
 ·
   obtain⟨s1,i,rfl,d,j⟩:=hrel;by_cases f:0<OQ s1.td
   ·obtain⟨vt,ar,o⟩:=d.o.1;obtain⟨_,_,_,_,_,N,_,S,lk⟩:=e3 o;obtain⟨tr,_,bo,_⟩:=ow o;obtain⟨b,cap,q⟩:=fi tr f;subst q;have aB:=u_ tr;have bp:bL<=9223372036854775807:=by unfold bL;omega
    have aF:V wr (av b (OQ s1.td-1))=H (ak (X s1.td (OQ s1.td-1) 0)):=by obtain⟨br,bs,e,_,hc⟩:=ir tr f;cases e;have:=hc (OQ s1.td-1) aa;rwa [bW] at this
    have bt:=S 5;have hm:X s1.td (OQ s1.td-1) 0∈s1.td:=by rw[aM,aP aa];exact a_ _
    have W:=d.o.2.1.ps _ (d.o.2.1.td _ hm)
    have aR:=d.o.2.1.sum;have bx:=d.o.2.1.tl;obtain⟨b0,ab,ag⟩:=Aa o (Fr.refl _ wr) (v1:=Z (au b) (OQ s1.td-1) cap) (l:=s1.td.take (OQ s1.td-1)) (by have:=uZ tr (OQ s1.td-1) aa;rw[List.map_take,show OQ (s1.td.take (OQ s1.td-1))=OQ s1.td-1 by rw[j3];omega];exact this) (λb e=>aK e)
    have ai:c8 k {s1 with td:=s1.td.take (OQ s1.td-1)}:=⟨d.o.2.1.nd,d.o.2.1.ps,λx aV=>d.o.2.1.td x (vb aV),d.o.2.1.ep,d.o.2.1.tl,by show k.lost s1+OQ (s1.td.take (OQ s1.td-1))+OQ s1.ep<=_;rw[j3];omega⟩
    have t:=Hs ⟨_,_,ab⟩ ai (X s1.td (OQ s1.td-1) 0) W.1 W.2 (by show OQ s1.ep<=10000;omega)
    have a0:aA (k.lk {s1 with td:=s1.td.take (OQ s1.td-1)} (X s1.td (OQ s1.td-1) 0)=k.l1 s1):=rfl;rw[a0.o] at t;have al:=cg (d.o.2.1.l1 f)
    have a1:aA (k.lm (gk+1) s1=k.lm gk (k.l1 s1)):=by show _=_;rw[b_.lm,aN f]
    have am:=cg (d.o.2.2.trans ag)
    obtain⟨n,hn⟩:∃n,OQ s1.td=n+1:=⟨OQ s1.td-1,aa⟩
    rw[hn] at N aB⊢;rw[hn,Nat.add_sub_cancel] at aF t am;generalize X s1.td n 0=x at*;generalize k.l1 s1=p at*;have b1:n<=4000:=aa;clear o ab ag ai tr hm aR S d;go_wp2_with fail;refine t.mono ?_;rintro e b2 ⟨a2,rfl,cM,bb⟩
    have bd:=ge cM al.o.1 (am.o.trans bb)
    obtain⟨b3,b4,an⟩:=cM;obtain⟨_,_,_,_,_,b5,_⟩:=e3 an;obtain⟨be,_⟩:=ow an;obtain⟨b6,b7,bg⟩:=e7 be;subst bg;have hg:1<=gk:=by have:=j.o.1;omega
    have bi:aA (k.lost p+OQ p.td<=gk-1/\k.lm (gk-1+1) p=g):=⟨by have:=j.o.1;have:=al.o.2;omega,by rw[Nat.sub_add_cancel hg,<-a1.o];exact j.o.2⟩
    go_wp2_with fail
    go_roundg (gk-1)
    case measure=>omega
    exact⟨p,a2,rfl,bd,bi⟩
   ·have bl:s1.td=[]:=by
     cases ht:s1.td with
     |nil=>rfl
     |cons x l=>rw[ht] at f;simp at f
    have bn:g=s1:=by rw[<-j.o.2];unfold b_.lm;rw[aJ f]
    subst bn;rw[bl];go_wp2_with fail;go_end0;exact⟨i,rfl,d.o.1,d.o.2.2⟩
theorem Hu (h:(e_ c k).J F s w)(N:c8 k s):
 M prog 263 #[aq c.pk] w λe w'=>∃b3,e=Q (.bool (k.kv s).1)/\(e_ c k).J b3 (k.kv s).2 w'/\b9 F w b3 w':=by
 obtain⟨cn,hi,co,cp,cq⟩:=bM l6;obtain⟨vt,cE,h⟩:=h;obtain⟨_,_,_,_,_,_,cr,_⟩:=e3 h;obtain⟨_,er,_⟩:=ow h;obtain⟨ad,cap,cs⟩:=e7 er;subst cs;have bb:aA (c8 k s):=N;have b5:aA ((j_ c k (Z ad (OQ s.ep) cap)).J F s w):=⟨vt,h⟩
 have cF:OQ s.ep<=4000:=by have:=N.sum;have:=N.tl;omega
 have ct:aA (∀a∈s.ep,0<=a/\a<=2000):=λa ha=>N.ps a (N.ep a ha)
 have b6:aA (k.kv s=(decide (OQ (k.em s s.ep).1<OQ s.ep),{(k.em s s.ep).2 with ep:=(k.em s s.ep).1})):=rfl;clear N h er;go_enter func263,ntmps263;go_wp2_with fail
 go_loopw [3,12] (λvr iv wr=>∃(j:Nat)(R:List Int)(s1:cy)(ar:Option bB)(g:Nat)(f:Nat->Prop),j<=OQ s.ep/\iv=ak j/\aA (k.em s (s.ep.take j)=(R,s1))/\vr=Z ar (OQ R) g/\aC wr (I (G w)) 3 1 (Z ar (OQ R) g) (OQ R) (R.map (Value.int OW))/\(j_ c k (Z ad (OQ s.ep) cap)).J f s1 wr/\b9 F w f wr/\aA (∀b,H b=A (Value.slice ar (OQ R) g)->¬f b)/\aA (c8 k s1/\s1.ep=s.ep)) (λ_ iv _=>OQ s.ep-K (bG iv))
 case atStart=>exact⟨0,[],s,Y,0,F,a4 _,rfl,rfl,rfl,a9 _ _ _ _,b5.o,b9.refl _ _,λb e=>by simp[Value.ownBlock] at e,⟨bb.o,rfl⟩⟩
 case round=>
  obtain⟨j,R,s1,ar,g,f,W,rfl,ab,rfl,q,b7,v,S,ag⟩:=hrel;clear b5 cr;have cG:OQ R<=10000:=by have ai:=(c8.jd (s.ep.take j) (t:=([],s)) bb.o (λa ha=>bb.o.ep a (vb ha)) (λb hb=>by cases hb)).2.1;have b8:=ab.o;unfold b_.em at b8;rw[b8] at ai;simp at ai;omega
  by_cases ap:j<OQ s.ep
  ·obtain⟨ca,i⟩:=b7;obtain⟨_,bd,_⟩:=ow i;rw[ag.o.2] at bd;obtain⟨m,n,cv,cH,hc⟩:=ir bd aa;have be:=hc j ap;subst cv;have cb:X s.ep j 0∈s.ep:=by rw[aM,aP ap];exact a_ ap
   have cw:=ct.o _ cb;have bg:aA (k.em s (s.ep.take (j+1))=k.cX (R,s1) (X s.ep j 0)):=by
    show _=_;rw[h_ s.ep j ap 0];unfold b_.em;rw[lD];have:=ab.o;unfold b_.em at this
    rw[this];rfl
   generalize X s.ep j 0=a at be cw bg;obtain⟨aB,_⟩:=e3 i;obtain⟨al,aF,_⟩:=ig i;have L:=kN (a+1) wr al;have am:ld k.a.N k.s.y k.s.g k.s.ws (a+1)=k.ld (a+1):=rfl;rw[am] at L;have B:aA ((j_ c k (Z (H ⟨m,n,Y⟩) (OQ s.ep) cap)).J f s1 wr/\b9 F w f wr):=⟨⟨ca,i⟩,v⟩
   have cI:=v.fr.size;have cc:aA (∀b,H b=A (Value.slice ar (OQ R) g)->b<I (G wr)):=λb e=>(cu q b e).2;have j0:(0:Int)<=(j:Int):=aa;have cJ:(j:Int)<(OQ s.ep:Int):=aa;clear hc cb i v al am bd;cases hls:k.dd s1 (k.ld (a+1))
   ·have aR:aA (k.em s (s.ep.take (j+1))=(R,k.ma s1 (k.ld (a+2)))):=by show _=_;rw[bg.o];unfold b_.cX;rw[hls];rfl
    generalize k.ld (a+1)=x at L hls;go_wp2_with fail;refine L.mono ?_;clear L;rintro e w1 ⟨rfl,o⟩
    obtain⟨cx,p⟩:=(j_ c k (Z (H ⟨m,n,Y⟩) (OQ s.ep) cap)).below B.o.1 o;have P:=qI p x;rw[hls] at P;clear be aB aF p;go_wp2_with fail;refine P.mono ?_;clear P;rintro e an ⟨rfl,ao⟩
    have hb:=o.trans (ao.mono o.size)
    obtain⟨cz,aV⟩:=(j_ c k (Z (H ⟨m,n,Y⟩) (OQ s.ep) cap)).below B.o.1 hb;obtain⟨aB,_⟩:=e3 aV;obtain⟨al,aF,_⟩:=ig aV;have a0:=kN (a+2) an al;have am:ld k.a.N k.s.y k.s.g k.s.ws (a+2)=k.ld (a+2):=rfl;rw[am] at a0;have cA:aA (k.ld (a+2)=k.ld (a+2)):=rfl;generalize k.ld (a+2)=y at a0 aR;have bi:aA ((j_ c k (Z (H ⟨m,n,Y⟩) (OQ s.ep) cap)).J f s1 an/\O (I (G wr)) wr an):=⟨⟨cz,aV⟩,hb⟩
    clear o ao aV al am hb cA;go_wp2_with fail;refine a0.mono ?_;clear a0;rintro e cB ⟨rfl,bl⟩
    have cd:=Ae ((j_ c k (Z (H ⟨m,n,Y⟩) (OQ s.ep) cap)).below bi.o.1 bl) ag.o.1 y;have ce:aA (b9 f wr f cB):=(b9.of bi.o.2).below bl;clear bl aB aF bi;go_wp2_with fail;refine cd.mono ?_;clear cd;rintro e bn ⟨cf,rfl,bo,a1⟩
    have a2:=ce.o.trans a1;have bp:=ag.o.1.ma y;have br:=ge (B.o.2.trans a2) bp.1 (bp.2.2.trans ag.o.2)
    have bs:=iq q a2.fr (λb e=>S.o b e)
    have bt:aA (∀b,H b=A (Value.slice ar (OQ R) g)->¬cf b):=λb e d=>(a2.sub b d).elim (S.o b e) (λd=>by have:=cc.o b e;omega)
    clear a1 a2 bp q ce S;go_wp2_with fail;go_roundw;exact⟨j+1,R,_,ar,g,cf,aa,aj,aR,rfl,bs,bo,br.o.1,bt,⟨br.o.2.1,br.o.2.2⟩⟩
    simp[bG];omega
   ·have aR:aA (k.em s (s.ep.take (j+1))=(R++[a],s1)):=by show _=_;rw[bg.o];unfold b_.cX;rw[aN hls]
    generalize k.ld (a+1)=x at L hls;go_wp2_with fail;refine L.mono ?_;clear L;rintro e w1 ⟨rfl,o⟩
    obtain⟨cx,p⟩:=(j_ c k (Z (H ⟨m,n,Y⟩) (OQ s.ep) cap)).below B.o.1 o;have P:=qI p x;rw[hls] at P;clear be aB aF p;go_wp2_with fail;refine P.mono ?_;clear P;rintro e an ⟨rfl,ao⟩
    have hb:=o.trans (ao.mono o.size)
    have bx:=cK q (λb e=>hb.block b (cc.o b e))
    have cL:=hb.size;clear o ao;go_wp2_with (at_builtin;refine wpList_append_own_at _ rfl _ _ 136 rfl (I (G w)) 3 cn (ak 0) 1 8 underlying136 hi co cp cq rfl ae (Z ar (OQ R) g) (OQ R) (R.map (Value.int OW)) rfl (gq bx _) ⟨I (G an),0,Y⟩ 1 1 [ak a] rfl rfl ?_ ?_ ?_ ?_ ?_ ?_;(intro j u W;match j,W with|0,W=>(simp at W;subst W;simp[Addr.add]));(intro u ch;simp at ch;subst ch;rfl);(unfold bL;omega);omega;(simp;omega);intro cM bn b0 b1 _ ci;obtain⟨b4,b2,cC⟩:=fi b0 (Nat.succ_pos _);subst cC)
    have bs:aC bn (I (G w)) 3 1 (Z (au b4) (OQ (R++[a])) b2) (OQ (R++[a])) ((R++[a]).map (Value.int OW)):=by simpa using b0
    have p:=(j_ c k (Z (H ⟨m,n,Y⟩) (OQ s.ep) cap)).below B.o.1 hb;have bo:=rP (j_ c k (Z (H ⟨m,n,Y⟩) (OQ s.ep) cap)) p b1 (λb e=>S.o b e)
    have a1:b9 F w f bn:=⟨((B.o.2.below hb).fr.alloc _).grown b1 (λb e=>aI (cu bx b e.symm).1),B.o.2.sub⟩
    have bt:aA (∀b,H b=A (Value.slice (au b4) (OQ (R++[a])) b2)->¬f b):=λb e cj=>by
     have cD:=ci.imp id (λe=>by simpa[Value.ownBlock] using e)
     simp[Value.ownBlock] at e;subst e;rcases cD with e|e
     ·exact S.o _ e cj
     ·have:=(j_ c k (Z (H ⟨m,n,Y⟩) (OQ s.ep) cap)).lt p _ cj;omega
    clear p b0 b1 ci bx q hb;go_wp2_with fail;go_roundw;exact⟨j+1,R++[a],s1,au b4,b2,f,aa,aj,aR,ac,bs,bo,a1,bt,ag⟩
    simp[bG];omega
  ·obtain rfl:j=OQ s.ep:=aa;rw[ba] at ab;obtain⟨ca,i⟩:=b7;obtain⟨_,_,_,_,_,_,cN,ck,lk⟩:=e3 i;have cO:=ck 6;obtain⟨cl,cm⟩:=Ab i (v1:=Z ar (OQ R) g) (l:=R) (Fr.refl _ wr) (fA q (λ_ _=>a4 _)) (λb e=>aI (S.o b e))
   have vh:=cU cl (v.fr.trans cm v.sub)
   have zx:aA (∀b,H b=A (Value.slice ar (OQ R) g)->I (G w)<=b):=λb e=>(cu q b e).1;have zw:=cg v.sub;have E2:aA ((k.kv s).1=decide (OQ R<OQ s.ep)/\(k.kv s).2={s1 with ep:=R}):=by have ai:=b6.o;rw[ab.o] at ai;rw[ai];exact⟨rfl,rfl⟩
   clear cl cm i v q ab b6 ck;by_cases hll:OQ R<OQ s.ep
   ·go_wp2_with fail;exact sa
   ·go_wp2_with fail;exact sa
end
def eu (c:fR)(k:b_):dr cy:=zz (e_ c k) (λs=>c8 k s)
abbrev dw (c:fR):Obj:=OX #[aq c.pk] 260 (0,0)
abbrev lC (c:fR):gI:=⟨261,#[aq c.pk],#[]⟩
abbrev nu (c:fR):gI:=⟨190,#[aq c.pk],#[]⟩
abbrev kz (fv:gI):Obj:=OX #[fv.v] 168 (0,0)
abbrev jF (bx:Nat):gI:=⟨264,#[],#[aq bx]⟩
abbrev i4 (b:Nat):gI:=⟨266,#[],#[aq b]⟩
abbrev ka (c:fR):gI:=⟨267,#[aq c.pk],#[]⟩
theorem vL:ef 264:=g9 func264 ah rfl
theorem vM:ef 266:=g9 func266 ah rfl
theorem vN:ef 267:=g9 func267 ah rfl
section
variable {c:fR}{k:b_}{F:Nat->Prop}{s:cy}{w:az}
theorem vO (fv:gI)(w:az)(p:Nat):
 M J 189 #[aq p,fv.v] w λe w'=>e=Q (.agg #[(jF (I (G w))).v,(i4 (I (G w)+1)).v,.func (.func 267) #[aq p] #[]])/\w'.heap[I (G w)]?=H (OX #[aq p] 260 (0,0))/\w'.heap[I (G w)+1]?=H (kz fv)/\O (I (G w)) w w':=by
 obtain⟨f,b,c⟩:=fv;go_enter func189,ntmps189;go_wp2_with fail;refine a3 (v:=.agg #[(jF (I (G w))).v,(i4 (I (G w)+1)).v,.func (.func 267) #[aq p] #[]]) (by simp[results,results189,go_sem]) rfl ⟨rfl,?_,?_,(((aH _ w).alloc bY _).alloc ac _).alloc (by simp;omega) _⟩
 ·rw[aU _ _ _ (by simp;omega),aU _ _ _ ac];exact aO _ _
 ·rw[aU _ _ _ ac];have:=aO (w.alloc (OX #[bq (H ⟨p,0,Y⟩)] 260)) (OX #[.func (.func f) b c] 168)
  simpa using this
theorem vP:mM (eu c k) (λ_=>True) (ka c).f (ka c).b (ka c).c k.nw:=by
 rintro F s w x _ ⟨⟨vt,b,h⟩,_⟩
 exact Ad h x
def b_.mp (k:b_)(s:cy)(x:Int):Int×cy:=(x,k.ma s x)
theorem Af (f:Nat):pd (dq (eu c k) f (kz (lC c))) (λ_=>True) (i4 f).f (i4 f).b (i4 f).c k.mp:=by
 rintro F s w x _ ⟨u,⟨h,j⟩,l,hn,o⟩
 have P:=qJ h j x;have c0:V w (av f 0)=H (lC c).v:=aD l
 have t:=cg (j.ma x).1;have g:=ge l hn o;clear h j l hn o;show M prog 266 #[ak x,aq f] w _;go_enter func266,ntmps266;go_wp2_with fail;refine P.mono ?_;clear P;rintro e w1 ⟨m,rfl,p,i⟩
 have q:=(i.fr.block f (cj g.o.1) g.o.2.1).trans g.o.1;have n:aA ((dq (eu c k) f (kz (lC c))).J (λb=>m b\/b=f) (k.ma s x) w1/\Fr F w w1/\∀b,(m b\/b=f)->F b\/I (G w)<=b):=by
  refine⟨⟨m,⟨p,t.o⟩,q,λd=>(i.sub _ d).elim g.o.2.1 (λd=>by have:=cj g.o.1;omega),λb=>gp⟩,i.fr.mono (λb d=>(g.o.2.2 b).2 (aK d)),λb d=>?_⟩
  rcases d with d|d
  ·exact(i.sub b d).imp (λd=>(g.o.2.2 b).2 (aK d)) id
  ·exact aK ((g.o.2.2 b).2 (aI d))
 clear p i q;go_wp2_with fail;go_ret;exact⟨_,rfl,n.o.1,n.o.2.1,n.o.2.2⟩
end
def b_.fe (k:b_)(s:cy):cy:=k.lm (k.lost s+OQ s.td+1) s
def b_.wa (k:b_)(t:cy×List b8):(cy×List b8)×Bool:=it k.al k.mp t (OQ t.2)
def b_.ph (k:b_)(s:cy):Nat:=k.lost s+OQ s.td+OQ s.ep
def b_.mu (k:b_)(s:cy):Nat:=k.lost s+k.ph s
def b_.de (k:b_):Nat->cy×List b8->cy×List b8
 |0,t=>t
 |n+1,t=>
  if(k.kv (k.fe t.1)).1=C then k.de n ((k.kv (k.fe t.1)).2,t.2)
  else if(k.wa ((k.kv (k.fe t.1)).2,t.2)).2=C then k.de n (k.wa ((k.kv (k.fe t.1)).2,t.2)).1
  else(k.wa ((k.kv (k.fe t.1)).2,t.2)).1
def b_.sp (k:b_)(t:cy×List b8):cy×List b8:=k.de (k.mu t.1+1) t
def b_.ke (k:b_)(t:cy×List b8)(x:Int):Int×(cy×List b8):=(x,k.sp (k.ma t.1 x,t.2))
structure dC (k:b_)(s t:cy):Prop where
 fG:c8 k t
 lo:k.lost t<=k.lost s
 ph:k.ph t<=k.ph s
section
variable {k:b_}{s t u:cy}
theorem dC.refl (h:c8 k s):dC k s s:=⟨h,aG _,aG _⟩
theorem dC.trans (h:dC k s t)(j:dC k t u):dC k s u:=⟨j.fG,aQ j.lo h.lo,aQ j.ph h.ph⟩
theorem dC.mu (h:dC k s t):k.mu t<=k.mu s:=by
 have b:=h.lo;have c:=h.ph
 grind [b_.mu]
theorem Hv (h:c8 k s)(x:Int):k.dd s x=C->k.lost (k.ma s x)<k.lost s:=λc=>by grind [b_.z_,c8.nd,c8.ps]
theorem dC.ma (h:c8 k s)(x:Int):dC k s (k.ma s x):=by
 obtain⟨b,d,e⟩:=h.ma x;refine⟨b,?_,?_⟩
 ·by_cases c:k.dd s x=C
  all_goals grind [b_.ma]
 grind [b_.ph]
theorem dC.fQ (h:c8 k s)(a:Int):∀n,dC k s (k.fQ s a n)
 |0=>dC.refl h
 |n+1=>(dC.fQ h a n).trans (dC.ma (dC.fQ h a n).fG _)
theorem Hw (h:c8 k s)(a:Int):k.lost (k.lk s a)<=k.lost s:=by
 unfold b_.lk;split
 ·simp_all [dC.lo,dC.fQ]
 ·split
  ·exact(dC.ma h _).lo
  ·split
   ·exact aG _
   omega
theorem dC.l1 (h:c8 k s)(hl:0<OQ s.td):dC k s (k.l1 s):=by
 obtain⟨c,d⟩:=h.l1 hl;have hm:X s.td (OQ s.td-1) 0∈s.td:=by grind
 have hs:=h.sum;have e:OQ (s.td.take (OQ s.td-1))=OQ s.td-1:=by grind
 have h0:c8 k {s with td:=s.td.take (OQ s.td-1)}:=⟨h.nd,h.ps,λa ha=>h.td a (by grind),h.ep,h.tl,by show k.lost s+OQ (s.td.take _)+OQ s.ep<=_;omega⟩
 have b:=(h0.lk (h.td _ hm) (by show k.lost s+OQ (s.td.take _)+OQ s.ep+1<=_;omega)).2.2;have b:OQ (k.l1 s).ep<=OQ s.ep+1:=b;refine⟨c,(Hw h0 _),?_⟩
 grind [b_.ph]
theorem dC.lm:∀(n:Nat){s:cy},c8 k s->dC k s (k.lm n s)
 |0,s,h=>dC.refl h
 |n+1,s,h=>by
  unfold b_.lm;by_cases c:0<OQ s.td
  ·rw[aN c];exact(dC.l1 h c).trans (dC.lm n (dC.l1 h c).fG)
  grind [refl]
theorem dC.fe (h:c8 k s):dC k s (k.fe s):=dC.lm _ h
theorem Hx (h:c8 k s):(k.fe s).td=[]:=(c8.lm _ h).2.1 aa
theorem dC.jd:∀(l:List Int){t:List Int×cy},c8 k t.2->dC k t.2 (l.foldl k.cX t).2
 |[],t,h=>dC.refl h
 |a::l,t,h=>by
  have b:dC k t.2 (k.cX t a).2:=by grind [ma,refl,b_.cX]
  exact b.trans (dC.jd l b.fG)
theorem dC.kv (h:c8 k s):dC k s (k.kv s).2/\((k.kv s).1=C->k.mu (k.kv s).2<k.mu s):=by
 obtain⟨b,d,f,g⟩:=h.kv;have c:k.lost (k.kv s).2<=k.lost s:=(dC.jd s.ep h).lo;refine⟨⟨b,c,by grind [b_.ph]⟩,λe=>?_⟩
 grind [b_.mu,b_.ph]
theorem Ag:∀(l:List Nat)(t:(cy×List b8)×Bool),c8 k t.1.1->dC k t.1.1 (l.foldl (dN k.al k.mp) t).1.1/\OQ (l.foldl (dN k.al k.mp) t).1.2=OQ t.1.2/\((l.foldl (dN k.al k.mp) t).2=C->t.2=C\/k.lost (l.foldl (dN k.al k.mp) t).1.1<k.lost t.1.1)
 |[],t,h=>(by grind [dC.refl])
 |i::l,t,h=>by
  have key:dC k t.1.1 (dN k.al k.mp t i).1.1/\OQ (dN k.al k.mp t i).1.2=OQ t.1.2/\((dN k.al k.mp t i).2=C->t.2=C\/k.lost (dN k.al k.mp t i).1.1<k.lost t.1.1):=by
   unfold dN;split
   ·grind [dC.refl]
   ·rename_i c;refine⟨dC.ma h _,ac,λ_=>aI (Hv h _ ?_)⟩
    grind [b_.al]
  obtain⟨k1,k2,k3⟩:=key;obtain⟨b,j2,cI⟩:=Ag l _ k1.fG;refine⟨k1.trans b,j2.trans k2,λe=>?_⟩
  rcases cI e with d|d
  ·rcases k3 d with d|d
   ·grind
   ·exact aI (Nat.lt_of_le_of_lt b.lo d)
  ·exact aI (aL d k1.lo)
theorem dC.wa {t:cy×List b8}(h:c8 k t.1):dC k t.1 (k.wa t).1.1/\OQ (k.wa t).1.2=OQ t.2/\((k.wa t).2=C->k.mu (k.wa t).1.1<k.mu t.1):=by
 obtain⟨b,c,d⟩:=Ag _ (t,O4) h;have b:dC k t.1 (k.wa t).1.1:=b;refine⟨b,c,λe=>?_⟩
 have f:k.lost (k.wa t).1.1<k.lost t.1:=(d e).resolve_left ac;have g:=b.ph
 grind [b_.mu]
end
section
variable {c:fR}{k:b_}{F:Nat->Prop}{s:cy}{w:az}{vr:a7}
theorem vQ (bx b:Nat)(fv:gI):lu (dq (dq (eu c k) b (kz fv)) bx (dw c)) (λ_=>True) (jF bx).f (jF bx).b (jF bx).c k.al:=by
 rintro F s w x _ ⟨f,⟨g,⟨⟨vt,i,h⟩,_⟩,_⟩,d,_⟩
 have P:=qI h x;have c0:V w (av bx 0)=H (aq c.pk):=aD d
 have E:k.al s x=!k.dd s x:=rfl;go_enter func264,ntmps264;go_wp2_with fail;refine P.mono ?_;exact qt
theorem Hy {i:Option bB}{j l:Nat}(m:vr=Z i j l){t:cy×List b8}(h:(dj (eu c k) c.bs vr).J F t w)(hq:OQ t.2<=90000)(bx f:Nat)(n:w.heap[bx]?=H (dw c))(hy:w.heap[f]?=H (kz (lC c)))(hn:¬F bx)(hm:¬F f)(o:bx≠f):
 M prog 245 #[aq c.bs,.agg #[(jF bx).v,(i4 f).v,(ka c).v]] w λe w'=>∃g,e=Q (.bool (k.wa t).2)/\(dj (eu c k) c.bs vr).J g (k.wa t).1 w'/\Fr (λb=>F b\/b=f\/b=bx) w w'/\(∀b,g b->F b\/b=f\/b=bx\/I (G w)<=b):=by
 refine(zc _ (zy _ _ _) (λ_=>True) (jF bx) (i4 f) (ka c) _ _ _ (r2 _ c.bs vr (λ_=>True) (jF bx) (i4 f) (ka c) k.al k.mp k.nw vL vM vN (vQ bx f (lC c)) (vm (Af f)) (ns (ns vP))) i j l m _ t w hq (λ_ _=>⟨trivial,trivial⟩) (lv (lv h hy hm) n (λd=>d.elim hn o))).mono ?_;rintro e w' ⟨g,rfl,p,q,hs⟩
 refine⟨g,rfl,vl (vl p),q.mono (λb d=>?_),λb hb=>?_⟩
 ·rcases d with(d|d)|d
  ·exact aK d
  ·exact aI (aK d)
  ·exact aI (aI d)
 ·rcases hs b hb with((d|d)|d)|d
  ·exact aK d
  ·exact aI (aK d)
  ·exact aI (aI (aK d))
  ·exact aI (aI (aI d))
theorem Ah {bo:Option bB}{bp br:Nat}(bs:vr=Z bo bp br){t:cy×List b8}(h:(dj (eu c k) c.bs vr).J F t w)(hq:OQ t.2<=90000):
 M prog 188 #[aq c.pk] w λe w'=>∃aR,e=Q (ay #[])/\(dj (eu c k) c.bs vr).J aR (k.sp t) w'/\b9 F w aR w':=by
 have bt:∀(aV:Fn)(first cap:Array a7)(w:az),(Instr.makeFunc aV first cap).run prog w=.ok (.func aV first cap) w:=λ_ _ _ _=>rfl;obtain⟨f,a0⟩:∃f,k.sp t=f:=⟨_,rfl⟩
 rw[a0];have bx:=cg a0;go_enter func188,ntmps188;go_wp2
 go_loopg [2] (k.mu t.1+1) (λn b0 wr=>∃(ad:Nat->Prop)(d:cy×List b8)(b:Bool),b0=.bool b/\(dj (eu c k) c.bs vr).J ad d wr/\b9 F w ad wr/\aA (if b=C then k.mu d.1<n/\k.de n d=f else d=f)/\OQ d.2<=90000)
 exact⟨F,t,C,rfl,h,b9.refl _ _,⟨aa,bx.o⟩,hq⟩
 ·
   obtain⟨ad,d,b,rfl,a1,a2,bb,hq⟩:=hrel;cases b
   ·have x:=cg bb.o;go_wp2;go_end0;rw[<-x.o];exact⟨ad,rfl,a1,a2⟩
   ·obtain⟨ci,b1⟩:=bb.o;obtain⟨m,hm⟩:∃m,gk=m+1:=⟨gk-1,aa⟩
    obtain⟨cj,an,b2⟩:=px a1;have B:=Ht an.1 an.2;have j0:=dC.fe an.2;obtain⟨bd,j2⟩:=dC.kv j0.fG;have cI:=(j0.trans bd).mu;have cM:=j0.mu;have b3:k.lm (k.lost d.1+OQ d.1.td+1) d.1=k.fe d.1:=rfl;rw[b3] at B;have b4:=cg j0.fG;have j:=ge a2 b2 bd.fG;have ao:aA (_/\((k.kv (k.fe d.1)).1=C->k.mu (k.kv (k.fe d.1)).2<k.mu d.1)/\k.mu d.1<m+1):=⟨cI,λe=>by have:=j2 e;omega,aa⟩
    have x:aA (k.de (m+1) d=f):=by rw[<-hm];exact b1
    have ap:=cg hm;go_wp2_with fail;refine B.mono ?_;rintro e w1 ⟨ck,rfl,N,W⟩
    have ag:=Hu ((e_ c k).below N (aH _ w1).drew) b4.o;have W:=W.below (aH _ w1).drew;obtain⟨cl,cm,N⟩:=N;obtain⟨_,_,_,_,b5,_⟩:=e3 N;cases hkv:(k.kv (k.fe d.1)).1
    ·rw[hkv] at ag;have be:aA ((if(k.wa ((k.kv (k.fe d.1)).2,d.2)).2=C then k.de m (k.wa ((k.kv (k.fe d.1)).2,d.2)).1 else(k.wa ((k.kv (k.fe d.1)).2,d.2)).1)=f):=by
      have:=x.o;unfold b_.de at this
      rw[hkv] at this
      exact this
     have s:=dC.wa (t:=((k.kv (k.fe d.1)).2,d.2)) j.o.2.2;have s:aA (OQ (k.wa ((k.kv (k.fe d.1)).2,d.2)).1.2<=90000/\((k.wa ((k.kv (k.fe d.1)).2,d.2)).2=C->k.mu (k.wa ((k.kv (k.fe d.1)).2,d.2)).1.1<k.mu d.1)):=by refine⟨by rw[s.2.1];exact hq,λe=>by have:=s.2.2 e;dsimp only at this;omega⟩
     generalize k.fe d.1=s1 at*;generalize (k.kv s1).2=s2 at*;go_wp2
     go_region_held3 (λw'=>V w' (av c.pk 4)=H (aq c.bs)) (go_keep)
      (first
        |(go_at_call 263;refine ag.mono ?_;rintro e l ⟨ar,rfl,o,ai⟩;obtain⟨bg,hM,al⟩:=j.o.2.1 ar s2 l ⟨o,j.o.2.2⟩ (W.trans ai);obtain⟨cn,co,o⟩:=o;obtain⟨_,_,_,_,g4,_⟩:=e3 o;have l0:=aT l _ g4;have g:=cU hM (j.o.1.trans al))
        |(go_at_call 189;refine(vO (lC c) l c.pk).mono ?_;rintro e cp ⟨rfl,b6,b7,bi⟩;have ca:=(bi.cell (p:=av c.pk 4) l0).trans g4;have u:=ge b6 b7 bi)
        |(go_at_call 245;refine(Hy bs (t:=(s2,d.2)) ((dj (eu c k) c.bs vr).below g.o.1 u.o.2.2) hq (I (G l)) (I (G l)+1) u.o.1 u.o.2.1 (λh=>by have:=(dj (eu c k) c.bs vr).lt g.o.1 _ h;omega) (λh=>by have:=(dj (eu c k) c.bs vr).lt g.o.1 _ h;omega) aa).mono ?_;rintro e cb ⟨aB,rfl,bl,cc,cd⟩;have am:aA (_/\b9 F w aB cb):=⟨bl,⟨(g.o.2.below u.o.2.2).fr.trans cc (λb hb=>hb.elim (g.o.2.sub b) (λe=>aI (by have:=g.o.2.fr.size;omega))),λb hb=>(cd b hb).elim (g.o.2.sub b) (λh=>aI (by have q:=g.o.2.fr.size;have bn:=u.o.2.2.size;omega))⟩⟩;obtain⟨cq,⟨⟨cr,cs,ce⟩,_⟩,_⟩:=px bl;obtain⟨_,_,_,_,cf,_⟩:=e3 ce))
     clear cf g4 ca b5 j g u x bt W;cases hbw:(k.wa (s2,d.2)).2
     ·have ab:aA (if O4=C then k.mu (k.wa (s2,d.2)).1.1<m/\k.de m (k.wa (s2,d.2)).1=f else(k.wa (s2,d.2)).1=f):=by
       have:=be.o;rw[hbw] at this
       exact this
      go_wp2
      go_roundg m
      case measure=>have:=ap.o;omega
      exact⟨aB,(k.wa (s2,d.2)).1,O4,rfl,am.o.1,am.o.2,ab,s.o.1⟩
     ·have ab:aA (if C=C then k.mu (k.wa (s2,d.2)).1.1<m/\k.de m (k.wa (s2,d.2)).1=f else(k.wa (s2,d.2)).1=f):=by have q:=be.o;rw[hbw] at q;have bn:=s.o.2 hbw;have ch:=ao.o.2.2;exact⟨aa,q⟩
      go_wp2
      go_roundg m
      case measure=>have:=ap.o;omega
      exact⟨aB,(k.wa (s2,d.2)).1,C,rfl,am.o.1,am.o.2,ab,s.o.1⟩
    ·rw[hkv] at ag;have ab:aA (if C=C then k.mu (k.kv (k.fe d.1)).2<m/\k.de m ((k.kv (k.fe d.1)).2,d.2)=f else((k.kv (k.fe d.1)).2,d.2)=f):=by have q:=x.o;unfold b_.de at q;rw[hkv] at q;have bn:=ao.o.2.1 hkv;have ch:=ao.o.2.2;exact⟨aa,q⟩
     generalize k.fe d.1=s1 at*;generalize (k.kv s1).2=s2 at*;clear N;go_wp2;refine wp_region_noPanic ?_;refine wp_region_any ah ?_;refine vo (T:=λ_=>True) (S:=λ_=>True) (St:=[]) _ _ _ _ ?_;refine gB (i:=0) (v:=?_) rfl ah ah ah ah (λ_ _ _ h=>h) (aK ⟨af,?_⟩) trivial (aI trivial) ?_
     rotate_left
     ·intro w aF;go_simp
      try rfl
     try simp only [Act.put,j4,gT,iB,lX,lT]
     refine zH (i:=1) ah ?_;refine zG rfl af ?_;simp only [j4,kL,gT];go_simp;refine ag.mono ?_;rintro e l ⟨ar,rfl,o,ai⟩
     obtain⟨bg,hM,al⟩:=j.o.2.1 ar s2 l ⟨o,j.o.2.2⟩ (W.trans ai)
     have g:=cU hM (j.o.1.trans al)
     clear o ai hM al;refine gB (i:=2) (v:=?_) rfl ah ah ah ah (λ_ _ _ h=>h) (aK ⟨af,?_⟩) trivial (aI trivial) ?_
     rotate_left
     ·intro w aF;go_simp
      try rfl
     refine gB (i:=3) (v:=undef) rfl ah ah ah ah (λ_ _ _ h=>h) (aI ⟨af,rfl⟩) trivial (aI trivial) ?_;refine gB (i:=4) (v:=undef) rfl ah ah ah ah (λ_ _ _ h=>h) (aI ⟨af,rfl⟩) trivial (aI trivial) ?_;refine gB (i:=5) (v:=undef) rfl ah ah ah ah (λ_ _ _ h=>h) (aI ⟨af,rfl⟩) trivial (aI trivial) ?_;refine gB (i:=6) (v:=undef) rfl ah ah ah ah (λ_ _ _ h=>h) (aI ⟨af,rfl⟩) trivial (aI trivial) ?_
     try simp only [Act.put,j4,kL,gT,iB,lX,lT]
     refine gB (i:=7) (v:=undef) rfl ah ah ah ah (λ_ _ _ h=>h) (aI ⟨af,rfl⟩) trivial (aI trivial) ?_;refine gB (i:=8) (v:=undef) rfl ah ah ah ah (λ_ _ _ h=>h) (aI ⟨af,rfl⟩) trivial (aI trivial) ?_
     try simp only [Act.put,j4,kL,gT,iB,lX,lT]
     refine gB (i:=9) (v:=undef) rfl ah ah ah ah (λ_ _ _ h=>h) (aI ⟨af,rfl⟩) trivial (aI trivial) ?_;refine gB (i:=10) (v:=undef) rfl ah ah ah ah (λ_ _ _ h=>h) (aI ⟨af,rfl⟩) trivial (aI trivial) ?_;refine gB (i:=11) (v:=undef) rfl ah ah ah ah (λ_ _ _ h=>h) (aI ⟨af,rfl⟩) trivial (aI trivial) ?_;refine gB (i:=12) (v:=?_) rfl ah ah ah ah (λ_ _ _ h=>h) (aK ⟨af,?_⟩) trivial (aI trivial) ?_
     rotate_left
     ·intro w aF;go_simp
      try rfl
     refine gB (i:=13) (v:=?_) rfl ah ah ah ah (λ_ _ _ h=>h) (aK ⟨af,?_⟩) trivial (aI trivial) ?_
     rotate_left
     ·intro w aF;go_simp
      try rfl
     refine zI ah ?_ _;refine NoPanic.normal ?_;go_wp2
     go_roundg m
     case measure=>have:=ap.o;omega
     exact⟨bg,(s2,d.2),C,rfl,g.o.1,g.o.2,ab,hq⟩
theorem Hz {j:Option bB}{l m:Nat}(n:vr=Z j l m){t:cy×List b8}(h:(dj (eu c k) c.bs vr).J F t w)(hq:OQ t.2<=90000)(x:Int):
 M prog 190 #[aq c.pk,ak x] w λe w'=>∃b,e=Q (ay #[])/\(dj (eu c k) c.bs vr).J b (k.ke t x).2 w'/\b9 F w b w':=by
 obtain⟨W,⟨o,d⟩,p⟩:=px h;have f:=cU p (d.ma x).1;have E:aA ((k.ke t x).2=k.sp (k.ma t.1 x,t.2)):=rfl;go_enter func190,ntmps190;go_wp2_with fail;refine(qJ o d x).mono ?_;rintro e w1 ⟨q,rfl,s,u⟩
 obtain⟨ab,hM,v⟩:=f.o.1 q _ w1 ⟨s,f.o.2⟩ u;have g:=cU hM v;go_wp2_with fail;refine(Ah n g.o.1 hq).mono ?_;rintro e ad ⟨B,rfl,N,S⟩
 have i:=cU N (g.o.2.trans S)
 go_wp2_with fail;go_end0;exact⟨B,rfl,i.o.1,i.o.2⟩
end
def b_.fB (k:b_)(t:cy×List b8)(r:List b8):cy×List b8:=gu (et cy) (λs x=>k.al s.1 x) k.ke t r
def b_.sR (k:b_)(t:cy×List b8)(r:List b8):List b8:=fp (et cy) (λs x=>k.al s.1 x) k.ke (λs x=>k.nw s.1 x) t r
def b_.j8 (k:b_)(t:cy×List b8)(r:List b8):List b8:=fq (et cy) (λs x=>k.al s.1 x) k.ke (λs x=>k.nw s.1 x) t r
theorem qK (k:b_):∀(n:Nat)(t:cy×List b8),OQ (k.de n t).2=OQ t.2
 |0,t=>rfl
 |n+1,t=>by
  unfold b_.de;split
  ·exact qK k n ((k.kv _).2,t.2)
  ·split
   ·exact(qK k n _).trans (qA _ _ _ _)
   ·exact qA _ _ _ _
theorem sv (k:b_)(t:cy×List b8)(x:Int):OQ (k.ke t x).2.2=OQ t.2:=qK k _ _
section
variable {c:fR}{k:b_}{F:Nat->Prop}{s:cy}{w:az}{vr:a7}
theorem HD (bx f:Nat)(S:bx≠f){W:Option bB}{ab ad:Nat}(ag:vr=Z W ab ad):ob (dj (dq (dq (eu c k) f (kz (nu c))) bx (dw c)) c.bs vr) (λ_=>True) (i4 f).f (i4 f).b (i4 f).c k.ke:=by
 intro F t w x _ hn m;have hn:OQ (k.ke t x).2.2<=90000:=hn;obtain⟨n,o,p⟩:=sf m;obtain⟨q,hy,s⟩:=sf n;rw[sv] at hn;have P:=Hz ag q hn x;have c0:V w (av f 0)=H (nu c).v:=aD hy
 have i:=jm o hy p s.1;have E:aA ((k.ke t x).1=x):=rfl;generalize (k.ke t x).1=am at E⊢;generalize (k.ke t x).2=ai at P⊢;clear m n q o hy p s hn;show M prog 266 #[ak x,aq f] w _;go_enter func266,ntmps266;go_wp2_with fail;refine P.mono ?_;clear P;rintro e w1 ⟨j,rfl,hM,g⟩
 have lx:=cj i.o.1;have al:=cj i.o.2.1;have u:=(g.fr.block bx lx (λd=>d.1.2 rfl)).trans i.o.1;have v:=(g.fr.block f al (λd=>d.2 rfl)).trans i.o.2.1;have B:¬j f:=λd=>(g.sub f d).elim (λd=>d.2 rfl) (λd=>by omega)
 have N:¬(j bx\/bx=f):=λd=>d.elim (λd=>(g.sub bx d).elim (λd=>d.1.2 rfl) (λd=>by omega)) S;have l:aA ((dj (dq (dq (eu c k) f (kz (nu c))) bx (dw c)) c.bs vr).J (λb=>(j b\/b=f)\/b=bx) ai w1/\Fr F w w1/\∀b,((j b\/b=f)\/b=bx)->F b\/I (G w)<=b):=by
  refine⟨lv (lv hM v B) u N,g.fr.mono (λb d=>d.1.1),λb d=>?_⟩
  rcases d with(d|d)|d
  ·exact(g.sub b d).imp (λd=>d.1.1) id
  ·exact aK (by rw[d];exact i.o.2.2.2)
  ·exact aK (by rw[d];exact i.o.2.2.1)
 clear hM g u v B N;go_wp2_with fail;go_ret;rw[E.o];exact⟨_,rfl,l.o.1,l.o.2.1,l.o.2.2⟩
theorem HE (bx b:Nat)(f:bx≠b){g:Option bB}{i j:Nat}(l:vr=Z g i j):ni (dj (dq (dq (eu c k) b (kz (nu c))) bx (dw c)) c.bs vr) (λ_=>True) (jF bx) (i4 b) (ka c) (λs x=>k.al s.1 x) k.ke (λs x=>k.nw s.1 x) where
 ea:=vL
 gS:=vM
 en:=vN
 ha:=by
  rintro F s w x _ ⟨d,ad,cap,e,_⟩
  exact vQ bx b (nu c) d s.1 w x trivial e
 hk:=HD bx b f l
 ht:=by
  rintro F s w x _ ⟨d,ad,cap,e,_⟩
  exact ns (ns vP) d s.1 w x trivial e
 hl:=λs x=>sv k s x
theorem HG {o:Option bB}{p:Nat}{r:List b8}(N:vr=Z o (OQ r) p){t:cy×List b8}(h:(dj (eu c k) c.bs vr).J F t w)(hr:aC w 0 247 2 vr (OQ r) (ev r))(hq:OQ t.2+OQ r<=90000)(bx f:Nat)(q:bx≠f)(S:w.heap[bx]?=H (dw c))(hy:w.heap[f]?=H (kz (nu c)))(hn:¬F bx)(hm:¬F f):
 M prog 179 #[aq c.bs,.agg #[(jF bx).v,(i4 f).v,(ka c).v]] w λe w'=>∃a1 c1 n,e=Q (ay #[])/\(dj (eu c k) c.bs (Z a1 (OQ (k.sR t r)) c1)).J n ((k.fB t r).1,k.j8 t r) w'/\
  aC w' 0 247 2 (Z a1 (OQ (k.sR t r)) c1) (OQ (k.sR t r)) (ev (k.sR t r))/\(∀b,H b=A (Value.slice a1 (OQ (k.sR t r)) c1)->¬n b/\I (G w)<=b)/\Fr (λb=>F b\/b=f\/b=bx) w w'/\(∀b,n b->F b\/I (G w)<=b):=by
 subst N;refine(rZ _ (λ_=>True) (jF bx) (i4 f) (ka c) _ _ _ (HE bx f q rfl) r o p rfl aa (λ_ _=>⟨trivial,trivial⟩) _ t w (λ_ _=>⟨trivial,trivial⟩) hq (lv (lv h hy hm) S (λd=>d.elim hn q)) (iQ hr)).mono ?_;rintro e w' ⟨a1,c1,a2,c2,W,aR,rfl,⟨s,ad,cap,⟨gf,⟨g,g1,aV,ab,u⟩,g2,g3,g4⟩,a0,bb,ag,bd,ai,be,bg⟩,q3,al,i,j,l,am,an,ao,ap,ar⟩
 have i:w'.heap[c.bs]?=H (OX #[Z a1 (OQ (k.sR t r)) c1,Z a2 (OQ (k.j8 t r)) c2] 197 (0,0)):=i;have j:=j;have l:=l;have v:∀b,g b->s b:=λb hb=>(g4 b).2 (aK ((u b).2 (aK hb)))
 have m:∀b,g b->W b:=λb hb=>ag b (v b hb)
 have x:∀b,g b->b≠c.bs:=λb hb e=>ai (by show s c.bs;rw[<-e];exact v b hb)
 have B:=(eu c k).keep (w':=w') g1 al (λb hb=>q3 b (m b hb) (x b hb))
 have aB:F c.bs:=by obtain⟨_,_,_,_,_,_,_,aF,_⟩:=h;exact aF
 refine⟨a1,c1,λb=>g b\/b=c.bs\/H b=A (Value.slice a2 (OQ (k.j8 t r)) c2),rfl,⟨g,a2,c2,B,i,fA l (λ_ _=>a4 _),λb hb=>aK hb,aI (aK rfl),λd=>x _ d rfl,λb e=>⟨aI (aI e),λd=>ap b e (m b d)⟩,λb hb=>?_⟩,fA j (λ_ _=>a4 _),λb e=>⟨λd=>?_,(cu j b e).1⟩,am.mono (λb d=>?_),λb hb=>?_⟩
 ·rcases hb with hb|hb|hb
  ·exact(eu c k).lt B b hb
  ·rw[hb];exact cj i
  ·exact(cu l b hb).2
 ·rcases d with d|d|d
  ·exact ao b e (m b d)
  ·obtain⟨bi,hc⟩:=fI j b e;rw[d,i] at hc;simp at hc
  ·exact ar b e d
 ·rcases d with(d|d)|d
  ·exact aK d
  ·exact aI (aK d)
  ·exact aI (aI d)
 ·rcases hb with hb|hb|hb
  ·rcases an b (m b hb) with((d|d)|d)|d
   ·exact aK d
   ·exact absurd hb (by rw[d];exact ab)
   ·exact absurd ((u b).2 (aK hb)) (by rw[d];exact g3)
   ·exact aI d
  ·exact aK (by rw[hb];exact aB)
  ·exact aI (cu l b hb).1
def b_.cO (k:b_)(s:cy):Nat->cy
 |0=>s
 |n+1=>k.ma (k.cO s n) (X k.s.rs n 0)
theorem dC.cO (h:c8 k s):∀n,dC k s (k.cO s n)
 |0=>dC.refl h
 |n+1=>(dC.cO h n).trans (dC.ma (dC.cO h n).fG _)
theorem HH (h:(e_ c k).J F s w)(g:c8 k s):
 M prog 187 #[aq c.pk] w λe w'=>∃b,e=Q (ay #[])/\(e_ c k).J b (k.cO s 12) w'/\b9 F w b w':=by
 have m:=cg h;have n:=cg g;obtain⟨vt,o,h⟩:=h;obtain⟨_,c0,c3,_⟩:=ig h;obtain⟨u,_⟩:=e3 h;clear h g;go_enter func187,ntmps187;go_wp2_with fail
 go_loopw [12] (λiv wr=>∃(j:Nat)(b:Nat->Prop),j<=12/\iv=ak j/\aA ((e_ c k).J b (k.cO s j) wr/\b9 F w b wr)) (λiv _=>12-K (bG iv))
 exact⟨0,F,a4 _,rfl,⟨m.o,b9.refl _ _⟩⟩
 ·
   obtain⟨j,b,v,rfl,d⟩:=hrel;by_cases p:j<12
   ·obtain⟨vt,o,i⟩:=d.o.1;obtain⟨_,_,_,rt⟩:=ig i;have r1:=rt j p;have f:=qJ d.o.1 (dC.cO n.o j).fG (X k.s.rs j 0)
    have l:aA (k.ma (k.cO s j) (X k.s.rs j 0)=k.cO s (j+1)):=rfl;rw[l.o] at f;generalize X k.s.rs j 0=x at r1 f;clear i rt l;go_wp2_with fail;refine f.mono ?_;rintro e B ⟨q,rfl,j2,t⟩
    go_wp2_with fail;go_roundw;exact⟨j+1,q,aa,aj,(cU j2 (d.o.2.trans t))⟩
    simp[bG];omega
   ·obtain rfl:j=12:=aa;go_wp2_with fail;go_end0;exact⟨b,rfl,d.o.1,d.o.2⟩
end
theorem Ai (z:a7)(n:Nat)(hz:z.cells.size=1):(Builtin.zeroCells z.cells n).size=n*1:=by rw[size_zeroCells,hz]
theorem Aj (l:List Int):∀u∈l.map (Value.int OW),u.oneCell'=C:=λu b=>by obtain⟨x,_,rfl⟩:=List.mem_map.1 b;rfl
theorem Ak {w:az}{base:Nat}{e:TypeId}{ad:Option bB}{cap:Nat}{l:List Int}(h:aC w base e 1 (Z ad (OQ l) cap) (OQ l) (l.map (Value.int OW))):∀a,ad=H a->∀j u,(l.map (Value.int OW))[j]?=H u->V w (a.add j)=H u:=λa ea j u hj=>by
 have c:j<OQ l:=by exact si
 obtain⟨b,o,d,_,hc⟩:=ir h aa;rw[ea] at d;cases d;rw[List.getElem?_map,aP c] at hj;have f:(⟨b,o,Y⟩:bB).add j=⟨b,o+j,Y⟩:=by simp[Addr.add]
 rw[f,(hc j c),<-hj];simp[List.getD_eq_getElem?_getD,List.getElem?_eq_getElem c]
theorem HI (w:az)(n:Nat)(hn:n<=100000):
 M J 324 #[Z Y 0 0,ak n] w λe w'=>∃a1 c1,e=Q (Z a1 0 c1)/\aC w' (I (G w)) 3 1 (Z a1 0 c1) 0 []/\O (I (G w)) w w':=by
 obtain⟨c,hi,d,f,i⟩:=bM l6;rcases Nat.eq_zero_or_pos n with h0|h0
 ·subst h0;go_enter func324,ntmps324;go_wp2;go_ret;exact⟨Y,0,rfl,a9 _ _ _ _,aH _ _⟩
 ·have hr:=Lib.run_append_nil_zeros (P:=J) w 136 3 136 3 c _ OW OW underlying136 underlying3 hi d n h0 (by rw[f];decide) aa (by rw[i];omega)
  have j:=grownCap_ge w n 0 3;have b:=grownCap_le_maxLen w n 0 3 (by unfold bL;omega)
  generalize grownCap w n 0 3=g at hr j b;have hown:aC (w.drew.alloc (OX (Builtin.zeroCells (Value.int OW 0).cells n++Builtin.zeroCells (Value.int OW 0).cells (g-n)) 3)) (I (G w)) 3 1 (Z (H ⟨I (G w),0,Y⟩) 0 g) 0 []:=
   World.ownsRow_made w.drew _ g bY b (by rw[Array.size_append,Ai _ _ rfl,Ai _ _ rfl];omega)
  have hb:O (I (G w)) w (w.drew.alloc (OX (Builtin.zeroCells (Value.int OW 0).cells n++Builtin.zeroCells (Value.int OW 0).cells (g-n)) 3)):=(aH _ w).drew.alloc bY _;go_enter func324,ntmps324;exact yx
theorem Al (w:az)(B:Nat)(l1 l2:List Int)(f g:Option bB)(c1 c2:Nat)(s:V w (av B 0)=H (Z f (OQ l1) c1))(F:V w (av B 1)=H (Z g (OQ l2) c2))(N:aC w 0 3 1 (Z f (OQ l1) c1) (OQ l1) (l1.map (Value.int OW)))(S:aC w 0 3 1 (Z g (OQ l2) c2) (OQ l2) (l2.map (Value.int OW)))(hm:OQ l1+OQ l2<=100000):
 M J 304 #[Z (au B) 2 2] w λe w'=>∃a c,e=Q (Z a (OQ l1+OQ l2) c)/\aC w' (I (G w)) 3 1 (Z a (OQ l1+OQ l2) c) (OQ l1+OQ l2) ((l1++l2).map (Value.int OW))/\O (I (G w)) w w':=by
 obtain⟨t,hi,u,v,x⟩:=bM l6;have i:=cg N;have j:=cg S;have hB:=aT w _ s;go_enter func304,ntmps304;go_wp2
 go_loopw [3,11] (λl iv wr=>wr=w/\((iv=ak 0/\l=ak 0)\/(iv=ak 1/\l=ak (OQ l1))\/(iv=ak 2/\l=ak (OQ l1+OQ l2:Nat)))) (λ_ iv _=>2-K (bG iv))
 exact⟨rfl,aK ⟨rfl,rfl⟩⟩
 ·
   obtain⟨hw,⟨rfl,rfl⟩|⟨rfl,rfl⟩|⟨rfl,rfl⟩⟩:=hrel
   all_goals
    have hw:=hw.symm;subst hw
   ·go_wp2;go_roundw;exact⟨trivial,aI (aK ⟨aj,aj⟩)⟩
    simp[bG]
   ·go_wp2;go_roundw;exact⟨trivial,aI (aI ⟨aj,aj⟩)⟩
    simp[bG]
   ·go_wp2_with fail;refine(HI w (OQ l1+OQ l2) hm).mono ?_;rintro e w1 ⟨a1,W,rfl,b,hb⟩
    go_wp2
    go_loopw [6,27] (λm iv wk=>O (I (G w)) w wk/\((∃a c,iv=ak 0/\m=Z a 0 c/\aC wk (I (G w)) 3 1 (Z a 0 c) 0 [])\/(∃a c,iv=ak 1/\m=Z a (OQ l1) c/\aC wk (I (G w)) 3 1 (Z a (OQ l1) c) (OQ l1) (l1.map (Value.int OW)))\/(∃a c,iv=ak 2/\m=Z a (OQ l1+OQ l2) c/\aC wk (I (G w)) 3 1 (Z a (OQ l1+OQ l2) c) (OQ l1+OQ l2) ((l1++l2).map (Value.int OW))))) (λ_ iv _=>2-K (bG iv))
    exact⟨hb,aK ⟨a1,W,rfl,rfl,b⟩⟩
    ·
      obtain⟨hb,⟨a,c,rfl,rfl,b⟩|⟨a,c,rfl,rfl,b⟩|⟨a,c,rfl,rfl,b⟩⟩:=hrel
      ·have ab:=(hb.cell (p:=av B 0) hB).trans s;have hs:=hb.size;go_wp2_with (at_builtin;refine yO _ rfl _ _ 136 rfl (I (G w)) 3 t (ak 0) 1 8 underlying136 hi u v x rfl ae (Z a 0 c) 0 [] rfl b f (OQ l1) c1 (l1.map (Value.int OW)) rfl ac (z9 i.o) (Ak (cK i.o (λk e=>hb.block k (cu i.o k e).2))) (Aj l1) ?_ ?_ hs ?_;(unfold bL;omega);omega;intro a2 n ad d o _;rw[bW,List.nil_append] at d)
       have q:=hb.grown o hs (λk e=>(cu b k e.symm).1)
       go_wp2;go_roundw;exact⟨q,aI (aK ⟨a2,n,aj,rfl,d⟩)⟩
       simp[bG]
      ·have ab:=(hb.cell (p:=av B 1) hB).trans F;have hs:=hb.size;go_wp2_with (at_builtin;refine yO _ rfl _ _ 136 rfl (I (G w)) 3 t (ak 0) 1 8 underlying136 hi u v x rfl ae (Z a (OQ l1) c) (OQ l1) (l1.map (Value.int OW)) rfl b g (OQ l2) c2 (l2.map (Value.int OW)) rfl ac (z9 j.o) (Ak (cK j.o (λk e=>hb.block k (cu j.o k e).2))) (Aj l2) ?_ ?_ hs ?_;(unfold bL;omega);omega;intro a2 n ad d o _;rw[<-List.map_append] at d)
       have q:=hb.grown o hs (λk e=>(cu b k e.symm).1)
       go_wp2;go_roundw;exact⟨q,aI (aI ⟨a2,n,aj,rfl,d⟩)⟩
       simp[bG]
      ·go_wp2;go_ret;exact⟨a,c,rfl,b,hb⟩
section
variable {c:fR}{k:b_}{F:Nat->Prop}{s:cy}{w:az}
theorem Am {vt b:a7}(h:(c9 c k vt b).J F s w):aC w 0 3 1 c.yv (OQ k.Y) (k.Y.map (Value.int OW))/\aC w 0 3 1 c.ov (OQ k.G) (k.G.map (Value.int OW)):=by obtain⟨d,own,h,_⟩:=h;exact⟨h.yr,h.gr⟩
theorem An (h:(e_ c k).J F s w)(hl:OQ k.T<=4000):
 M prog 260 #[aq c.pk] w λe w'=>∃a d,e=Q (Z a (OQ k.T) d)/\aC w' w.heap.size 3 1 (Z a (OQ k.T) d) (OQ k.T) (k.T.map (Value.int OW))/\O w.heap.size w w':=by
 have hlen:OQ k.T=OQ k.G+OQ k.Y:=by unfold b_.T;rw[aX]
 have v:aA (k.T.map (Value.int OW)=(k.G++k.Y).map (Value.int OW)):=rfl;rw[hlen] at hl⊢;rw[v.o];obtain⟨vt,S,h⟩:=h;obtain⟨_,n,o,_,_,_,_,_,lk⟩:=e3 h;obtain⟨yr,gr⟩:=Am h;obtain⟨f,g,x⟩:=e7 yr;obtain⟨i,gc,B⟩:=e7 gr;rw[x] at n yr;rw[B] at o gr;have N:=aw w.drew (OX #[Z i (OQ k.G) gc,Z f (OQ k.Y) g] 136)
 have j:=(ax w).drew.trans (N.mono bY)
 have q:=aO w.drew (OX #[Z i (OQ k.G) gc,Z f (OQ k.Y) g] 136)
 have P:=Al (w.drew.alloc (OX #[Z i (OQ k.G) gc,Z f (OQ k.Y) g] 136)) w.heap.size k.G k.Y i f gc g (by simp only [World.cell?];rw[show w.heap.size=w.drew.heap.size from rfl,q];rfl) (by simp only [World.cell?];rw[show w.heap.size=w.drew.heap.size from rfl,q];rfl) (cK gr (λb e=>j.block b (cu gr b e).2)) (cK yr (λb e=>j.block b (cu yr b e).2)) aa;have l:=cg j;go_enter func260,ntmps260;go_wp2_with fail
 go_region_held3 (λw'=>V w' (av c.pk 1)=H (Z f (OQ k.Y) g)/\V w' (av c.pk 2)=H (Z i (OQ k.G) gc)) (go_keep)
  (first
    |(go_at_call 304;refine P.mono ?_;rintro e W ⟨a,d,rfl,t,hb⟩;have m:=l.o.trans (hb.mono l.o.size);have y1:=(m.cell (p:=av c.pk 1) lk).trans n;have ab:=(m.cell (p:=av c.pk 2) lk).trans o;have u:=cU (fA t (λb e=>aQ l.o.size (cu t b e).1)) m))
 go_wp2_with fail;go_ret;exact⟨a,d,rfl,u.o.1,u.o.2⟩
end
def fW {b:Type}(fm:b->Int->Int)(st:b->Int->b)(t:b)(a:Int):b:=if fm t a=-1 then t else st t a
def iH {b:Type}(fm:b->Int->Int)(st:b->Int->b)(t:b)(l:List Int):b:=l.foldl (fW fm st) t
theorem vR {g:Type}(o:dr g)(fm fd:g->Int->Int)(st:g->Int->g)(G:Nat->g->Prop)(T:List Int)(pk pw p ct f:Nat)(ag:Array a7)(ai:ef f)(l:List Int)(ad:Option bB)(cap:Nat)(F:Nat->Prop)(t:g)(w:az)
 (al:∀F t w a,o.J F t w->V w (av pk 0)=H (aq pw)/\V w (av pk 3)=H (.map (H ct))/\V w (av pw 0)=H (aq p)/\Mp w ct T (fm t)/\M prog 224 #[aq p,ak a] w λr w'=>∃x z,r=Q (ay #[ak x,ak (fd t a),ak z])/\O w.heap.size w w')
 (am:∀t a,0<=fd t a/\fd t a<=12)(an:∀a∈l,(0<=a/\a<=100000)/\a∈T)(b6:OQ l<=100000)
 (ao:∀j F t w,j<OQ l->G j t->o.J F t w->fm t (X l j 0)≠-1->M prog f (#[ak (X l j 0),ak (1+fd t (X l j 0))]++ag) w λr w'=>∃c,r=Q (ay #[])/\o.J c (st t (X l j 0)) w'/\b9 F w c w')
 (ap:∀j t,j<OQ l->G j t->G (j+1) (fW fm st t (X l j 0)))(h0:G 0 t)(e:o.J F t w)(ar:∀c N w',o.J c N w'->b9 F w c w'->jn w' ad l):
 M prog 268 #[aq pk,Z ad (OQ l) cap,.func (.func f) #[] ag] w λr w'=>∃c,r=Q (ay #[])/\o.J c (iH fm st t l) w'/\b9 F w c w'/\G (OQ l) (iH fm st t l):=by
 have bd:aA (∀F t w a,o.J F t w->_):=al;have be:aA (∀j F t w,j<OQ l->G j t->o.J F t w->fm t (X l j 0)≠-1->_):=ao;have bg:aA (∀j t,j<OQ l->G j t->_):=ap;have bi:aA (∀c N w',o.J c N w'->b9 F w c w'->_):=ar;have bl:aA (_):=an;have bn:aA (∀t a,_):=am;have b7:∀(args:Array a7)(w:az),_=_:=ai;clear al ao ap ar an am ai;go_enter func268,ntmps268;go_wp2_with fail
 go_loopw [13] (λiv wr=>∃(j:Nat)(d:Nat->Prop)(b:g),j<=OQ l/\iv=ak j/\aA (iH fm st t (l.take j)=b)/\aA (G j b)/\o.J d b wr/\b9 F w d wr) (λiv _=>OQ l-K (bG iv))
 case atStart=>exact⟨0,F,t,a4 _,rfl,rfl,h0,e,b9.refl _ _⟩
 case round=>
  clear h0 e;obtain⟨j,d,b,b8,rfl,S,W,e,s⟩:=hrel;by_cases i:j<OQ l
  ·obtain⟨ca,cb,bo,cc,hc⟩:=bi.o d b wr e s aa;have bp:=hc j i;subst bo;have aB:X l j 0∈l:=by rw[aM,aP i];exact a_ i
   obtain⟨br,aF⟩:=bl.o _ aB;have aR:=j7 br.1 aa;have aV:aA (iH fm st t (l.take (j+1))=fW fm st b (X l j 0)):=by
    show _=_;rw[h_ l j i 0];unfold iH;rw[lD];have:=S.o;unfold iH at this
    rw[this];rfl
   have a0:aA (_):=bg.o j b i W.o;have k:=λw h=>be.o j d b w i W.o h;obtain⟨bs,bt,bx,⟨D,o1,b0,a1⟩,L⟩:=bd.o d b wr (X l j 0) e;have u:=cg (a1 _ aF)
   have cd:=bn.o b (X l j 0)
   have B:aA (_/\_):=⟨e,s⟩
   have k:aA (∀w,o.J d b w->fm b (X l j 0)≠-1->_):=k;clear hc aB aF e s b0 a1;by_cases hw:fm b (X l j 0)=-1
   ·have n:aA (fW fm st b (X l j 0)=b):=by show _=_;unfold fW;rw[aN hw]
    rw[hw] at u;clear k L;generalize X l j 0=a at*;go_wp2_with (at_lookup;refine wpList_lookup_own_int _ rfl _ _ 158 rfl 3 3 OW js underlying158 underlying3 (nl _) ct (OQ T) D rfl o1 _ _ rfl aR ?_;intro z q ab;obtain rfl:z=-1:=(by have:=q.symm.trans u.o;simpa using this);clear q ab)
    clear bp bs bt bx o1;go_roundw
    case rel=>exact⟨j+1,d,b,aa,aj,by show _=_;rw[aV.o,n.o],by show G _ _;rw[<-n.o];exact a0.o,B.o.1,B.o.2⟩
    case measure=>simp[bG];omega
   ·have n:aA (fW fm st b (X l j 0)=st b (X l j 0)):=by show _=_;unfold fW;rw[aJ hw]
    have b1:aA (∀w,o.J d b w->_):=λw h=>k.o w h hw;clear k;generalize X l j 0=a at*;generalize fm b a=v at*;generalize fd b a=m at*;generalize st b a=b2 at*;go_wp2_with (at_lookup;refine wpList_lookup_own_int _ rfl _ _ 158 rfl 3 3 OW js underlying158 underlying3 (nl _) ct (OQ T) D rfl o1 _ _ rfl aR ?_;intro z q ab;obtain rfl:z=v:=(by have:=q.symm.trans u.o;simpa using this);clear q ab u)
    refine L.mono ?_;rintro r w1 ⟨x,y,rfl,a2⟩
    go_wp2_with fail;refine(b1.o w1 (o.below B.o.1 a2)).mono ?_;rintro r ce ⟨b3,rfl,b4,b5⟩
    have bb:=cU b4 ((B.o.2.below a2).trans b5)
    go_wp2_with fail;go_roundw;exact⟨j+1,b3,b2,aa,aj,by show _=_;rw[aV.o,n.o],by show G _ _;rw[<-n.o];exact a0.o,bb.o.1,bb.o.2⟩
    simp[bG];omega
  ·obtain rfl:j=OQ l:=aa;rw[ba] at S;go_wp2_with fail;go_end0;rw[S.o];exact⟨d,rfl,e,s,W.o⟩
theorem Ao {c:Type}(o:dr c)(fm fd:c->Int->Int)(st:c->Int->c)(G:Nat->c->Prop)(T:List Int)(pk pw p ct f:Nat)(g:Array a7)(n:ef f)(l:List Int)(ad:Option bB)(cap:Nat)(F:Nat->Prop)(t:c)(w:az)
 (q:∀F t w a,o.J F t w->V w (av pk 0)=H (aq pw)/\V w (av pk 3)=H (.map (H ct))/\V w (av pw 0)=H (aq p)/\Mp w ct T (fm t)/\M prog 224 #[aq p,ak a] w λr w'=>∃x z,r=Q (ay #[ak x,ak (fd t a),ak z])/\O w.heap.size w w')
 (s:∀t a,0<=fd t a/\fd t a<=12)(u:∀a∈l,(0<=a/\a<=100000)/\a∈T)(v:OQ l<=100000)
 (B:∀j F t w,j<OQ l->G j t->o.J F t w->fm t (X l j 0)≠-1->M prog f (#[ak (X l j 0),ak (1+fd t (X l j 0))]++g) w λr w'=>∃d,r=Q (ay #[])/\o.J d (st t (X l j 0)) w'/\b9 F w d w')
 (N:∀j t,j<OQ l->G j t->G (j+1) (fW fm st t (X l j 0)))(h0:G 0 t)(S:o.J F t w)(i:jn w ad l)(hn:0<OQ l->∀z,ad=H z->¬F z.block):
 M prog 268 #[aq pk,Z ad (OQ l) cap,.func (.func f) #[] g] w λr w'=>∃d,r=Q (ay #[])/\o.J d (iH fm st t l) w'/\b9 F w d w'/\G (OQ l) (iH fm st t l):=
 vR o fm fd st G T pk pw p ct f g n l ad cap F t w q s u v B N h0 S (λd _ w' _ k=>i.keep k.fr.size (λhp z e=>k.fr.block _ (by obtain⟨b,W,m,hb,_⟩:=i hp;rw[e] at m;cases m;exact hb) (hn hp z e)))
abbrev lE (n:Int):Obj:=OX #[ak n] 3 (0,0)
def iT {g:Type}(o:dr g)(d:Nat):dr (g×Int) where
 J F t w:=∃c,o.J c t.1 w/\w.heap[d]?=H (lE t.2)/\¬c d/\∀b,F b↔(c b\/b=d)
 lt:=by
  rintro F t w ⟨c,h,f,_,e⟩ b hb;rcases(e b).1 hb with hb|hb
  ·exact o.lt h b hb
  ·rw[hb];exact cj f
 keep:=by rintro F t w w' ⟨c,h,f,hn,e⟩ hs hk;exact⟨c,o.keep h hs (λb hb=>hk b ((e b).2 (aK hb))),(hk d ((e d).2 (aI rfl))).trans f,hn,e⟩
section
variable {iP:Type}{o:dr iP}{bx gU:Nat}{x:Obj}{F:Nat->Prop}{w:az}
theorem ih {t:iP}(h:(dq o bx x).J F t w):∃e,o.J e t w/\w.heap[bx]?=H x/\bx<I (G w)/\∀c f w1,o.J c f w1->b9 e w c w1->(dq o bx x).J (λb=>c b\/b=bx) f w1/\b9 F w (λb=>c b\/b=bx) w1:=by
 obtain⟨e,h,g2,g3,g4⟩:=h;refine⟨e,h,g2,cj g2,λc f w1 g hT=>⟨⟨c,g,(hT.fr.block bx (cj g2) g3).trans g2,λd=>(hT.sub bx d).elim g3 (λd=>by have:=cj g2;omega),λb=>gp⟩,⟨hT.fr.mono (λb hb=>(g4 b).2 (aK hb)),λb hb=>?_⟩⟩⟩
 exact vK
theorem mU {t:iP×Int}(h:(iT o gU).J F t w):∃e,o.J e t.1 w/\w.heap[gU]?=H (lE t.2)/\gU<I (G w)/\∀c f w1,o.J c f w1->b9 e w c w1->(iT o gU).J (λb=>c b\/b=gU) (f,t.2) w1/\b9 F w (λb=>c b\/b=gU) w1:=by
 obtain⟨e,h,g2,g3,g4⟩:=h;refine⟨e,h,g2,cj g2,λc f w1 g hT=>⟨⟨c,g,(hT.fr.block gU (cj g2) g3).trans g2,λd=>(hT.sub gU d).elim g3 (λd=>by have:=cj g2;omega),λb=>gp⟩,⟨hT.fr.mono (λb hb=>(g4 b).2 (aK hb)),λb hb=>?_⟩⟩⟩
 exact vK
theorem pA {t:iP×Int}(h:(iT o gU).J F t w):V w (av gU 0)=H (ak t.2)/\w.frozen? (av gU 0)=O4:=by obtain⟨b,h,g2,g3,g4⟩:=h;exact⟨by simp[World.cell?,g2],by simp[World.frozen?,g2]⟩
theorem Ap {t:iP×Int}(h:(iT o gU).J F t w)(m:Int):(iT o gU).J F (t.1,m) (P w ⟨gU,0,Y⟩ (U OW m))/\b9 F w F (P w ⟨gU,0,Y⟩ (U OW m)):=by
 obtain⟨c,h,g2,g3,g4⟩:=h;have fr:Fr (λb=>b=gU) w (P w ⟨gU,0,Y⟩ (U OW m)):=(Fr.refl _ w).set _ 0 _ rfl;refine⟨⟨c,o.keep h fr.size (λb hb=>fr.block b (o.lt h b hb) (λe=>g3 (by rw[<-e];exact hb))),?_,g3,g4⟩,⟨fr.mono (λb e=>(g4 b).2 (aI e)),λ_ d=>aK d⟩⟩
 simp only [World.setCell,Array.getElem?_modify,if_true,g2,Option.map_some];simp
end
section
variable {c:fR}{k:b_}{vt cw:a7}{F:Nat->Prop}{s:cy}{w:az}
theorem HL (h:(c9 c k vt cw).J F s w):
 M prog 192 #[aq c.pk] w λe w'=>e=Q (ak k.a.O)/\Below (I (G w)) w w':=by
 obtain⟨b,c0,_⟩:=ig h;obtain⟨l,_⟩:=e3 h;have P:=lZ w b;have g:=cg h;have k1:=b.hO;have k2:=b.hg;clear h b;go_enter func192,ntmps192;go_wp2_with fail;refine P.mono ?_;rintro e w1 ⟨rfl,d⟩
 have f:=(c9 c k vt cw).below g.o d;obtain⟨b,m,_⟩:=ig f;obtain⟨n,_⟩:=e3 f;have P:=qs w1 b;go_wp2_with fail;refine P.mono ?_;rintro e o ⟨rfl,i⟩
 have j:=cg (d.trans (i.mono d.size))
 go_wp2_with fail;go_ret;exact⟨aj,j.o⟩
theorem HM {bp d:Nat}{n m a:Int}(h:(iT (dq (c9 c k vt cw) bp (dw c)) d).J F (s,n) w)(ht:OQ k.T<=4000)(ha:a∈k.T)(hp:0<=a/\a<=2000)(hn:0<=n/\n<=100000)(hm:0<=m/\m<=13):
 M prog 269 #[ak a,ak m,aq d,aq bp] w λe w'=>∃j,e=Q (ay #[])/\(iT (dq (c9 c k vt cw) bp (dw c)) d).J j ({s with f:=ic s.f a n},n+m) w'/\b9 F w j w':=by
 obtain⟨q,_⟩:=pA h;obtain⟨_,g,_⟩:=mU h;obtain⟨_,i,l,_⟩:=ih g;obtain⟨_,_,_,ap,_⟩:=e3 i;have l:V w (av bp 0)=H (aq c.pk):=aD l
 clear g i;obtain⟨ar,g,_,_,u⟩:=mU ((iT (dq (c9 c k vt cw) bp (dw c)) d).below h (aH _ w).drew)
 obtain⟨aB,i,_,_,v⟩:=ih g;obtain⟨⟨D,o1,x,B⟩,hM⟩:=qH i;obtain⟨N,aF,S,W⟩:=o1.update (t:=158) (e:=3) js underlying158 (by unfold bL;omega) (j7 hp.1 aa) (om n (WalkArith.wf_i64 ⟨aa,aa⟩))
 obtain⟨ab,ad⟩:=hM N _ (Mp.put o1 x B ha S) ((Fr.refl _ w.drew).grown W (λb e=>aK (by cases e;rfl)))
 obtain⟨ag,ai⟩:=v _ _ _ ab ad;obtain⟨o,al⟩:=u _ _ _ ag ai;obtain⟨am,aR⟩:=pA o;have p:aA (_/\_):=⟨o,(b9.of (aH _ w).drew).trans al⟩
 dsimp only at q am;go_enter func269,ntmps269;go_wp2
 go_region
 go_wp2;go_end0;obtain⟨an,ao⟩:=Ap p.o.1 (n+m)
 exact⟨_,rfl,an,p.o.2.trans ao⟩
end
def b_.ny (k:b_)(t:cy×Int)(a:Int):cy×Int:=({t.1 with f:=ic t.1.f a t.2},t.2+(1+pf (k.ld a)))
def b_.nz (k:b_)(t:cy×Int)(l:List Int):cy×Int:=iH (λt a=>t.1.f a) k.ny t l
def b_.pl (k:b_)(s:cy):cy×Int:=k.nz (s,k.a.N) k.T
section
variable {c:fR}{k:b_}{vt cw:a7}{F:Nat->Prop}{s:cy}{w:az}
theorem HO:ef 269:=g9 func269 ah rfl
theorem HQ {bp l:Nat}(h:(iT (dq (c9 c k vt cw) bp (dw c)) l).J F (s,(k.a.N:Int)) w)(ht:OQ k.T<=4000)(hp:∀a∈k.T,0<=a/\a<=2000)(hN:k.a.N<=2000){ad:Option bB}{d B:Nat}(hr:aC w B 3 1 (Z ad (OQ k.T) d) (OQ k.T) (k.T.map (Value.int OW)))(hB:∀b,F b->b<B):
 M prog 268 #[aq c.pk,Z ad (OQ k.T) d,.func (.func 269) #[] #[aq l,aq bp]] w λe w'=>∃i,e=Q (ay #[])/\(iT (dq (c9 c k vt cw) bp (dw c)) l).J i (k.pl s) w'/\b9 F w i w'/\0<=(k.pl s).2/\(k.pl s).2<=60000:=by
 have E:=Ao _ (λt a=>t.1.f a) (λ_ a=>pf (k.ld a)) k.ny (λj t=>0<=t.2/\t.2<=2000+13*(j:Int)) k.T c.pk k.a.pw k.a.p c.ct 269 #[bq _,bq _] HO k.T ad d F (s,(k.a.N:Int)) w
  (by
    rintro F t o a p;obtain⟨_,g,_⟩:=mU p;obtain⟨_,f,_⟩:=ih g;obtain⟨c0,_,_,c3,_⟩:=e3 f;obtain⟨q,u,_⟩:=ig f;obtain⟨hM,_⟩:=qH f;refine⟨c0,c3,u,hM,(hC a o q).mono ?_⟩
    rintro r w' ⟨rfl,hb⟩
    exact⟨_,_,rfl,hb⟩)
  (λt a=>du _) (λa ha=>⟨by have:=hp a ha;omega,ha⟩) aa
  (by
    rintro j F t o m ⟨g1,g2⟩ v _;have hm:X k.T j 0∈k.T:=by rw[aM,aP m];exact a_ m
    have g:=hp _ hm;have f:=du (k.ld (X k.T j 0))
    exact HM (s:=t.1) (n:=t.2) v ht hm g ⟨g1,aa⟩ aa)
  (by
    rintro j t m ⟨g1,g2⟩
    have f:=du (k.ld (X k.T j 0))
    unfold fW;split
    ·exact⟨g1,aa⟩
    ·unfold b_.ny;exact⟨aa,aa⟩)
  ⟨aa,aa⟩ h (ir hr)
  (λx z e hz=>by obtain⟨b,cap,N⟩:=fi hr x;cases N;cases e;have f:=(cu hr b rfl).1;have:=hB b hz;omega)
 refine E.mono ?_;rintro r w' ⟨i,rfl,g,f,S,W⟩
 exact⟨i,rfl,g,f,S,Int.le_trans W aa⟩
theorem HR (h:(c9 c k vt cw).J F s w)(ht:OQ k.T<=4000)(hp:∀a∈k.T,0<=a/\a<=2000):
 M prog 191 #[aq c.pk] w λe w'=>∃f,e=Q (ak ((k.pl s).2-k.a.N))/\(c9 c k vt cw).J f (k.pl s).1 w'/\b9 F w f w':=by
 have W:=cg h;have m:=aw w (dw c)
 have h0:=(c9 c k vt cw).below h m;obtain⟨n,c0,_⟩:=ig h0;obtain⟨bo,_⟩:=e3 h0;have P:=n8 _ n;have n1:=n.hN';have ab:=cg m;clear h h0 n m;go_enter func191,ntmps191;go_wp2_with fail;refine P.mono ?_;clear P;rintro e w1 ⟨rfl,ad⟩
 have o:=(ad.block _ ac).trans (aO _ _)
 have ap:V w1 (av (I (G w)) 0)=H (aq c.pk):=aD o
 have q:=(c9 c k vt cw).lt W.o;have t:=cj o;have i:O (I (G w1)) w1 (w1.alloc (lE k.a.N)):=aw w1 _;have u:=ab.o.trans (ad.mono ab.o.size)
 have ag:=(c9 c k vt cw).below ((c9 c k vt cw).below W.o u) i;have ar:(dq (c9 c k vt cw) (I (G w)) (dw c)).J (λb=>F b\/b=I (G w)) s (w1.alloc (lE k.a.N)):=⟨F,ag,(i.block _ t).trans o,λd=>by have:=q _ d;omega,λb=>gp⟩
 have aB:(iT (dq (c9 c k vt cw) (I (G w)) (dw c)) (I (G w1))).J (λb=>(F b\/b=I (G w))\/b=I (G w1)) (s,(k.a.N:Int)) (w1.alloc (lE k.a.N)):=⟨_,ar,aO _ _,λd=>d.elim (λd=>by have:=q _ d;omega) (λd=>by omega),λb=>gp⟩
 have hd:=(aH (I (G (w1.alloc (lE k.a.N)))) (w1.alloc (lE k.a.N))).drew;have aF:=An (c:=c) ⟨vt,cw,(c9 c k vt cw).below ag hd⟩ ht;have j:aA (_/\_/\_/\_/\I (G (w1.alloc (lE k.a.N)).drew)=I (G w1)+1):=⟨(iT (dq (c9 c k vt cw) (I (G w)) (dw c)) (I (G w1))).below aB hd,(u.trans (i.mono u.size)).trans (hd.mono (by simp;omega)),q,t,ac⟩
 have aR:=(i.cell (p:=av (I (G w)) 0) t).trans ap;have ai:=cU ht hp;go_wp2_with fail
 go_region_held3 (λw'=>V w' (av (I (G w)) 0)=H (aq c.pk)) (go_keep)
  (first
    |(go_at_call 260;refine aF.mono ?_;rintro e bp ⟨br,bs,rfl,aV,l⟩;have bt:=(l.cell (p:=av (I (G w)) 0) (by have:=j.o.2.2.2;simp;omega)).trans aR;have v:=cU aV l)
    |(go_at_call 268;refine(HQ ((iT (dq (c9 c k vt cw) (I (G w)) (dw c)) (I (G w1))).below j.o.1 v.o.2) ai.o.1 ai.o.2 aa v.o.1 (λb hb=>by have g:=j.o.2.2;rw[g.2.2];rcases hb with(hb|hb)|hb;(have:=g.1 b hb;omega);omega;omega)).mono ?_;rintro e x ⟨bx,rfl,B,a0,b1,b2⟩;have b0:=(pA B).1;obtain⟨a1,g,_,_,_⟩:=mU B;obtain⟨al,N,S,_,_⟩:=ih g;have b3:V x (av (I (G w)) 0)=H (aq c.pk):=aD S;clear g N S;have a2:=cU B a0))
 all_goals
  have bb:aA (∃f,(c9 c k vt cw).J f (k.pl s).1 x/\b9 F w f x):=by
   obtain⟨⟨a1,⟨al,N,S,bd,am⟩,b4,be,bg⟩,an⟩:=a2.o;obtain⟨_,bi,q3,b5,b6⟩:=j.o;have l:=v.o.2;have ao:_:=bi.trans (l.mono aa)
   refine⟨al,N,⟨(Fr.of (X:=F) ao).trans an.fr (λb d=>?_),λb hb=>?_⟩⟩
   ·rcases d with(d|d)|d
    ·exact aK d
    ·exact aI aa
    ·exact aI aa
   ·rcases an.sub b ((bg b).2 (aK ((am b).2 (aK hb)))) with((d|d)|d)|d
    ·exact aK d
    ·exact absurd hb (by rw[d];exact bd)
    ·exact absurd ((am b).2 (aK hb)) (by rw[d];exact be)
    ·exact aI (by have:=ao.size;omega)
  go_wp2_with fail;go_ret;obtain⟨f,bl,bn⟩:=bb.o;exact⟨f,by first|rfl|go_num,bl,bn⟩
end
end Go.Proofs.YtjckpdepffejnaaGreatDoor
