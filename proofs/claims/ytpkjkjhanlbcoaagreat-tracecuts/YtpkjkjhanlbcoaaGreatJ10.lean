import Derived.Test.YtpkjkjhanlbcoaaGreatJ09
open Array renaming size->I
open Bool renaming false->K,true->Nc
open Go renaming Addr->bG,Calls->J,Value->bD,info_parts->bV,maxLen->bW
open Go.Ending renaming returned->M6
open Go.IntKind renaming i64->Q
open Go.Obj renaming cells->M5
open Go.Proofs.Tryz renaming prog->O
open Go.RowKit renaming Below->C,intOf->bN
open Go.Value renaming bool->bK,int->U,ownBlock->Nh,pointer->bJ,slice->H,tuple->a8
open Go.World renaming cell?->V,heap->G,ownsRow->aC,setCell->ay
open Iff renaming rfl->iy
open Int renaming toNat->M
open List renaming foldl_append->lj,getD->X,getElem_cons_succ->mh,getElem_cons_zero->jl,getElem_toArray->k3,length->MZ,mem_of_mem_take->kr,setIfInBounds_toArray->jw,set_cons_succ->nX,set_cons_zero->lT
open Option renaming none->Y,some->Z
namespace Go.Proofs.YtpkjkjhanlbcoaaGreat
set_option maxRecDepth 100000
set_option maxHeartbeats 4000000
open Tryz
open Go.RowKit W Kp cq
theorem uo {P:Prop}(h:P:=by
 rcases hb with hb|hb
 ·exact(hT.sub b hb).imp (fun d=>(g4 b).2 (aM d)) id
 ·exact aM ((g4 b).2 (aK hb))):P:=h
section
variable {c:fI}{k:cg}{F:Nat->Prop}{s:cz}{w:az}
theorem GO (h:(e4 c k).J F s w)(B:c9 k s):
 Calls O 144 #[aq c.pk] w fun e w'=>∃bx,e=M6 (bK (k.kv s).1)/\(e4 c k).J bx (k.kv s).2 w'/\ch F w bx w':=by
 obtain⟨cn,hi,co,cp,cq⟩:=bV kk;obtain⟨vt,cE,h⟩:=h;obtain⟨_,_,_,_,_,_,cr,_⟩:=eS h;obtain⟨_,er,_⟩:=nL h;obtain⟨ad,cap,cs⟩:=eZ er;subst cs;have a2:aA (c9 k s):=B;have b0:aA ((jO c k (H ad (MZ s.ep) cap)).J F s w):=⟨vt,h⟩
 have cF:MZ s.ep<=4000:=by have:=B.sum;have:=B.tl;omega
 have ct:aA (∀a∈s.ep,0<=a/\a<=2000):=fun a ha=>B.ps a (B.ep a ha)
 have b1:aA (k.kv s=(decide (MZ (k.d8 s s.ep).1<MZ s.ep),{(k.d8 s s.ep).2 with ep:=(k.d8 s s.ep).1})):=rfl;clear B h er;go_enter func144,ntmps144;go_wp2_with fail
 go_loopw [3,12] (fun vr iv wr=>∃(j:Nat)(R:List Int)(s1:cz)(ar:Option bG)(f:Nat)(d:Nat->Prop),j<=MZ s.ep/\iv=ak j/\aA (k.d8 s (s.ep.take j)=(R,s1))/\vr=H ar (MZ R) f/\aC wr (I (G w)) 3 1 (H ar (MZ R) f) (MZ R) (R.map (Value.int Q))/\(jO c k (H ad (MZ s.ep) cap)).J d s1 wr/\ch F w d wr/\aA (∀b,Z b=Nh (Value.slice ar (MZ R) f)->¬d b)/\aA (c9 k s1/\s1.ep=s.ep)) (fun _ iv _=>MZ s.ep-M (bN iv))
 case atStart=>exact⟨0,[],s,Y,0,F,a5 _,rfl,rfl,rfl,bf _ _ _ _,b0.o,ch.refl _ _,fun b e=>by simp[Value.ownBlock] at e,⟨a2.o,rfl⟩⟩
 case round=>
  obtain⟨j,R,s1,ar,f,d,S,rfl,W,rfl,p,b2,q,N,ab⟩:=hrel;clear b0 cr;have cG:MZ R<=10000:=by have ag:=(c9.i3 (s.ep.take j) (t:=([],s)) a2.o (fun a ha=>a2.o.ep a (kr ha)) (fun b hb=>by cases hb)).2.1;have b3:=W.o;unfold cg.d8 at b3;rw[b3] at ag;simp at ag;omega
  by_cases ao:j<MZ s.ep
  ·obtain⟨b5,g⟩:=b2;obtain⟨_,a3,_⟩:=nL g;rw[ab.o.2] at a3;obtain⟨i,m,cu,cH,hc⟩:=hZ a3 aa;have a4:=hc j ao;subst cu;have b6:X s.ep j 0∈s.ep:=by rw[aL,aN ao];exact a9 ao
   have cw:=ct.o _ b6;have ba:aA (k.d8 s (s.ep.take (j+1))=k.cV (R,s1) (X s.ep j 0)):=by
    show _=_;rw[g9 s.ep j ao 0];unfold cg.d8;rw[lj];have:=W.o;unfold cg.d8 at this
    rw[this];rfl
   generalize X s.ep j 0=a at a4 cw ba;obtain⟨ap,_⟩:=eS g;obtain⟨ai,aB,_⟩:=hJ g;have L:=ki (a+1) wr ai;have al:ld k.a.N k.s.y k.s.g k.s.ws (a+1)=k.ld (a+1):=rfl;rw[al] at L;have v:aA ((jO c k (H (Z ⟨i,m,Y⟩) (MZ s.ep) cap)).J d s1 wr/\ch F w d wr):=⟨⟨b5,g⟩,q⟩
   have cI:=q.fr.size;have ca:aA (∀b,Z b=Nh (Value.slice ar (MZ R) f)->b<I (G wr)):=fun b e=>(cv p b e).2;have j0:(0:Int)<=(j:Int):=aa;have cJ:(j:Int)<(MZ s.ep:Int):=aa;clear hc b6 g q ai al a3;cases hls:k.cY s1 (k.ld (a+1))
   ·have aF:aA (k.d8 s (s.ep.take (j+1))=(R,k.ma s1 (k.ld (a+2)))):=by show _=_;rw[ba.o];unfold cg.cV;rw[hls];rfl
    generalize k.ld (a+1)=x at L hls;go_wp2_with fail;refine L.mono ?_;clear L;rintro e w1 ⟨rfl,n⟩
    obtain⟨cx,o⟩:=(jO c k (H (Z ⟨i,m,Y⟩) (MZ s.ep) cap)).below v.o.1 n;have P:=pQ o x;rw[hls] at P;clear a4 ap aB o;go_wp2_with fail;refine P.mono ?_;clear P;rintro e am ⟨rfl,an⟩
    have hb:=n.trans (an.mono n.size)
    obtain⟨cy,aR⟩:=(jO c k (H (Z ⟨i,m,Y⟩) (MZ s.ep) cap)).below v.o.1 hb;obtain⟨ap,_⟩:=eS aR;obtain⟨ai,aB,_⟩:=hJ aR;have aV:=ki (a+2) am ai;have al:ld k.a.N k.s.y k.s.g k.s.ws (a+2)=k.ld (a+2):=rfl;rw[al] at aV;have cA:aA (k.ld (a+2)=k.ld (a+2)):=rfl;generalize k.ld (a+2)=y at aV aF;have bb:aA ((jO c k (H (Z ⟨i,m,Y⟩) (MZ s.ep) cap)).J d s1 am/\C (I (G wr)) wr am):=⟨⟨cy,aR⟩,hb⟩
    clear n an aR ai al hb cA;go_wp2_with fail;refine aV.mono ?_;clear aV;rintro e cB ⟨rfl,bd⟩
    have cb:=zD ((jO c k (H (Z ⟨i,m,Y⟩) (MZ s.ep) cap)).below bb.o.1 bd) ab.o.1 y;have cc:aA (ch d wr d cB):=(ch.of bb.o.2).below bd;clear bd ap aB bb;go_wp2_with fail;refine cb.mono ?_;clear cb;rintro e be ⟨cd,rfl,bg,a0⟩
    have a1:=cc.o.trans a0;have bi:=ab.o.1.ma y;have bl:=g_ (v.o.2.trans a1) bi.1 (bi.2.2.trans ab.o.2)
    have bn:=iF p a1.fr (fun b e=>N.o b e)
    have bo:aA (∀b,Z b=Nh (Value.slice ar (MZ R) f)->¬cd b):=fun b e ce=>(a1.sub b ce).elim (N.o b e) (fun ce=>by have:=ca.o b e;omega)
    clear a0 a1 bi p cc N;go_wp2_with fail;go_roundw;exact⟨j+1,R,_,ar,f,cd,aa,aj,aF,rfl,bn,bg,bl.o.1,bo,⟨bl.o.2.1,bl.o.2.2⟩⟩
    simp[bN];omega
   ·have aF:aA (k.d8 s (s.ep.take (j+1))=(R++[a],s1)):=by show _=_;rw[ba.o];unfold cg.cV;rw[aJ hls]
    generalize k.ld (a+1)=x at L hls;go_wp2_with fail;refine L.mono ?_;clear L;rintro e w1 ⟨rfl,n⟩
    obtain⟨cx,o⟩:=(jO c k (H (Z ⟨i,m,Y⟩) (MZ s.ep) cap)).below v.o.1 n;have P:=pQ o x;rw[hls] at P;clear a4 ap aB o;go_wp2_with fail;refine P.mono ?_;clear P;rintro e am ⟨rfl,an⟩
    have hb:=n.trans (an.mono n.size)
    have bp:=cM p (fun b e=>hb.block b (ca.o b e))
    have cK:=hb.size;clear n an;go_wp2_with (at_builtin;refine wpList_append_own_at _ rfl _ _ 74 rfl (I (G w)) 3 cn (ak 0) 1 8 underlying74 hi co cp cq rfl ae (H ar (MZ R) f) (MZ R) (R.map (Value.int Q)) rfl (fC bp _) ⟨I (G am),0,Y⟩ 1 1 [ak a] rfl rfl ?_ ?_ ?_ ?_ ?_ ?_;(intro j u S;match j,S with|0,S=>(simp at S;subst S;simp[Addr.add]));(intro u cf;simp at cf;subst cf;rfl);(unfold bW;omega);omega;(simp;omega);intro cL be br bs _ ci;obtain⟨b4,bt,cC⟩:=eW br (Nat.succ_pos _);subst cC)
    have bn:aC be (I (G w)) 3 1 (H (au b4) (MZ (R++[a])) bt) (MZ (R++[a])) ((R++[a]).map (Value.int Q)):=by simpa using br
    have o:=(jO c k (H (Z ⟨i,m,Y⟩) (MZ s.ep) cap)).below v.o.1 hb;have bg:=qB (jO c k (H (Z ⟨i,m,Y⟩) (MZ s.ep) cap)) o bs (fun b e=>N.o b e)
    have a0:ch F w d be:=⟨((v.o.2.below hb).fr.alloc _).grown bs (fun b e=>aK (cv bp b e.symm).1),v.o.2.sub⟩
    have bo:aA (∀b,Z b=Nh (Value.slice (au b4) (MZ (R++[a])) bt)->¬d b):=fun b e cj=>by
     have cD:=ci.imp id (fun e=>by simpa[Value.ownBlock] using e)
     simp[Value.ownBlock] at e;subst e;rcases cD with e|e
     ·exact N.o _ e cj
     ·have:=(jO c k (H (Z ⟨i,m,Y⟩) (MZ s.ep) cap)).lt o _ cj;omega
    clear o br bs ci bp p hb;go_wp2_with fail;go_roundw;exact⟨j+1,R++[a],s1,au b4,bt,d,aa,aj,aF,ac,bn,bg,a0,bo,ab⟩
    simp[bN];omega
  ·obtain rfl:j=MZ s.ep:=aa;rw[bk] at W;obtain⟨b5,g⟩:=b2;obtain⟨_,_,_,_,_,_,cN,ck,lk⟩:=eS g;have cO:=ck 6;obtain⟨cl,cm⟩:=zA g (v1:=H ar (MZ R) f) (l:=R) (Fr.refl _ wr) (fq p (fun _ _=>a5 _)) (fun b e=>aK (N.o b e))
   have t6:=c8 cl (q.fr.trans cm q.sub)
   have yL:aA (∀b,Z b=Nh (Value.slice ar (MZ R) f)->I (G w)<=b):=fun b e=>(cv p b e).1;have yK:=hide q.sub;have E2:aA ((k.kv s).1=decide (MZ R<MZ s.ep)/\(k.kv s).2={s1 with ep:=R}):=by have ag:=b1.o;rw[W.o] at ag;rw[ag];exact⟨rfl,rfl⟩
   clear cl cm g q p W b1 ck;by_cases hll:MZ R<MZ s.ep
   ·go_wp2_with fail;exact qW
   ·go_wp2_with fail;exact qW
end
def dZ (c:fI)(k:cg):dC cz:=yZ (e4 c k) (fun s=>c9 k s)
abbrev dx (c:fI):Obj:=M5 #[aq c.pk] 137 (0,0)
abbrev kR (c:fI):gu:=⟨142,#[aq c.pk],#[]⟩
abbrev mM (c:fI):gu:=⟨80,#[aq c.pk],#[]⟩
abbrev jY (fv:gu):Obj:=M5 #[fv.v] 147 (0,0)
abbrev js (bx:Nat):gu:=⟨153,#[],#[aq bx]⟩
abbrev iM (b:Nat):gu:=⟨155,#[],#[aq b]⟩
abbrev jP (c:fI):gu:=⟨156,#[aq c.pk],#[]⟩
theorem uq:dV 153:=gM func153 ah rfl
theorem ur:dV 155:=gM func155 ah rfl
theorem ut:dV 156:=gM func156 ah rfl
section
variable {c:fI}{k:cg}{F:Nat->Prop}{s:cz}{w:az}
theorem uu (fv:gu)(w:az)(p:Nat):
 J O 79 #[aq p,fv.v] w fun e w'=>e=M6 (.agg #[(js (I (G w))).v,(iM (I (G w)+1)).v,.func (.func 156) #[aq p] #[]])/\w'.heap[I (G w)]?=Z (M5 #[aq p] 137 (0,0))/\w'.heap[I (G w)+1]?=Z (jY fv)/\C (I (G w)) w w':=by
 obtain⟨f,b,c⟩:=fv;go_enter func79,ntmps79;go_wp2_with fail;refine a6 (v:=.agg #[(js (I (G w))).v,(iM (I (G w)+1)).v,.func (.func 156) #[aq p] #[]]) (by simp[results,results79,go_sem]) rfl ⟨rfl,?_,?_,(((aH _ w).alloc b8 _).alloc ac _).alloc (by simp;omega) _⟩
 ·rw[aS _ _ _ (by simp;omega),aS _ _ _ ac];exact aP _ _
 ·rw[aS _ _ _ ac];have:=aP (w.alloc (M5 #[bJ (Z ⟨p,0,Y⟩)] 137)) (M5 #[.func (.func f) b c] 147)
  simpa using this
theorem uv:lP (dZ c k) (fun _=>True) (jP c).f (jP c).b (jP c).c k.nw:=by
 rintro F s w x _ ⟨⟨vt,b,h⟩,_⟩
 exact zC h x
def cg.mp (k:cg)(s:cz)(x:Int):Int×cz:=(x,k.ma s x)
theorem zE (f:Nat):ou (dp (dZ c k) f (jY (kR c))) (fun _=>True) (iM f).f (iM f).b (iM f).c k.mp:=by
 rintro F s w x _ ⟨u,⟨h,j⟩,l,hn,o⟩
 have P:=pR h j x;have c0:V w (av f 0)=Z (kR c).v:=aD l
 have t:=hide (j.ma x).1;have g:=g_ l hn o;clear h j l hn o;show Calls O 155 #[ak x,aq f] w _;go_enter func155,ntmps155;go_wp2_with fail;refine P.mono ?_;clear P;rintro e w1 ⟨m,rfl,p,i⟩
 have q:=(i.fr.block f (lt_of_some g.o.1) g.o.2.1).trans g.o.1;have n:aA ((dp (dZ c k) f (jY (kR c))).J (fun b=>m b\/b=f) (k.ma s x) w1/\Fr F w w1/\∀b,(m b\/b=f)->F b\/I (G w)<=b):=by
  refine⟨⟨m,⟨p,t.o⟩,q,fun d=>(i.sub _ d).elim g.o.2.1 (fun d=>by have:=lt_of_some g.o.1;omega),fun b=>iy⟩,i.fr.mono (fun b d=>(g.o.2.2 b).2 (aM d)),fun b d=>?_⟩
  rcases d with d|d
  ·exact(i.sub b d).imp (fun d=>(g.o.2.2 b).2 (aM d)) id
  ·exact aM ((g.o.2.2 b).2 (aK d))
 clear p i q;go_wp2_with fail;go_ret;exact⟨_,rfl,n.o.1,n.o.2.1,n.o.2.2⟩
end
def cg.e5 (k:cg)(s:cz):cz:=k.lm (k.lost s+MZ s.td+1) s
def cg.wa (k:cg)(t:cz×List cf):(cz×List cf)×Bool:=h7 k.al k.mp t (MZ t.2)
def cg.ph (k:cg)(s:cz):Nat:=k.lost s+MZ s.td+MZ s.ep
def cg.mu (k:cg)(s:cz):Nat:=k.lost s+k.ph s
def cg.c_ (k:cg):Nat->cz×List cf->cz×List cf
 |0,t=>t
 |n+1,t=>
  if(k.kv (k.e5 t.1)).1=Nc then k.c_ n ((k.kv (k.e5 t.1)).2,t.2)
  else if(k.wa ((k.kv (k.e5 t.1)).2,t.2)).2=Nc then k.c_ n (k.wa ((k.kv (k.e5 t.1)).2,t.2)).1
  else(k.wa ((k.kv (k.e5 t.1)).2,t.2)).1
def cg.sp (k:cg)(t:cz×List cf):cz×List cf:=k.c_ (k.mu t.1+1) t
def cg.ke (k:cg)(t:cz×List cf)(x:Int):Int×(cz×List cf):=(x,k.sp (k.ma t.1 x,t.2))
structure dD (k:cg)(s t:cz):Prop where
 fA:c9 k t
 lo:k.lost t<=k.lost s
 ph:k.ph t<=k.ph s
section
variable {k:cg}{s t u:cz}
theorem dD.refl (h:c9 k s):dD k s s:=⟨h,aG _,aG _⟩
theorem dD.trans (h:dD k s t)(j:dD k t u):dD k s u:=⟨j.fA,aU j.lo h.lo,aU j.ph h.ph⟩
theorem dD.mu (h:dD k s t):k.mu t<=k.mu s:=by have b:=h.lo;have c:=h.ph;unfold cg.mu;omega
theorem zF (h:c9 k s)(x:Int):k.cY s x=Nc->k.lost (k.ma s x)<k.lost s:=fun c=>by
 have:=cg.zy h.nd c (fun a ha=>(h.ps a ha).1)
 omega
theorem dD.ma (h:c9 k s)(x:Int):dD k s (k.ma s x):=by
 obtain⟨b,f,d⟩:=h.ma x;refine⟨b,?_,?_⟩
 ·by_cases c:k.cY s x=Nc
  ·exact Nat.le_of_lt (zF h x c)
  ·have e:k.ma s x=s:=by unfold cg.ma;rw[aI c]
   rw[e];exact aG _
 ·unfold cg.ph;rw[d];omega
theorem dD.fH (h:c9 k s)(a:Int):∀n,dD k s (k.fH s a n)
 |0=>dD.refl h
 |n+1=>(dD.fH h a n).trans (dD.ma (dD.fH h a n).fA _)
theorem GP (h:c9 k s)(a:Int):k.lost (k.lk s a)<=k.lost s:=by
 unfold cg.lk;split
 ·exact(dD.fH h a _).lo
 ·split
  ·exact(dD.ma h _).lo
  ·split
   ·exact aG _
   ·exact aG _
theorem dD.l1 (h:c9 k s)(hl:0<MZ s.td):dD k s (k.l1 s):=by
 obtain⟨c,d⟩:=h.l1 hl;have hm:X s.td (MZ s.td-1) 0∈s.td:=by rw[aL,aN aa];exact a9 _
 have hs:=h.sum;have e:MZ (s.td.take (MZ s.td-1))=MZ s.td-1:=by rw[bz];omega
 have h0:c9 k {s with td:=s.td.take (MZ s.td-1)}:=⟨h.nd,h.ps,fun a ha=>h.td a (kr ha),h.ep,h.tl,by show k.lost s+MZ (s.td.take _)+MZ s.ep<=_;omega⟩
 have b:=(h0.lk (h.td _ hm) (by show k.lost s+MZ (s.td.take _)+MZ s.ep+1<=_;omega)).2.2;have b:MZ (k.l1 s).ep<=MZ s.ep+1:=b;refine⟨c,(GP h0 _),?_⟩
 unfold cg.ph;omega
theorem dD.lm:∀(n:Nat){s:cz},c9 k s->dD k s (k.lm n s)
 |0,s,h=>dD.refl h
 |n+1,s,h=>by
  unfold cg.lm;by_cases c:0<MZ s.td
  ·rw[aJ c];exact(dD.l1 h c).trans (dD.lm n (dD.l1 h c).fA)
  ·rw[aI c];exact dD.refl h
theorem dD.e5 (h:c9 k s):dD k s (k.e5 s):=dD.lm _ h
theorem GQ (h:c9 k s):(k.e5 s).td=[]:=(c9.lm _ h).2.1 aa
theorem dD.i3:∀(l:List Int){t:List Int×cz},c9 k t.2->dD k t.2 (l.foldl k.cV t).2
 |[],t,h=>dD.refl h
 |a::l,t,h=>by
  have b:dD k t.2 (k.cV t a).2:=by
   unfold cg.cV;split
   ·exact dD.refl h
   ·exact dD.ma h _
  exact b.trans (dD.i3 l b.fA)
theorem dD.kv (h:c9 k s):dD k s (k.kv s).2/\((k.kv s).1=Nc->k.mu (k.kv s).2<k.mu s):=by
 obtain⟨b,f,g,c⟩:=h.kv;have d:k.lost (k.kv s).2<=k.lost s:=(dD.i3 s.ep h).lo;refine⟨⟨b,d,by unfold cg.ph;omega⟩,fun e=>?_⟩
 have:=c e;unfold cg.mu cg.ph;omega
theorem zG:∀(l:List Nat)(t:(cz×List cf)×Bool),c9 k t.1.1->dD k t.1.1 (l.foldl (dI k.al k.mp) t).1.1/\MZ (l.foldl (dI k.al k.mp) t).1.2=MZ t.1.2/\((l.foldl (dI k.al k.mp) t).2=Nc->t.2=Nc\/k.lost (l.foldl (dI k.al k.mp) t).1.1<k.lost t.1.1)
 |[],t,h=>⟨dD.refl h,rfl,fun e=>aM e⟩
 |i::l,t,h=>by
  have key:dD k t.1.1 (dI k.al k.mp t i).1.1/\MZ (dI k.al k.mp t i).1.2=MZ t.1.2/\((dI k.al k.mp t i).2=Nc->t.2=Nc\/k.lost (dI k.al k.mp t i).1.1<k.lost t.1.1):=by
   unfold dI;split
   ·exact⟨dD.refl h,rfl,fun e=>aM e⟩
   ·rename_i c;refine⟨dD.ma h _,ac,fun _=>aK (zF h _ ?_)⟩
    rw[Bool.or_eq_true] at c;cases hj:k.cY t.1.1 _
    ·exact absurd (aM (by unfold cg.al;rw[hj];rfl)) c
    ·rfl
  obtain⟨k1,f,g⟩:=key;obtain⟨d,j2,cI⟩:=zG l _ k1.fA;refine⟨k1.trans d,j2.trans f,fun e=>?_⟩
  rcases cI e with b|b
  ·rcases g b with b|b
   ·exact aM b
   ·exact aK (Nat.lt_of_le_of_lt d.lo b)
  ·exact aK (aO b k1.lo)
theorem dD.wa {t:cz×List cf}(h:c9 k t.1):dD k t.1 (k.wa t).1.1/\MZ (k.wa t).1.2=MZ t.2/\((k.wa t).2=Nc->k.mu (k.wa t).1.1<k.mu t.1):=by
 obtain⟨b,c,d⟩:=zG _ (t,K) h;have b:dD k t.1 (k.wa t).1.1:=b;refine⟨b,c,fun e=>?_⟩
 have f:k.lost (k.wa t).1.1<k.lost t.1:=(d e).resolve_left ac;have g:=b.ph;unfold cg.mu;omega
end
section
variable {c:fI}{k:cg}{F:Nat->Prop}{s:cz}{w:az}{vr:bD}
theorem uw (bx b:Nat)(fv:gu):kJ (dp (dp (dZ c k) b (jY fv)) bx (dx c)) (fun _=>True) (js bx).f (js bx).b (js bx).c k.al:=by
 rintro F s w x _ ⟨f,⟨g,⟨⟨vt,i,h⟩,_⟩,_⟩,d,_⟩
 have P:=pQ h x;have c0:V w (av bx 0)=Z (aq c.pk):=aD d
 have E:k.al s x=!k.cY s x:=rfl;go_enter func153,ntmps153;exact um
theorem GR {i:Option bG}{j l:Nat}(m:vr=H i j l){t:cz×List cf}(h:(di (dZ c k) c.bs vr).J F t w)(hq:MZ t.2<=90000)(bx f:Nat)(n:w.heap[bx]?=Z (dx c))(hy:w.heap[f]?=Z (jY (kR c)))(hn:¬F bx)(hm:¬F f)(o:bx≠f):
 Calls O 145 #[aq c.bs,.agg #[(js bx).v,(iM f).v,(jP c).v]] w fun e w'=>∃g,e=M6 (bK (k.wa t).2)/\(di (dZ c k) c.bs vr).J g (k.wa t).1 w'/\Fr (fun b=>F b\/b=f\/b=bx) w w'/\(∀b,g b->F b\/b=f\/b=bx\/I (G w)<=b):=by
 refine(yE _ (yY _ _ _) (fun _=>True) (js bx) (iM f) (jP c) _ _ _ (qT _ c.bs vr (fun _=>True) (js bx) (iM f) (jP c) k.al k.mp k.nw uq ur ut (uw bx f (kR c)) (ub (zE f)) (mL (mL uv))) i j l m _ t w hq (fun _ _=>⟨trivial,trivial⟩) (kL (kL h hy hm) n (fun d=>d.elim hn o))).mono ?_;rintro e w' ⟨g,rfl,p,q,hs⟩
 refine⟨g,rfl,ua (ua p),q.mono (fun b d=>?_),fun b hb=>?_⟩
 ·rcases d with(d|d)|d
  ·exact aM d
  ·exact aK (aM d)
  ·exact aK (aK d)
 ·rcases hs b hb with((d|d)|d)|d
  ·exact aM d
  ·exact aK (aM d)
  ·exact aK (aK (aM d))
  ·exact aK (aK (aK d))
theorem zH {bi:Option bG}{bl bn:Nat}(bo:vr=H bi bl bn){t:cz×List cf}(h:(di (dZ c k) c.bs vr).J F t w)(hq:MZ t.2<=90000):
 Calls O 77 #[aq c.pk] w fun e w'=>∃aR,e=M6 (a8 #[])/\(di (dZ c k) c.bs vr).J aR (k.sp t) w'/\ch F w aR w':=by
 have bp:∀(aV:Fn)(first cap:Array bD)(w:az),(Instr.makeFunc aV first cap).run O w=.ok (.func aV first cap) w:=fun _ _ _ _=>rfl;obtain⟨f,a0⟩:∃f,k.sp t=f:=⟨_,rfl⟩
 rw[a0];have br:=hide a0;go_enter func77,ntmps77;go_wp2
 go_loopg [2] (k.mu t.1+1) (fun n bs wr=>∃(ad:Nat->Prop)(d:cz×List cf)(b:Bool),bs=bK b/\(di (dZ c k) c.bs vr).J ad d wr/\ch F w ad wr/\aA (if b=Nc then k.mu d.1<n/\k.c_ n d=f else d=f)/\MZ d.2<=90000)
 exact⟨F,t,Nc,rfl,h,ch.refl _ _,⟨aa,br.o⟩,hq⟩
 ·
   obtain⟨ad,d,b,rfl,a1,a2,a3,hq⟩:=hrel;cases b
   ·have x:=hide a3.o;go_wp2;go_end0;rw[<-x.o];exact⟨ad,rfl,a1,a2⟩
   ·obtain⟨ci,bt⟩:=a3.o;obtain⟨m,hm⟩:∃m,gk=m+1:=⟨gk-1,aa⟩
    obtain⟨cj,an,bx⟩:=oK a1;have B:=GN an.1 an.2;have j0:=dD.e5 an.2;obtain⟨a4,j2⟩:=dD.kv j0.fA;have cI:=(j0.trans a4).mu;have cK:=j0.mu;have b0:k.lm (k.lost d.1+MZ d.1.td+1) d.1=k.e5 d.1:=rfl;rw[b0] at B;have b1:=hide j0.fA;have j:=g_ a2 bx a4.fA;have ao:aA (_/\((k.kv (k.e5 d.1)).1=Nc->k.mu (k.kv (k.e5 d.1)).2<k.mu d.1)/\k.mu d.1<m+1):=⟨cI,fun e=>by have:=j2 e;omega,aa⟩
    have x:aA (k.c_ (m+1) d=f):=by rw[<-hm];exact bt
    have ap:=hide hm;go_wp2_with fail;refine B.mono ?_;rintro e w1 ⟨ck,rfl,N,W⟩
    have ag:=GO ((e4 c k).below N (aH _ w1).drew) b1.o;have W:=W.below (aH _ w1).drew;obtain⟨cl,cm,N⟩:=N;obtain⟨_,_,_,_,b2,_⟩:=eS N;cases hkv:(k.kv (k.e5 d.1)).1
    ·rw[hkv] at ag;have ba:aA ((if(k.wa ((k.kv (k.e5 d.1)).2,d.2)).2=Nc then k.c_ m (k.wa ((k.kv (k.e5 d.1)).2,d.2)).1 else(k.wa ((k.kv (k.e5 d.1)).2,d.2)).1)=f):=by
      have:=x.o;unfold cg.c_ at this
      rw[hkv] at this
      exact this
     have s:=dD.wa (t:=((k.kv (k.e5 d.1)).2,d.2)) j.o.2.2;have s:aA (MZ (k.wa ((k.kv (k.e5 d.1)).2,d.2)).1.2<=90000/\((k.wa ((k.kv (k.e5 d.1)).2,d.2)).2=Nc->k.mu (k.wa ((k.kv (k.e5 d.1)).2,d.2)).1.1<k.mu d.1)):=by refine⟨by rw[s.2.1];exact hq,fun e=>by have:=s.2.2 e;dsimp only at this;omega⟩
     generalize k.e5 d.1=s1 at*;generalize (k.kv s1).2=s2 at*;go_wp2
     go_region_held3 (fun w'=>V w' (av c.pk 4)=Z (aq c.bs)) (go_keep)
      (first
        |(go_at_call 144;refine ag.mono ?_;rintro e l ⟨ar,rfl,o,ai⟩;obtain⟨bb,hM,al⟩:=j.o.2.1 ar s2 l ⟨o,j.o.2.2⟩ (W.trans ai);obtain⟨cn,co,o⟩:=o;obtain⟨_,_,_,_,g4,_⟩:=eS o;have l0:=aT l _ g4;have g:=c8 hM (j.o.1.trans al))
        |(go_at_call 79;refine(uu (kR c) l c.pk).mono ?_;rintro e cp ⟨rfl,b3,b4,bd⟩;have b5:=(bd.cell (p:=av c.pk 4) l0).trans g4;have u:=g_ b3 b4 bd)
        |(go_at_call 145;refine(GR bo (t:=(s2,d.2)) ((di (dZ c k) c.bs vr).below g.o.1 u.o.2.2) hq (I (G l)) (I (G l)+1) u.o.1 u.o.2.1 (fun h=>by have:=(di (dZ c k) c.bs vr).lt g.o.1 _ h;omega) (fun h=>by have:=(di (dZ c k) c.bs vr).lt g.o.1 _ h;omega) aa).mono ?_;rintro e b6 ⟨aB,rfl,be,ca,cb⟩;have am:aA (_/\ch F w aB b6):=⟨be,⟨(g.o.2.below u.o.2.2).fr.trans ca (fun b hb=>hb.elim (g.o.2.sub b) (fun e=>aK (by have:=g.o.2.fr.size;omega))),fun b hb=>(cb b hb).elim (g.o.2.sub b) (fun h=>aK (by have q:=g.o.2.fr.size;have bg:=u.o.2.2.size;omega))⟩⟩;obtain⟨cq,⟨⟨cr,cs,cc⟩,_⟩,_⟩:=oK be;obtain⟨_,_,_,_,cd,_⟩:=eS cc))
     clear cd g4 b5 b2 j g u x bp W;cases hbw:(k.wa (s2,d.2)).2
     ·have ab:aA (if K=Nc then k.mu (k.wa (s2,d.2)).1.1<m/\k.c_ m (k.wa (s2,d.2)).1=f else(k.wa (s2,d.2)).1=f):=by
       have:=ba.o;rw[hbw] at this
       exact this
      go_wp2
      go_roundg m
      case measure=>have:=ap.o;omega
      exact⟨aB,(k.wa (s2,d.2)).1,K,rfl,am.o.1,am.o.2,ab,s.o.1⟩
     ·have ab:aA (if Nc=Nc then k.mu (k.wa (s2,d.2)).1.1<m/\k.c_ m (k.wa (s2,d.2)).1=f else(k.wa (s2,d.2)).1=f):=by have q:=ba.o;rw[hbw] at q;have bg:=s.o.2 hbw;have ce:=ao.o.2.2;exact⟨aa,q⟩
      go_wp2
      go_roundg m
      case measure=>have:=ap.o;omega
      exact⟨aB,(k.wa (s2,d.2)).1,Nc,rfl,am.o.1,am.o.2,ab,s.o.1⟩
    ·rw[hkv] at ag;have ab:aA (if Nc=Nc then k.mu (k.kv (k.e5 d.1)).2<m/\k.c_ m ((k.kv (k.e5 d.1)).2,d.2)=f else((k.kv (k.e5 d.1)).2,d.2)=f):=by have q:=x.o;unfold cg.c_ at q;rw[hkv] at q;have bg:=ao.o.2.1 hkv;have ce:=ao.o.2.2;exact⟨aa,q⟩
     generalize k.e5 d.1=s1 at*;generalize (k.kv s1).2=s2 at*;clear N;go_wp2;refine wp_region_noPanic ?_;refine wp_region_any ah ?_;refine uc (T:=fun _=>True) (S:=fun _=>True) (St:=[]) _ _ _ _ ?_;refine gf (i:=0) (v:=?_) rfl ah ah ah ah (fun _ _ _ h=>h) (aM ⟨af,?_⟩) trivial (aK trivial) ?_
     rotate_left
     ·intro w aF;go_simp
      try rfl
     try simp only [Act.put,k3,jl,jw,lT,nX]
     refine y_ (i:=1) ah ?_;refine y9 rfl af ?_;simp only [k3,mh,jl];go_simp;refine ag.mono ?_;rintro e l ⟨ar,rfl,o,ai⟩
     obtain⟨bb,hM,al⟩:=j.o.2.1 ar s2 l ⟨o,j.o.2.2⟩ (W.trans ai)
     have g:=c8 hM (j.o.1.trans al)
     clear o ai hM al;refine gf (i:=2) (v:=?_) rfl ah ah ah ah (fun _ _ _ h=>h) (aM ⟨af,?_⟩) trivial (aK trivial) ?_
     rotate_left
     ·intro w aF;go_simp
      try rfl
     refine gf (i:=3) (v:=undef) rfl ah ah ah ah (fun _ _ _ h=>h) (aK ⟨af,rfl⟩) trivial (aK trivial) ?_;refine gf (i:=4) (v:=undef) rfl ah ah ah ah (fun _ _ _ h=>h) (aK ⟨af,rfl⟩) trivial (aK trivial) ?_;refine gf (i:=5) (v:=undef) rfl ah ah ah ah (fun _ _ _ h=>h) (aK ⟨af,rfl⟩) trivial (aK trivial) ?_;refine gf (i:=6) (v:=undef) rfl ah ah ah ah (fun _ _ _ h=>h) (aK ⟨af,rfl⟩) trivial (aK trivial) ?_
     try simp only [Act.put,k3,mh,jl,jw,lT,nX]
     refine gf (i:=7) (v:=undef) rfl ah ah ah ah (fun _ _ _ h=>h) (aK ⟨af,rfl⟩) trivial (aK trivial) ?_;refine gf (i:=8) (v:=undef) rfl ah ah ah ah (fun _ _ _ h=>h) (aK ⟨af,rfl⟩) trivial (aK trivial) ?_
     try simp only [Act.put,k3,mh,jl,jw,lT,nX]
     refine gf (i:=9) (v:=undef) rfl ah ah ah ah (fun _ _ _ h=>h) (aK ⟨af,rfl⟩) trivial (aK trivial) ?_;refine gf (i:=10) (v:=undef) rfl ah ah ah ah (fun _ _ _ h=>h) (aK ⟨af,rfl⟩) trivial (aK trivial) ?_;refine gf (i:=11) (v:=undef) rfl ah ah ah ah (fun _ _ _ h=>h) (aK ⟨af,rfl⟩) trivial (aK trivial) ?_;refine gf (i:=12) (v:=?_) rfl ah ah ah ah (fun _ _ _ h=>h) (aM ⟨af,?_⟩) trivial (aK trivial) ?_
     rotate_left
     ·intro w aF;go_simp
      try rfl
     refine gf (i:=13) (v:=?_) rfl ah ah ah ah (fun _ _ _ h=>h) (aM ⟨af,?_⟩) trivial (aK trivial) ?_
     rotate_left
     ·intro w aF;go_simp
      try rfl
     refine za ah ?_ _;refine NoPanic.normal ?_;go_wp2
     go_roundg m
     case measure=>have:=ap.o;omega
     exact⟨bb,(s2,d.2),Nc,rfl,g.o.1,g.o.2,ab,hq⟩
theorem GS {j:Option bG}{l m:Nat}(n:vr=H j l m){t:cz×List cf}(h:(di (dZ c k) c.bs vr).J F t w)(hq:MZ t.2<=90000)(x:Int):
 Calls O 80 #[aq c.pk,ak x] w fun e w'=>∃b,e=M6 (a8 #[])/\(di (dZ c k) c.bs vr).J b (k.ke t x).2 w'/\ch F w b w':=by
 obtain⟨W,⟨o,d⟩,p⟩:=oK h;have f:=c8 p (d.ma x).1;have E:aA ((k.ke t x).2=k.sp (k.ma t.1 x,t.2)):=rfl;go_enter func80,ntmps80;go_wp2_with fail;refine(pR o d x).mono ?_;rintro e w1 ⟨q,rfl,s,u⟩
 obtain⟨ab,hM,v⟩:=f.o.1 q _ w1 ⟨s,f.o.2⟩ u;have g:=c8 hM v;go_wp2_with fail;refine(zH n g.o.1 hq).mono ?_;rintro e ad ⟨B,rfl,N,S⟩
 have i:=c8 N (g.o.2.trans S)
 go_wp2_with fail;go_end0;exact⟨B,rfl,i.o.1,i.o.2⟩
end
def cg.fu (k:cg)(t:cz×List cf)(r:List cf):cz×List cf:=fQ (dY cz) (fun s x=>k.al s.1 x) k.ke t r
def cg.sR (k:cg)(t:cz×List cf)(r:List cf):List cf:=e9 (dY cz) (fun s x=>k.al s.1 x) k.ke (fun s x=>k.nw s.1 x) t r
def cg.jM (k:cg)(t:cz×List cf)(r:List cf):List cf:=e_ (dY cz) (fun s x=>k.al s.1 x) k.ke (fun s x=>k.nw s.1 x) t r
theorem pS (k:cg):∀(n:Nat)(t:cz×List cf),MZ (k.c_ n t).2=MZ t.2
 |0,t=>rfl
 |n+1,t=>by
  unfold cg.c_;split
  ·exact pS k n ((k.kv _).2,t.2)
  ·split
   ·exact(pS k n _).trans (pK _ _ _ _)
   ·exact pK _ _ _ _
theorem rB (k:cg)(t:cz×List cf)(x:Int):MZ (k.ke t x).2.2=MZ t.2:=pS k _ _
section
variable {c:fI}{k:cg}{F:Nat->Prop}{s:cz}{w:az}{vr:bD}
theorem GT (bx f:Nat)(S:bx≠f){W:Option bG}{ab ad:Nat}(ag:vr=H W ab ad):na (di (dp (dp (dZ c k) f (jY (mM c))) bx (dx c)) c.bs vr) (fun _=>True) (iM f).f (iM f).b (iM f).c k.ke:=by
 intro F t w x _ hn m;have hn:MZ (k.ke t x).2.2<=90000:=hn;obtain⟨n,o,p⟩:=rf m;obtain⟨q,hy,s⟩:=rf n;rw[rB] at hn;have P:=GS ag q hn x;have c0:V w (av f 0)=Z (mM c).v:=aD hy
 have i:=ja o hy p s.1;have E:aA ((k.ke t x).1=x):=rfl;generalize (k.ke t x).1=an at E⊢;generalize (k.ke t x).2=ai at P⊢;clear m n q o hy p s hn;show Calls O 155 #[ak x,aq f] w _;go_enter func155,ntmps155;go_wp2_with fail;refine P.mono ?_;clear P;rintro e w1 ⟨j,rfl,hM,g⟩
 have al:=lt_of_some i.o.1;have am:=lt_of_some i.o.2.1;have u:=(g.fr.block bx al (fun d=>d.1.2 rfl)).trans i.o.1;have v:=(g.fr.block f am (fun d=>d.2 rfl)).trans i.o.2.1;have B:¬j f:=fun d=>(g.sub f d).elim (fun d=>d.2 rfl) (fun d=>by omega)
 have N:¬(j bx\/bx=f):=fun d=>d.elim (fun d=>(g.sub bx d).elim (fun d=>d.1.2 rfl) (fun d=>by omega)) S;have l:aA ((di (dp (dp (dZ c k) f (jY (mM c))) bx (dx c)) c.bs vr).J (fun b=>(j b\/b=f)\/b=bx) ai w1/\Fr F w w1/\∀b,((j b\/b=f)\/b=bx)->F b\/I (G w)<=b):=by
  refine⟨kL (kL hM v B) u N,g.fr.mono (fun b d=>d.1.1),fun b d=>?_⟩
  rcases d with(d|d)|d
  ·exact(g.sub b d).imp (fun d=>d.1.1) id
  ·exact aM (by rw[d];exact i.o.2.2.2)
  ·exact aM (by rw[d];exact i.o.2.2.1)
 clear hM g u v B N;go_wp2_with fail;go_ret;rw[E.o];exact⟨_,rfl,l.o.1,l.o.2.1,l.o.2.2⟩
theorem GU (bx b:Nat)(f:bx≠b){g:Option bG}{i j:Nat}(l:vr=H g i j):mB (di (dp (dp (dZ c k) b (jY (mM c))) bx (dx c)) c.bs vr) (fun _=>True) (js bx) (iM b) (jP c) (fun s x=>k.al s.1 x) k.ke (fun s x=>k.nw s.1 x) where
 ea:=uq
 gV:=ur
 en:=ut
 ha:=by
  rintro F s w x _ ⟨d,ad,cap,e,_⟩
  exact uw bx b (mM c) d s.1 w x trivial e
 hk:=GT bx b f l
 ht:=by
  rintro F s w x _ ⟨d,ad,cap,e,_⟩
  exact mL (mL uv) d s.1 w x trivial e
 hl:=fun s x=>rB k s x
theorem GV {o:Option bG}{p:Nat}{r:List cf}(N:vr=H o (MZ r) p){t:cz×List cf}(h:(di (dZ c k) c.bs vr).J F t w)(hr:aC w 0 103 2 vr (MZ r) (ev r))(hq:MZ t.2+MZ r<=90000)(bx f:Nat)(q:bx≠f)(S:w.heap[bx]?=Z (dx c))(hy:w.heap[f]?=Z (jY (mM c)))(hn:¬F bx)(hm:¬F f):
 Calls O 78 #[aq c.bs,.agg #[(js bx).v,(iM f).v,(jP c).v]] w fun e w'=>∃a1 c1 n,e=M6 (a8 #[])/\(di (dZ c k) c.bs (H a1 (MZ (k.sR t r)) c1)).J n ((k.fu t r).1,k.jM t r) w'/\
  aC w' 0 103 2 (H a1 (MZ (k.sR t r)) c1) (MZ (k.sR t r)) (ev (k.sR t r))/\(∀b,Z b=Nh (Value.slice a1 (MZ (k.sR t r)) c1)->¬n b/\I (G w)<=b)/\Fr (fun b=>F b\/b=f\/b=bx) w w'/\(∀b,n b->F b\/I (G w)<=b):=by
 subst N;refine(qS _ (fun _=>True) (js bx) (iM f) (jP c) _ _ _ (GU bx f q rfl) r o p rfl aa (fun _ _=>⟨trivial,trivial⟩) _ t w (fun _ _=>⟨trivial,trivial⟩) hq (kL (kL h hy hm) S (fun d=>d.elim hn q)) (it hr)).mono ?_;rintro e w' ⟨a1,c1,a2,c2,W,aR,rfl,⟨s,ad,cap,⟨fT,⟨g,g1,aV,ab,u⟩,g2,g3,g4⟩,a0,a3,ag,a4,ai,ba,bb⟩,q3,al,i,j,l,am,an,ao,ap,ar⟩
 have i:w'.heap[c.bs]?=Z (M5 #[H a1 (MZ (k.sR t r)) c1,H a2 (MZ (k.jM t r)) c2] 153 (0,0)):=i;have j:=j;have l:=l;have v:∀b,g b->s b:=fun b hb=>(g4 b).2 (aM ((u b).2 (aM hb)))
 have m:∀b,g b->W b:=fun b hb=>ag b (v b hb)
 have x:∀b,g b->b≠c.bs:=fun b hb e=>ai (by show s c.bs;rw[<-e];exact v b hb)
 have B:=(dZ c k).keep (w':=w') g1 al (fun b hb=>q3 b (m b hb) (x b hb))
 have aB:F c.bs:=by obtain⟨_,_,_,_,_,_,_,aF,_⟩:=h;exact aF
 refine⟨a1,c1,fun b=>g b\/b=c.bs\/Z b=Nh (Value.slice a2 (MZ (k.jM t r)) c2),rfl,⟨g,a2,c2,B,i,fq l (fun _ _=>a5 _),fun b hb=>aM hb,aK (aM rfl),fun d=>x _ d rfl,fun b e=>⟨aK (aK e),fun d=>ap b e (m b d)⟩,fun b hb=>?_⟩,fq j (fun _ _=>a5 _),fun b e=>⟨fun d=>?_,(cv j b e).1⟩,am.mono (fun b d=>?_),fun b hb=>?_⟩
 ·rcases hb with hb|hb|hb
  ·exact(dZ c k).lt B b hb
  ·rw[hb];exact lt_of_some i
  ·exact(cv l b hb).2
 ·rcases d with d|d|d
  ·exact ao b e (m b d)
  ·obtain⟨bd,hc⟩:=fF j b e;rw[d,i] at hc;simp at hc
  ·exact ar b e d
 ·rcases d with(d|d)|d
  ·exact aM d
  ·exact aK (aM d)
  ·exact aK (aK d)
 ·rcases hb with hb|hb|hb
  ·rcases an b (m b hb) with((d|d)|d)|d
   ·exact aM d
   ·exact absurd hb (by rw[d];exact ab)
   ·exact absurd ((u b).2 (aM hb)) (by rw[d];exact g3)
   ·exact aK d
  ·exact aM (by rw[hb];exact aB)
  ·exact aK (cv l b hb).1
def cg.cP (k:cg)(s:cz):Nat->cz
 |0=>s
 |n+1=>k.ma (k.cP s n) (X k.s.rs n 0)
theorem dD.cP (h:c9 k s):∀n,dD k s (k.cP s n)
 |0=>dD.refl h
 |n+1=>(dD.cP h n).trans (dD.ma (dD.cP h n).fA _)
theorem GW (h:(e4 c k).J F s w)(g:c9 k s):
 Calls O 76 #[aq c.pk] w fun e w'=>∃b,e=M6 (a8 #[])/\(e4 c k).J b (k.cP s 12) w'/\ch F w b w':=by
 have m:=hide h;have n:=hide g;obtain⟨vt,o,h⟩:=h;obtain⟨_,c0,c3,_⟩:=hJ h;obtain⟨u,_⟩:=eS h;clear h g;go_enter func76,ntmps76;go_wp2_with fail
 go_loopw [12] (fun iv wr=>∃(j:Nat)(b:Nat->Prop),j<=12/\iv=ak j/\aA ((e4 c k).J b (k.cP s j) wr/\ch F w b wr)) (fun iv _=>12-M (bN iv))
 exact⟨0,F,a5 _,rfl,⟨m.o,ch.refl _ _⟩⟩
 ·
   obtain⟨j,b,v,rfl,d⟩:=hrel;by_cases p:j<12
   ·obtain⟨vt,o,i⟩:=d.o.1;obtain⟨_,_,_,rt⟩:=hJ i;have r1:=rt j p;have f:=pR d.o.1 (dD.cP n.o j).fA (X k.s.rs j 0)
    have l:aA (k.ma (k.cP s j) (X k.s.rs j 0)=k.cP s (j+1)):=rfl;rw[l.o] at f;generalize X k.s.rs j 0=x at r1 f;clear i rt l;go_wp2_with fail;refine f.mono ?_;rintro e B ⟨q,rfl,j2,t⟩
    go_wp2_with fail;go_roundw;exact⟨j+1,q,aa,aj,(c8 j2 (d.o.2.trans t))⟩
    simp[bN];omega
   ·obtain rfl:j=12:=aa;go_wp2_with fail;go_end0;exact⟨b,rfl,d.o.1,d.o.2⟩
end
theorem zI (z:bD)(n:Nat)(hz:z.cells.size=1):(Builtin.zeroCells z.cells n).size=n*1:=by rw[size_zeroCells,hz]
theorem zJ (l:List Int):∀u∈l.map (Value.int Q),u.oneCell'=Nc:=fun u b=>by obtain⟨x,_,rfl⟩:=List.mem_map.1 b;rfl
theorem zK {w:az}{base:Nat}{e:TypeId}{ad:Option bG}{cap:Nat}{l:List Int}(h:aC w base e 1 (H ad (MZ l) cap) (MZ l) (l.map (Value.int Q))):∀a,ad=Z a->∀j u,(l.map (Value.int Q))[j]?=Z u->V w (a.add j)=Z u:=fun a ea j u hj=>by
 have c:j<MZ l:=by exact ri
 obtain⟨b,o,d,_,hc⟩:=hZ h aa;rw[ea] at d;cases d;rw[List.getElem?_map,aN c] at hj;have f:(⟨b,o,Y⟩:bG).add j=⟨b,o+j,Y⟩:=by simp[Addr.add]
 rw[f,(hc j c),<-hj];simp[List.getD_eq_getElem?_getD,List.getElem?_eq_getElem c]
theorem GX (w:az)(n:Nat)(hn:n<=100000):
 J O 242 #[H Y 0 0,ak n] w fun e w'=>∃a1 c1,e=M6 (H a1 0 c1)/\aC w' (I (G w)) 3 1 (H a1 0 c1) 0 []/\C (I (G w)) w w':=by
 obtain⟨c,hi,d,f,i⟩:=bV kk;rcases Nat.eq_zero_or_pos n with h0|h0
 ·subst h0;go_enter func242,ntmps242;go_wp2;go_ret;exact⟨Y,0,rfl,bf _ _ _ _,aH _ _⟩
 ·have hr:=Lib.run_append_nil_zeros (P:=O) w 74 3 74 3 c _ Q Q underlying74 underlying3 hi d n h0 (by rw[f];decide) aa (by rw[i];omega)
  have j:=grownCap_ge w n 0 3;have b:=grownCap_le_maxLen w n 0 3 (by unfold bW;omega)
  generalize grownCap w n 0 3=g at hr j b;have hown:aC (w.drew.alloc (M5 (Builtin.zeroCells (Value.int Q 0).cells n++Builtin.zeroCells (Value.int Q 0).cells (g-n)) 3)) (I (G w)) 3 1 (H (Z ⟨I (G w),0,Y⟩) 0 g) 0 []:=
   World.ownsRow_made w.drew _ g b8 b (by rw[Array.size_append,zI _ _ rfl,zI _ _ rfl];omega)
  have hb:C (I (G w)) w (w.drew.alloc (M5 (Builtin.zeroCells (Value.int Q 0).cells n++Builtin.zeroCells (Value.int Q 0).cells (g-n)) 3)):=(aH _ w).drew.alloc b8 _;go_enter func242,ntmps242;exact xO
theorem zL (w:az)(B:Nat)(l1 l2:List Int)(f g:Option bG)(c1 c2:Nat)(s:V w (av B 0)=Z (H f (MZ l1) c1))(F:V w (av B 1)=Z (H g (MZ l2) c2))(N:aC w 0 3 1 (H f (MZ l1) c1) (MZ l1) (l1.map (Value.int Q)))(S:aC w 0 3 1 (H g (MZ l2) c2) (MZ l2) (l2.map (Value.int Q)))(hm:MZ l1+MZ l2<=100000):
 J O 215 #[H (au B) 2 2] w fun e w'=>∃a c,e=M6 (H a (MZ l1+MZ l2) c)/\aC w' (I (G w)) 3 1 (H a (MZ l1+MZ l2) c) (MZ l1+MZ l2) ((l1++l2).map (Value.int Q))/\C (I (G w)) w w':=by
 obtain⟨t,hi,u,v,x⟩:=bV kk;have i:=hide N;have j:=hide S;have hB:=aT w _ s;go_enter func215,ntmps215;go_wp2
 go_loopw [3,11] (fun l iv wr=>wr=w/\((iv=ak 0/\l=ak 0)\/(iv=ak 1/\l=ak (MZ l1))\/(iv=ak 2/\l=ak (MZ l1+MZ l2:Nat)))) (fun _ iv _=>2-M (bN iv))
 exact⟨rfl,aM ⟨rfl,rfl⟩⟩
 ·
   obtain⟨hw,⟨rfl,rfl⟩|⟨rfl,rfl⟩|⟨rfl,rfl⟩⟩:=hrel
   all_goals
    have hw:=hw.symm;subst hw
   ·go_wp2;go_roundw;exact⟨trivial,aK (aM ⟨aj,aj⟩)⟩
    simp[bN]
   ·go_wp2;go_roundw;exact⟨trivial,aK (aK ⟨aj,aj⟩)⟩
    simp[bN]
   ·go_wp2_with fail;refine(GX w (MZ l1+MZ l2) hm).mono ?_;rintro e w1 ⟨a1,W,rfl,b,hb⟩
    go_wp2
    go_loopw [6,27] (fun m iv wk=>C (I (G w)) w wk/\((∃a c,iv=ak 0/\m=H a 0 c/\aC wk (I (G w)) 3 1 (H a 0 c) 0 [])\/(∃a c,iv=ak 1/\m=H a (MZ l1) c/\aC wk (I (G w)) 3 1 (H a (MZ l1) c) (MZ l1) (l1.map (Value.int Q)))\/(∃a c,iv=ak 2/\m=H a (MZ l1+MZ l2) c/\aC wk (I (G w)) 3 1 (H a (MZ l1+MZ l2) c) (MZ l1+MZ l2) ((l1++l2).map (Value.int Q))))) (fun _ iv _=>2-M (bN iv))
    exact⟨hb,aM ⟨a1,W,rfl,rfl,b⟩⟩
    ·
      obtain⟨hb,⟨a,c,rfl,rfl,b⟩|⟨a,c,rfl,rfl,b⟩|⟨a,c,rfl,rfl,b⟩⟩:=hrel
      ·have ab:=(hb.cell (p:=av B 0) hB).trans s;have hs:=hb.size;go_wp2_with (at_builtin;refine x9 _ rfl _ _ 74 rfl (I (G w)) 3 t (ak 0) 1 8 underlying74 hi u v x rfl ae (H a 0 c) 0 [] rfl b f (MZ l1) c1 (l1.map (Value.int Q)) rfl ac (zx i.o) (zK (cM i.o (fun k e=>hb.block k (cv i.o k e).2))) (zJ l1) ?_ ?_ hs ?_;(unfold bW;omega);omega;intro a2 n ad d o _;rw[Nat.zero_add,List.nil_append] at d)
       have q:=hb.grown o hs (fun k e=>(cv b k e.symm).1)
       go_wp2;go_roundw;exact⟨q,aK (aM ⟨a2,n,aj,rfl,d⟩)⟩
       simp[bN]
      ·have ab:=(hb.cell (p:=av B 1) hB).trans F;have hs:=hb.size;go_wp2_with (at_builtin;refine x9 _ rfl _ _ 74 rfl (I (G w)) 3 t (ak 0) 1 8 underlying74 hi u v x rfl ae (H a (MZ l1) c) (MZ l1) (l1.map (Value.int Q)) rfl b g (MZ l2) c2 (l2.map (Value.int Q)) rfl ac (zx j.o) (zK (cM j.o (fun k e=>hb.block k (cv j.o k e).2))) (zJ l2) ?_ ?_ hs ?_;(unfold bW;omega);omega;intro a2 n ad d o _;rw[<-List.map_append] at d)
       have q:=hb.grown o hs (fun k e=>(cv b k e.symm).1)
       go_wp2;go_roundw;exact⟨q,aK (aK ⟨a2,n,aj,rfl,d⟩)⟩
       simp[bN]
      ·go_wp2;go_ret;exact⟨a,c,rfl,b,hb⟩
section
variable {c:fI}{k:cg}{F:Nat->Prop}{s:cz}{w:az}
theorem zM {vt b:bD}(h:(c7 c k vt b).J F s w):aC w 0 3 1 c.yv (MZ k.Y) (k.Y.map (Value.int Q))/\aC w 0 3 1 c.ov (MZ k.G) (k.G.map (Value.int Q)):=by obtain⟨d,own,h,_⟩:=h;exact⟨h.yr,h.gr⟩
theorem zN (h:(e4 c k).J F s w)(hl:MZ k.T<=4000):
 Calls O 141 #[aq c.pk] w fun e w'=>∃a i,e=M6 (H a (MZ k.T) i)/\aC w' w.heap.size 3 1 (H a (MZ k.T) i) (MZ k.T) (k.T.map (Value.int Q))/\C w.heap.size w w':=by
 have v:MZ k.T=MZ k.G+MZ k.Y:=by unfold cg.T;rw[a7]
 have x:aA (k.T.map (Value.int Q)=(k.G++k.Y).map (Value.int Q)):=rfl;rw[v] at hl⊢;rw[x.o];obtain⟨vt,W,h⟩:=h;obtain⟨_,n,o,_,_,_,_,_,lk⟩:=eS h;obtain⟨yr,gr⟩:=zM h;obtain⟨d,f,B⟩:=eZ yr;obtain⟨g,gc,N⟩:=eZ gr;rw[B] at n yr;rw[N] at o gr;have S:=aw w.drew (M5 #[H g (MZ k.G) gc,H d (MZ k.Y) f] 74)
 have j:=(ax w).drew.trans (S.mono b8)
 have q:=aP w.drew (M5 #[H g (MZ k.G) gc,H d (MZ k.Y) f] 74)
 have P:=zL (w.drew.alloc (M5 #[H g (MZ k.G) gc,H d (MZ k.Y) f] 74)) w.heap.size k.G k.Y g d gc f (by simp only [World.cell?];rw[show w.heap.size=w.drew.heap.size from rfl,q];rfl) (by simp only [World.cell?];rw[show w.heap.size=w.drew.heap.size from rfl,q];rfl) (cM gr (fun b e=>j.block b (cv gr b e).2)) (cM yr (fun b e=>j.block b (cv yr b e).2)) aa;have l:=hide j;go_enter func141,ntmps141;go_wp2_with fail
 go_region_held3 (fun w'=>V w' (av c.pk 1)=Z (H d (MZ k.Y) f)/\V w' (av c.pk 2)=Z (H g (MZ k.G) gc)) (go_keep)
  (first
    |(go_at_call 215;refine P.mono ?_;rintro e ab ⟨a,i,rfl,t,hb⟩;have m:=l.o.trans (hb.mono l.o.size);have y1:=(m.cell (p:=av c.pk 1) lk).trans n;have ad:=(m.cell (p:=av c.pk 2) lk).trans o;have u:=c8 (fq t (fun b e=>aU l.o.size (cv t b e).1)) m))
 go_wp2_with fail;go_ret;exact⟨a,i,rfl,u.o.1,u.o.2⟩
end
def fL {b:Type}(fm:b->Int->Int)(st:b->Int->b)(t:b)(a:Int):b:=if fm t a=-1 then t else st t a
def ik {b:Type}(fm:b->Int->Int)(st:b->Int->b)(t:b)(l:List Int):b:=l.foldl (fL fm st) t
theorem ux {g:Type}(o:dC g)(fm fd:g->Int->Int)(st:g->Int->g)(G:Nat->g->Prop)(T:List Int)(pk pw p cu f:Nat)(ag:Array bD)(ai:dV f)(l:List Int)(ad:Option bG)(cap:Nat)(F:Nat->Prop)(t:g)(w:az)
 (al:∀F t w a,o.J F t w->V w (av pk 0)=Z (aq pw)/\V w (av pk 3)=Z (.map (Z cu))/\V w (av pw 0)=Z (aq p)/\Mp w cu T (fm t)/\Calls O 102 #[aq p,ak a] w fun r w'=>∃x z,r=M6 (a8 #[ak x,ak (fd t a),ak z])/\C w.heap.size w w')
 (am:∀t a,0<=fd t a/\fd t a<=12)(an:∀a∈l,(0<=a/\a<=100000)/\a∈T)(b3:MZ l<=100000)
 (ao:∀j F t w,j<MZ l->G j t->o.J F t w->fm t (X l j 0)≠-1->Calls O f (#[ak (X l j 0),ak (1+fd t (X l j 0))]++ag) w fun r w'=>∃c,r=M6 (a8 #[])/\o.J c (st t (X l j 0)) w'/\ch F w c w')
 (ap:∀j t,j<MZ l->G j t->G (j+1) (fL fm st t (X l j 0)))(h0:G 0 t)(e:o.J F t w)(ar:∀c N w',o.J c N w'->ch F w c w'->jb w' ad l):
 Calls O 157 #[aq pk,H ad (MZ l) cap,.func (.func f) #[] ag] w fun r w'=>∃c,r=M6 (a8 #[])/\o.J c (ik fm st t l) w'/\ch F w c w'/\G (MZ l) (ik fm st t l):=by
 have a4:aA (∀F t w a,o.J F t w->_):=al;have ba:aA (∀j F t w,j<MZ l->G j t->o.J F t w->fm t (X l j 0)≠-1->_):=ao;have bb:aA (∀j t,j<MZ l->G j t->_):=ap;have bd:aA (∀c N w',o.J c N w'->ch F w c w'->_):=ar;have be:aA (_):=an;have bg:aA (∀t a,_):=am;have b4:∀(args:Array bD)(w:az),_=_:=ai;clear al ao ap ar an am ai;go_enter func157,ntmps157;go_wp2_with fail
 go_loopw [13] (fun iv wr=>∃(j:Nat)(d:Nat->Prop)(b:g),j<=MZ l/\iv=ak j/\aA (ik fm st t (l.take j)=b)/\aA (G j b)/\o.J d b wr/\ch F w d wr) (fun iv _=>MZ l-M (bN iv))
 case atStart=>exact⟨0,F,t,a5 _,rfl,rfl,h0,e,ch.refl _ _⟩
 case round=>
  clear h0 e;obtain⟨j,d,b,b5,rfl,S,W,e,s⟩:=hrel;by_cases i:j<MZ l
  ·obtain⟨b6,ca,bi,cb,hc⟩:=bd.o d b wr e s aa;have bl:=hc j i;subst bi;have aB:X l j 0∈l:=by rw[aL,aN i];exact a9 i
   obtain⟨bn,aF⟩:=be.o _ aB;have aR:=jL bn.1 aa;have aV:aA (ik fm st t (l.take (j+1))=fL fm st b (X l j 0)):=by
    show _=_;rw[g9 l j i 0];unfold ik;rw[lj];have:=S.o;unfold ik at this
    rw[this];rfl
   have a0:aA (_):=bb.o j b i W.o;have k:=fun w h=>ba.o j d b w i W.o h;obtain⟨bo,bp,br,⟨D,o1,bs,a1⟩,L⟩:=a4.o d b wr (X l j 0) e;have u:=hide (a1 _ aF)
   have cc:=bg.o b (X l j 0)
   have B:aA (_/\_):=⟨e,s⟩
   have k:aA (∀w,o.J d b w->fm b (X l j 0)≠-1->_):=k;clear hc aB aF e s bs a1;by_cases hw:fm b (X l j 0)=-1
   ·have n:aA (fL fm st b (X l j 0)=b):=by show _=_;unfold fL;rw[aJ hw]
    rw[hw] at u;clear k L;generalize X l j 0=a at*;go_wp2_with (at_lookup;refine wpList_lookup_own_int _ rfl _ _ 127 rfl 3 3 Q jg underlying127 underlying3 (mI _) cu (MZ T) D rfl o1 _ _ rfl aR ?_;intro z q ab;obtain rfl:z=-1:=(by have:=q.symm.trans u.o;simpa using this);clear q ab)
    clear bl bo bp br o1;go_roundw
    case rel=>exact⟨j+1,d,b,aa,aj,by show _=_;rw[aV.o,n.o],by show G _ _;rw[<-n.o];exact a0.o,B.o.1,B.o.2⟩
    case measure=>simp[bN];omega
   ·have n:aA (fL fm st b (X l j 0)=st b (X l j 0)):=by show _=_;unfold fL;rw[aI hw]
    have bt:aA (∀w,o.J d b w->_):=fun w h=>k.o w h hw;clear k;generalize X l j 0=a at*;generalize fm b a=v at*;generalize fd b a=m at*;generalize st b a=bx at*;go_wp2_with (at_lookup;refine wpList_lookup_own_int _ rfl _ _ 127 rfl 3 3 Q jg underlying127 underlying3 (mI _) cu (MZ T) D rfl o1 _ _ rfl aR ?_;intro z q ab;obtain rfl:z=v:=(by have:=q.symm.trans u.o;simpa using this);clear q ab u)
    refine L.mono ?_;rintro r w1 ⟨x,y,rfl,a2⟩
    go_wp2_with fail;refine(bt.o w1 (o.below B.o.1 a2)).mono ?_;rintro r cd ⟨b0,rfl,b1,b2⟩
    have a3:=c8 b1 ((B.o.2.below a2).trans b2)
    go_wp2_with fail;go_roundw;exact⟨j+1,b0,bx,aa,aj,by show _=_;rw[aV.o,n.o],by show G _ _;rw[<-n.o];exact a0.o,a3.o.1,a3.o.2⟩
    simp[bN];omega
  ·obtain rfl:j=MZ l:=aa;rw[bk] at S;go_wp2_with fail;go_end0;rw[S.o];exact⟨d,rfl,e,s,W.o⟩
theorem zO {c:Type}(o:dC c)(fm fd:c->Int->Int)(st:c->Int->c)(G:Nat->c->Prop)(T:List Int)(pk pw p cu f:Nat)(g:Array bD)(n:dV f)(l:List Int)(ad:Option bG)(cap:Nat)(F:Nat->Prop)(t:c)(w:az)
 (q:∀F t w a,o.J F t w->V w (av pk 0)=Z (aq pw)/\V w (av pk 3)=Z (.map (Z cu))/\V w (av pw 0)=Z (aq p)/\Mp w cu T (fm t)/\Calls O 102 #[aq p,ak a] w fun r w'=>∃x z,r=M6 (a8 #[ak x,ak (fd t a),ak z])/\C w.heap.size w w')
 (s:∀t a,0<=fd t a/\fd t a<=12)(u:∀a∈l,(0<=a/\a<=100000)/\a∈T)(v:MZ l<=100000)
 (B:∀j F t w,j<MZ l->G j t->o.J F t w->fm t (X l j 0)≠-1->Calls O f (#[ak (X l j 0),ak (1+fd t (X l j 0))]++g) w fun r w'=>∃d,r=M6 (a8 #[])/\o.J d (st t (X l j 0)) w'/\ch F w d w')
 (N:∀j t,j<MZ l->G j t->G (j+1) (fL fm st t (X l j 0)))(h0:G 0 t)(S:o.J F t w)(i:jb w ad l)(hn:0<MZ l->∀z,ad=Z z->¬F z.block):
 Calls O 157 #[aq pk,H ad (MZ l) cap,.func (.func f) #[] g] w fun r w'=>∃d,r=M6 (a8 #[])/\o.J d (ik fm st t l) w'/\ch F w d w'/\G (MZ l) (ik fm st t l):=
 ux o fm fd st G T pk pw p cu f g n l ad cap F t w q s u v B N h0 S (fun d _ w' _ k=>i.keep k.fr.size (fun hp z e=>k.fr.block _ (by obtain⟨b,o',m,hb,_⟩:=i hp;rw[e] at m;cases m;exact hb) (hn hp z e)))
abbrev kS (n:Int):Obj:=M5 #[ak n] 3 (0,0)
def iz {g:Type}(o:dC g)(d:Nat):dC (g×Int) where
 J F t w:=∃c,o.J c t.1 w/\w.heap[d]?=Z (kS t.2)/\¬c d/\∀b,F b↔(c b\/b=d)
 lt:=by
  rintro F t w ⟨c,h,f,_,e⟩ b hb;rcases(e b).1 hb with hb|hb
  ·exact o.lt h b hb
  ·rw[hb];exact lt_of_some f
 keep:=by rintro F t w w' ⟨c,h,f,hn,e⟩ hs hk;exact⟨c,o.keep h hs (fun b hb=>hk b ((e b).2 (aM hb))),(hk d ((e d).2 (aK rfl))).trans f,hn,e⟩
section
variable {iq:Type}{o:dC iq}{bx gF:Nat}{x:Obj}{F:Nat->Prop}{w:az}
theorem hK {t:iq}(h:(dp o bx x).J F t w):∃e,o.J e t w/\w.heap[bx]?=Z x/\bx<I (G w)/\∀c f w1,o.J c f w1->ch e w c w1->(dp o bx x).J (fun b=>c b\/b=bx) f w1/\ch F w (fun b=>c b\/b=bx) w1:=by
 obtain⟨e,h,g2,g3,g4⟩:=h;refine⟨e,h,g2,lt_of_some g2,fun c f w1 g hT=>⟨⟨c,g,(hT.fr.block bx (lt_of_some g2) g3).trans g2,fun d=>(hT.sub bx d).elim g3 (fun d=>by have:=lt_of_some g2;omega),fun b=>iy⟩,⟨hT.fr.mono (fun b hb=>(g4 b).2 (aM hb)),fun b hb=>?_⟩⟩⟩
 exact uo
theorem l8 {t:iq×Int}(h:(iz o gF).J F t w):∃e,o.J e t.1 w/\w.heap[gF]?=Z (kS t.2)/\gF<I (G w)/\∀c f w1,o.J c f w1->ch e w c w1->(iz o gF).J (fun b=>c b\/b=gF) (f,t.2) w1/\ch F w (fun b=>c b\/b=gF) w1:=by
 obtain⟨e,h,g2,g3,g4⟩:=h;refine⟨e,h,g2,lt_of_some g2,fun c f w1 g hT=>⟨⟨c,g,(hT.fr.block gF (lt_of_some g2) g3).trans g2,fun d=>(hT.sub gF d).elim g3 (fun d=>by have:=lt_of_some g2;omega),fun b=>iy⟩,⟨hT.fr.mono (fun b hb=>(g4 b).2 (aM hb)),fun b hb=>?_⟩⟩⟩
 exact uo
theorem oM {t:iq×Int}(h:(iz o gF).J F t w):V w (av gF 0)=Z (ak t.2)/\w.frozen? (av gF 0)=K:=by obtain⟨b,h,g2,g3,g4⟩:=h;exact⟨by simp[World.cell?,g2],by simp[World.frozen?,g2]⟩
theorem zP {t:iq×Int}(h:(iz o gF).J F t w)(m:Int):(iz o gF).J F (t.1,m) (ay w ⟨gF,0,Y⟩ (U Q m))/\ch F w F (ay w ⟨gF,0,Y⟩ (U Q m)):=by
 obtain⟨c,h,g2,g3,g4⟩:=h;have fr:Fr (fun b=>b=gF) w (ay w ⟨gF,0,Y⟩ (U Q m)):=(Fr.refl _ w).set _ 0 _ rfl;refine⟨⟨c,o.keep h fr.size (fun b hb=>fr.block b (o.lt h b hb) (fun e=>g3 (by rw[<-e];exact hb))),?_,g3,g4⟩,⟨fr.mono (fun b e=>(g4 b).2 (aK e)),fun _ d=>aM d⟩⟩
 simp only [World.setCell,Array.getElem?_modify,if_true,g2,Option.map_some];simp
end
section
variable {c:fI}{k:cg}{vt cy:bD}{F:Nat->Prop}{s:cz}{w:az}
theorem GY (h:(c7 c k vt cy).J F s w):
 Calls prog 82 #[aq c.pk] w fun e w'=>e=M6 (ak k.a.O)/\C (I (G w)) w w':=by
 obtain⟨b,c0,_⟩:=hJ h;obtain⟨l,_⟩:=eS h;have P:=lq w b;have g:=hide h;have k1:=b.hO;have m:=b.hg;clear h b;go_enter func82,ntmps82;go_wp2_with fail;refine P.mono ?_;rintro e w1 ⟨rfl,d⟩
 have f:=(c7 c k vt cy).below g.o d;obtain⟨b,n,_⟩:=hJ f;obtain⟨o,_⟩:=eS f;have P:=pD w1 b;go_wp2_with fail;refine P.mono ?_;rintro e p ⟨rfl,i⟩
 have j:=hide (d.trans (i.mono d.size))
 go_wp2_with fail;go_ret;exact⟨aj,j.o⟩
theorem GZ {bp d:Nat}{n m a:Int}(h:(iz (dp (c7 c k vt cy) bp (dx c)) d).J F (s,n) w)(ht:MZ k.T<=4000)(ha:a∈k.T)(hp:0<=a/\a<=2000)(hn:0<=n/\n<=100000)(hm:0<=m/\m<=13):
 Calls O 158 #[ak a,ak m,aq d,aq bp] w fun e w'=>∃j,e=M6 (a8 #[])/\(iz (dp (c7 c k vt cy) bp (dx c)) d).J j ({s with f:=hG s.f a n},n+m) w'/\ch F w j w':=by
 obtain⟨q,_⟩:=oM h;obtain⟨_,g,_⟩:=l8 h;obtain⟨_,i,l,_⟩:=hK g;obtain⟨_,_,_,ap,_⟩:=eS i;have l:V w (av bp 0)=Z (aq c.pk):=aD l
 clear g i;obtain⟨ar,g,_,_,u⟩:=l8 ((iz (dp (c7 c k vt cy) bp (dx c)) d).below h (aH _ w).drew)
 obtain⟨aB,i,_,_,v⟩:=hK g;obtain⟨⟨D,o1,x,B⟩,hM⟩:=pP i;obtain⟨N,aF,S,W⟩:=o1.update (t:=127) (e:=3) jg underlying127 (by unfold bW;omega) (jL hp.1 aa) (nG n (WalkArith.wf_i64 ⟨aa,aa⟩))
 obtain⟨ab,ad⟩:=hM N _ (Mp.put o1 x B ha S) ((Fr.refl _ w.drew).grown W (fun b e=>aM (by cases e;rfl)))
 obtain⟨ag,ai⟩:=v _ _ _ ab ad;obtain⟨o,al⟩:=u _ _ _ ag ai;obtain⟨am,aR⟩:=oM o;have p:aA (_/\_):=⟨o,(ch.of (aH _ w).drew).trans al⟩
 dsimp only at q am;go_enter func158,ntmps158;go_wp2
 go_region
 go_wp2;go_end0;obtain⟨an,ao⟩:=zP p.o.1 (n+m)
 exact⟨_,rfl,an,p.o.2.trans ao⟩
end
def cg.mN (k:cg)(t:cz×Int)(a:Int):cz×Int:=({t.1 with f:=hG t.1.f a t.2},t.2+(1+pf (k.ld a)))
def cg.mO (k:cg)(t:cz×Int)(l:List Int):cz×Int:=ik (fun t a=>t.1.f a) k.mN t l
def cg.pl (k:cg)(s:cz):cz×Int:=k.mO (s,k.a.N) k.T
section
variable {c:fI}{k:cg}{vt cy:bD}{F:Nat->Prop}{s:cz}{w:az}
theorem G0:dV 158:=gM func158 ah rfl
theorem G1 {bp i:Nat}(h:(iz (dp (c7 c k vt cy) bp (dx c)) i).J F (s,(k.a.N:Int)) w)(ht:MZ k.T<=4000)(hp:∀a∈k.T,0<=a/\a<=2000)(hN:k.a.N<=2000){ad:Option bG}{l B:Nat}(hr:aC w B 3 1 (H ad (MZ k.T) l) (MZ k.T) (k.T.map (Value.int Q)))(hB:∀b,F b->b<B):
 Calls O 157 #[aq c.pk,H ad (MZ k.T) l,.func (.func 158) #[] #[aq i,aq bp]] w fun e w'=>∃g,e=M6 (a8 #[])/\(iz (dp (c7 c k vt cy) bp (dx c)) i).J g (k.pl s) w'/\ch F w g w'/\0<=(k.pl s).2/\(k.pl s).2<=60000:=by
 have E:=zO _ (fun t a=>t.1.f a) (fun _ a=>pf (k.ld a)) k.mN (fun j t=>0<=t.2/\t.2<=2000+13*(j:Int)) k.T c.pk k.a.pw k.a.p c.cu 158 #[bJ _,bJ _] G0 k.T ad l F (s,(k.a.N:Int)) w
  (by
    rintro F t o a p;obtain⟨_,f,_⟩:=l8 p;obtain⟨_,d,_⟩:=hK f;obtain⟨c0,_,_,c3,_⟩:=eS d;obtain⟨q,c5,_⟩:=hJ d;obtain⟨hM,_⟩:=pP d;refine⟨c0,c3,c5,hM,(gO a o q).mono ?_⟩
    rintro r w' ⟨rfl,hb⟩
    exact⟨_,_,rfl,hb⟩)
  (fun t a=>dv _) (fun a ha=>⟨by have:=hp a ha;omega,ha⟩) aa
  (by
    rintro j F t o m ⟨g1,g2⟩ u _;have hm:X k.T j 0∈k.T:=by rw[aL,aN m];exact a9 m
    have f:=hp _ hm;have d:=dv (k.ld (X k.T j 0))
    exact GZ (s:=t.1) (n:=t.2) u ht hm f ⟨g1,aa⟩ aa)
  (by
    rintro j t m ⟨g1,g2⟩
    have d:=dv (k.ld (X k.T j 0))
    unfold fL;split
    ·exact⟨g1,aa⟩
    ·unfold cg.mN;exact⟨aa,aa⟩)
  ⟨aa,aa⟩ h (hZ hr)
  (fun v z e hz=>by obtain⟨b,cap,x⟩:=eW hr v;cases x;cases e;have d:=(cv hr b rfl).1;have:=hB b hz;omega)
 refine E.mono ?_;rintro r w' ⟨g,rfl,f,d,N,S⟩
 exact⟨g,rfl,f,d,N,Int.le_trans S aa⟩
theorem G5 (h:(c7 c k vt cy).J F s w)(ht:MZ k.T<=4000)(hp:∀a∈k.T,0<=a/\a<=2000):
 Calls O 81 #[aq c.pk] w fun e w'=>∃f,e=M6 (ak ((k.pl s).2-k.a.N))/\(c7 c k vt cy).J f (k.pl s).1 w'/\ch F w f w':=by
 have W:=hide h;have m:=aw w (dx c)
 have h0:=(c7 c k vt cy).below h m;obtain⟨n,c0,_⟩:=hJ h0;obtain⟨bi,_⟩:=eS h0;have P:=ny _ n;have n1:=n.hN';have ab:=hide m;clear h h0 n m;go_enter func81,ntmps81;go_wp2_with fail;refine P.mono ?_;clear P;rintro e w1 ⟨rfl,ad⟩
 have o:=(ad.block _ ac).trans (aP _ _)
 have ap:V w1 (av (I (G w)) 0)=Z (aq c.pk):=aD o
 have q:=(c7 c k vt cy).lt W.o;have t:=lt_of_some o;have i:C (I (G w1)) w1 (w1.alloc (kS k.a.N)):=aw w1 _;have u:=ab.o.trans (ad.mono ab.o.size)
 have ag:=(c7 c k vt cy).below ((c7 c k vt cy).below W.o u) i;have ar:(dp (c7 c k vt cy) (I (G w)) (dx c)).J (fun b=>F b\/b=I (G w)) s (w1.alloc (kS k.a.N)):=⟨F,ag,(i.block _ t).trans o,fun d=>by have:=q _ d;omega,fun b=>iy⟩
 have aB:(iz (dp (c7 c k vt cy) (I (G w)) (dx c)) (I (G w1))).J (fun b=>(F b\/b=I (G w))\/b=I (G w1)) (s,(k.a.N:Int)) (w1.alloc (kS k.a.N)):=⟨_,ar,aP _ _,fun d=>d.elim (fun d=>by have:=q _ d;omega) (fun d=>by omega),fun b=>iy⟩
 have hd:=(aH (I (G (w1.alloc (kS k.a.N)))) (w1.alloc (kS k.a.N))).drew;have aF:=zN (c:=c) ⟨vt,cy,(c7 c k vt cy).below ag hd⟩ ht;have j:aA (_/\_/\_/\_/\I (G (w1.alloc (kS k.a.N)).drew)=I (G w1)+1):=⟨(iz (dp (c7 c k vt cy) (I (G w)) (dx c)) (I (G w1))).below aB hd,(u.trans (i.mono u.size)).trans (hd.mono (by simp;omega)),q,t,ac⟩
 have aR:=(i.cell (p:=av (I (G w)) 0) t).trans ap;have ai:=c8 ht hp;go_wp2_with fail
 go_region_held3 (fun w'=>V w' (av (I (G w)) 0)=Z (aq c.pk)) (go_keep)
  (first
    |(go_at_call 141;refine aF.mono ?_;rintro e bl ⟨bn,bo,rfl,aV,l⟩;have bp:=(l.cell (p:=av (I (G w)) 0) (by have:=j.o.2.2.2;simp;omega)).trans aR;have v:=c8 aV l)
    |(go_at_call 157;refine(G1 ((iz (dp (c7 c k vt cy) (I (G w)) (dx c)) (I (G w1))).below j.o.1 v.o.2) ai.o.1 ai.o.2 aa v.o.1 (fun b hb=>by have g:=j.o.2.2;rw[g.2.2];rcases hb with(hb|hb)|hb;(have:=g.1 b hb;omega);omega;omega)).mono ?_;rintro e x ⟨br,rfl,B,a0,b1,b2⟩;have bs:=(oM B).1;obtain⟨a1,g,_,_,_⟩:=l8 B;obtain⟨al,N,S,_,_⟩:=hK g;have bt:V x (av (I (G w)) 0)=Z (aq c.pk):=aD S;clear g N S;have a2:=c8 B a0))
 all_goals
  have a3:aA (∃f,(c7 c k vt cy).J f (k.pl s).1 x/\ch F w f x):=by
   obtain⟨⟨a1,⟨al,N,S,a4,am⟩,bx,ba,bb⟩,an⟩:=a2.o;obtain⟨_,bd,q3,b0,b3⟩:=j.o;have l:=v.o.2;have ao:_:=bd.trans (l.mono aa)
   refine⟨al,N,⟨(Fr.of (X:=F) ao).trans an.fr (fun b d=>?_),fun b hb=>?_⟩⟩
   ·rcases d with(d|d)|d
    ·exact aM d
    ·exact aK aa
    ·exact aK aa
   ·rcases an.sub b ((bb b).2 (aM ((am b).2 (aM hb)))) with((d|d)|d)|d
    ·exact aM d
    ·exact absurd hb (by rw[d];exact a4)
    ·exact absurd ((am b).2 (aM hb)) (by rw[d];exact ba)
    ·exact aK (by have:=ao.size;omega)
  go_wp2_with fail;go_ret;obtain⟨f,be,bg⟩:=a3.o;exact⟨f,by first|rfl|go_num,be,bg⟩
end
def cg.ar (k:cg)(y g:Nat)(ws:List Int):cg:={k with s:={k.s with y:=y,g:=g,ws:=ws}}
def cg.iN (k:cg)(a x:Int):cg:=k.ar k.s.y k.s.g (if dw k.a.N k.s.y k.s.g a=Nc then k.s.ws.set (M a) x else k.s.ws)
def cg.rC (k:cg)(i:Nat)(x:Int):cg:={k with s:={k.s with rs:=k.s.rs.set i x}}
def cg.brk (k:cg)(s:cz)(a:Int):cg:=
 if(pk (k.ld a)=3\/pk (k.ld a)=4)/\k.cY s (k.ld (a+1))=Nc then(if pk (k.ld a)=4 then(k.iN (a+1) 3).iN (a+2) 3 else k.iN (a+1) 3) else k
section
variable {c:fI}{k:cg}{vt cy:bD}{F:Nat->Prop}{s:cz}{w:az}
open Classical in
theorem pT (h:(c7 c k vt cy).J F s w):∃f,(es k.a).J f k.s w/\∀g n w',(es k.a).J g n w'->ch f w g w'->∃p,(c7 c {k with s:=n} vt cy).J p s w'/\ch F w p w':=by
 obtain⟨f,own,h,o⟩:=h;refine⟨f,h.wd,fun g n w' q m=>⟨_,⟨g,fun b=>if g b then 1 else if f b then 0 else own b,?_,fun b=>iy⟩,⟨m.fr.mono (fun b d=>(o b).2 (by rw[(h.w1 b).1 d];decide)),fun b hb=>?_⟩⟩⟩
 ·have l:∀b j,own b=j->j≠0->j≠1->(if g b then 1 else if f b then 0 else own b)=j:=fun b j e h0 t=>by
   have n1:_:=fun d=>t (e.symm.trans ((h.w1 b).1 d))
   rw[aI (fun d=>(m.sub b d).elim n1 (fun d=>by have:=h.lt b aa;omega)),aI n1];exact e
  have hk:∀b,b<I (G w)->own b≠1->_=_:=fun b hb hn=>m.fr.block b hb (fun d=>hn ((h.w1 b).1 d))
  exact {
   wd:=q,w1:=fun b=>⟨fun d=>by rw[aJ d],fun d=>by
    by_cases e:g b
    ·exact e
    ·rw[aI e] at d;by_cases i:f b
     ·rw[aJ i] at d;omega
     ·rw[aI i] at d;exact absurd ((h.w1 b).2 d) i⟩
   cb:=(hk _ (lt_of_some h.cb) (by rw[h.k1];decide)).trans h.cb,k1:=l _ _ h.k1 ae ae
   mp:=h.mp.same (hk _ h.mp.lt (by rw[h.m1];decide)),m1:=l _ _ h.m1 ae ae
   tr:=cM h.tr (fun b e=>hk b (cv h.tr b e).2 (by rw[h.ij b e];decide)),ij:=fun b e=>l _ _ (h.ij b e) ae ae
   er:=cM h.er (fun b e=>hk b (cv h.er b e).2 (by rw[h.eo b e];decide)),eo:=fun b e=>l _ _ (h.eo b e) ae ae
   yr:=cM h.yr (fun b e=>hk b (cv h.yr b e).2 (by rw[h.iL b e];decide)),iL:=fun b e=>l _ _ (h.iL b e) ae ae
   gr:=cM h.gr (fun b e=>hk b (cv h.gr b e).2 (by rw[h.go b e];decide)),go:=fun b e=>l _ _ (h.go b e) ae ae
   lt:=fun b hb=>by
    by_cases e:g b
    ·exact(es k.a).lt q b e
    ·rw[aI e] at hb;by_cases i:f b
     ·rw[aJ i] at hb;exact absurd rfl hb
     ·rw[aI i] at hb;exact aO (h.lt b hb) m.fr.size}
 ·dsimp only at hb;by_cases e:g b
  ·exact(m.sub b e).imp (fun d=>(o b).2 (by rw[(h.w1 b).1 d];decide)) id
  ·rw[aI e] at hb;by_cases i:f b
   ·rw[aJ i] at hb;exact absurd rfl hb
   ·rw[aI i] at hb;exact aM ((o b).2 hb)
theorem oN (h:(c7 c k vt cy).J F s w):At w k.a.p k.a.q k.a.N k.a.O k.s.y k.s.g k.s.ws/\∀w' y g ws,At w' k.a.p k.a.q k.a.N k.a.O y g ws->dj k.a.p k.a.q w w'->∃b,(c7 c (k.ar y g ws) vt cy).J b s w'/\ch F w b w':=by
 obtain⟨j,d,e⟩:=pT h;obtain⟨g1,g2⟩:=lv d;refine⟨g1,fun w' y g ws ha f=>?_⟩
 obtain⟨i,j2⟩:=g2 w' y g ws ha f;exact e _ _ _ i j2
theorem G6 (h:(c7 c k vt cy).J F s w)(i:Nat)(x:Int):∃b,(c7 c (k.rC i x) vt cy).J b s (ay w ⟨k.a.nb,i,Y⟩ (U Q x))/\ch F w b (ay w ⟨k.a.nb,i,Y⟩ (U Q x)):=by obtain⟨g,d,e⟩:=pT h;obtain⟨f,j2⟩:=zd d i x;exact e _ _ _ f j2
theorem G7 (h:(c7 c k vt cy).J F s w)(a:Int)(ha:0<=a/\a<=2000):
 Calls O 160 #[aq c.pk,ak a] w fun e w'=>∃ar,e=M6 (a8 #[])/\(c7 c (k.brk s a) vt cy).J ar s w'/\ch F w ar w':=by
 have p:aA ((c7 c k vt cy).J F s w):=h;obtain⟨aB,_⟩:=eS h;obtain⟨ai,c0,_⟩:=hJ h;have P:=gO a w ai;have q:aA (k.brk s a=if(pk (ld k.a.N k.s.y k.s.g k.s.ws a)=3\/pk (ld k.a.N k.s.y k.s.g k.s.ws a)=4)/\k.cY s (k.ld (a+1))=Nc then(if pk (ld k.a.N k.s.y k.s.g k.s.ws a)=4 then(k.iN (a+1) 3).iN (a+2) 3 else k.iN (a+1) 3) else k):=rfl;have bd:IntKind.i64.wrap (a+1)=a+1:=by rw[bA];omega
 have be:IntKind.i64.wrap (a+2)=a+2:=by rw[bA];omega
 generalize k.brk s a=i at q⊢;generalize pk (ld k.a.N k.s.y k.s.g k.s.ws a)=aF at P q;generalize pf (ld k.a.N k.s.y k.s.g k.s.ws a)=bg at P;generalize pc (ld k.a.N k.s.y k.s.g k.s.ws a)=cc at P;clear h ai;by_cases am:aF=3\/aF=4
 ·have al:aA (∀w1,C (I (G w)) w w1->Calls O 98 #[aq k.a.p,ak (a+1)] w1 fun e w'=>e=M6 (ak (k.ld (a+1)))/\C (I (G w1)) w1 w'):=fun w1 hb=>ki (a+1) w1 (hJ ((c7 c k vt cy).below p.o hb)).1;have S:aA (∀w1,C (I (G w)) w w1->Calls O 154 #[aq c.pk,ak (k.ld (a+1))] w1 fun e w'=>e=M6 (bK (k.cY s (k.ld (a+1))))/\C (I (G w1)) w1 w'):=fun w1 hb=>pQ ((c7 c k vt cy).below p.o hb) _;generalize k.ld (a+1)=x at al S q;cases hl:k.cY s x
  ·have E:aA (i=k):=by show i=k;rw[q.o,hl,aI (fun an=>by simp at an)]
   rw[hl] at S;clear q;rcases am with rfl|rfl
   all_goals
    go_enter func160,ntmps160;go_wp2_with fail;refine P.mono ?_;clear P;rintro e w1 ⟨rfl,d⟩
    have j:=(c7 c k vt cy).below p.o d;obtain⟨W,_⟩:=eS j;obtain⟨_,ab,_⟩:=hJ j;clear j aB c0;go_wp2_with fail;refine(al.o w1 d).mono ?_;rintro e n ⟨rfl,v⟩
    have g:=d.trans (v.mono d.size)
    go_wp2_with fail;refine(S.o n g).mono ?_;rintro e o ⟨rfl,B⟩
    have l:aA ((c7 c i vt cy).J F s o/\ch F w F o):=by
     have hb:=g.trans (B.mono g.size)
     rw[E.o];exact⟨(c7 c k vt cy).below p.o hb,ch.of hb⟩
    clear d v B g ab W;go_wp2_with fail;refine a6 (results_none rfl _ _ _) rfl ?_;exact⟨F,rfl,l.o.1,l.o.2⟩
  ·rw[hl] at S;have ao:aA (∀k w1,(∃f,(c7 c k vt cy).J f s w1/\ch F w f w1)->∀(a:Int),Calls O 93 #[aq k.a.p,ak a,ak 3] w1 fun e w'=>∃b,e=M6 (bK b)/\(∃f,(c7 c (k.iN a 3) vt cy).J f s w'/\ch F w f w')/\V w' (av c.pk 0)=Z (aq k.a.pw)/\V w' (av k.a.pw 0)=Z (aq k.a.p)):=by
    rintro k w1 ⟨f,j,a0⟩ a;obtain⟨ai,a1⟩:=oN j;refine(lW a 3 w1 ai).mono ?_;rintro e n ⟨rfl,a2,a3⟩
    obtain⟨a4,ap,ba⟩:=a1 n _ _ _ a2 a3;obtain⟨W,_⟩:=eS ap;obtain⟨_,ab,_⟩:=hJ ap;exact⟨_,rfl,⟨a4,ap,a0.trans ba⟩,W,ab⟩
   rcases am with rfl|rfl
   ·have E:aA (i=k.iN (a+1) 3):=by show i=_;rw[q.o,aJ ⟨aM rfl,hl⟩,aI ae]
    clear q;go_enter func160,ntmps160;go_wp2_with fail;refine P.mono ?_;clear P;rintro e w1 ⟨rfl,d⟩
    have j:=(c7 c k vt cy).below p.o d;obtain⟨W,_⟩:=eS j;obtain⟨_,ab,_⟩:=hJ j;clear j aB c0;go_wp2_with fail;refine(al.o w1 d).mono ?_;rintro e n ⟨rfl,v⟩
    have g:=d.trans (v.mono d.size)
    go_wp2_with fail;refine(S.o n g).mono ?_;rintro e o ⟨rfl,B⟩
    have hb:=g.trans (B.mono g.size)
    have t:=(c7 c k vt cy).below p.o hb;obtain⟨aR,_⟩:=eS t;obtain⟨_,l0,_⟩:=hJ t;have ad:=ao.o k o.drew ⟨F,(c7 c k vt cy).below t (aH _ o).drew,(ch.of hb).below (aH _ o).drew⟩ (a+1)
    clear d v B g ab W t hb;go_wp2_with fail
    go_region_held3 (fun w'=>V w' (av c.pk 0)=Z (aq k.a.pw)/\V w' (av k.a.pw 0)=Z (aq k.a.p)) (go_keep)
     (first
       |(go_at_call 191;refine(oj _).mono ?_;rintro e n ⟨rfl,m⟩;have m:=m.symm;subst m)
       |(go_at_call 93;refine ad.mono ?_;clear ad;rintro e N ⟨bb,rfl,u,aV,y1⟩;have l:aA (∃f,(c7 c i vt cy).J f s N/\ch F w f N):=(by rw[E.o];exact u);clear u))
    clear aV y1 aR l0;go_wp2_with fail;go_end0;obtain⟨f,ag,j2⟩:=l.o;exact⟨f,rfl,ag,j2⟩
   ·have E:aA (i=(k.iN (a+1) 3).iN (a+2) 3):=by show i=_;rw[q.o,aJ ⟨aK rfl,hl⟩,aJ rfl]
    go_enter func160,ntmps160;go_wp2_with fail;refine P.mono ?_;rintro e w1 ⟨rfl,d⟩
    have j:=(c7 c k vt cy).below p.o d;obtain⟨W,_⟩:=eS j;obtain⟨_,ab,_⟩:=hJ j;go_wp2_with fail;refine(al.o w1 d).mono ?_;rintro e n ⟨rfl,v⟩
    have g:=d.trans (v.mono d.size)
    go_wp2_with fail;refine(S.o n g).mono ?_;rintro e o ⟨rfl,B⟩
    have hb:=g.trans (B.mono g.size)
    have t:=(c7 c k vt cy).below p.o hb;obtain⟨aR,_⟩:=eS t;obtain⟨_,l0,_⟩:=hJ t;have ad:=ao.o k o.drew ⟨F,(c7 c k vt cy).below t (aH _ o).drew,(ch.of hb).below (aH _ o).drew⟩ (a+1)
    go_wp2_with fail
    go_region_held3 (fun w'=>V w' (av c.pk 0)=Z (aq k.a.pw)/\V w' (av k.a.pw 0)=Z (aq k.a.p)) (go_keep)
     (first
       |(go_at_call 191;refine(oj _).mono ?_;rintro e n ⟨rfl,m⟩;have m:=m.symm;subst m)
       |(go_at_call 93;refine ad.mono ?_;rintro e N ⟨bb,rfl,u,aV,y1⟩;have l:=hide u;clear u))
    have ad:Calls O 93 #[aq k.a.p,ak (a+2),ak 3] N.drew fun e w'=>∃b,e=M6 (bK b)/\(∃f,(c7 c i vt cy).J f s w'/\ch F w f w')/\V w' (av c.pk 0)=Z (aq k.a.pw)/\V w' (av k.a.pw 0)=Z (aq k.a.p):=by rw[E.o];obtain⟨f,ag,j2⟩:=l.o;exact ao.o (k.iN (a+1) 3) N.drew ⟨f,(c7 c _ vt cy).below ag (aH _ N).drew,j2.below (aH _ N).drew⟩ (a+2)
    go_wp2_with fail
    go_region_held3 (fun w'=>V w' (av c.pk 0)=Z (aq k.a.pw)/\V w' (av k.a.pw 0)=Z (aq k.a.p)) (go_keep)
     (first
       |(go_at_call 191;refine(oj _).mono ?_;rintro e n ⟨rfl,m⟩;have m:=m.symm;subst m)
       |(go_at_call 93;refine ad.mono ?_;rintro e bi ⟨bl,rfl,u,z0,bn⟩;have l:=hide u;clear u))
    go_wp2_with fail;go_end0;obtain⟨f,ag,j2⟩:=l.o;exact⟨f,rfl,ag,j2⟩
 ·have E:aA (i=k):=by show i=k;rw[q.o,aI (fun an=>am an.1)]
  go_enter func160,ntmps160;go_wp2_with fail;refine P.mono ?_;rintro e w1 ⟨rfl,d⟩
  have l:aA ((c7 c i vt cy).J F s w1/\ch F w F w1):=by rw[E.o];exact⟨(c7 c k vt cy).below p.o d,ch.of d⟩
  go_wp2_with fail;refine a6 (results_none rfl _ _ _) rfl ?_;exact⟨F,rfl,l.o.1,l.o.2⟩
end
end Go.Proofs.YtpkjkjhanlbcoaaGreat
