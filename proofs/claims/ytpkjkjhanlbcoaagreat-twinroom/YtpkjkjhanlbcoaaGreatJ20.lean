import Derived.Test.YtpkjkjhanlbcoaaGreatJ19
namespace Go.Proofs.YtpkjkjhanlbcoaaGreat
set_option maxRecDepth 100000
set_option maxHeartbeats 8000000
open Tryz
open Go.RowKit W Kp cf
theorem AB {P:Prop}(h:P:=by
 generalize (ec s.T).1=yn at*;generalize (ec s.T).2=od at*;go_enter func238,ntmps238;go_wp2_with fail;refine P.mono ?_;clear P;rintro e w1 ⟨rfl,hb⟩
 obtain⟨d0,d1⟩:=HC.o w1 hb;have P:=HP.o w1 hb;clear HC hb HP;go_wp2_with fail;refine P.mono ?_;rintro e w2 ⟨F',rfl,hj,ht⟩
 have HJ:=dq hj ht;go_wp2_with fail;go_ret;exact⟨F',rfl,HJ.o⟩):P:=h
theorem AC {P:Prop}(h:P:=by
 rw[aE,aE,List.getElem?_append];by_cases h:i<T.length
 ·rw[aI h,aG V]
 ·rw[aG h];by_cases e:i=T.length
  ·subst e;simp
  ·rw[aG e,List.getElem?_eq_none (by simp;omega),List.getElem?_eq_none V]):P:=h
theorem AD {P:Prop}(h:P:=by
 by_cases e:i=T.length
 ·rw[aI e];exact⟨fun _=>aJ e,fun _=>⟨V,rfl⟩⟩
 ·rw[aG e];exact⟨fun h=>aK ⟨V,h.2⟩,fun h=>h.elim (fun h=>⟨V,h.2⟩) (fun h=>absurd h e)⟩):P:=h
theorem uI {P:Prop}(h:P:=by rw[World.cell?_drew,a5 _ _ _ _ Z];exact h):P:=h
theorem uJ {P:Prop}(h:P:=by
 rintro e w' ⟨F',rfl,hj,ht⟩
 exact⟨F',rfl,hj,(b8.of hb).trans ht⟩):P:=h
structure nz {σ:Type}(lk:σ->b7->Bool×σ)(g:List Bool->List Bool)(pe:b7->b7)(R:List b7)(ρ:σ->List Bool->List b7->Prop):Prop where
 no:∀t L C e,ρ t L C->e∈R->cL L e.1=false->lk t (pe e)=(false,t)
 yes:∀t L C e,ρ t L C->e∈R->cL L e.1=true->(lk t (pe e)).1=true/\ρ (lk t (pe e)).2 (fz g L e.2) (C++[e])
section
variable {σ:Type}{lk:σ->b7->Bool×σ}{g:List Bool->List Bool}{pe:b7->b7}{R:List b7}{ρ:σ->List Bool->List b7->Prop}
theorem nz.pass (h:nz lk g pe R ρ):∀(l:List b7)(t:σ)(L:List Bool)(C D A:List b7),(∀e∈l,e∈R)->ρ t L C->
 ρ ((l.map pe).foldl (ej lk) (A,D.map pe,t)).2.2 (cf.pass cL (fz g) l L C D).1 (cf.pass cL (fz g) l L C D).2.1/\((l.map pe).foldl (ej lk) (A,D.map pe,t)).2.1=(cf.pass cL (fz g) l L C D).2.2.map pe/\
 ((l.map pe).foldl (ej lk) (A,D.map pe,t)).1.length+C.length=A.length+(cf.pass cL (fz g) l L C D).2.1.length
 |[],t,L,C,D,A,_,hr=>⟨hr,rfl,rfl⟩
 |e::l,t,L,C,D,A,hl,hr=>by
  have he:=hl e Z;rw[List.map_cons,a8];cases c:cL L e.1
  ·have b:ej lk (A,D.map pe,t) (pe e)=(A,(D++[e]).map pe,t):=by unfold ej;rw[h.no t L C e hr he c,List.map_append];rfl
   rw[b,cf.pass,c,aG Z];exact h.pass l t L C (D++[e]) A (fun x d=>hl x (aN _ d)) hr
  ·obtain⟨y1,f⟩:=h.yes t L C e hr he c;have b:ej lk (A,D.map pe,t) (pe e)=(A++[pe e],D.map pe,(lk t (pe e)).2):=by unfold ej;rw[aI y1]
   rw[b,cf.pass,c,aI rfl];obtain⟨i,j,k⟩:=h.pass l _ _ _ D _ (fun x d=>hl x (aN _ d)) f;refine⟨i,j,?_⟩
   simp only [List.length_append,List.length_cons,List.length_nil] at k;omega
theorem uK {σ:Type}(is:σ->Int->Bool)(kp:σ->Int->σ)(e:b7):∀(l:List b7)(s:σ)(C D:List b7),e∈(cf.pass is kp l s C D).2.2->e∈D\/e∈l
 |[],_,_,_,h=>aK h
 |x::l,s,C,D,h=>by
  rw[cf.pass] at h;split at h
  ·exact(uK is kp e l _ _ _ h).imp id (aN _)
  ·rcases uK is kp e l _ _ _ h with b|b
   ·rcases List.mem_append.1 b with b|b
    ·exact aK b
    ·exact aJ (by rw[List.mem_singleton.1 b];simp)
   ·exact aJ (aN _ b)
theorem AE {σ:Type}(is:σ->Int->Bool)(kp:σ->Int->σ)(l:List b7)(s:σ)(C:List b7)(e:b7)(h:e∈(cf.pass is kp l s C []).2.2):e∈l:=
 (uK is kp e l s C [] h).resolve_left Z
theorem nz.turns (h:nz lk g pe R ρ):∀(n:Nat)(D:List b7)(t:σ)(L:List Bool)(C:List b7),(∀e∈D,e∈R)->ρ t L C->
 ρ (eB lk n t (D.map pe)).1 (cf.turns cL (fz g) n D L C).1 (cf.turns cL (fz g) n D L C).2.1/\(eB lk n t (D.map pe)).2=(cf.turns cL (fz g) n D L C).2.2.map pe
 |0,D,t,L,C,_,hr=>⟨hr,rfl⟩
 |n+1,D,t,L,C,f,hr=>by
  obtain⟨b,d,i⟩:=h.pass D t L C [] [] f hr;have b:=b;have d:(pts lk t (D.map pe)).2.1=(cf.pass cL (fz g) D L C []).2.2.map pe:=d;have i:(pts lk t (D.map pe)).1.length+C.length=0+(cf.pass cL (fz g) D L C []).2.1.length:=i;by_cases c:(pts lk t (D.map pe)).1.length=0
  ·rw[lS _ _ _ _ c,B4 V];exact⟨b,d⟩
  ·rw[lU _ _ _ _ c,B3 V,d];exact h.turns n _ _ _ _ (fun e he=>f e (AE _ _ D L C e he)) b
end
theorem rB {d:Type}(lk:d->b7->Bool×d):∀(n k:Nat)(t:d)(b:List b7),b.length<n->b.length<k->eB lk n t b=eB lk k t b
 |0,_,_,_,h,_=>absurd h V
 |_+1,0,_,_,_,h=>absurd h V
 |n+1,k+1,t,b,e,f=>by
  have hl:=oN lk t b;by_cases c:(pts lk t b).1.length=0
  ·rw[lS _ _ _ _ c,lS _ _ _ _ c]
  ·rw[lU _ _ _ _ c,lU _ _ _ _ c];exact rB lk n k _ _ V V
theorem lK {b d:Type}(f:b->d)(p:d->Bool)(q:b->Bool):∀l:List b,(∀x∈l,p (f x)=q x)->(l.map f).filter p=(l.filter q).map f
 |[],_=>rfl
 |x::l,h=>by
  have e:=lK f p q l (fun y hy=>h y (aN _ hy))
  have g:=h x Z;rw[List.map_cons];cases c:q x
  ·rw[List.filter_cons_of_neg (by rw[g,c];simp),List.filter_cons_of_neg (by rw[c];simp),e]
  ·rw[List.filter_cons_of_pos (by rw[g,c]),List.filter_cons_of_pos c,List.map_cons,e]
section
variable {c:Cp}{bx p:Nat}{vr:Value}{g:List Bool->List Bool}{A:List Bool}{q r:List b7}
abbrev nA (s:List Bool×List b7)(x:Int):Bool:=cL s.1 x
abbrev nB (g:List Bool->List Bool)(s:List Bool×List b7)(x:Int):Int×(List Bool×List b7):=(x,(fz g s.1 x,s.2))
abbrev uL (_:List Bool×List b7)(x:Int):Int:=x
def fP (g:List Bool->List Bool)(A:List Bool)(r:List b7):List Bool×List b7×List b7:=turns cL (fz g) (r.length+1) (r.filter (fun e=>!cL A e.2)) A []
theorem IQ (q:List b7):nz (cm (c7 (jm c bx) p vr) nA (nB g)) g id r (fun t L C=>t=(L,q++C)) where
 no:=by rintro t L C e rfl _ h;exact mV h
 yes:=by
  rintro t L C e rfl _ h;have b:=mW (o:=c7 (jm c bx) p vr) (is:=nA) (kp:=nB g) (s:=(L,q++C)) h;refine⟨by rw[id,b],?_⟩
  rw[id,b];show(fz g L e.2,(q++C)++[(e.1,e.2)])=_;rw[ba]
theorem rC:ft (c7 (jm c bx) p vr) nA (nB g) (A,q) r=((fP g A r).1,q++(fP g A r).2.1):=by have h:=((IQ (c:=c) (bx:=bx) (p:=p) (vr:=vr) (g:=g) q).turns (r.length+1) (r.filter (fun e=>!cL A e.2)) (A,q) A [] (fun e he=>(List.mem_filter.1 he).1) (by rw[List.append_nil])).1;rw[List.map_id] at h;refine Eq.trans ?_ h;show(eB _ ((r.filter (fun e=>!cL A e.2)).length+1) (A,q) (r.filter (fun e=>!cL A e.2))).1=_;have hl:=bq (fun e:b7=>!cL A e.2) r;rw[rB (cm (c7 (jm c bx) p vr) nA (nB g)) _ (r.length+1) _ _ (Nat.lt_succ_self _) V]
theorem IR:eO (c7 (jm c bx) p vr) nA (nB g) uL (A,q) r=r.filter (fun e=>cL A e.2&&cL (fP g A r).1 e.1):=by
 unfold eO;rw[rC,List.filter_filter,List.map_id'']
 ·congr 1
  funext e
  rw[Bool.and_comm]
 ·exact fun _=>rfl
theorem IS:eP (c7 (jm c bx) p vr) nA (nB g) uL (A,q) r=(q++(fP g A r).2.1).filter (fun e=>cL (fP g A r).1 e.1):=by unfold eP;rw[rC];rw[List.map_id'' (fun _=>rfl)];rfl
theorem IT (e:b7)(h:e∈(fP g A r).2.1):e∈r:=by have b:=vI (is:=cL) (kp:=fz g) e (r.length+1) (r.filter (fun e=>!cL A e.2)) A [];have c:=List.count_pos_iff.2 h;unfold fP at c;rw[List.count_nil] at b;have d:0<(r.filter (fun e=>!cL A e.2)).count e:=V;exact(List.mem_filter.1 (List.count_pos_iff.1 d)).1
end
section
variable {c:Cp}{own own':Nat->Nat}{vt cM:Value}{n1 n2 n1' d7:Nat}{hm hm':Int->Option Addr×Nat}{st:dx}{w w':ax}{is:List Bool}{g:List Bool->List Bool}
theorem IU (hg:hL c)(J:dR c.s.T c.s.wt g)(hv:fI c.s)(h:cU c own vt n1 n2 hm st w)(dp:f9 c.s.T c.s.wt st.A st)(K:st.td=[]):
 Calls prog 234 #[aj c.cp] w fun e w'=>∃own' cM n1' d7 hm' f p a1 k1 a2 i,e=.returned (aj p)/\cU c own' cM n1' d7 hm' f w'/\f.A=(fP g st.A c.s.rg).1/\f.td=[]/\f9 c.s.T c.s.wt f.A f/\et own w own' w'/\
  fu w' p a1 k1 a2 i (c.s.rg.filter (fun e=>cL st.A e.2&&cL (fP g st.A c.s.rg).1 e.1)) ((c.s.wt++(fP g st.A c.s.rg).2.1).filter (fun e=>cL (fP g st.A c.s.rg).1 e.1))/\
  (w.heap.size<=p/\own' p=0)/\(∀k,some k=(Value.slice a1 (c.s.rg.filter (fun e=>cL st.A e.2&&cL (fP g st.A c.s.rg).1 e.1)).length k1).ownBlock->w.heap.size<=k/\own' k=0/\some k≠(Value.slice a2 ((c.s.wt++(fP g st.A c.s.rg).2.1).filter (fun e=>cL (fP g st.A c.s.rg).1 e.1)).length i).ownBlock)/\
  (∀k,some k=(Value.slice a2 ((c.s.wt++(fP g st.A c.s.rg).2.1).filter (fun e=>cL (fP g st.A c.s.rg).1 e.1)).length i).ownBlock->w.heap.size<=k/\own' k=0):=by
 have b1:=au w (.cells #[.pointer (some ⟨c.cp,0,none⟩)] 249)
 obtain⟨c0,_,_,_,_,aV⟩:=h.cells;have gv:=h.gv hg.g;obtain⟨_,_,_,_,_,g5,_,_,a0⟩:=gv.cells;have P:=yS _ c.l.bp c.l.a0 c.l.a1 c.l.k0 c.l.k1 c.s.rg c.s.wt ((h.below b1).gv hg.g).g3.sd (aT hv.gl aa) (aT hv.wl aa)
 have L:own w.heap.size=0:=by
  cases e:own w.heap.size
  ·rfl
  ·exact absurd (h.lt w.heap.size (by rw[e];omega)).2 V
 have D:ay (∀w1 p u k0 b1 k1,Below w.heap.size w w1->w1.heap[w.heap.size]?=some (.cells #[aj c.cp] 249 (0,0))->w.heap.size+1<=p->fu w1 p u k0 b1 k1 c.s.rg c.s.wt->(∀z,u=some z->w.heap.size+1<=z.block)->(∀z,b1=some z->w.heap.size+1<=z.block)->(∀k,some k=(Value.slice u c.s.rg.length k0).ownBlock->some k≠(Value.slice b1 c.s.wt.length k1).ownBlock)->
  Calls prog 78 #[aj p,.agg #[.func (.func 247) #[aj c.cp] #[],.func (.func 248) #[] #[aj w.heap.size],.func (.func 249) #[] #[]]] w1 fun e w'=>∃own' cM n1' d7 hm' f a1 k1 a2 i,e=.returned (.tuple #[])/\cU c own' cM n1' d7 hm' f w'/\f.A=(fP g st.A c.s.rg).1/\f.td=[]/\f9 c.s.T c.s.wt f.A f/\et own w own' w'/\
   fu w' p a1 k1 a2 i (c.s.rg.filter (fun e=>cL st.A e.2&&cL (fP g st.A c.s.rg).1 e.1)) ((c.s.wt++(fP g st.A c.s.rg).2.1).filter (fun e=>cL (fP g st.A c.s.rg).1 e.1))/\
   (w.heap.size<=p/\own' p=0)/\(∀k,some k=(Value.slice a1 (c.s.rg.filter (fun e=>cL st.A e.2&&cL (fP g st.A c.s.rg).1 e.1)).length k1).ownBlock->w.heap.size<=k/\own' k=0/\some k≠(Value.slice a2 ((c.s.wt++(fP g st.A c.s.rg).2.1).filter (fun e=>cL (fP g st.A c.s.rg).1 e.1)).length i).ownBlock)/\
   (∀k,some k=(Value.slice a2 ((c.s.wt++(fP g st.A c.s.rg).2.1).filter (fun e=>cL (fP g st.A c.s.rg).1 e.1)).length i).ownBlock->w.heap.size<=k/\own' k=0)):=by
  intro w1 p s k0 n k1 hb o hp l bb M bd;have v:∀k,((k<c.w0.heap.size\/own k≠0)\/k=w.heap.size)->k<w.heap.size+1:=fun k hk=>by
   have hz:=h.sz;rcases hk with(d|d)|d
   ·omega
   ·have:=(h.lt k d).2;omega
   ·omega
  have nq:∀k,some k=(Value.slice n c.s.wt.length k1).ownBlock->w.heap.size+1<=k:=fun k e=>by
   cases n with
   |none=>cases e
   |some z=>cases e;exact M z rfl
  have N:(jm c w.heap.size).J (fun k=>(k<c.w0.heap.size\/own k≠0)\/k=w.heap.size) st.A w1:=⟨fun k=>k<c.w0.heap.size\/own k≠0,st,⟨own,vt,n1,n2,hm,h.below hb,fun _=>Iff.rfl⟩,rfl,K,dp,o,fun d=>by
   have hz:=h.sz;rcases d with d|d
   ·omega
   ·exact d L,fun _=>Iff.rfl⟩
  have O:(c7 (jm c w.heap.size) p (.slice s c.s.rg.length k0)).J (fun k=>((k<c.w0.heap.size\/own k≠0)\/k=w.heap.size)\/k=p\/some k=(Value.slice n c.s.wt.length k1).ownBlock) (st.A,c.s.wt) w1:=⟨_,n,k1,N,l.blk,l.q0,fun k d=>aK d,aJ (aK rfl),fun d=>by have:=v p d;omega,fun k e=>⟨aJ (aJ e),fun d=>by have m:=v k d;have Q:=nq k e;omega⟩,fun k d=>by
   have hz:=hb.size;have be:=lt_of_some o;rcases d with d|d|d
   ·have:=v k d;omega
   ·rw[d];exact lt_of_some l.blk
   ·exact(cn l.q0 k d).2⟩
  have E:∀e∈c.s.rg,mA c e.1/\mA c e.2:=fun e he=>⟨(hv.gv e he).1,(hv.gv e he).2⟩
  have P:=qa (c7 (jm c w.heap.size) p (.slice s c.s.rg.length k0)) (mA c) ⟨247,#[aj c.cp],#[]⟩ ⟨248,#[],#[aj w.heap.size]⟩ ⟨249,#[],#[]⟩ nA (nB g) uL
   (qb (jm c w.heap.size) p _ (mA c) _ _ _ cL (fun A x=>(x,fz g A x)) (fun _ x=>x) II IJ IK (IL hg) (IP hg J) IM) c.s.rg s k0 rfl (aT hv.gl aa) E _ (st.A,c.s.wt) w1 (by
     rw[rC];intro e he;rcases List.mem_append.1 he with he|he
     ·exact⟨hv.wg e he,hg.iv.wv e he⟩
     ·exact E e (IT e he)) (by have m:=hv.gl;have Q:=hv.wl;show c.s.wt.length+_<=_;omega) O (g8 l.r0)
  rw[IR,IS,rC] at P;refine P.mono ?_;rintro e w' ⟨a1,R,a2,S,F,bg,rfl,⟨U,bi,bl,⟨bn,f,⟨own',cM,n1',d7,hm',W,X⟩,G,Y,ab,bo,bp,ad⟩,_,_,ag,_,np,_,_⟩,same,ai,al,H,I,fr,am,an,ao,ap⟩
  have t:∀b,b<c.w0.heap.size\/own' b≠0->F b/\b≠p:=fun b j=>by
   have m:U b:=(ad b).2 (aK ((X b).2 j))
   exact⟨ag b m,fun e=>np (by rw[<-e];exact m)⟩
  have B:cU c own' cM n1' d7 hm' f w':=W.keep ai (fun b j=>same b (t b j).1 (t b j).2)
  have z0:∀b,¬F b->own' b=0:=fun b j=>by
   cases e:own' b
   ·rfl
   ·exact absurd (t b (aJ (by rw[e];omega))).1 j
  have ar:own' p=0:=by
   cases e:own' p
   ·rfl
   ·exact absurd rfl (t p (aJ (by rw[e];omega))).2
  have aB:=hb.size;have tk:et own w own' w':=by
   refine⟨⟨fr.os.trans hb.os,fr.tape.trans hb.tape,fr.output.trans hb.output,aT aB fr.size,fun k hk hn=>?_⟩,fun b j=>?_⟩
   ·by_cases C:k<c.w0.heap.size
    ·exact(B.ol k C).trans (h.ol k C).symm
    ·refine(fr.block k V (fun d=>?_)).trans (hb.block k hk)
     rcases d with((d|d)|d)|d|d
     ·exact C d
     ·exact hn d
     ·omega
     ·omega
     ·have:=nq k d;omega
   ·rcases am b (t b (aJ j)).1 with d|d
    ·rcases d with((d|d)|d)|d|d
     ·have:=(B.lt b j).1;omega
     ·exact aK d
     ·exact aJ V
     ·exact aJ V
     ·have:=nq b d;exact aJ V
    ·exact aJ V
  refine⟨own',cM,n1',d7,hm',f,a1,R,a2,S,rfl,B,G,Y,by rw[G];exact ab,tk,⟨al,eV H (fun _ _=>aX _),eV I (fun _ _=>aX _)⟩,⟨V,ar⟩,fun k e=>⟨?_,z0 k (an k e),ap k e⟩,fun k e=>⟨?_,z0 k (ao k e)⟩⟩
  ·have:=(cn H k e).1;omega
  ·have:=(cn I k e).1;omega
 generalize (c.s.rg.filter (fun e=>cL st.A e.2&&cL (fP g st.A c.s.rg).1 e.1))=br at*;generalize ((c.s.wt++(fP g st.A c.s.rg).2.1).filter (fun e=>cL (fP g st.A c.s.rg).1 e.1))=bs at*;go_enter func234,ntmps234;go_wp2_with fail;refine P.mono ?_;rintro e w1 ⟨p,s,k0,n,k1,rfl,hp,l,h0,m,hn,hb⟩
 have o:=(hb.block w.heap.size Z).trans (aO w (.cells #[.pointer (some ⟨c.cp,0,none⟩)] 249))
 have hz:(w.alloc (.cells #[.pointer (some ⟨c.cp,0,none⟩)] 249)).heap.size=w.heap.size+1:=Z;rw[hz] at hp h0 m;have bt:w1.cell? (aq w.heap.size 0)=some (aj c.cp):=aA o
 have P:=D.o w1 p s k0 n k1 (b1.trans (hb.mono b1.size)) o hp l h0 m hn;clear hb l h0 m hn o b1 D;go_wp2_with fail;refine P.mono ?_;rintro e bx ⟨own',cM,n1',d7,hm',f,a1,aF,a2,i,rfl,q⟩
 have aR:ay (_):=q;go_wp2_with fail;go_ret;exact⟨own',cM,n1',d7,hm',f,p,a1,aF,a2,i,rfl,aR.o⟩
end
section
variable {T:List cD}{A:List Bool}{fm:Fm}
theorem AF (i:Nat):(f8 A T T.length).getD i t0=if i<T.length then fA A i (T.getD i t0) else t0:=by
 by_cases hi:i<T.length
 ·rw[q7 A T T.length i bW hi,aI hi,aI hi]
 ·rw[aG hi,aE,List.getElem?_eq_none (by rw[jD];omega)];rfl
theorem pM (c:gE T A)(i:Nat):cv (f8 A T T.length) i↔ct A i:=by
 unfold cv;rw[jD,AF];constructor
 ·rintro⟨d,b⟩
  rw[aI d] at b;unfold fA at b;split at b
  ·assumption
  ·cases b
 ·intro h;have hi:=c.al i h;refine⟨hi.1,?_⟩
  rw[aI hi.1];unfold fA;rw[aI (show A.getD i false=true from h)];exact hi.2
theorem rD (b:gE T A){i:Nat}(h:ct A i):(f8 A T T.length).getD i t0=((T.getD i t0).1,iQ A (T.getD i t0),true,(T.getD i t0).2.2.2):=by rw[AF,aI (b.al i h).1];unfold fA;rw[aI (show A.getD i false=true from h)];rfl
theorem uM (hB:pK T A){i:Nat}(h:ct A i):(iQ A (T.getD i t0)).length=(T.getD i t0).2.1.length:=by
 unfold iQ;split
 ·rename_i e;rw[hB.l2 i h (aJ e.1)];rfl
 ·split
  ·rename_i e;rw[hB.l2 i h (aK e.1)];rfl
  ·rfl
theorem IV (b:gE T A)(hB:pK T A):hJ (f8 A T T.length) fm=eT T fm A:=by
 funext x
 by_cases h:0<=x/\ct A x.toNat
 ·rw[ja ⟨h.1,(pM b _).2 h.2⟩];unfold eT;rw[aI (show 0<=x/\A.getD x.toNat false=true from h)];dsimp only [fX,eD];rw[rD b h.2];rw[uM hB h.2]
 ·rw[lJ (fun c=>h ⟨c.1,(pM b _).1 c.2⟩)];unfold eT;rw[aG (show¬(0<=x/\A.getD x.toNat false=true) from h)]
end
section
variable {bY:Nat}{b_ bZ:Int}{l:gG}{s:ck}{w w':ax}{A:List Bool}{ab p n1:Nat}{a1 a2:Option Addr}{k1 k2:Nat}{r q:List b7}
theorem dS.cut (h:dS bY b_ bZ l s w)(d:gE s.T A)(hB:pK s.T A)(hz:w.heap.size<=w'.heap.size)(hk:∀b,l.own b=4->w'.heap[b]?=w.heap[b]?)
 (hb:w'.heap[bY]?=some (.cells #[ah b_,ah bZ,.map (some ab),ah s.T.length,ah s.T.length,aj p,.slice (ak l.rb) 12 12] 187 (0,0)))
 (hM:es w' ab n1 (eT s.T l.fm A))(hn:n1<=s.T.length)(hr:∀i,ct A i->w'.ownsRow 0 97 2 (eD s.T l.fm i) (s.T.getD i t0).2.1.length (ev (iQ A (s.T.getD i t0))))(f:fu w' p a1 k1 a2 k2 r q)
 (n0:w.heap.size<=ab/\w.heap.size<=p)(D:∀k,some k=(Value.slice a1 r.length k1).ownBlock->w.heap.size<=k)(nq:∀k,some k=(Value.slice a2 q.length k2).ownBlock->w.heap.size<=k)(E:∀k,some k=(Value.slice a1 r.length k1).ownBlock->some k≠(Value.slice a2 q.length k2).ownBlock):
 ∃t,dS bY b_ bZ t {T:=f8 A s.T s.T.length,rs:=s.rs,rg:=r,wt:=q} w'/\∀b,t.own b≠0->l.own b≠0\/w.heap.size<=b:=by
 have F:p≠ab:=fun e=>by obtain⟨G,k,hm⟩:=hM.blk;have g:=f.blk;rw[e,hm] at g;cases g
 have u:∀b n (v:Value)(x:List Value),w'.ownsRow b 103 2 v n x->∀k,some k=v.ownBlock->k≠ab/\k≠p:=fun b n v x B k e=>by
  obtain⟨H,hc⟩:=e6 B k e;refine⟨fun j=>?_,f.np B k e⟩
  obtain⟨G,I,hm⟩:=hM.blk;rw[j,hm] at hc;cases hc
 have he:∀b,l.own b≠0->(if w.heap.size<=b then(if b=ab then 2 else if b=p then 3 else if some b=(Value.slice a1 r.length k1).ownBlock then 5 else if some b=(Value.slice a2 q.length k2).ownBlock then 6 else 0) else l.own b)=l.own b:=fun b hb=>aG (by have:=h.lt b hb;omega)
 refine⟨{own:=fun b=>if w.heap.size<=b then(if b=ab then 2 else if b=p then 3 else if some b=(Value.slice a1 r.length k1).ownBlock then 5 else if some b=(Value.slice a2 q.length k2).ownBlock then 6 else 0) else l.own b,mb:=ab,bp:=p,rb:=l.rb,fm:=l.fm,fe:=s.T.length,n:=n1,a0:=a1,k0:=k1,a1:=a2,k1:=k2},?_,fun b c=>?_⟩
 ·refine {blk:=?_,bo:=(he bY (by rw[h.bo];decide)).trans h.bo,g2:=?_,g3:=?_,g4:=?_,lt:=fun b c=>?_}
  ·rw[hb,jD]
  ·refine {mp:=?_,mn:=by rw[jD];exact hn,dp:=?_,fl:=fun i hi=>?_,eS:=fun i hi k e=>?_,fe:=fun i hi=>?_,al:=by rw[jD];exact aD _}
   ·dsimp only;rw[IV d hB];exact hM
   ·show(if _ then _ else _)=_;rw[aI n0.1,aI rfl]
   ·have hi:=(pM d i).1 hi;have g:=hr i hi;dsimp only [eD] at g⊢;rw[rD d hi];dsimp only;rw[uM hB hi];exact g
   ·have hi:=(pM d i).1 hi;dsimp only [eD] at e;rw[rD d hi] at e;rw[uM hB hi] at e;have C:=h.g2.eS i (d.al i hi) k e;exact(he k (by rw[C];omega)).trans C
   ·have hi:=(pM d i).1 hi;rw[rD d hi];have:=(d.al i hi).1;simp[this]
  ·refine {sd:=f,so:=?_,ro:=fun k e=>?_,mr:=fun k e=>?_}
   ·show(if _ then _ else _)=_;rw[aI n0.2,aG F,aI rfl]
   ·obtain⟨m,o⟩:=u _ _ _ _ f.r0 k e;show(if _ then _ else _)=_;rw[aI (D k e),aG m,aG o,aI e]
   ·obtain⟨m,o⟩:=u _ _ _ _ f.q0 k e;show(if _ then _ else _)=_;rw[aI (nq k e),aG m,aG o,aG (fun j=>E k j e),aI e]
  ·exact {rt:=(hk _ h.g4.ro).trans h.g4.rt,rl:=h.g4.rl,ro:=(he _ (by rw[h.g4.ro];decide)).trans h.g4.ro}
  ·dsimp only at c;split at c
   ·split at c
    ·rename_i e;rw[e];exact hM.lt
    ·split at c
     ·rename_i e;rw[e];exact lt_of_some f.blk
     ·split at c
      ·rename_i e;exact(cn f.r0 b e).2
      ·split at c
       ·rename_i e;exact(cn f.q0 b e).2
       ·exact absurd rfl c
   ·exact aM (h.lt b c) hz
 ·dsimp only at c;split at c
  ·exact aJ ‹_›
  ·exact aK c
end
section
variable {bY:Nat}{b_ bZ:Int}{l:gG}{F:Nat->Prop}{s:ck}{w:ax}{g:List Bool->List Bool}
abbrev lL (w:ax)(bY:Nat)(b_ bZ:Int)(l:gG)(s:ck):Cp:=⟨w,bY,b_,bZ,l,s,w.heap.size+1+1,w.heap.size,w.heap.size+1⟩
abbrev IW (s:ck):dx:=⟨List.replicate s.T.length false,[],fun _=>[],0⟩
def mB (w:ax)(b:Nat):Nat:=if b=w.heap.size then 2 else if b=w.heap.size+1 then 4 else if b=w.heap.size+1+1 then 1 else 0
theorem rE:∀n,cnt (List.replicate n false)=n
 |0=>rfl
 |n+1=>by
  have:=rE n;unfold cnt at this⊢
  rw[List.replicate_succ];simp at this⊢
theorem cU.start (w:ax)(bY:Nat)(b_ bZ:Int)(l:gG)(s:ck):
 cU (lL w bY b_ bZ l s) (mB w) (.slice none 0 0) 0 0 (fun _=>(none,0)) (IW s) (((w.alloc (.map #[] 0)).alloc (.map #[] 0)).alloc (.cells #[.pointer (some ⟨bY,0,none⟩),.map (some w.heap.size),.slice none 0 0,.map (some (w.heap.size+1))] 252)):=by
 have d:Below w.heap.size w (((w.alloc (.map #[] 0)).alloc (.map #[] 0)).alloc (.cells #[.pointer (some ⟨bY,0,none⟩),.map (some w.heap.size),.slice none 0 0,.map (some (w.heap.size+1))] 252)):=((bX.alloc bW _).alloc Z _).alloc (by simp;omega) _;have m1:=(es.made w)
 have f:=(es.made (w.alloc (.map #[] 0)))
 have hz:(w.alloc (.map #[] 0)).heap.size=w.heap.size+1:=Z;rw[hz] at f;have ea:(fun _=>none)=eT s.T l.fm (List.replicate s.T.length false):=by
  funext x
  unfold eT;rw[aG];rintro⟨_,h⟩
  rw[aE,List.getElem?_replicate] at h;split at h<;>cases h
 have g:(fun _=>none)=hdF (fun _=>[]) (fun _=>(none,0)):=rfl;refine {ol:=fun k hk=>d.block k hk,sz:=d.size,cb:=ux w _ _ _,co:=?_,am:=?_,ao:=?_,an:=?_,tr:=⟨rfl,aK ⟨rfl,rfl⟩⟩,tw:=fun k e=>(by cases e),tn:=?_,hq:=?_,ho:=?_,hn:=aD _,hr:=fun x c=>absurd rfl c,hro:=fun x c=>absurd rfl c,lt:=fun b hb=>?_}
 ·show mB w (w.heap.size+1+1)=1;unfold mB;rw[aG V,aG V,aI rfl]
 ·show es _ w.heap.size 0 (eT s.T l.fm (List.replicate s.T.length false))
  rw[<-ea];exact m1.same ((aS _ _ _ (by simp;omega)).trans (aS _ _ _ Z))
 ·show mB w w.heap.size=2;unfold mB;rw[aI rfl]
 ·show 0+cnt (List.replicate s.T.length false)<=s.T.length;rw[rE];omega
 ·show 0+cnt (List.replicate s.T.length false)<=s.T.length;rw[rE];omega
 ·show es _ (w.heap.size+1) 0 (hdF (fun _=>[]) (fun _=>(none,0)))
  rw[<-g];exact f.same (aS _ _ _ Z)
 ·show mB w (w.heap.size+1)=4;unfold mB;rw[aG V,aI rfl]
 ·unfold mB at hb;show w.heap.size<=b/\_;simp;split at hb
  ·omega
  ·split at hb
   ·omega
   ·split at hb
    ·omega
    ·exact absurd rfl hb
theorem IX (h:dS bY b_ bZ l s w)(hv:fI s):hL (lL w bY b_ bZ l s):=⟨h,hv.tl,hv.iv,aT hv.wl aa⟩
theorem IY (hv:fI s){A:List Bool}(d:gE s.T A):pK s.T A:=⟨fun i hi hk=>hv.iv.fl i (d.al i hi) hk,fun i hi c=>by
 have hl:0<(s.T.getD i t0).2.1.length:=by
  cases hq:(s.T.getD i t0).2.1 with
  |nil=>rw[hq] at c;cases c
  |cons _ _=>simp
 obtain⟨a,b⟩:=hv.iv.fv i (d.al i hi) _ (getD_in hl) c;have:=b.1;have:=hv.tl;exact⟨a,V⟩⟩
def rF (s:ck)(mj:Bool)(b:Int->Bool):Prop:=∀i:Nat,cv s.T i->(b i=true↔(s.T.getD i t0).2.2.1=true/\mj=false)
theorem IZ (hv:fI s){mj:Bool}{d:Int->Bool}(hs:rF s mj d):AA (lL w bY b_ bZ l s) d (jY s.T s.rs mj) where
 st:=fun i hi h=>(kw _ _ _ _).2 ⟨hi.1,aK ⟨((hs i hi).1 h).1,hi.2,((hs i hi).1 h).2⟩⟩
 rt:=fun v e f=>(kw _ _ _ _).2 ⟨(hv.rv v e f).2.1,aJ ⟨v,e,f,rfl⟩⟩
 up:=fun i hi=>by
  obtain⟨g,j⟩:=(kw _ _ _ _).1 hi;rcases j with⟨a,b,c⟩|c
  ·exact aK ⟨⟨g,b⟩,(hs i ⟨g,b⟩).2 ⟨a,c⟩⟩
  ·exact aJ c
 rv:=hv.rv
def cnf (g:List Bool->List Bool)(s:ck)(bZ:Int)(mj:Bool):Bool:=decide (bZ<iF s.T (s.cR g mj).1 s.T.length)
def ck.iR (g:List Bool->List Bool)(s:ck)(mj:Bool):ck:=
 {T:=f8 (s.cR g mj).1 s.T s.T.length,rs:=s.rs,rg:=s.rg.filter (fun e=>cL (s.c0 g mj) e.2&&cL (s.cR g mj).1 e.1),wt:=(s.wt++(s.cR g mj).2.1).filter (fun e=>cL (s.cR g mj).1 e.1)}
theorem I0 {w:ax}{bY ab p mk:Nat}{b_ bZ:Int}{m b r:Value}{n a:Nat}(h:w.heap[bY]?=some (.cells #[ah b_,ah bZ,m,ah n,ah a,b,r] 187 (0,0))):
 (((w.setCell ⟨bY,2,none⟩ (.map (some ab))).setCell ⟨bY,5,none⟩ (.pointer (some ⟨p,0,none⟩))).setCell ⟨bY,4,none⟩ (.int .i64 mk)).heap[bY]?=some (.cells #[ah b_,ah bZ,.map (some ab),ah n,ah mk,aj p,r] 187 (0,0)):=by
 simp only [World.setCell,Array.getElem?_modify,if_true,h,Option.map_some];rfl
theorem oy {w:ax}{bY b o c:Nat}{v x:Value}(hn:bY≠b)(h:w.cell? (aq b c)=some x):(w.setCell ⟨bY,o,none⟩ v).drew.cell? (aq b c)=some x:=by rw[World.cell?_drew,World.cell?_setCell_far _ _ _ _ hn];exact h
theorem uN {w:ax}{bY:Nat}{v x:Value}(h:w.cell? (aq bY 3)=some x):(w.setCell ⟨bY,2,none⟩ v).drew.cell? (aq bY 3)=some x:=by exact uI
theorem AG {w:ax}{bY:Nat}{v x:Value}(h:w.cell? (aq bY 3)=some x):(w.setCell ⟨bY,5,none⟩ v).drew.cell? (aq bY 3)=some x:=by exact uI
theorem I1 {w:ax}{bY:Nat}{v x:Value}(h:w.cell? (aq bY 3)=some x):(w.setCell ⟨bY,4,none⟩ v).drew.cell? (aq bY 3)=some x:=by exact uI
theorem AH (h:dS bY b_ bZ l s w)(bp:∀b,F b↔l.own b≠0)(hv:fI s)(a0:dR s.T s.wt g)(mj:Bool){f:Nat}{b M:Array Value}{br:Int->Bool}(hs:rA (lL w bY b_ bZ l s) f b M br)(hy:rF s mj br):
 Calls prog 202 #[aj bY,.func (.func f) b M] w fun e w'=>∃B,e=.returned (ah (if cnf g s bZ mj=true then 3 else 0))/\(cx bY b_ bZ l.rb).J B (if cnf g s bZ mj=true then s else s.iR g mj) w'/\b8 F w B w':=by
 have cB:=@run_makeMap prog;have hg:=IX h hv;have bs:=cU.start w bY b_ bZ l s;have P:=IH hg bs ⟨eR.start s.T s.wt (jY s.T s.rs mj),fun _=>aD _,by show 0+(0+cnt (List.replicate s.T.length false))<=s.T.length;rw[rE];omega⟩ hs (IZ hv hy)
 have ai:=hv.first mj;have bt:ay (∀al am an ao ap n (w1:ax),cU (lL w bY b_ bZ l s) al am an ao ap n w1->f9 s.T s.wt (jY s.T s.rs mj) n->n.td=[]->(∀k,ct (jY s.T s.rs mj) k->ct n.A k)->
  Calls prog 234 #[aj (w.heap.size+1+1)] w1 fun e w'=>∃I cM bb bd be N p a1 k1 a2 C,e=.returned (aj p)/\ay (cU (lL w bY b_ bZ l s) I cM bb bd be N w'/\N.A=(s.cR g mj).1/\gE s.T N.A/\fu w' p a1 k1 a2 C (s.iR g mj).rg (s.iR g mj).wt/\w.heap.size<=p/\I p=0/\
   (∀k,some k=(Value.slice a1 (s.iR g mj).rg.length k1).ownBlock->w.heap.size<=k/\I k=0/\some k≠(Value.slice a2 (s.iR g mj).wt.length C).ownBlock)/\(∀k,some k=(Value.slice a2 (s.iR g mj).wt.length C).ownBlock->w.heap.size<=k/\I k=0)/\(w'.os=w1.os/\w'.tape=w1.tape/\w'.output=w1.output))):=fun al am an ao ap n w1 c1 D O ar=>by
  have bx:n.A=s.c0 g mj:=(D.mi.done O ai.len ar).uniq (a0 _ ai.len ai.al)
  refine(IU hg a0 hv c1 ⟨D.mi.base (fun _ h=>h),D.hl,D.mm⟩ O).mono ?_;rintro e w' ⟨I,cM,bb,bd,be,N,p,a1,k1,a2,C,rfl,c2,Q,b0,b1,tk,J,⟨hp,b2⟩,hr,hq⟩
  have b0:fP g n.A s.rg=s.cR g mj:=by rw[bx];rfl
  have z:=c1.sz;dsimp only at z Q J hr hq;rw[b0] at Q J hr hq;rw[bx] at J hr;exact⟨I,cM,bb,bd,be,N,p,a1,k1,a2,C,rfl,c2,Q,⟨b1.mi.len,b1.mi.al⟩,J,V,b2,fun k e=>⟨by have:=(hr k e).1;omega,(hr k e).2⟩,fun k e=>⟨by have:=(hq k e).1;omega,(hq k e).2⟩,tk.fr.os,tk.fr.tape,tk.fr.output⟩
 have cC:=h.cells.2.2.2.2.2.2.2.2;have R:ay (∀b,F b↔l.own b≠0):=bp;have j:ay (dS bY b_ bZ l s w/\fI s/\hL (lL w bY b_ bZ l s)):=⟨h,hv,hg⟩
 generalize b3:(if cnf g s bZ mj=true then(3:Int) else 0)=cd;generalize b4:(if cnf g s bZ mj=true then s else s.iR g mj)=sd;have q:ay ((if cnf g s bZ mj=true then(3:Int) else 0)=cd/\(if cnf g s bZ mj=true then s else s.iR g mj)=sd):=⟨b3,b4⟩
 clear h bp hv a0 hs hy hg bs ai b3 b4;go_enter func202,ntmps202;go_wp2_with fail;refine P.mono ?_;clear P;rintro e w1 ⟨al,am,an,ao,ap,n,rfl,c1,aB,D,O,ar⟩
 have P:=bt.o al am an ao ap n w1 c1 D O ar;have t:ay (w1.os=w.os/\w1.tape=w.tape/\w1.output=w.output):=⟨aB.fr.os,aB.fr.tape,aB.fr.output⟩
 clear c1 aB D O ar bt;go_wp2_with fail;refine P.mono ?_;clear P;rintro e E ⟨cD,cE,cl,cF,cG,b5,p,a1,k1,a2,C,rfl,m⟩
 have b6:iF s.T b5.A s.T.length=iF s.T (s.cR g mj).1 s.T.length:=by rw[m.o.2.1]
 have P:=IE j.o.2.2 (m.o.1.below (aH _ E).drew) m.o.2.2.1.len;have b7:=m.o.1.gv j.o.2.2.g;obtain⟨_,S,_,_,_,_,_,_,bg⟩:=b7.cells;dsimp only at S P bg;rw[b6] at P;have cI:=z_ s.T (s.cR g mj).1 j.o.2.1.iv.tl s.T.length;have cJ:=j.o.2.1.tl;have aF:ay (cnf g s bZ mj=decide (bZ<iF s.T (s.cR g mj).1 s.T.length)):=rfl;generalize iF s.T (s.cR g mj).1 s.T.length=cm at*;clear b7 b6;by_cases b9:bZ<cm
 ·have U:cnf g s bZ mj=true:=by rw[aF.o,bh b9]
  have W:ay (cd=3/\sd=s):=by rw[U] at q;exact⟨q.o.1.symm,q.o.2.symm⟩
  have X:ay (∀c,Below E.heap.size E c->(cx bY b_ bZ l.rb).J F s c/\b8 F w F c):=fun c hb=>by have c3:=m.o.1.below hb;have o:=m.o.2.2.2.2.2.2.2.2;refine⟨⟨l,c3.gv j.o.2.2.g,rfl,R.o⟩,⟨⟨hb.os.trans (o.1.trans t.o.1),hb.tape.trans (o.2.1.trans t.o.2.1),hb.output.trans (o.2.2.trans t.o.2.2),c3.sz,fun k hk _=>c3.ol k hk⟩,fun _ h=>aK h⟩⟩
  clear aF U m t j R q;go_wp2_with fail
  go_region_held3 (fun w'=>w'.cell? (aq bY 1)=some (ah bZ)) (go_keep)
   (first|(go_at_call 235;refine P.mono ?_;clear P;rintro e c ⟨rfl,G⟩;have bi:=(G.cell (p:=aq bY 1) bg).trans S;have ca:ay (_):=X.o c (((aH _ E).drew).trans (G.mono bW));clear G X))
  all_goals
   clear S bi;go_wp2_with fail;go_ret;exact⟨F,by rw[W.o.1];rfl,by rw[W.o.2];exact ca.o.1,ca.o.2⟩
 ·have U:cnf g s bZ mj=false:=by rw[aF.o,bu b9]
  have W:ay (cd=0/\sd=s.iR g mj):=by rw[U] at q;exact⟨q.o.1.symm,q.o.2.symm⟩
  have X:ay (∀c,Below E.heap.size E c->Calls prog 236 #[aj (w.heap.size+1+1)] c fun e d=>e=.returned (.tuple #[])/\d.cell? (aq (w.heap.size+1+1) 1)=some (.map (some w.heap.size))/\
   d.heap[bY]?=some (.cells #[ah b_,ah bZ,.map (some l.mb),ah s.T.length,ah l.fe,aj l.bp,.slice (ak l.rb) 12 12] 187 (0,0))/\
   ay (∀u,Fr (fun k=>k=bY) d u->u.heap[bY]?=some (.cells #[ah b_,ah bZ,.map (some w.heap.size),ah s.T.length,ah s.T.length,aj p,.slice (ak l.rb) 12 12] 187 (0,0))->∃B,(cx bY b_ bZ l.rb).J B (s.iR g mj) u/\b8 F w B u)):=fun c hb=>by
   have c3:=m.o.1.below hb;obtain⟨cK,Q,Y,J,hp,b2,hr,hq,o⟩:=m.o;have hv:=j.o.2.1;have h:=j.o.1;have bl:=c3.gv j.o.2.2.g;have lw:∀b,l.own b≠0->b<w.heap.size:=h.lt;have z0:∀b,w.heap.size<=b->l.own b=0:=fun b v=>by
    cases e:l.own b
    ·rfl
    ·exact absurd (lw b (by rw[e];omega)) V
   have hB:=IY hv Y;refine(Ie (fm:=l.fm) (lab:=l.own) (cp:=w.heap.size+1+1) (ab:=w.heap.size) (n1:=cl) ⟨c3.cells.2.1,c3.am,fun i hi=>bl.g2.fl i (Y.al i hi),fun i hi k e=>h.g2.eS i (Y.al i hi) k e,z0 _ V,z0 _ bW⟩ hB (fun b v=>aM (lw b v) c3.sz) (fun i hi=>by have:=(Y.al i hi).1;omega)).mono ?_;rintro e d ⟨rfl,K,x⟩
   have co:d.heap[bY]?=c.heap[bY]?:=x.block bY (lt_of_some bl.blk) (fun M=>by have:=h.bo;omega)
   refine⟨rfl,K.c1,co.trans bl.blk,fun u A cb=>?_⟩
   have cc:∀b,w.heap.size<=b->b≠bY:=fun b v e=>by omega
   have k5:∀b,b<c.heap.size->b≠bY->¬10<=l.own b->u.heap[b]?=c.heap[b]?:=fun b v hn cq=>(A.block b (aM v x.size) hn).trans (x.block b v cq)
   have bn:∀b,w.heap.size<=b->b<c.heap.size->u.heap[b]?=c.heap[b]?:=fun b aR bo=>k5 b bo (cc b aR) (by rw[z0 b aR];omega)
   have aV:=J.below hb;have cr:fu u p a1 k1 a2 C (s.iR g mj).rg (s.iR g mj).wt:=aV.keep (bn p hp (lt_of_some aV.blk)) (fun k e=>bn k (hr k e).1 (cn aV.r0 k e).2) (fun k e=>bn k (hq k e).1 (cn aV.q0 k e).2)
   obtain⟨ce,g1,g2⟩:=h.cut Y hB (aT c3.sz (aT x.size A.size)) (fun b cs=>(k5 b (aM (lw b V) c3.sz) (fun e=>by have:=h.bo;rw[e] at cs;omega) V).trans (c3.ol b (lw b V))) cb
    (K.hM.same (A.block _ K.hM.lt (cc _ bW))) (by have:=c3.an;dsimp only at this;omega) (fun i hi=>cH (K.row i hi) (fun k e=>A.block k (cn (K.row i hi) k e).2 (fun M=>by have aR:=K.lb i hi k e;have bo:=h.bo;rw[M,bo] at aR;omega))) cr ⟨aD _,hp⟩ (fun k e=>(hr k e).1) (fun k e=>(hq k e).1) (fun k e=>(hr k e).2.2)
   have cu:({T:=f8 b5.A s.T s.T.length,rs:=s.rs,rg:=(s.iR g mj).rg,wt:=(s.iR g mj).wt}:ck)=s.iR g mj:=by rw[Q];rfl
   rw[cu] at g1;refine⟨fun b=>ce.own b≠0,⟨ce,g1,g1.H2 (by simp[World.cell?,cb]),fun _=>Iff.rfl⟩,⟨⟨A.os.trans (x.os.trans (hb.os.trans (o.1.trans t.o.1))),A.tape.trans (x.tape.trans (hb.tape.trans (o.2.1.trans t.o.2.1))),A.output.trans (x.output.trans (hb.output.trans (o.2.2.trans t.o.2.2))),aT c3.sz (aT x.size A.size),fun k hk hn=>?_⟩,fun b v=>(g2 b v).imp (R.o b).2 id⟩⟩
   have cv:l.own k=0:=by
    cases e:l.own k
    ·rfl
    ·exact absurd ((R.o k).2 (by rw[e];omega)) hn
   exact(k5 k (aM hk c3.sz) (fun e=>by have:=h.bo;rw[e] at cv;omega) V).trans (c3.ol k hk)
  clear aF U m t j R q;go_wp2_with fail
  go_region_held3 (fun w'=>w'.cell? (aq bY 1)=some (ah bZ)) (go_keep)
   (first|(go_at_call 235;refine P.mono ?_;clear P;rintro e c ⟨rfl,G⟩;have bi:=(G.cell (p:=aq bY 1) bg).trans S;have cf:=X.o c (((aH _ E).drew).trans (G.mono bW));clear G X))
  all_goals
   clear S bi;go_wp2_with fail;refine cf.mono ?_;clear cf;rintro e d ⟨rfl,ad,H,cg⟩
   have ch:ay (_=_):=H;have cw:d.cell? (aq bY 2)=some (.map (some l.mb)):=aA H
   have ag:d.cell? (aq bY 3)=some (ah s.T.length):=aA H
   have cy:d.cell? (aq bY 4)=some (ah l.fe):=aA H
   have cz:d.cell? (aq bY 5)=some (aj l.bp):=aA H
   have cA:∀o,d.frozen? (aq bY o)=false:=fun o=>by simp[World.frozen?,H]
   have L:bY≠w.heap.size+1+1:=V;clear H;go_wp2_with fail
   go_region_held3 (fun w'=>w'.cell? (aq (w.heap.size+1+1) 1)=some (.map (some w.heap.size))/\w'.cell? (aq bY 3)=some (ah s.T.length)) (first|exact⟨ad,ag⟩|exact⟨oy L ad,uN ag⟩|exact⟨oy L (oy L ad),AG (uN ag)⟩|exact⟨oy L (oy L (oy L ad)),I1 (AG (uN ag))⟩|(go_keep;done)) (fail)
   all_goals
    clear ‹_/\_›;obtain⟨B,dD,ci⟩:=cg.o _ (((((Fr.refl (fun k=>k=bY) d).set bY 2 _ rfl).set bY 5 _ rfl).set bY 4 _ rfl).drew) (I0 ch.o)
    have cj:ay (_):=And.intro dD ci;clear dD ci cg ch ad cw ag cy cz cA;go_wp2_with fail;go_ret;exact⟨B,by rw[W.o.1];rfl,by rw[W.o.2];exact cj.o.1,cj.o.2⟩
end
theorem I2 (x:Int)(w:ax):Calls prog 204 #[ah x] w fun e w'=>e=.returned (.bool false)/\Below w.heap.size w w':=by go_wp2;go_ret;exact⟨rfl,aH _ _⟩
section
variable {bY rb:Nat}{b_ bZ:Int}{l:gG}{F:Nat->Prop}{s:ck}{w:ax}{g:List Bool->List Bool}
theorem I3:rA (lL w bY b_ bZ l s) 204 #[] #[] (fun _=>false):=
 ⟨gb func204 ae rfl,fun x w' _=>I2 x w'⟩
theorem I4 (h:dS bY b_ bZ l s w):rA (lL w bY b_ bZ l s) 203 #[aj bY] #[] (fun x=>decide (x<l.fe)):=
 ⟨gb func203 ae rfl,fun x w' hk=>by
  have c:=h.cells;have e:=hk bY c.2.2.2.2.2.2.2.2;refine(Az (fe:=l.fe) ?_ x).mono ?_
  ·have:=c.2.2.2.2.1;simp only [World.cell?] at this⊢
   rw[e];exact this
  ·rintro e b ⟨rfl,rfl⟩
   exact⟨rfl,aH _ _⟩⟩
theorem I5:rF s true (fun _=>false):=fun _ _=>⟨fun h=>(by cases h),fun h=>(by cases h.2)⟩
theorem I6 (h:dS bY b_ bZ l s w):rF s false (fun x=>decide (x<l.fe)):=fun i hi=>by rw[h.g2.fe i hi];simp
theorem I7 {mj:Bool}(h:s.cF g bZ mj=true):s.gO g bZ mj=3/\s.cut g bZ mj=s:=by unfold ck.gO ck.cut;rw[aI h,aI h];exact⟨rfl,rfl⟩
theorem AI {mj:Bool}(h:mj=true\/¬(bZ-(ec s.T).2<(ec s.T).1)):s.gO g bZ mj=(if cnf g s bZ mj=true then 3 else 0)/\s.cut g bZ mj=(if cnf g s bZ mj=true then s else s.iR g mj):=by
 have e:s.cF g bZ mj=cnf g s bZ mj:=by
  unfold ck.cF cnf;rcases h with h|h
  ·rw[h];simp
  ·rw[bu h];simp
 unfold ck.gO ck.cut ck.iR;rw[e];exact⟨rfl,rfl⟩
theorem AJ (h:(cx bY b_ bZ rb).J F s w)(hv:fI s)(c:dR s.T s.wt g):
 Calls prog 135 #[aj bY] w fun e w'=>∃b,e=.returned (ah (s.gO g bZ true))/\(cx bY b_ bZ rb).J b (s.cut g bZ true) w'/\b8 F w b w':=by
 obtain⟨l,hg,d,f⟩:=h;have P:=AH hg f hv c true I3 I5;rw[d] at P;obtain⟨i,j⟩:=AI (aK rfl)
 rw[<-i,<-j] at P;clear hg d f hv c i j;go_enter func135,ntmps135;go_wp2_with fail;refine P.mono ?_;rintro e w1 ⟨b,rfl,k,ht⟩
 go_wp2;go_ret;exact⟨b,rfl,(dq k ht).o⟩
theorem AK (h:(cx bY b_ bZ rb).J F s w)(hv:fI s)(j:dR s.T s.wt g)(g0:-1000000<=bZ)(g1:bZ<=1000000):
 Calls prog 134 #[aj bY] w fun e w'=>∃F',e=.returned (ah (s.gO g bZ false))/\(cx bY b_ bZ rb).J F' (s.cut g bZ false) w'/\b8 F w F' w':=by
 obtain⟨l,hg,b,c⟩:=h;have P:=uH hg hv.iv.tl hv.tl;have bd:=x2 s.T hv.t12;have A:=hv.tl;obtain⟨_,_,_,_,_,_,_,_,B⟩:=hg.cells;have d:ay (∀w1,Below w.heap.size w w1->_=_):=fun w1 hb=>(hg.below hb).cells.2.1;have p:ay (¬(bZ-(ec s.T).2<(ec s.T).1)->∀w1,Below w.heap.size w w1->Calls prog 202 #[aj bY,.func (.func 203) #[aj bY] #[]] w1 fun e w'=>∃F',e=.returned (ah (s.gO g bZ false))/\(cx bY b_ bZ rb).J F' (s.cut g bZ false) w'/\b8 F w F' w'):=fun hn w1 hb=>by
  have f:=hg.below hb;have k:=AH f c hv j false (I4 f) (I6 f)
  rw[b] at k;refine k.mono ?_;obtain⟨q,t⟩:=AI (s:=s) (bZ:=bZ) (g:=g) (mj:=false) (aJ hn)
  rw[<-q,<-t];exact uJ
 have u:ay (bZ-(ec s.T).2<(ec s.T).1->s.gO g bZ false=3/\s.cut g bZ false=s):=fun hn=>I7 (by unfold ck.cF;rw[bh hn];rfl)
 have i:ay (∀w1,Below w.heap.size w w1->(cx bY b_ bZ rb).J F s w1):=fun w1 hb=>⟨l,hg.below hb,b,c⟩
 generalize s.gO g bZ false=cd at*;generalize s.cut g bZ false=sd at*;generalize (ec s.T).1=v at*;generalize (ec s.T).2=x at*;clear hg b c hv j;by_cases hn:bZ-x<v
 ·have m:ay (cd=3/\sd=s):=u.o hn;go_enter func134,ntmps134;go_wp2_with fail;refine P.mono ?_;rintro e w1 ⟨rfl,hb⟩
  have c1:=d.o w1 hb;have n:ay ((cx bY b_ bZ rb).J F s w1/\b8 F w F w1):=⟨i.o w1 hb,b8.of hb⟩
  go_wp2_with fail;go_ret;exact⟨F,by rw[m.o.1];rfl,by rw[m.o.2];exact n.o.1,n.o.2⟩
 ·have o:=hide (p.o hn)
  go_enter func134,ntmps134;go_wp2_with fail;refine P.mono ?_;rintro e w1 ⟨rfl,hb⟩
  have c1:=d.o w1 hb;have P:=o.o w1 hb;clear d hb o;go_wp2_with fail;refine P.mono ?_;rintro e C ⟨F',rfl,hj,ht⟩
  have i:=dq hj ht;go_wp2_with fail;go_ret;exact⟨F',rfl,i.o⟩
theorem I8 {g:gP}{m:Int}(h:(cx bY b_ bZ rb).J F s w)(hv:fI s)(b:dR s.T s.wt (g s.T s.wt))(g0:-1000000<=bZ)(g1:bZ<=1000000)(i:-1000000<=b_)(m1:b_<=1000000):
 Calls prog 238 #[aj bY,ah m] w fun e w'=>∃F',e=.returned (ah (s.room g b_ bZ m).1)/\(cx bY b_ bZ rb).J F' (s.room g b_ bZ m).2 w'/\b8 F w F' w':=by
 obtain⟨l,hg,c,d⟩:=h;have P:=uH hg hv.iv.tl hv.tl;have bd:=x2 s.T hv.t12;have j:=hv.tl;obtain⟨_,_,_,_,_,_,_,_,k⟩:=hg.cells;have HC:ay (∀w1,Below w.heap.size w w1->w1.cell? (aq bY 0)=some (ah b_)/\w1.cell? (aq bY 1)=some (ah bZ)):=fun w1 hb=>⟨(hg.below hb).cells.1,(hg.below hb).cells.2.1⟩
 have HJ:ay (∀w1,Below w.heap.size w w1->(cx bY b_ bZ rb).J F s w1):=fun w1 hb=>⟨l,hg.below hb,c,d⟩
 by_cases c1:m<=b_-(ec s.T).1
 ·have e:s.room g b_ bZ m=(0,s):=aI c1;rw[e];generalize (ec s.T).1=yn at*;generalize (ec s.T).2=od at*;go_enter func238,ntmps238;go_wp2_with fail;refine P.mono ?_;rintro e w1 ⟨rfl,hb⟩
  obtain⟨d0,d1⟩:=HC.o w1 hb;have f:ay ((cx bY b_ bZ rb).J F s w1/\b8 F w F w1):=⟨HJ.o w1 hb,b8.of hb⟩
  go_wp2_with fail;go_ret;exact⟨F,rfl,f.o⟩
 ·by_cases c2:bZ-(ec s.T).2<(ec s.T).1
  ·have e:s.room g b_ bZ m=(s.gO (g s.T s.wt) bZ true,s.cut (g s.T s.wt) bZ true):=by unfold ck.room;rw[aG c1,bh c2]
   rw[e];have HP:ay (∀w1,Below w.heap.size w w1->Calls prog 135 #[aj bY] w1 fun e w'=>∃F',e=.returned (ah (s.gO (g s.T s.wt) bZ true))/\(cx bY b_ bZ rb).J F' (s.cut (g s.T s.wt) bZ true) w'/\b8 F w F' w'):=fun w1 hb=>by refine(AJ (HJ.o w1 hb) hv b).mono ?_;exact uJ
   generalize s.gO (g s.T s.wt) bZ true=cd at*;generalize s.cut (g s.T s.wt) bZ true=sd at*;exact AB
  ·have e:s.room g b_ bZ m=(s.gO (g s.T s.wt) bZ false,s.cut (g s.T s.wt) bZ false):=by unfold ck.room;rw[aG c1,bu c2]
   rw[e];have HP:ay (∀w1,Below w.heap.size w w1->Calls prog 134 #[aj bY] w1 fun e w'=>∃F',e=.returned (ah (s.gO (g s.T s.wt) bZ false))/\(cx bY b_ bZ rb).J F' (s.cut (g s.T s.wt) bZ false) w'/\b8 F w F' w'):=fun w1 hb=>by refine(AK (HJ.o w1 hb) hv b g0 g1).mono ?_;exact uJ
   generalize s.gO (g s.T s.wt) bZ false=cd at*;generalize s.cut (g s.T s.wt) bZ false=sd at*;exact AB
end
theorem I9 (w:ax):(w.alloc (.cells #[] 97)).ownsRow w.heap.size 97 2 (.slice (ak w.heap.size) 0 0) 0 []:=
 ⟨rfl,aJ ⟨w.heap.size,0,#[],rfl,aD _,aO _ _,aD _,aX _,rfl,rfl⟩⟩
theorem rG:(prog.info? 97).map (fun i=>(i.zero,i.size,i.bytes))=some (some (.agg #[ah 0,ah 0]),2,16):=ae
theorem I_ (w:ax)(ad:Option Addr)(l:List (Int×Int))(cap:Nat)(h:iu w ad l cap)(hm:l.length<=100000):
 Calls prog 237 #[.slice ad l.length cap] w fun e w'=>∃a1 c1,e=.returned (.slice a1 l.length c1)/\w'.ownsRow w.heap.size 97 2 (.slice a1 l.length c1) l.length (ev l)/\Below w.heap.size w w':=by
 obtain⟨d,hi,f,g,i⟩:=info_parts rG;have o:∀(w:ax)(a:Option Addr)(n c:Nat),_=_:=fun w a n c=>Lib.run_eql_slice_nil w _ _ a n c 0 0 underlying57;have j:=hide h.lp;cases ad with
 |none=>
  have hl:=List.eq_nil_of_length_eq_zero (h.nil rfl).1;subst hl;go_enter func237,ntmps237;go_wp2;go_ret;exact⟨none,0,rfl,bc _ _ _ _,aH _ _⟩
 |some a=>
  clear h;go_enter func237,ntmps237;go_wp2_with (at_builtin;refine wpList_append_own _ rfl _ _ 57 rfl w.heap.size 97 d _ 2 16 underlying57 hi f g i rfl aa _ 0 [] rfl (I9 w) a l.length cap (ev l) rfl (kC l) ((j.o.below (bX.alloc bW _)).cells a rfl) (nP l) ?_ ?_ ?_ ?_;(unfold maxLen;omega);omega;(simp);intro v w1 b m _)
  rw[List.nil_append,Nat.zero_add] at b;obtain⟨a1,c1,rfl⟩:=eE b;go_wp2;go_ret;exact⟨a1,c1,rfl,b,(bX.alloc bW _).grown m Z (fun k e=>by cases e;exact aD _)⟩
section
variable {bY:Nat}{b_ bZ:Int}{l:gG}{F:Nat->Prop}{s:ck}{w w':ax}
theorem uO (T:List cD)(t:cD)(i:Nat):(T++[t]).getD i t0=if i=T.length then t else T.getD i t0:=by exact AC
theorem oz (T:List cD)(k:Int)(fl:List _)(i:Nat):cv (T++[(k,fl,false,false)]) i↔cv T i\/i=T.length:=by unfold cv;rw[uO,aZ,List.length_singleton];exact AD
theorem dS.new (h:dS bY b_ bZ l s w){kd:Int}{fl:List _}{a:Option Addr}{cp:Nat}(hs:w.heap.size<=w'.heap.size)(hk:∀b,l.own b≠0->l.own b≠1->l.own b≠2->w'.heap[b]?=w.heap[b]?)
 (hb:w'.heap[bY]?=some (.cells #[ah b_,ah bZ,.map (some l.mb),ah (s.T.length+1:Nat),ah l.fe,aj l.bp,.slice (ak l.rb) 12 12] 187 (0,0)))
 (hM:es w' l.mb (l.n+1) (jG (hJ s.T l.fm) s.T.length (.agg #[ah kd,.slice a fl.length cp])))(q:w'.ownsRow 0 97 2 (.slice a fl.length cp) fl.length (ev fl))
 (hn:∀k,some k=(Value.slice a fl.length cp).ownBlock->l.own k=0):
 ∃o,dS bY b_ bZ o (s.put kd fl) w'/\(∀b,o.own b≠0->l.own b≠0\/some b=(Value.slice a fl.length cp).ownBlock)/\o.rb=l.rb:=by
 have ho:∀b,l.own b≠0->(if some b=(Value.slice a fl.length cp).ownBlock then 10+s.T.length else l.own b)=l.own b:=fun b hb=>aG (fun e=>hb (hn b e))
 have ne:∀i,cv s.T i->i≠s.T.length:=fun i hi e=>by have:=hi.1;omega
 have g:∀i,i≠s.T.length->(s.T++[(kd,fl,false,false)]).getD i t0=s.T.getD i t0:=fun i e=>by rw[uO,aG e]
 have j:(s.T++[(kd,fl,false,false)]).getD s.T.length t0=(kd,fl,false,false):=by rw[uO,aI rfl]
 have t:jG (hJ s.T l.fm) s.T.length (.agg #[ah kd,.slice a fl.length cp])=hJ (s.T++[(kd,fl,false,false)]) (fun i=>if i=s.T.length then(a,cp) else l.fm i):=by
  funext x
  unfold jG;by_cases e:x=s.T.length
  ·rw[aI e,ja ⟨V,(oz _ _ _ _).2 (aJ V)⟩];have m:x.toNat=s.T.length:=V;dsimp only [fX,eD];rw[m,j,aI rfl]
  ·rw[aG e];by_cases f:0<=x/\cv s.T x.toNat
   ·have m:=ne _ f.2;rw[ja f,ja ⟨f.1,(oz _ _ _ _).2 (aK f.2)⟩];dsimp only [fX,eD];rw[g _ m,aG m]
   ·rw[lJ f,lJ (fun c=>by
     rcases(oz _ _ _ _).1 c.2 with d|d
     ·exact f ⟨c.1,d⟩
     ·exact e V)]
 refine⟨{l with own:=fun b=>if some b=(Value.slice a fl.length cp).ownBlock then 10+s.T.length else l.own b,fm:=fun i=>if i=s.T.length then(a,cp) else l.fm i,n:=l.n+1},?_,fun b hb=>?_,rfl⟩
 ·refine {blk:=?_,bo:=(ho _ (by rw[h.bo];decide)).trans h.bo,g2:=?_,g3:=?_,g4:=?_,lt:=fun b p=>?_}
  ·show _=some (Obj.cells #[_,_,_,ah ((s.T++[(kd,fl,false,false)]).length:Nat),_,_,_] _ _)
   rw[aZ,List.length_singleton];exact hb
  ·refine {mp:=?_,mn:=?_,dp:=(ho _ (by rw[h.g2.dp];decide)).trans h.g2.dp,fl:=fun i hi=>?_,eS:=fun i hi k e=>?_,fe:=fun i hi=>?_,al:=?_}
   ·show es w' l.mb (l.n+1) (hJ (s.T++[(kd,fl,false,false)]) _)
    rw[<-t];exact hM
   ·have:=h.g2.mn;show l.n+1<=(s.T++[(kd,fl,false,false)]).length;exact qZ
   ·rcases(oz _ _ _ _).1 hi with d|d
    ·dsimp only [eD,ck.put];rw[g i (ne i d),aG (ne i d)];exact cH (h.g2.fl i d) (fun k e=>hk k (by rw[h.g2.eS i d k e];omega) (by rw[h.g2.eS i d k e];omega) (by rw[h.g2.eS i d k e];omega))
    ·dsimp only [eD,ck.put];rw[d,j,aI rfl];exact q
   ·rcases(oz _ _ _ _).1 hi with d|d
    ·dsimp only [eD,ck.put] at e;rw[g i (ne i d),aG (ne i d)] at e;have:=h.g2.eS i d k e;exact(ho k (by rw[this];omega)).trans this
    ·dsimp only [eD,ck.put] at e;rw[d,j,aI rfl] at e;show(if _ then _ else _)=_;rw[aI e,d]
   ·rcases(oz _ _ _ _).1 hi with d|d
    ·dsimp only [ck.put];rw[g i (ne i d)];exact h.g2.fe i d
    ·have:=h.g2.al;dsimp only [ck.put];rw[d,j];simp;exact this
   ·have:=h.g2.al;show l.fe<=(s.T++[(kd,fl,false,false)]).length;exact qZ
  ·have z:=h.g3.keep (fun b hb=>hk b V V V)
   exact {sd:=z.sd,so:=(ho _ (by rw[z.so];decide)).trans z.so,ro:=fun k e=>(ho k (by rw[z.ro k e];decide)).trans (z.ro k e),mr:=fun k e=>(ho k (by rw[z.mr k e];decide)).trans (z.mr k e)}
  ·have z:=h.g4.keep (fun b hb=>hk b V V V)
   exact {rt:=z.rt,rl:=z.rl,ro:=(ho _ (by rw[z.ro];decide)).trans z.ro}
  ·dsimp only at p;split at p
   ·rename_i e;exact(cn q b e).2
   ·exact aM (h.lt b p) hs
 ·dsimp only at hb;split at hb
  ·exact aJ (by assumption)
  ·exact aK hb
end
section
variable {bY rb:Nat}{b_ bZ:Int}{F:Nat->Prop}{s:ck}{w:ax}{g:gP}
theorem Ja (g:gP)(b_ bZ:Int)(s:ck)(m:Int):(s.room g b_ bZ m).2.T.length=s.T.length:=by
 unfold ck.room;split
 ·rfl
 ·unfold ck.cut;split
  ·rfl
  ·exact jD _ _ _
theorem uP {kd:Int}{fl:List (Int×Int)}{ad:Option Addr}{cap:Nat}(h:(cx bY b_ bZ rb).J F s w)(hv:fI s)(aB:dR s.T s.wt (g s.T s.wt))(g0:-1000000<=bZ)(g1:bZ<=1000000)(bp:-1000000<=b_)(m1:b_<=1000000)(hl:fl.length<=12)(O:iu w ad fl cap):
 Calls prog 206 #[aj bY,ah kd,.slice ad fl.length cap] w fun e w'=>∃d,e=.returned (.tuple #[.agg #[ah (s.bZ g b_ bZ kd fl).1.1,ah (s.bZ g b_ bZ kd fl).1.2],ah (s.bZ g b_ bZ kd fl).2.1])/\(cx bY b_ bZ rb).J d (s.bZ g b_ bZ kd fl).2.2 w'/\b8 F w d w':=by
 have br:ay (∀b,F b->_):=fun b hb=>(cx bY b_ bZ rb).lt h b hb;have fT:=br.o;have bs:=Ja g b_ bZ s (1+(fl.length:Int))
 have bt:=hv.tl;have bx:ay (∀j:ax,Below w.heap.size w j->∀tb a1 c1,j.heap[w.heap.size]?=some (.cells #[ah 0,ah 0] 97 (0,0))->j.heap[tb]?=some (.cells #[ah kd,.slice a1 fl.length c1] 220 (0,0))->w.heap.size<=tb->j.ownsRow (w.heap.size+1) 97 2 (.slice a1 fl.length c1) fl.length (ev fl)->
  Calls prog 238 #[aj bY,ah (1+(fl.length:Int))] j fun e f=>e=.returned (ah (s.room g b_ bZ (1+(fl.length:Int))).1)/\f.heap[w.heap.size]?=some (.cells #[ah 0,ah 0] 97 (0,0))/\f.heap[tb]?=some (.cells #[ah kd,.slice a1 fl.length c1] 220 (0,0))/\f.ownsRow (w.heap.size+1) 97 2 (.slice a1 fl.length c1) fl.length (ev fl)/\
   ay (∃d,(cx bY b_ bZ rb).J d (s.room g b_ bZ (1+(fl.length:Int))).2 f/\b8 F w d f/\¬d w.heap.size/\¬d tb/\∀k,some k=(Value.slice a1 fl.length c1).ownBlock->¬d k)):=fun j hb tb a1 c1 H ag ht hr=>by
  refine(I8 ((cx bY b_ bZ rb).below h hb) hv aB g0 g1 bp m1).mono ?_;rintro e f ⟨d,rfl,I,tn⟩
  have ai:∀b,w.heap.size<=b->b<j.heap.size->¬d b:=fun b p C c=>by
   rcases tn.sub b c with q|q
   ·have:=fT b q;omega
   ·omega
  have kp:∀b,w.heap.size<=b->b<j.heap.size->_=_:=fun b p C=>tn.fr.block b C (fun q=>by have:=fT b q;omega)
  exact⟨rfl,(kp _ bW (lt_of_some H)).trans H,(kp _ ht (lt_of_some ag)).trans ag,cH hr (fun k e=>kp k (by have:=(cn hr k e).1;omega) (cn hr k e).2),d,I,(b8.of hb).trans tn,ai _ bW (lt_of_some H),ai _ ht (lt_of_some ag),fun k e=>ai k (by have:=(cn hr k e).1;omega) (cn hr k e).2⟩
 have Q:ay (∀(w1:ax)(a1:Option Addr)(c1:Nat),w1.ownsRow (w.alloc (.cells #[.int .i64 0,.int .i64 0] 97)).heap.size 97 2 (.slice a1 fl.length c1) fl.length (ev fl)->Below (w.alloc (.cells #[.int .i64 0,.int .i64 0] 97)).heap.size (w.alloc (.cells #[.int .i64 0,.int .i64 0] 97)) w1->
  ∀j,Below (w1.alloc (.cells #[.int .i64 kd,.slice a1 fl.length c1] 220)).heap.size (w1.alloc (.cells #[.int .i64 kd,.slice a1 fl.length c1] 220)) j->Calls prog 238 #[aj bY,ah (1+(fl.length:Int))] j fun e f=>e=.returned (ah (s.room g b_ bZ (1+(fl.length:Int))).1)/\f.heap[w.heap.size]?=some (.cells #[ah 0,ah 0] 97 (0,0))/\f.heap[w1.heap.size]?=some (.cells #[ah kd,.slice a1 fl.length c1] 220 (0,0))/\w.heap.size<w1.heap.size/\ay (f.ownsRow (w.heap.size+1) 97 2 (.slice a1 fl.length c1) fl.length (ev fl))/\
   ay (∃d,(cx bY b_ bZ rb).J d (s.room g b_ bZ (1+(fl.length:Int))).2 f/\b8 F w d f/\¬d w.heap.size/\¬d w1.heap.size/\∀k,some k=(Value.slice a1 fl.length c1).ownBlock->¬d k)):=fun w1 a1 c1 hr hb j u=>by
  have b0:=hb.size;have b1:=u.size;simp at b0 b1 hr;refine(bx.o j (((((aH _ w).alloc bW _).trans (hb.mono Z)).alloc V _).trans (u.mono (by simp;omega))) w1.heap.size a1 c1 ((u.block _ (by simp;omega)).trans ((aS _ _ _ V).trans ((hb.block _ Z).trans (aO w _)))) ((u.block _ Z).trans (aO w1 _)) V (cH hr (fun k e=>(u.block k (by have:=(cn hr k e).2;simp;omega)).trans (aS _ _ _ (cn hr k e).2)))).mono ?_;rintro e f ⟨rfl,A,B,b2,b3⟩
  exact⟨rfl,A,B,V,b2,b3⟩
 have P:=I_ (w.alloc (.cells #[.int .i64 0,.int .i64 0] 97)) ad fl cap ⟨O.lp.below (bX.alloc bW _),O.le,O.nil⟩ V;have aF:∀(k:Int)(a:Option Addr)(n c:Nat),n<=12->∀w:ax,_:=fun k a n c hn w=>uG k a n c V w;have aR:=hide aF;have al:ay (s.bZ g b_ bZ kd fl=if(s.room g b_ bZ (1+(fl.length:Int))).1=0 then((3,((s.room g b_ bZ (1+(fl.length:Int))).2.T.length:Int)),0,(s.room g b_ bZ (1+(fl.length:Int))).2.put kd fl) else((0,0),(s.room g b_ bZ (1+(fl.length:Int))).1,(s.room g b_ bZ (1+(fl.length:Int))).2)):=rfl;generalize s.bZ g b_ bZ kd fl=R at*;generalize (s.room g b_ bZ (1+(fl.length:Int))).1=rc at*;generalize (s.room g b_ bZ (1+(fl.length:Int))).2=s2 at*;have cv:(1+(fl.length:Int))<=13:=V;have cw:s2.T.length<=10000:=V;clear aF h hv aB O fT bs bt;by_cases aV:rc=0
 ·subst aV;have J:ay (R=((3,(s2.T.length:Int)),0,s2.put kd fl)):=al.o.trans (aI rfl)
  clear al;go_enter func206,ntmps206;go_wp2_with fail;refine P.mono ?_;clear P;rintro e w1 ⟨a1,c1,rfl,K,L⟩
  have M:ay (_):=Q.o w1 a1 c1 K L;clear K L Q;have P:=aR.o kd a1 fl.length c1 hl (w1.alloc (.cells #[.int .i64 kd,.slice a1 fl.length c1] 220))
  go_wp2_with fail;refine P.mono ?_;clear P;rintro e j ⟨rfl,u⟩
  have P:=M.o j u;clear M u;go_wp2_with fail;refine P.mono ?_;clear P;rintro e f ⟨rfl,A,B,b4,E,S⟩
  have a0:ay (f.cell? (aq bY 3)=some (ah s2.T.length)/\∀m,Below f.heap.size f m->∃mb i,((m.alloc (.cells #[.int .i64 3,.int .i64 s2.T.length] 97)).cell? (aq bY 2)=some (.map (some mb))/\(m.alloc (.cells #[.int .i64 3,.int .i64 s2.T.length] 97)).cell? (aq bY 3)=some (ah s2.T.length)/\(m.alloc (.cells #[.int .i64 3,.int .i64 s2.T.length] 97)).cell? (aq w1.heap.size 0)=some (ah kd)/\(m.alloc (.cells #[.int .i64 3,.int .i64 s2.T.length] 97)).cell? (aq w1.heap.size 1)=some (.slice a1 fl.length c1))/\
   (Instr.mapUpdate 184 (.map (some mb)) (ah s2.T.length) (.agg #[ah kd,.slice a1 fl.length c1])).run prog (m.alloc (.cells #[.int .i64 3,.int .i64 s2.T.length] 97)).drew=.ok () i/\
   (i.cell? (aq bY 2)=some (.map (some mb))/\i.cell? (aq bY 3)=some (ah s2.T.length)/\i.cell? (aq w1.heap.size 0)=some (ah kd)/\i.cell? (aq w1.heap.size 1)=some (.slice a1 fl.length c1)/\(∀o,i.frozen? (aq bY o)=false))/\
   (i.cell? (aq m.heap.size 0)=some (ah 3)/\i.cell? (aq m.heap.size 1)=some (ah s2.T.length))/\i.heap[w.heap.size]?=some (.cells #[ah 0,ah 0] 97 (0,0))/\(bY≠w.heap.size/\bY≠m.heap.size/\m.heap.size≠w.heap.size)/\
   ay (∃d,(cx bY b_ bZ rb).J d (s2.put kd fl) (((i.setCell ⟨bY,3,none⟩ (.int .i64 (s2.T.length+1))).setCell ⟨w.heap.size,0,none⟩ (.int .i64 3)).setCell ⟨w.heap.size,1,none⟩ (.int .i64 s2.T.length))/\b8 F w d (((i.setCell ⟨bY,3,none⟩ (.int .i64 (s2.T.length+1))).setCell ⟨w.heap.size,0,none⟩ (.int .i64 3)).setCell ⟨w.heap.size,1,none⟩ (.int .i64 s2.T.length)))):=by
   obtain⟨d,⟨l,gv,b5,U⟩,tn,n1,b6,a2⟩:=S.o;have c:=gv.cells;refine⟨c.2.2.2.1,fun m N=>?_⟩
   have b7:=c.2.2.2.2.2.2.2.2;have cy:=tn.fr.size;have bb:=N.size;have D:Below f.heap.size f (m.alloc (.cells #[.int .i64 3,.int .i64 s2.T.length] 97)):=N.alloc bb _;have b9:=gv.below D;have ca:=b9.cells;have cb:=(D.block w1.heap.size (lt_of_some B)).trans B;obtain⟨cc,cd,_,_⟩:=di cb;obtain⟨i,am,hM,gr⟩:=(gv.below D.drew).g2.mp.put (t:=184) (e:=220) underlying184 (by have:=gv.g2.mn;omega) (x:=s2.T.length) V V (.agg #[ah kd,.slice a1 fl.length c1])
   have W:∀b,¬d b->l.own b=0:=fun b hb=>by
    cases e:l.own b
    ·rfl
    ·exact absurd ((U b).2 (by rw[e];omega)) hb
   have an:=W _ n1;have o1:=W _ b6;have bd:bY≠l.mb:=fun e=>by have p:=gv.bo;rw[e,gv.g2.dp] at p;omega
   have be:w.heap.size≠l.mb:=fun e=>by rw[e,gv.g2.dp] at an;omega
   have ce:w1.heap.size≠l.mb:=fun e=>by rw[e,gv.g2.dp] at o1;omega
   have ao:bY≠w.heap.size:=fun e=>by have p:=gv.bo;rw[e,an] at p;omega
   have lm:_:=gv.lt _ (by rw[gv.g2.dp];decide)
   have l0:=lt_of_some A;have l1:=lt_of_some B;have k5:∀b,b<m.heap.size+1->b≠l.mb->_=_:=fun b hb hn=>gr.block b (by simp;omega) (fun e=>hn (Option.some.inj e))
   have G:∀b,b<f.heap.size->b≠l.mb->_=_:=fun b hb hn=>(k5 b V hn).trans (D.block b hb)
   have X:=(G bY b7 bd).trans gv.blk;have cf:=(k5 m.heap.size V V).trans (aO m _)
   obtain⟨bg,y1,_,_⟩:=di cf;obtain⟨cg,t3,_,_⟩:=di ((G _ l1 ce).trans B)
   have bi:i.heap.size=(((i.setCell ⟨bY,3,none⟩ (.int .i64 (s2.T.length+1))).setCell ⟨w.heap.size,0,none⟩ (.int .i64 3)).setCell ⟨w.heap.size,1,none⟩ (.int .i64 s2.T.length)).heap.size:=Z;have ch:_:=aT (aT bb Z) gr.size;have Y:∀b,b≠bY->b≠w.heap.size->(((i.setCell ⟨bY,3,none⟩ (.int .i64 (s2.T.length+1))).setCell ⟨w.heap.size,0,none⟩ (.int .i64 3)).setCell ⟨w.heap.size,1,none⟩ (.int .i64 s2.T.length)).heap[b]?=i.heap[b]?:=fun b p C=>(aU _ _ _ _ C).trans ((aU _ _ _ _ C).trans (aU _ _ _ _ p))
   refine⟨l.mb,i,⟨ca.2.2.1,ca.2.2.2.1,cc,cd⟩,am,⟨by simp[World.cell?,X],by simp[World.cell?,X],cg,t3,fun o=>by simp[World.frozen?,X]⟩,⟨bg,y1⟩,(G _ l0 be).trans A,⟨ao,V,V⟩,?_⟩
   obtain⟨bl,ci,cj,ck⟩:=gv.new (kd:=kd) (fl:=fl) (a:=a1) (cp:=c1) (aT ch (Nat.le_of_eq bi)) (fun b h0 p C=>(Y b (fun e=>p (by rw[e];exact gv.bo)) (fun e=>h0 (by rw[e];exact an))).trans (G b (gv.lt b h0) (fun e=>C (by rw[e];exact gv.g2.dp)))) (by
    rw[aU _ _ _ _ ao,aU _ _ _ _ ao];simp only [World.setCell,Array.getElem?_modify,if_true,X,Option.map_some];rfl) (hM.same (Y _ bd.symm be.symm)) (cH (eV E.o (fun k e=>aX _)) (fun k e=>by
     have ok:=W k (a2 k e)
     have hk:=cn E.o k e;exact(Y k (fun q=>by have p:=gv.bo;rw[<-q,ok] at p;omega) V).trans (G k hk.2 (fun q=>by have p:=gv.g2.dp;rw[<-q,ok] at p;omega)))) (fun k e=>W k (a2 k e))
   refine⟨fun b=>bl.own b≠0,⟨bl,ci,ck.trans b5,fun _=>Iff.rfl⟩,⟨⟨?_,?_,?_,by rw[<-bi];omega,fun k hk hn=>?_⟩,fun b hb=>?_⟩⟩
   ·exact(show _=i.os from rfl).trans (gr.os.trans (D.os.trans tn.fr.os))
   ·exact(show _=i.tape from rfl).trans (gr.tape.trans (D.tape.trans tn.fr.tape))
   ·exact(show _=i.output from rfl).trans (gr.output.trans (D.output.trans tn.fr.output))
   ·have bn:∀b,d b->b<w.heap.size->F b:=fun b p C=>(tn.sub b p).resolve_right V;exact(Y k (fun e=>hn (bn k ((U k).2 (by rw[e,gv.bo];decide)) hk)) V).trans ((G k V (fun e=>hn (bn k ((U k).2 (by rw[e,gv.g2.dp];decide)) hk))).trans (tn.fr.block k hk hn))
   ·rcases cj b hb with q|q
    ·exact tn.sub b ((U b).2 q)
    ·exact aJ (by have:=(cn E.o b q).1;omega)
  clear E S A B;obtain⟨cl,ab⟩:=a0.o;have ab:ay (_):=ab;clear a0;have P:=ox s2.T.length f;go_wp2_with fail;refine P.mono ?_;clear P;rintro e m ⟨rfl,N⟩
  obtain⟨mb,i,⟨cm,co,q0,q1⟩,am,⟨cq,cz,v0,v1,bo⟩,⟨bg,y1⟩,ap,⟨cr,cA,cB⟩,cs⟩:=ab.o m N;have cC:=bo 3;obtain⟨ct,H,cu,lw⟩:=di ap;have ar:ay (_=_):=ap;clear N ab ap cl bo;go_wp2_with fail
  go_region_held3 (fun w'=>w'.cell? (aq bY 2)=some (.map (some mb))/\w'.cell? (aq bY 3)=some (ah s2.T.length)/\w'.cell? (aq w1.heap.size 0)=some (ah kd)/\w'.cell? (aq w1.heap.size 1)=some (.slice a1 fl.length c1)) (go_keep) (fail)
  all_goals
   clear cm co q0 q1 am cq v0 v1;go_wp2_with fail;obtain⟨r0,r1,_,_⟩:=di (gz (v1:=ah 3) (v2:=ah s2.T.length) ((aU i ⟨bY,3,none⟩ (ah (s2.T.length+1)) w.heap.size cr.symm).trans ar.o))
   obtain⟨d,I,tn⟩:=cs.o;exact a4 (v:=.tuple #[.agg #[ah 3,ah s2.T.length],ah 0]) (by simp[results,results206,go_sem,r0,r1]) rfl ⟨d,by rw[J.o],by rw[J.o];exact I,tn⟩
 ·have J:=hide (al.o.trans (aG aV))
  go_enter func206,ntmps206;go_wp2_with fail;refine P.mono ?_;clear P;rintro e w1 ⟨a1,c1,rfl,K,L⟩
  have M:ay (_):=Q.o w1 a1 c1 K L;clear K L Q;have P:=aR.o kd a1 fl.length c1 hl (w1.alloc (.cells #[.int .i64 kd,.slice a1 fl.length c1] 220))
  go_wp2_with fail;refine P.mono ?_;clear P;rintro e j ⟨rfl,u⟩
  have P:=M.o j u;clear M u;go_wp2_with fail;refine P.mono ?_;clear P;rintro e f ⟨rfl,A,B,b4,E,S⟩
  obtain⟨ct,H,cu,lw⟩:=di A;have ar:ay (_=_):=A;clear A B E;go_wp2_with fail;obtain⟨r0,r1,_,_⟩:=di (gz (v1:=ah 0) (v2:=ah 0) ar.o)
  obtain⟨d,I,tn,n1,_⟩:=S.o;exact a4 (v:=.tuple #[.agg #[ah 0,ah 0],ah rc]) (by simp[results,results206,go_sem,r0,r1]) rfl ⟨d,by rw[J.o],by rw[J.o];exact(cx bY b_ bZ rb).set2 I n1 _ _,tn.set2 bW _ _⟩
end
end Go.Proofs.YtpkjkjhanlbcoaaGreat
