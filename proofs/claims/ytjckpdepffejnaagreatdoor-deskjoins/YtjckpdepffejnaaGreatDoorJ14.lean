import Derived.Test.YtjckpdepffejnaaGreatDoorJ13
open Array renaming size->I
open Bool renaming false->D,true->C
open Go renaming Addr->bB,Calls->M,info_parts->bM,maxLen->bL
open Go.Ending renaming returned->Q
open Go.IntKind renaming i64->OW,u64->rT
open Go.Obj renaming cells->E
open Go.Proofs.Tryz renaming prog->J
open Go.RowKit renaming Below->O,intOf->bG
open Go.Value renaming bool->bA,int->U,ownBlock->A,slice->Z,tuple->ay
open Go.World renaming cell?->V,heap->G,setCell->P
open Int renaming toNat->K
open List renaming getD->X,length->L,length_drop->mh,length_replicate->ji,length_take->j3,mem_append->bw,replicate->aZ
open Nat renaming min->l8,min_def->sw,zero_add->bW
open Option renaming none->O0,some->OR
namespace Go.Proofs.YtjckpdepffejnaaGreatDoor
set_option maxRecDepth 100000
set_option maxHeartbeats 4000000
open Tryz
open Go.RowKit W Kp ch
theorem oF {P:Prop}(h:P:=by go_wp2_with fail;go_ret;exact⟨F2,rfl,HF.o.1,HF.o.2⟩):P:=h
theorem Bg {P:Prop}(h:P:=by
 rcases(show c=0\/c=1\/c=2\/c=3\/c=4\/c=5\/c=6\/c=7\/c=8\/c=9\/c=10\/c=11\/c=12 by omega) with rfl|rfl|rfl|rfl|rfl|rfl|rfl|rfl|rfl|rfl|rfl|rfl|rfl<;>
 (go_enter func222,ntmps222
  go_wp2_with fail;go_ret2;exact⟨rfl,rfl⟩)):P:=h
theorem Bh {P:Prop}(h:P:=by
 go_enter func157,ntmps157;go_wp2_with fail;refine P.mono ?_;rintro e w1 ⟨rfl,hw⟩
 have hw:=hw.symm;subst hw;go_wp2_with fail;go_ret2;exact⟨rfl,rfl⟩):P:=h
theorem Bj {P:Prop}(h:P:=by
 go_enter func201,ntmps201;go_wp2_with fail;refine P.mono ?_;rintro e w1 ⟨rfl,hb⟩
 go_wp2;go_ret2;exact⟨rfl,hb⟩):P:=h
theorem Bk (w:az)(B n1 b:Nat)(l1 l2:List b8)(d f:bB)(c1 c2:Nat)(g:L l1=n1)(i:L l2=b)(j:V w (av B 0)=OR (Z (OR d) n1 c1))(k:V w (av B 1)=OR (Z (OR f) b c2))(l:dQ w (OR d) l1)(n:dQ w (OR f) l2)(hm:n1+b<=100000):
 M J 313 #[Z (au B) 2 2] w λe w'=>∃a c m,e=Q (Z a m c)/\aA (m=n1+b)/\aA (w'.ownsRow (I (G w)) 247 2 (Z a m c) m (ev (l1++l2)))/\O (I (G w)) w w':=by
 subst g;subst i;refine(GE w B l1 l2 d f c1 c2 j k l n hm).mono ?_;rintro e w' ⟨a,c,rfl,o,p⟩
 exact⟨a,c,_,rfl,rfl,o,p⟩
theorem dQ.take {w:az}{ad:Option bB}{q:List b8}(h:dQ w ad q)(i:Nat):dQ w ad (q.take i):=by
 intro hp;simp only [j3] at hp;obtain⟨b,o,e,hb,hc⟩:=h aa;refine⟨b,o,e,hb,λj c=>?_⟩
 simp only [j3] at c;have d:X (q.take i) j (0,0)=X q j (0,0):=by rw[aM,aM,List.getElem?_take_of_lt aa]
 rw[d];exact hc j aa
theorem dQ.drop {w:az}{b o:Nat}{q:List b8}(h:dQ w (OR ⟨b,o,O0⟩) q)(i:Nat):dQ w (OR ⟨b,o+i*2,O0⟩) (q.drop i):=by
 intro hp;simp only [mh] at hp;obtain⟨f,g,e,hb,hc⟩:=h aa;cases e;refine⟨b,o+i*2,rfl,hb,λj c=>?_⟩
 simp only [mh] at c;have d:X (q.drop i) j (0,0)=X q (i+j) (0,0):=by simp[List.getElem?_drop]
 rw[d,show o+i*2+j*2=o+(i+j)*2 by omega];exact hc (i+j) aa
theorem IX:ef 312:=g9 func312 ah rfl
theorem IY (w:az)(B:Nat)(g:Int)(e:b8)(h:V w (av B 0)=OR (ak g)):
 M J 312 #[en e,aq B] w λr w'=>r=Q (bA (e.1==g))/\O (I (G w)) w w':=by
 obtain⟨x,y⟩:=e;have c:=aT w _ h;have b:=aw w (E #[U OW x,U OW y] 247)
 ·go_wp2;go_ret;exact⟨ac,b⟩
theorem Bl {w w1 b:az}{p o:Nat}{a0 c:Option bB}{k0 k1 d i n:Nat}{r q:List b8}(h:fF w p a0 k0 (au o) k1 r q)(g:O (I (G w)) w w1)(s:O (I (G w1)) w1 b)(j:b.ownsRow (I (G w1)) 247 2 (Z c n d) n (ev (q.take i++q.drop (i+1))))(hi:i<L q)(hn:n+1=L q):
 fF (P b ⟨p,1,O0⟩ (Z c n d)) p a0 k0 c d r (q.take i++q.drop (i+1))/\(∀z,c=OR z->I (G w)<=z.block)/\Fr (λk=>k=p) w (P b ⟨p,1,O0⟩ (Z c n d)):=by
 have l:=g.trans (s.mono g.size)
 have f:=h.below l;have hl:L (q.take i++q.drop (i+1))=n:=by rw[aX,j3,mh];omega
 have m:∀k,k≠p->(P b ⟨p,1,O0⟩ (Z c n d)).heap[k]?=b.heap[k]?:=λk hk=>aW _ _ _ _ hk;refine⟨⟨by rw[hl];exact GH f.cY,cK f.r0 (λk e=>m k (f.np f.r0 k e)),?_⟩,λz e=>?_,(Fr.of l).set p 1 _ rfl⟩
 ·rw[hl];exact fA (cK j (λk e=>m k (f.np j k e))) (λ_ _=>a4 _)
 ·have:=(cu j z.block (by rw[e];rfl)).1;have:=g.size;omega
theorem Bm (w:az)(p:Nat)(a0 a1:Option bB)(k0 k1:Nat)(r q:List b8)(g:Int)(h:fF w p a0 k0 a1 k1 r q)(a2:L q<=90000):
 M J 281 #[aq p,ak g] w λe w'=>
  (e=Q (ay #[ak 0,bA D])/\(∀e∈q,¬e.1=g)/\O (I (G w)) w w')\/
  (∃(i:Nat)(b1:Option bB)(c1:Nat),e=Q (ay #[ak (X q i (0,0)).2,bA C])/\i<L q/\(X q i (0,0)).1=g/\(∀e∈q.take i,¬e.1=g)/\fF w' p a0 k0 b1 c1 r (q.take i++q.drop (i+1))/\(∀z,b1=OR z->I (G w)<=z.block)/\Fr (λk=>k=p) w w'):=by
 obtain⟨c0,c1,am,bb,lp⟩:=h.cells;have H:aA (fF w p a0 k0 a1 k1 r q):=h;have l:=aw w (E #[U OW g] 2)
 have y1:=(l.cell (p:=av p 1) lp).trans c1;have P:=EP (λ_=>True) 312 #[] #[aq (I (G w))] (λe=>e.1==g) IX (w.alloc (E #[U OW g] 2)) (λw' e _ hs hk=>IY w' (I (G w)) g e ((aS (a:=⟨I (G w),0,O0⟩) (hk _ ac)).trans ac)) q a1 k1 (λ_ _=>trivial) aa ((iQ h.q0).below l)
 clear h c0 am;go_enter func281,ntmps281;go_wp2_with fail;refine P.mono ?_;clear P;rintro e w1 ⟨hb,⟨rfl,hn⟩|⟨i,rfl,hi,ht,hn⟩⟩
 ·have n:aA (∀e∈q,¬e.1=g):=λe he=>by simpa using hn e he
  have f:=l.trans (hb.mono ac)
  clear hb hn;go_wp2_with fail;go_ret2;exact aK ⟨rfl,n.o,f⟩
 ·have n:aA (∀e∈q.take i,¬e.1=g):=λe he=>by simpa using hn e he
  have ab:aA ((X q i (0,0)).1=g):=by show _=_;simpa using ht
  obtain⟨z,s⟩:∃z,aA (z=(X q i (0,0)).2):=⟨_,rfl⟩
  have f:=l.trans (hb.mono ac)
  have bd:=f.size;have j:=H.o.below f;obtain⟨be,ad,bg,ag,o⟩:=j.cells;have t:=sj j.q0;obtain⟨b,cap,ai⟩:=fi j.q0 aa;simp at ai;obtain⟨rfl,rfl⟩:=ai;have bi:=t.le;have an:k1<=maxLen:=by
   rcases j.q0.2 with⟨_,h0⟩|⟨g,bl,bn,hv,_,_,_,hc,_⟩
   ·omega
   ·simp at hv;omega
  unfold bL at an;obtain⟨bo,bp,ao,br,hc⟩:=t.lp aa;cases ao;have ap:=(hc i hi).2;rw[bW,<-s.o] at ap;have bs:(0:Int)<=(i:Int):=aa;have bt:(i:Int)<(L q:Int):=aa;have bx:aA (fF w1 p a0 k0 (au b) k1 r q):=j;clear hb hn l hc j ht;have u:aA (dQ w1 (au b) q):=t.lp;have al:aA (L (q.take i)=i):=by show _=_;rw[j3];omega
  have b0:(i:Int)<=(k1:Int):=aa;have b2:IntKind.i64.wrap ((i:Int)+1)=(i:Int)+1:=by rw[bc];omega
  have b3:(0:Int)<=(i:Int)+1:=aa;have b4:(i:Int)+1<=(L q:Int):=aa;have b5:K ((i:Int)+1)=i+1:=aa;have b6:K (i:Int)=i:=aa;by_cases hk:i+1=k1
  ·subst hk;have hz:L q-(i+1)=0:=aa;have c:=(aw w1 (E #[Z (OR ⟨b,0,O0⟩) i (i+1),Z (OR ⟨b,0,O0⟩) 0 0] 195)).drew;have v:aA (L (q.drop (i+1))=0):=by show _=_;rw[mh];omega
   have ar:dQ (w1.alloc (E #[Z (OR ⟨b,0,O0⟩) i (i+1),Z (OR ⟨b,0,O0⟩) 0 0] 195)).drew (au b) (q.drop (i+1)):=λh=>by rw[mh] at h;omega
   go_wp2_with fail
   go_region_with (go_at_call 313;refine(Bk _ (I (G w1)) i (0) (q.take i) (q.drop (i+1)) ⟨b,0,O0⟩ ⟨b,0,O0⟩ (i+1) (0) al.o v.o ac ac ((u.o.take i).below c) (ar) aa).mono ?_;rintro e x ⟨B,F,aB,rfl,N,m,d⟩;have aF:=(d.cell (p:=av p 1) (by simp;omega)).trans ((c.cell (p:=av p 1) o).trans ad);have aR:=(d.frozen (p:=av p 1) (by simp;omega)).trans ((c.frozen (p:=av p 1) o).trans ag))
   all_goals
    go_wp2_with fail;go_ret2;refine aI ⟨i,B,F,by rw[<-s.o];rfl,hi,ab.o,n.o,?_⟩
    have S:O (I (G w1)) w1 x:=c.trans (d.mono ac)
    exact Bl H.o f S (fA m.o (λk e=>by have:=(cu m.o k e).1;simp at this;omega)) hi (by have:=N.o;omega)
  ·have b7:¬k1=i+1:=λe=>hk e.symm;have c:=(aw w1 (E #[Z (OR ⟨b,0,O0⟩) i k1,Z (OR ⟨b,(i+1)*2,O0⟩) (L q-(i+1)) (k1-(i+1))] 195)).drew;have v:aA (L (q.drop (i+1))=L q-(i+1)):=mh;have W:=(u.o.drop (i+1)).below c;rw[bW] at W;have aV:aA (dQ (w1.alloc (E #[Z (OR ⟨b,0,O0⟩) i k1,Z (OR ⟨b,(i+1)*2,O0⟩) (L q-(i+1)) (k1-(i+1))] 195)).drew (OR ⟨b,(i+1)*2,O0⟩) (q.drop (i+1))):=W;clear W;go_wp2_with fail
   go_region_with (go_at_call 313;refine(Bk _ (I (G w1)) i (L q-(i+1)) (q.take i) (q.drop (i+1)) ⟨b,0,O0⟩ ⟨b,(i+1)*2,O0⟩ k1 (k1-(i+1)) al.o v.o ac ac ((u.o.take i).below c) (aV.o) aa).mono ?_;rintro e x ⟨B,F,aB,rfl,N,m,d⟩;have aF:=(d.cell (p:=av p 1) (by simp;omega)).trans ((c.cell (p:=av p 1) o).trans ad);have aR:=(d.frozen (p:=av p 1) (by simp;omega)).trans ((c.frozen (p:=av p 1) o).trans ag))
   all_goals
    go_wp2_with fail;go_ret2;refine aI ⟨i,B,F,by rw[<-s.o];rfl,hi,ab.o,n.o,?_⟩
    have S:O (I (G w1)) w1 x:=c.trans (d.mono ac)
    exact Bl H.o f S (fA m.o (λk e=>by have:=(cu m.o k e).1;simp at this;omega)) hi (by have:=N.o;omega)
section
variable {a:Wc}{hp:Nat}{F:Nat->Prop}{S:cv}{w:az}
theorem wz (h:(cD a hp).J F S w)(x:Int):
 M prog 165 #[aq a.pw,ak x] w λe w'=>e=Q (ay #[ak (S.kx a x),ak (S.fx a x),ak (S.ex a x)])/\O (I (G w)) w w':=
 E7 x w (ft h).c0 (mT h).1
theorem Bn (h:(cD a hp).J F S w)(x:Int):
 M prog 166 #[aq hp,ak x] w λe w'=>e=Q (bA (S.kx a x==5))/\O (I (G w)) w w':=by
 have P:=wz h x;obtain⟨h0,_⟩:=ft h;go_enter func166,ntmps166;go_wp2_with fail;refine P.mono ?_;exact qt
theorem IZ {q:List b8}{g:Int}{i:Nat}(hi:i<L q)(b:(X q i (0,0)).1=g)(c:∀e∈q.take i,¬e.1=g):eh g q=i:=by
 refine(List.findIdx_eq hi).2 ⟨?_,λj d=>?_⟩
 ·rw[aM,aP hi] at b;simpa using b
 ·have:=c (q[j]'aa) (by rw[List.mem_take_iff_getElem];exact⟨j,aa,rfl⟩)
  simpa using this
theorem I0 (h:(gC a).J F S w)(g:Int)(hq:L S.q<=90000):
 M prog 281 #[aq a.sd,ak g] w λe w'=>∃m,e=Q (ay #[ak (if eh g S.q<L S.q then(X S.q (eh g S.q) (0,0)).2 else 0),bA (decide (eh g S.q<L S.q))])/\(gC a).J m (if eh g S.q<L S.q then⟨S.s,S.r,S.q.take (eh g S.q)++S.q.drop (eh g S.q+1)⟩ else S) w'/\b9 F w m w':=by
 have q:=h;obtain⟨n,ar,f,⟨s,ad,cap,j,t,u,v,o,p,ab,x⟩,r0,r1,k⟩:=h;refine(Bm w a.sd ar ad f cap S.r S.q g ⟨t,r0,u⟩ hq).mono ?_;rintro e w' (⟨rfl,hn,hb⟩|⟨i,b1,c1,rfl,hi,g1,g2,hs,B,fr⟩)
 ·have l:¬eh g S.q<L S.q:=λc=>by
   unfold eh at c;have:=List.findIdx_getElem (w:=c)
   exact hn _ (a_ c) (by simpa using this)
  rw[aJ l,aJ l,bk l];exact⟨F,rfl,(gC a).below q hb,b9.of hb⟩
 ·rw[(IZ hi g1 g2),aN hi,aN hi,bm hi];have nq:∀b,OR b=A (Value.slice b1 (L (S.q.take i++S.q.drop (i+1))) c1)->I (G w)<=b:=λb e=>by
   cases b1 with
   |none=>simp[Value.ownBlock] at e
   |some z=>
    simp[Value.ownBlock] at e;rw[e];exact B z rfl
  refine⟨λb=>(n b\/OR b=A (Value.slice b1 _ c1))\/OR b=A (Value.slice ar (L S.r) f),rfl,⟨λb=>n b\/OR b=A (Value.slice b1 _ c1),ar,f,⟨s,b1,c1,(eH a).keep j fr.size (λb d=>fr.block b ((eH a).lt j b d) (λe=>p (by have e:=e;rw[<-e];exact d))),hs.cY,hs.q0,λb d=>aK (v b d),aK o,p,λb e=>⟨aI e,λd=>by have N:=(eH a).lt j b d;have W:=nq b e;omega⟩,λb d=>?_⟩,hs.r0,λb e d=>?_,λb=>Iff.rfl⟩,⟨fr.mono (λb d=>(k b).2 (aK (by have d:=d;rw[d];exact o))),λb d=>?_⟩⟩
  ·rcases d with d|d
   ·exact aL (x b d) fr.size
   ·exact(cu hs.q0 b d).2
  ·rcases d with d|d
   ·exact r1 b e d
   ·have N:=(cu r0 b e).2;have W:=nq b d;omega
  ·rcases d with(d|d)|d
   ·exact aK ((k b).2 (aK d))
   ·exact aI (nq b d)
   ·exact aK ((k b).2 (aI d))
theorem I1 (x y:Int)(w:az):
 M J 201 #[ak x,ak y] w λe w'=>e=Q (ay #[ak (if x=y then ew 1 1 else ew 1 0),ak 0])/\O (I (G w)) w w':=by
 by_cases e:x=y
 ·subst e;rw[aN rfl];have P:=qF 1 w;rw[show vc 1 1=0 by decide] at P;exact Bj
 ·have P:=qF 0 w;exact Bj
theorem I2 (h:(cD a hp).J F S w)(x:Int):
 M prog 200 #[aq hp,ak x] w λe w'=>e=Q (ay #[ak (S.len a x).1,ak (S.len a x).2.1])/\O (I (G w)) w w':=by
 have P:=wz h x;obtain⟨h0,_⟩:=ft h;unfold cv.len;generalize S.kx a x=k at*;generalize S.fx a x=f at*;generalize S.ex a x=c at*;by_cases hc:c=0
 ·subst hc;by_cases hk:k=5
  ·subst hk;rw[aJ ac];go_enter func200,ntmps200;exact uH
  ·rw[aN ⟨rfl,hk⟩];have b:=λw=>qF f w;generalize ew 1 f=v at*;generalize vc 1 f=u at*;go_enter func200,ntmps200;go_wp2_with fail;refine P.mono ?_;rintro e w1 ⟨rfl,hb1⟩
   go_wp2_with fail;refine(b w1).mono ?_;rintro e i ⟨rfl,g⟩
   have hb:=hb1.trans (g.mono hb1.size)
   go_wp2_with fail;go_ret2;exact⟨rfl,hb⟩
 ·rw[aJ (λd=>hc d.1)];go_enter func200,ntmps200;exact uH
theorem Bo (h:(cD a hp).J F S w):V w (av a.pw 2)=OR (aq a.sd):=by obtain⟨c,b,_⟩:=lB h;obtain⟨d,g1,_⟩:=ou b;obtain⟨_,_,c2,_⟩:=kU g1;exact c2
theorem I3 (h:(cD a hp).J F S w)(x:Int)(hq:L S.q<=90000):
 M prog 198 #[aq hp,ak x] w λe w'=>∃d,e=Q (ay #[ak (S.pop a x).1,ak (S.pop a x).2.1])/\(cD a hp).J d (S.pop a x).2.2 w'/\b9 F w d w':=by
 have P:=Bn h x;have l:=cg h;unfold cv.pop;by_cases hk:S.kx a x=5
 ·rw[aN hk];rw[hk] at P;have hr:∀w1,O (I (G w)) w w1->V w1 (av hp 0)=OR (aq a.pw)/\V w1 (av a.pw 2)=OR (aq a.sd)/\M prog 281 #[aq a.sd,ak x] w1 λe w'=>∃d,e=Q (ay #[ak (if eh x S.q<L S.q then(X S.q (eh x S.q) (0,0)).2 else 0),bA (decide (eh x S.q<L S.q))])/\(cD a hp).J d (if eh x S.q<L S.q then⟨S.s,S.r,S.q.take (eh x S.q)++S.q.drop (eh x S.q+1)⟩ else S) w'/\b9 F w d w':=λw1 b=>by
   have j:=(cD a hp).below l.o b;refine⟨(ft j).h0,Bo j,?_⟩
   obtain⟨q,g1,_,g3⟩:=lB j;refine(I0 g1 x hq).mono ?_;rintro e w' ⟨d,rfl,n,o⟩
   obtain⟨f,j2,g⟩:=g3 _ _ _ n o;exact⟨f,rfl,j2,(b9.of b).trans g⟩
  have i:=cg hr;by_cases hi:eh x S.q<L S.q
  ·rw[aN hi];simp only [if_pos hi,decide_eq_true hi] at i;generalize (X S.q (eh x S.q) (0,0)).2=v at*;generalize (⟨S.s,S.r,S.q.take (eh x S.q)++S.q.drop (eh x S.q+1)⟩:cv)=s at*;go_enter func198,ntmps198;go_wp2_with fail;refine P.mono ?_;rintro e w1 ⟨rfl,b⟩
   obtain⟨k0,k2,k⟩:=i.o w1 b;go_wp2_with fail;refine k.mono ?_;rintro e m ⟨f,rfl,j2,g⟩
   have c:aA (_/\_):=⟨j2,g⟩
   go_wp2;go_ret2;exact⟨f,rfl,c.o.1,c.o.2⟩
  ·rw[aJ hi];simp only [if_neg hi,decide_eq_false hi] at i;go_enter func198,ntmps198;go_wp2_with fail;refine P.mono ?_;rintro e w1 ⟨rfl,b⟩
   obtain⟨k0,k2,k⟩:=i.o w1 b;go_wp2_with fail;refine k.mono ?_;rintro e m ⟨f,rfl,j2,g⟩
   have c:aA (_/\b9 F w f m):=⟨j2,g⟩
   go_wp2;go_ret2;exact⟨f,rfl,c.o.1,c.o.2⟩
 ·rw[aJ hk];have p:(S.kx a x==5)=D:=by simpa using hk
  rw[p] at P;go_enter func198,ntmps198;go_wp2_with fail;refine P.mono ?_;rintro e w1 ⟨rfl,b⟩
  have c:aA ((cD a hp).J F S w1/\b9 F w F w1):=⟨(cD a hp).below l.o b,b9.of b⟩
  go_wp2;go_ret2;exact⟨F,rfl,c.o.1,c.o.2⟩
theorem I4 (h:(cD a hp).J F S w)(t g:Int)(hr:L S.r<=90000)(hq:L S.q<=90000):
 M prog 126 #[aq hp,ak t,ak g] w λe w'=>∃i,e=Q (ak (S.reg a t g).1)/\(cD a hp).J i (S.reg a t g).2 w'/\b9 F w i w':=by
 have P:=wz h t;obtain⟨h0,_⟩:=ft h;have q:aA ((cD a hp).J F S w):=h;unfold cv.reg;have m:aA (∀w1,O (I (G w)) w w1->M prog 166 #[aq hp,ak g] w1 λe w'=>e=Q (bA (S.kx a g==5))/\O (I (G w)) w w'):=λw1 b=>by
  refine(Bn ((cD a hp).below q.o b) g).mono ?_;rintro e w' ⟨rfl,d⟩
  exact⟨rfl,b.trans (d.mono b.size)⟩
 have s:aA (∀w1,O (I (G w)) w w1->V w1 (av hp 0)=OR (aq a.pw)/\V w1 (av a.pw 2)=OR (aq a.sd)/\M prog 167 #[aq a.sd,.agg #[ak g,ak t]] w1 λe w'=>∃i,e=Q (bA (!kV (L S.r+L S.q)))/\(cD a hp).J i (if 24<=L S.r+L S.q then S else⟨S.s,S.r++[(g,t)],S.q⟩) w'/\b9 F w i w'):=λw1 b=>by
  have u:=(cD a hp).below q.o b;refine⟨(ft u).h0,Bo u,?_⟩
  obtain⟨ab,g1,_,g3⟩:=lB u;refine(GJ g1 g t hr hq).mono ?_;rintro e w' ⟨i,rfl,x,B⟩
  obtain⟨F2,j2,n⟩:=g3 _ _ _ x B;exact⟨F2,rfl,j2,(b9.of b).trans n⟩
 generalize S.fx a t=f at*;generalize S.kx a t=k at*;by_cases hc:S.ex a t=0
 ·rw[aN hc];rw[hc] at P;by_cases hk:S.kx a g=5
  ·rw[aN hk];rw[hk] at m;by_cases j:24<=L S.r+L S.q
   ·rw[aN j];simp only [if_pos j,sk j] at s;go_enter func126,ntmps126;go_wp2_with fail;refine P.mono ?_;rintro e w1 ⟨rfl,b⟩
    have o:=m.o w1 b;go_wp2_with fail;refine o.mono ?_;rintro e l ⟨rfl,d⟩
    obtain⟨k0,k2,v⟩:=s.o l d;go_wp2_with fail;refine v.mono ?_;rintro e p ⟨F2,rfl,j2,n⟩
    have HF:aA ((cD a hp).J F2 S p/\b9 F w F2 p):=⟨j2,n⟩
    exact oF
   ·rw[aJ j];simp only [if_neg j,sq j] at s;generalize (⟨S.s,S.r++[(g,t)],S.q⟩:cv)=N at*;go_enter func126,ntmps126;go_wp2_with fail;refine P.mono ?_;rintro e w1 ⟨rfl,b⟩
    have o:=m.o w1 b;go_wp2_with fail;refine o.mono ?_;rintro e l ⟨rfl,d⟩
    obtain⟨k0,k2,v⟩:=s.o l d;go_wp2_with fail;refine v.mono ?_;rintro e p ⟨F2,rfl,j2,n⟩
    have HF:aA ((cD a hp).J F2 N p/\b9 F w F2 p):=⟨j2,n⟩
    exact oF
  ·rw[aJ hk];have W:(S.kx a g==5)=D:=by simpa using hk
   simp only [W] at m;go_enter func126,ntmps126;go_wp2_with fail;refine P.mono ?_;rintro e w1 ⟨rfl,b⟩
   have o:=m.o w1 b;go_wp2_with fail;refine o.mono ?_;rintro e l ⟨rfl,d⟩
   have HF:aA ((cD a hp).J F S l/\b9 F w F l):=⟨(cD a hp).below q.o d,b9.of d⟩
   go_wp2_with fail;go_ret;exact⟨F,rfl,HF.o.1,HF.o.2⟩
 ·rw[aJ hc];generalize S.ex a t=c at*;go_enter func126,ntmps126;go_wp2_with fail;refine P.mono ?_;rintro e w1 ⟨rfl,b⟩
  have HF:aA ((cD a hp).J F S w1/\b9 F w F w1):=⟨(cD a hp).below q.o b,b9.of b⟩
  go_wp2_with fail;go_ret;exact⟨F,rfl,HF.o.1,HF.o.2⟩
theorem Bp (h:(cD a hp).J F S w)(hq:L S.q+L S.r<=90000):
 M prog 128 #[aq a.pw] w λe w'=>∃b,e=Q (ak (S.code a))/\(cD a hp).J b (S.cut a) w'/\b9 F w b w':=by
 obtain⟨i,g1,_,g3⟩:=lB h;refine(GD g1 hq).mono ?_;rintro e w' ⟨b,rfl,c,d⟩
 obtain⟨f,j2,g⟩:=g3 _ _ _ c d;exact⟨f,rfl,j2,g⟩
theorem Bq (h:(cD a hp).J F S w)(hq:L S.q+L S.r<=90000)(c:S.gD a=D->∃G,je (S.k5 a) (S.d_ a) G/\G 0 (S.k5 a,0)):
 M prog 129 #[aq a.pw] w λe w'=>∃b,e=Q (ak (S.jf a))/\(cD a hp).J b (S.dR a) w'/\b9 F w b w':=by
 obtain⟨j,g1,_,g3⟩:=lB h;refine(IA g1 hq c).mono ?_;rintro e w' ⟨b,rfl,d,f⟩
 obtain⟨g,j2,i⟩:=g3 _ _ _ d f;exact⟨g,rfl,j2,i⟩
theorem I5 (h:(cD a hp).J F S w)(m:Int)(hq:L S.q+L S.r<=90000)(q:S.gD a=D->∃G,je (S.k5 a) (S.d_ a) G/\G 0 (S.k5 a,0)):
 M prog 278 #[aq hp,ak m] w λe w'=>∃b,e=Q (ak (S.room a m).1)/\(cD a hp).J b (S.room a m).2 w'/\b9 F w b w':=by
 unfold cv.room;by_cases hm:m<=(a.N:Int)-S.s.y
 ·rw[aN hm];refine(Hl h m hm).mono ?_;rintro e w' ⟨rfl,hb⟩
  exact⟨F,rfl,(cD a hp).below h hb,b9.of hb⟩
 rw[aJ hm];obtain⟨h0,c0,_⟩:=ft h;have s:=(mT h).1;have P:=qs w s;have o:aA (∀w1,Below w.heap.size w w1->(V w1 (av hp 0)=OR (aq a.pw)/\V w1 (av a.pw 0)=OR (aq a.p))/\M prog 61 #[aq a.p] w1 λe w'=>e=Q (ay #[ak S.s.y,ak S.s.g])/\Below w.heap.size w w'):=λw1 c=>by
  have d:=(cD a hp).below h c;obtain⟨h0,c0,_⟩:=ft d;refine⟨⟨h0,c0⟩,?_⟩
  refine(lZ w1 (mT d).1).mono ?_;rintro e w' ⟨rfl,f⟩
  exact⟨rfl,c.trans (f.mono c.size)⟩
 have p:aA (∀w1,Below w.heap.size w w1->V w1 (av hp 0)=OR (aq a.pw)/\(M prog 128 #[aq a.pw] w1 λe w'=>∃b,e=Q (ak (S.code a))/\(cD a hp).J b (S.cut a) w'/\b9 F w b w')/\(M prog 129 #[aq a.pw] w1 λe w'=>∃b,e=Q (ak (S.jf a))/\(cD a hp).J b (S.dR a) w'/\b9 F w b w')):=λw1 c=>by
  have d:=(cD a hp).below h c;refine⟨(ft d).h0,(Bp d hq).mono ?_,(Bq d hq q).mono ?_⟩
  ·rintro e w' ⟨b,rfl,g,i⟩
   exact⟨b,rfl,g,(b9.of c).trans i⟩
  ·rintro e w' ⟨b,rfl,g,i⟩
   exact⟨b,rfl,g,(b9.of c).trans i⟩
 by_cases hy:(S.s.y:Int)<=(a.O:Int)-S.s.g
 ·rw[aN hy];generalize S.cut a=t at*;generalize S.code a=cd at*;go_enter func278,ntmps278;go_wp2_with fail;refine P.mono ?_;rintro e w1 ⟨rfl,c⟩
  obtain⟨⟨g0,g1⟩,j⟩:=o.o w1 c;go_wp2_with fail;refine j.mono ?_;rintro e k ⟨rfl,f⟩
  obtain⟨k0,l,_⟩:=p.o k f;go_wp2_with fail;refine l.mono ?_;rintro e u ⟨F2,rfl,j2,n⟩
  have HF:=cU j2 n;exact oF
 ·rw[aJ hy];generalize S.dR a=t at*;generalize S.jf a=cd at*;go_enter func278,ntmps278;go_wp2_with fail;refine P.mono ?_;rintro e w1 ⟨rfl,c⟩
  obtain⟨⟨g0,g1⟩,j⟩:=o.o w1 c;go_wp2_with fail;refine j.mono ?_;rintro e k ⟨rfl,f⟩
  obtain⟨k0,_,l⟩:=p.o k f;go_wp2_with fail;refine l.mono ?_;rintro e u ⟨F2,rfl,j2,n⟩
  have HF:=cU j2 n;exact oF
theorem I6 (kd:Int)(rl:List Nat)(p:Option bB)(cap:Nat)(b:cv)(b2:L rl<=12)(hk:hc kd (L rl)=0)(room:b.s.y+1+L rl<=a.N)
 (hv:0<L rl->∃d,p=au d/\¬F d/\d<I (G w)/\∀i,i<L rl->V w (av d i)=OR (ak ((X rl i 0:Nat):Int)))(hr:∀i,i<L rl->X rl i 0<12)
 (h:(cD a hp).J F S w)
 (N:M prog 278 #[aq hp,ak (1+L rl)] w λe w'=>∃c,e=Q (ak 0)/\(cD a hp).J c b w'/\b9 F w c w'):
 M prog 196 #[aq hp,ak kd,Z p (L rl) cap] w λe w'=>∃c,e=Q (ay #[ak (ew 3 b.s.y),ak 0])/\(cD a hp).J c (b.put a kd rl) w'/\b9 F w c w':=by
 have q:jo a.N b.s.y kd (L rl)=C:=by unfold jo;rw[hk];simp;omega
 have W:jM a.N b.s.y kd (L rl)=b.s.y+1+L rl:=by unfold jM;rw[aN q];omega
 have ab:rV a.N b.s.y kd (L rl)=b.s.y:=by unfold rV;rw[aN q]
 have ad:aA (0<L rl->_):=hv;have be:aA (∀i,i<L rl->_):=hr;have ag:aA (_/\_):=⟨W,ab⟩
 have bg:aA (b.put a kd rl=⟨{b.s with y:=b.s.y+1+L rl,ws:=jP b.s.rs b.s.y (gH a.N b.s.y kd (L rl) b.s.ws) rl (L rl)},b.r,b.q⟩):=rfl;have n1:=(mT h).1.hN';generalize b.put a kd rl=bi at*;clear hv hr q W ab hk h;go_enter func196,ntmps196;go_wp2_with fail;refine N.mono ?_;clear N;rintro e w1 ⟨b3,rfl,s,ai⟩
 obtain⟨h0,c0,_⟩:=ft s;obtain⟨f,l⟩:=mT s;have b4:=f.hy;have b5:=f.hg;have n4:=f.hO;have u:=EY kd (L rl) w1 f;rw[ag.o.1,ag.o.2] at u;have m:aA (∀w' y g ws,At w' a.p a.q a.N a.O y g ws->dl a.p a.q w1 w'->_):=l;have al:aA (_):=ai;clear s f l ai;go_wp2_with fail;refine u.mono ?_;clear u;rintro e b7 ⟨rfl,am,an⟩
 obtain⟨bl,j2,n⟩:=m.o _ _ _ _ am an;have n:=al.o.trans n;have ao:∀(c:Nat->Prop)(w':az),b9 F w c w'->∀i,i<L rl->∃d,p=au d/\V w' (av d i)=OR (ak ((X rl i 0:Nat):Int)):=λc w' t i hi=>by obtain⟨d,e,g1,g2,g3⟩:=ad.o aa;exact⟨d,e,(aS (a:=⟨d,i,O0⟩) (t.fr.block d g2 g1)).trans (g3 i hi)⟩
 have bn:aA (∀(c:Nat->Prop)(w':az),b9 F w c w'->∀i,i<L rl->_):=ao;have ap:=cU j2 n;clear am an j2 n m ad ao al h0 c0;go_wp2_with fail
 go_loopw [33] (λiv wr=>∃(j:Nat)(c:Nat->Prop),j<=L rl/\iv=ak j/\aA ((cD a hp).J c ⟨{b.s with y:=b.s.y+1+L rl,ws:=jP b.s.rs b.s.y (gH a.N b.s.y kd (L rl) b.s.ws) rl j},b.r,b.q⟩ wr/\b9 F w c wr)) (λiv _=>L rl-K (bG iv))
 exact⟨0,bl,a4 _,rfl,ap⟩
 ·
   clear ap;obtain⟨j,c,b8,rfl,k⟩:=hrel;by_cases ar:j<L rl
   ·obtain⟨d,rfl,bo⟩:=bn.o c wr k.o.2 j ar;have aB:=be.o j ar;have aF:aA (jP b.s.rs b.s.y (gH a.N b.s.y kd (L rl) b.s.ws) rl (j+1)=(jP b.s.rs b.s.y (gH a.N b.s.y kd (L rl) b.s.ws) rl j).set (b.s.y+1+j) (X b.s.rs (X rl j 0) 0)):=rfl;generalize X rl j 0=r at*;have bp:aA (∀(v:Nat->Prop)(o:az),(∀i,i<12->V o (av a.nb i)=OR (ak (X b.s.rs i 0))/\o.frozen? (av a.nb i)=D)->_=_):=λ_ _ g=>(g r aB).1;have aR:=(cD a hp).below k.o.1 (aH _ wr).drew;obtain⟨h0,c0,c3,rt,br,lp,lw,ln⟩:=ft k.o.1;obtain⟨r1,_⟩:=rt r aB;obtain⟨f,l⟩:=mT aR;dsimp only at r1 f l;have aV:dB a.N (b.s.y+1+L rl) b.s.g ((b.s.y:Int)+1+j)=C:=jE aa aa;have a0:=mK ((b.s.y:Int)+1+j) (X b.s.rs r 0) wr.drew f;rw[aV,aN rfl,show K ((b.s.y:Int)+1+j)=b.s.y+1+j by omega,<-aF.o] at a0;have m:aA (∀w' y g ws,At w' a.p a.q a.N a.O y g ws->dl a.p a.q wr.drew w'->_):=l;have j0:(0:Int)<=(j:Int):=aa;have ca:(j:Int)<(L rl:Int):=aa;have q0:(0:Int)<=(r:Int):=aa;have q1:(r:Int)<12:=aa;have b6:IntKind.i64.wrap ((b.s.y:Int)+1)=(b.s.y:Int)+1:=by rw[bc];omega
    have bs:IntKind.i64.wrap ((b.s.y:Int)+1+(j:Int))=(b.s.y:Int)+1+j:=by rw[bc];omega
    have bt:aA (_):=k.o.2.below (aH _ wr).drew;clear aR f l rt aV aF br k;generalize X b.s.rs r 0=x at*;go_wp2_with fail
    go_region_held3 (λw'=>V w' (av hp 0)=OR (aq a.pw)/\V w' (av a.pw 0)=OR (aq a.p)/\V w' (av a.pw 3)=OR (Z (au a.nb) 12 12)/\V w' (av a.nb r)=OR (ak x)) (go_keep)
     (first
       |(go_at_call 169;refine a0.mono ?_;rintro e o ⟨rfl,a1,s5⟩;obtain⟨v,d_,a2⟩:=m.o _ _ _ _ a1 s5;have bx:=cU d_ (bt.o.trans a2);obtain⟨g0,g1,g3,bb,_⟩:=ft d_;have b0:=bp.o v o bb;clear a1 s5 d_ a2 bb))
    clear h0 c0 c3 r1 g0 g1 g3 b0 bo b6 bs;go_wp2_with fail;go_roundw
    case rel=>exact⟨j+1,v,aa,aj,bx⟩
    case measure=>simp[bG];omega
   ·obtain rfl:j=L rl:=aa;go_wp2_with fail;refine(uA (b.s.y:Int) wr).mono ?_;rintro e b1 ⟨rfl,B⟩
    have bd:aA ((cD a hp).J c bi b1/\_):=⟨by rw[bg.o];exact(cD a hp).below k.o.1 B,k.o.2.below B⟩
    clear B k;go_wp2_with fail;go_ret2;exact⟨c,rfl,bd.o.1,bd.o.2⟩
theorem I7 (kd cd:Int)(n:Nat)(f:Option bB)(cap:Nat)(c:cv)(hn:n<=12)(hc:cd≠0)
 (g:M prog 278 #[aq hp,ak (1+n)] w λe w'=>∃b,e=Q (ak cd)/\(cD a hp).J b c w'/\b9 F w b w'):
 M prog 196 #[aq hp,ak kd,Z f n cap] w λe w'=>∃b,e=Q (ay #[ak 0,ak cd])/\(cD a hp).J b c w'/\b9 F w b w':=by
 go_enter func196,ntmps196;go_wp2_with fail;refine g.mono ?_;rintro e w1 ⟨i,rfl,j,k⟩
 have d:=cU j k;go_wp2;go_ret2;exact⟨i,rfl,d.o.1,d.o.2⟩
theorem q6 (h:(cD a hp).J F S w)(kd:Int)(rl:List Nat)(b:Option bB)(cap:Nat)(hq:L S.q+L S.r<=90000)(k:S.gD a=D->∃G,je (S.k5 a) (S.d_ a) G/\G 0 (S.k5 a,0))(hk:hc kd (L rl)=0)
 (hv:0<L rl->∃d,b=au d/\¬F d/\d<w.heap.size/\∀i,i<L rl->V w (av d i)=OR (ak ((X rl i 0:Nat):Int)))(hr:∀i,i<L rl->X rl i 0<12)
 (room:(S.room a (1+L rl)).1=0->(S.room a (1+L rl)).2.s.y+1+L rl<=a.N):
 M prog 196 #[aq hp,ak kd,Z b (L rl) cap] w λe w'=>∃g,e=Q (ay #[ak (S.grow a kd rl).1,ak (S.grow a kd rl).2.1])/\(cD a hp).J g (S.grow a kd rl).2.2 w'/\b9 F w g w':=by
 have j:L rl<=12:=by have:=jK kd (L rl) hk;omega
 have f:=I5 h (1+L rl) hq k;unfold cv.grow;by_cases c:(S.room a (1+L rl)).1=0
 ·rw[aN c];rw[c] at f;exact I6 kd rl b cap _ j hk (room c) hv hr h f
 ·rw[aJ c];exact I7 kd _ (L rl) b cap _ j c f
theorem I8 (h:(cD a hp).J F S w)(k:Int)(R:Nat)(A B I n:Int)(W:R<12)(hc:dY k R A B n=0)(k1:k≠9)(k2:k≠12)(k3:k≠15)(k4:k≠16)(v:Int)(f:cv)
 (ab:∀g w',(cD a hp).J g S w'->M prog 130 #[aq hp,dJ k R A B I n] w' λe p=>∃l,e=Q (ay #[ak v,ak 0])/\(cD a hp).J l f p/\b9 g w' l p):
 M prog 93 #[aq hp,dJ k R A B I n] w λe w'=>∃g,e=Q (ak 0)/\(cD a hp).J g ⟨{f.s with rs:=f.s.rs.set R v},f.r,f.q⟩ w'/\b9 F w g w':=by
 have q:=aw w (cA k R A B I n)
 have ad:=aO w (E #[U OW k,U OW (R:Int),U OW A,U OW B,U OW I,U OW n] 105)
 have s:=ky k R A B I n (w.alloc (cA k R A B I n))
 rw[hc] at s;have ag:=cg (ft h).ln;have c:=jm ((cD a hp).below h q) q ad ((cD a hp).lt h)
 have ai:=cg ab;go_enter func93,ntmps93;go_wp2_with fail;generalize w.alloc (cA k R A B I n)=w0 at*;generalize al:w.heap.size=i at*;refine s.mono ?_;rintro e w1 ⟨rfl,m⟩
 have b:=jm ((cD a hp).below c.o.1 m) (c.o.2.1.trans (m.mono (by have:=cj c.o.2.2.1;omega))) ((m.block i (cj c.o.2.2.1)).trans c.o.2.2.1) c.o.2.2.2;obtain⟨q0,q1,am,q3,an,ao⟩:=dZ b.o.2.2.1;go_wp2_with fail;refine(ai.o F w1 b.o.1).mono ?_;rintro e t ⟨l,rfl,j,o⟩
 have u:=(o.fr.block i (cj b.o.2.2.1) (λd=>by have:=b.o.2.2.2 i d;omega)).trans b.o.2.2.1;obtain⟨u0,ar,_⟩:=dZ u;obtain⟨h0,c0,c3,rt,rl,lp,lw,ln⟩:=ft j;obtain⟨r1,aB⟩:=rt R W;have aF:(R:Int)<12:=aa;have lx:=cj u;have nx:a.nb≠i:=by have:=ag.o;omega
 obtain⟨n1,aR⟩:=Hi j;have x:=cU ((cD a hp).below j (aH _ t).drew) (((b9.of (by rw[al];exact b.o.2.1)).trans o).below (aH _ t).drew)
 clear rt j o b q0 q1 am q3 an ao;go_wp2_with fail
 go_region_held3 (λw'=>V w' (av hp 0)=OR (aq a.pw)/\V w' (av a.pw 3)=OR (Z (au a.nb) 12 12)/\V w' (av i 1)=OR (ak (R:Int))) (go_keep) (fail)
 obtain⟨ap,cI,t3⟩:=Hh x.o.1 R v;have N:=cU cI (x.o.2.trans t3)
 go_wp2_with fail;go_ret;exact⟨rfl,ap,N.o.1,N.o.2⟩
end
open Go.RowKit W
theorem I9 (c:Nat)(hc:c<=12)(w:az):M J 222 #[U rT 1,U rT c] w λe w'=>e=Q (ay #[U rT 0,U rT c])/\w'=w:=by exact Bg
theorem Br (c:Nat)(hc:c<=12)(w:az):M J 157 #[U rT 1,U rT c] w λe w'=>e=Q (ay #[U rT 0,U rT c])/\w'=w:=by have P:=I9 c hc w;exact Bh
def gK (c:Nat)(v:Int)(n:Nat):List Int:=aZ n v++aZ (c-n) 0
theorem wA (c:Nat)(v:Int)(n:Nat)(h:n<=c):L (gK c v n)=c:=by simp[gK];omega
theorem I_ (c:Nat)(v:Int)(n m:Nat)(h:n+m<=c):splice (gK c v n) n (aZ m v)=gK c v (n+m):=by unfold splice gK;rw[List.take_left' ac,ji,List.drop_append,ji];simp only [List.drop_replicate];rw[show n-(n+m)=0 by omega,show c-n-(n+m-n)=c-(n+m) by omega];simp;rw[<-bf,List.replicate_append_replicate]
theorem Ja (c:Nat)(v:Int)(n i:Nat)(h:i<n):X (gK c v n) i 0=v:=by unfold gK;rw[aM,List.getElem?_append_left (by simpa using h)];simp[h]
theorem Jb {c:Nat}{w:az}{nb n:Nat}{v:Int}(hr:w.heap[nb]?=OR (E ((gK c v n).map (Value.int OW)).toArray 3 (0,0)))(hn:n<=c)(m:Nat)(hm:m<=n):∀j u,((aZ m v).map (Value.int OW))[j]?=OR u->V w ((⟨nb,0,O0⟩:bB).add j)=OR u:=by
 intro j u hj;have b:j<m:=by exact si
 have d:u=ak v:=by simp[b] at hj;exact hj.symm
 have hl:=wA c v n hn;have hg:=Ja c v n j aa;rw[aM,aP (by omega:j<L (gK c v n))] at hg;simp at hg;have ea:(⟨nb,0,O0⟩:bB).add j=⟨nb,j,O0⟩:=by simp[Addr.add];intro h;exact h.symm
 rw[ea,d];have e:j<L (gK c v n):=aa;simp[World.cell?,hr,List.getElem?_eq_getElem e];exact hg
theorem Bt {c:Nat}{w w':az}{nb n m B:Nat}{v:Int}(b:mL w w' nb ((gK c v n).map (Value.int OW)) n ((aZ m v).map (Value.int OW)))(hr:w.heap[nb]?=OR (E ((gK c v n).map (Value.int OW)).toArray 3 (0,0)))(hm:0<m)(h:n+m<=c)(hB:B<=nb):w'.heap[nb]?=OR (E ((gK c v (n+m)).map (Value.int OW)).toArray 3 (0,0))/\O B w w':=by
 rcases b with⟨h0,_⟩|rfl
 ·have:=congrArg L h0;simp at this
  omega
 ·rw[uJ,I_ c v n m h];exact⟨setRow_heap w nb _ _ _ _ hr,⟨rfl,rfl,rfl,by simp[World.setRow],λk hk=>setRow_other w nb k _ aa⟩⟩
theorem Bu:(prog.info? 3).map (λi=>(i.zero,i.size,i.bytes))=OR (OR (ak 0),1,8):=ah
theorem wB:(prog.info? 3).map (·.size)=OR 1:=ah
theorem Bv {w:az}{b k n:Nat}(h:w.ownsRow b 3 1 (Z (au k) n n) n (madeCells (Value.int OW 0).cells (n*1)).toList):
 w.heap[k]?=OR (E ((aZ n (0:Int)).map (Value.int OW)).toArray 3 (0,0)):=by
 exact xZ
theorem Jd (w:az)(b c:Nat)(v:Int)(h0:0<c)(ao:c<=12)(hc:V w (av b 0)=OR (ak v)):
 M J 197 #[Z (au b) 1 1,ak c] w λe w'=>∃nb,e=Q (Z (au nb) c c)/\I (G w)<=nb/\w'.heap[nb]?=OR (E ((aZ c v).map (Value.int OW)).toArray 3 (0,0))/\O (I (G w)) w w':=by
 obtain⟨s,hi,ap,ar,aB⟩:=bM Bu;have lb:=aT w _ hc;dsimp only at lb;have t:=Br c ao w;have aF:aA (gK c v c=aZ c v):=by show _=_;simp[gK]
 have c0:(0:Int)<(c:Int):=aa;have c1:(c:Int)<=12:=aa;go_enter func197,ntmps197;go_wp2_with fail;refine t.mono ?_;clear t;rintro e w0 ⟨rfl,hw⟩
 have hw:=hw.symm;subst hw
 go_upto_region 7 with(at_make;refine wpList_make_full _ rfl _ _ 136 rfl (I (G w)) 3 s (ak 0) 1 underlying136 hi ap ar OW OW _ _ c rfl rfl aa aa (by rw[aB];omega) (by unfold bL;omega) bY ?_;intro w1 x F)
 have hr:w1.heap[I (G w)]?=OR (E ((gK c v 0).map (Value.int OW)).toArray 3 (0,0)):=by have aR:=Bv x;simpa[gK] using aR
 have k:O (I (G w)) w w1:=(aH _ w).grown F bY (λ_ h=>by cases h)
 have N:=(k.cell (p:=av b 0) lb).trans hc;clear x F;have d:aA (∀j u,((aZ 1 v).map (Value.int OW))[j]?=OR u->V w1 ((⟨b,0,O0⟩:bB).add j)=OR u):=one_cell N;have l:aA (w1.heap[I (G w)]?=OR (E ((gK c v 0).map (Value.int OW)).toArray 3 (0,0))):=hr;have f:aA (L ((aZ 1 v).map (Value.int OW))=l8 1 c):=by show _=_;simp only [List.length_map,ji,sw];split<;>omega
 have g:aA (0+L ((aZ 1 v).map (Value.int OW))<=L ((gK c v 0).map (Value.int OW))):=by show _<=_;rw[a5,a5,wA c v 0 aa];simp;omega
 clear N hr;go_wp2_with (refine vz rfl _ _ 136 136 3 rfl underlying136 wB (au (I (G w))) (au b) c c 1 1 rfl rfl (I (G w)) 0 ((gK c v 0).map (Value.int OW)) 3 l.o ((aZ 1 v).map (Value.int OW)) f.o (λ_=>⟨rfl,_,rfl,d.o⟩) g.o (qu _) ?_;intro bd S)
 obtain⟨W,ab⟩:=Bt (B:=I (G w)) S l.o aa aa bY
 have ad:=k.trans ab;clear S d l f g k ab
 go_loopw [8] (λnv wr=>∃n:Nat,1<=n/\n<=c/\nv=ak n/\aA (wr.heap[I (G w)]?=OR (E ((gK c v n).map (Value.int OW)).toArray 3 (0,0)))/\O (I (G w)) w wr) (λnv _=>c-K (bG nv))
 case atStart=>exact⟨1,aG _,aa,rfl,W,ad⟩
 case round=>
  clear W ad;obtain⟨n,n1,ag,rfl,o,hb⟩:=hrel;by_cases be:n<c
  ·obtain⟨m,hm,aV,q,a0⟩:∃m,m=l8 n (c-n)/\0<m/\n+m<=c/\m<=n:=⟨_,rfl,by simp only [sw];split<;>omega,by simp only [sw];split<;>omega,by simp only [sw];split<;>omega⟩
   have i:aA (wr.drew.heap[I (G w)]?=OR (E ((gK c v n).map (Value.int OW)).toArray 3 (0,0))):=o.o;have d:aA (∀j u,((aZ m v).map (Value.int OW))[j]?=OR u->V wr.drew ((⟨I (G w),0,O0⟩:bB).add j)=OR u):=Jb i.o ag m a0;have f:aA (L ((aZ m v).map (Value.int OW))=l8 n (c-n)):=by show _=_;rw[<-hm];simp
   have g:aA (n+L ((aZ m v).map (Value.int OW))<=L ((gK c v n).map (Value.int OW))):=by show _<=_;rw[a5,a5,wA c v n ag];simpa using q
   have bg:¬c=n:=aa;have s:(0:Int)<=(n:Int):=aa;have bi:(n:Int)<=(c:Int):=aa;have bl:(n:Int)<(c:Int):=aa;clear o;go_wp2_with fail
   go_region_law (refine rR rfl (.tmp 41) (.tmp 44) 136 136 3 rfl underlying136 wB (OR ⟨I (G w),n,O0⟩) (au (I (G w))) (c-n) (c-n) n c ?_ ?_ (I (G w)) n ((gK c v n).map (Value.int OW)) 3 i.o ((aZ m v).map (Value.int OW)) f.o (λ_=>⟨rfl,_,rfl,d.o⟩) g.o (qu _) ?_;(simp[Act.eval,Act.put]);(simp[Act.eval,Act.put]);intro a1 ai)
   obtain⟨al,am⟩:=Bt (B:=I (G w)) ai i.o aV q bY
   have a2:aA (a1.heap[I (G w)]?=OR (E ((gK c v (n+m)).map (Value.int OW)).toArray 3 (0,0))):=al;have bb:=hb.drew.trans am;have hw:IntKind.i64.wrap ((n:Int)+(m:Int))=((n+m:Nat):Int):=by rw[bc];omega
   clear al am ai i d f g hb;simp[Act.put,go_sem,Exit.inBlock];rw[<-hm,hw];refine⟨⟨_,_,_,_,_,_,_,_,_,_,_,_,_,_,?rel,rfl⟩,?measure⟩
   case rel=>exact⟨n+m,aa,q,rfl,a2,bb⟩
   case measure=>simp[bG];omega
  ·obtain rfl:n=c:=aa;have an:=o.o;rw[aF.o] at an;go_wp2_with fail;go_ret;exact⟨I (G w),rfl,aG _,an,hb⟩
theorem Je (w:az)(b:Nat)(v:Int):
 M J 197 #[Z (au b) 1 1,ak 0] w λe w'=>∃nb,e=Q (Z (au nb) 0 0)/\O (I (G w)) w w':=by
 obtain⟨m,hi,n,o,p⟩:=bM Bu;have d:=Br 0 aa w;go_enter func197,ntmps197;go_wp2_with fail;refine d.mono ?_;clear d;rintro e w0 ⟨rfl,hw⟩
 have hw:=hw.symm;subst hw
 go_upto_region 7 with(at_make;refine wpList_make_full _ rfl _ _ 136 rfl (I (G w)) 3 m (ak 0) 1 underlying136 hi n o OW OW _ _ 0 rfl rfl aa aa (by rw[p];omega) (by unfold bL;omega) bY ?_;intro w1 f g)
 have c:O (I (G w)) w w1:=(aH _ w).grown g bY (λ_ h=>by cases h)
 have i:aA (w1.heap[I (G w)]?=OR (E ((gK 0 v 0).map (Value.int OW)).toArray 3 (0,0))):=by have q:=Bv f;show _=_;simpa[gK] using q
 clear f g;go_wp2_with (refine vz rfl _ _ 136 136 3 rfl underlying136 wB (au (I (G w))) (au b) 0 0 1 1 rfl rfl (I (G w)) 0 ((gK 0 v 0).map (Value.int OW)) 3 i.o [] rfl (λh=>absurd h ae) ac (λ_ h=>by cases h) ?_;intro s j)
 have l:O (I (G w)) w s:=by
  rcases j with⟨_,e⟩|e
  ·rw[e];exact c
  ·rw[e];exact c.trans ⟨rfl,rfl,rfl,by simp[World.setRow],λk hk=>setRow_other w1 (I (G w)) k _ aa⟩
 clear j i c
 go_loopw [8] (λnv wr=>nv=ak 0/\O (I (G w)) w wr) (λ_ _=>0)
 case atStart=>exact⟨rfl,l⟩
 case round=>
  clear l;obtain⟨rfl,hb⟩:=hrel;go_wp2_with fail;go_ret;exact⟨I (G w),rfl,hb⟩
structure ed (a:Wc)(S:cv)(j:Nat):Prop where
 kv:∃Y G,eA a S.s Y G
 eo:kD a S
 m:L S.s.M<=j
 mA:L S.r+L S.q<=24
def pK (a:Wc)(S:cv)(v:Int):Prop:=di v=C->tB a.N S.s.y S.s.g S.s.ws v=C
section
variable {a:Wc}{S:cv}{j:Nat}
theorem ed.start (a:Wc)(n o:Nat):ed a (jv n o).1 0:=by
 refine⟨⟨[],[],⟨ey.start,λx b ha=>?_,λv hv=>?_⟩,λv hv=>(by grind)⟩,λe he=>?_,aG _,(show(0:Nat)<=24 by decide)⟩
 ·have b:x∈tw 2 12:=b
  simp_all [A_,tw]
 ·grind
 ·rcases he with d|d<;>cases d
theorem ed.mono {i:Nat}(h:ed a S j)(hi:j<=i):ed a S i:=⟨h.kv,h.eo,aQ h.m hi,h.mA⟩
theorem ed.cut (h:ed a S j)(hb:cL a S.s):ed a (S.cut a) j/\cL a (S.cut a).s:=by
 obtain⟨Y,G,hk⟩:=h.kv;have l1:=Ix a S;have l2:=h.mA;refine⟨⟨hk.cut hb,h.eo.cut hk hb,?_,aa⟩,hk.IV hb⟩
 have:=h.m;unfold cv.cut
 grind
theorem ed.dR (h:ed a S j)(hb:cL a S.s):ed a (S.dR a) j/\cL a (S.dR a).s:=by obtain⟨Y,G,hk⟩:=h.kv;obtain⟨_,g2,g3⟩:=hk.dR hb;have l1:=IR a S;have l2:=h.mA;have b:=h.m;exact⟨⟨g2,h.eo.dR hk hb,aa,aa⟩,hk.IW hb⟩
theorem ed.sI (h:ed a S j)(hb:cL a S.s):S.gD a=D->∃F,je (S.k5 a) (S.d_ a) F/\F 0 (S.k5 a,0):=by grind [kv,eA.dR]
theorem Bw (h:S.code a≠0):S.cut a=S:=by grind [cv.code,cv.cut]
theorem Bx (h:S.jf a≠0):S.dR a=S:=by grind [cv.jf,cv.dR]
theorem Jf (h:S.code a=0):(S.cut a).s.y=0:=by grind [cv.code,cv.cut]
theorem Jg {Y G:List Int}(hk:eA a S.s Y G)(hb:cL a S.s)(h:S.jf a=0):(S.dR a).s.y=0:=by
 have b:S.gD a=D:=by grind [cv.jf]
 obtain⟨_,g,_⟩:=nE hk hb b;exact g.gc.y
theorem ed.room (h:ed a S j)(hb:cL a S.s)(m:Int):ed a (S.room a m).2 j/\cL a (S.room a m).2.s/\((S.room a m).1=0->m<=16->m<=(a.N:Int)-(S.room a m).2.s.y)/\((S.room a m).1≠0->(S.room a m).2=S):=by grind [kv,cL.n0,dR,Jg,Bx,cut,Jf,Bw,cv.room]
theorem ed.put (h:ed a S j)(hb:cL a S.s){kd:Int}{rl:List Nat}(hk:hc kd (L rl)=0)(hr:S.s.y+1+L rl<=a.N):ed a (S.put a kd rl) j/\cL a (S.put a kd rl).s/\pK a (S.put a kd rl) (ew 3 S.s.y):=by
 obtain⟨Y,G,kv⟩:=h.kv;have p:=wy kv hb hk hr (L rl) aa;have b:cL a (S.put a kd rl).s:=⟨hb.n0,hb.n1,hb.o1,hr,hb.g1,p.l,hb.r1⟩
 have n1:=hb.n1;have y1:=hb.y1;refine⟨⟨⟨_,_,p.k⟩,?_,h.m,h.mA⟩,b,λ_=>?_⟩
 ·exact h.eo.more kv hb p.k.inv.full (by assumption) b.g1 (by grind)
 ·obtain⟨c,d⟩:=oy S.s.y aa;exact(jS p.k.inv.full (by assumption) (by assumption) b.o1 b.g1).2 (by grind)
theorem ed.grow (h:ed a S j)(hb:cL a S.s){kd:Int}{rl:List Nat}(hk:hc kd (L rl)=0):ed a (S.grow a kd rl).2.2 j/\cL a (S.grow a kd rl).2.2.s/\((S.grow a kd rl).2.1=0->pK a (S.grow a kd rl).2.2 (S.grow a kd rl).1)/\((S.grow a kd rl).2.1≠0->(S.grow a kd rl).2.2=S):=by
 obtain⟨b,d,e,f⟩:=h.room hb _;have hl:=jK kd (L rl) hk;unfold cv.grow;split
 ·rename_i c;obtain⟨g,i,k⟩:=b.put d hk (by have:=e c aa;omega)
  grind
 grind
theorem ed.root (h:ed a S j)(hb:cL a S.s)(i:Nat):pK a S (X S.s.rs i 0):=λha=>by obtain⟨Y,G,kv⟩:=h.kv;exact(jS kv.inv.full hb.n1 hb.y1 hb.o1 hb.g1).2 (by grind [eA.any])
theorem sX {n:Int}(h:vc 1 n=0):pK a S (ew 1 n):=λha=>by grind [o4]
theorem ed.rt (h:ed a S j)(hb:cL a S.s){k n:Int}(A B:Nat)(I:Int)(hk:iS k n=0):ed a (S.rt a k A B I n).2.2 j/\cL a (S.rt a k A B I n).2.2.s/\((S.rt a k A B I n).2.1=0->pK a (S.rt a k A B I n).2.2 (S.rt a k A B I n).1)/\((S.rt a k A B I n).2.1≠0->(S.rt a k A B I n).2.2=S):=by
 unfold cv.rt;by_cases b:k=1
 ·rw[aN b];exact⟨h,hb,λq=>sX q,λ_=>rfl⟩
 rw[aJ b];by_cases f:k=3
 ·rw[aN f];exact⟨h,hb,λ_=>h.root hb A,λ_=>rfl⟩
 rw[aJ f];by_cases g:k=4
 ·rw[aN g];exact h.grow hb rfl
 rw[aJ g];by_cases c:k=5
 ·rw[aN c];refine h.grow hb ?_;unfold iS at hk;rw[aJ b,aN c] at hk;have:=jK 2 n hk;rw[ji,show((K n:Nat):Int)=n by omega];exact hk
 rw[aJ c];by_cases i:k=6
 ·rw[aN i];exact h.grow hb rfl
 rw[aJ i];by_cases l:k=7
 ·rw[aN l];exact h.grow hb rfl
 rw[aJ l];by_cases m:k=8
 ·rw[aN m];exact h.grow hb rfl
 rw[aJ m];by_cases o:k=10
 ·rw[aN o];unfold cv.pop;generalize X S.s.rs A 0=x;split
  ·split
   ·rename_i hi;have v:X S.q (eh x S.q) (0,0)∈S.q:=by simp_all
    have sub:∀e,e∈S.q.take (eh x S.q)++S.q.drop (eh x S.q+1)->e∈S.q:=λe he=>by
     rcases bw.1 he with d|d
     ·exact List.mem_of_mem_take d
     ·exact List.mem_of_mem_drop d
    refine⟨⟨h.kv,λe he=>h.eo e (he.imp id (sub e)),h.m,?_⟩,hb,λ_ _=>(h.eo _ (aI v)).2,λq=>absurd rfl q⟩
    have:=h.mA;dsimp only;rw[aX,j3,mh];omega
   ·simp_all
  ·simp_all
 rw[aJ o];by_cases p:k=11
 ·rw[aN p];refine⟨h,hb,λq ha=>?_,λ_=>rfl⟩
  have q:=q;rw[aN q] at ha⊢;obtain⟨Y,G,kv⟩:=h.kv;obtain⟨w,F,t3,s⟩:=ox q;obtain⟨_,hv⟩:=(jS kv.inv.full hb.n1 hb.y1 hb.o1 hb.g1).1 w;rw[kv.inv.full.mN hb.y1 hv] at s;exact(jS kv.inv.full hb.n1 hb.y1 hb.o1 hb.g1).2 ⟨ha,kv.inv.fd _ hv I t3 s ha⟩
 rw[aJ p];by_cases t:k=13
 ·rw[aN t];unfold cv.len;split
  ·exact⟨h,hb,λq=>sX q,λ_=>rfl⟩
  ·simp_all
 rw[aJ t];by_cases u:k=14
 ·rw[aN u];refine⟨h,hb,λ_=>?_,λ_=>rfl⟩
  dsimp only;split
  ·exact sX ae
  ·exact sX ae
 rw[aJ u];exact⟨h,hb,λ_ ha=>by assumption,λ_=>rfl⟩
theorem ed.st (h:ed a S j)(hb:cL a S.s){R:Nat}{x:Int}(b:pK a S x):ed a (S.st R x) j/\cL a (S.st R x).s:=by
 obtain⟨Y,G,kv⟩:=h.kv;refine⟨⟨⟨Y,G,kv.root R x (λha=>(jS kv.inv.full hb.n1 hb.y1 hb.o1 hb.g1).1 (b ha) |>.2)⟩,λe he=>h.eo e he,h.m,h.mA⟩,⟨hb.n0,hb.n1,hb.o1,hb.y1,hb.g1,hb.l1,?_⟩⟩
 show L (S.s.rs.set R x)=12
 grind [cL.r1]
theorem ed.set (h:ed a S j)(hb:cL a S.s)(A B:Nat)(I:Int):ed a (S.set a (X S.s.rs A 0) I (X S.s.rs B 0)) (j+1)/\cL a (S.set a (X S.s.rs A 0) I (X S.s.rs B 0)).s:=by
 obtain⟨Y,G,kv⟩:=h.kv;refine⟨⟨⟨Y,G,?_,mr.set kv.inv kv.cd hb.l1 hb.n1 hb.y1 hb.o1 hb.g1 _ _ _⟩,?_,?_,h.mA⟩,⟨hb.n0,hb.n1,hb.o1,hb.y1,hb.g1,?_,hb.r1⟩⟩
 ·show i8 a.N S.s.y S.s.g (hI a.N S.s.y S.s.g S.s.ws (X S.s.rs A 0) I (X S.s.rs B 0)) Y G S.s.rs;by_cases b:eV a.N S.s.y S.s.g S.s.ws (X S.s.rs A 0) I=0
  ·obtain⟨e,f,t3,d⟩:=ox b;obtain⟨_,hv⟩:=(jS kv.inv.full hb.n1 hb.y1 hb.o1 hb.g1).1 e;rw[kv.inv.full.mN hb.y1 hv] at d;unfold hI;rw[aN b,aN (lK kv.inv.full hv t3 d)];exact kv.inv.set hb.l1 hb.y1 hb.g1 hv t3 d (by grind [eA.any])
  ·rw[(pG (M:=S.s.M) (c:=dT a.O) b).1];exact kv.inv
 ·exact h.eo.more kv hb (kv.inv.full.hI hb.l1 hb.n1 hb.y1 hb.o1 hb.g1 (X S.s.rs A 0) I (X S.s.rs B 0)) hb.y1 hb.g1 (by grind)
 ·have:=h.m;have:=Iv (N:=a.N) (y:=S.s.y) (g:=S.s.g) (ws:=S.s.ws) (X S.s.rs A 0) I (X S.s.rs B 0) (dT a.O) S.s.M;show L (stM a.N S.s.y S.s.g S.s.ws _ I _ (dT a.O) S.s.M)<=j+1;omega
 ·show L (hI a.N S.s.y S.s.g S.s.ws _ I _)=a.N+a.O
  grind [cL.l1,hI]
theorem Jh {x i z:Int}(h:eV a.N S.s.y S.s.g S.s.ws x i≠0):S.set a x i z=S:=by unfold cv.set;rw[(pG (M:=S.s.M) (c:=dT a.O) h).1,(pG h).2]
theorem Ji {x:Int}(h:S.ex a x=0):tB a.N S.s.y S.s.g S.s.ws x=C:=by grind [cv.ex]
theorem Jj {x:Int}(h:S.kx a x=5):tB a.N S.s.y S.s.g S.s.ws x=C:=by grind [cv.kx]
theorem ed.reg (h:ed a S j)(hb:cL a S.s)(t g:Int):ed a (S.reg a t g).2 j/\cL a (S.reg a t g).2.s/\((S.reg a t g).1≠0->(S.reg a t g).2=S):=by
 unfold cv.reg;split
 ·rename_i c1;split
  ·rename_i c2;split
   ·grind
   ·rename_i c3;refine⟨⟨h.kv,λe he=>?_,h.m,?_⟩,hb,λq=>aa⟩
    ·rcases he with d|d
     ·rcases bw.1 d with d|d
      ·exact h.eo e (by grind)
      grind [Jj,Ji]
     ·exact h.eo e (by grind)
    grind
  grind
 grind
theorem By {k R A B n:Int}(h:dY k R A B n=0):iS k n=0:=by grind [dY]
theorem ed.hd (h:ed a S j)(hb:cL a S.s)(k R A B I n:Int):ed a (S.hd a k R A B I n).2 (j+1)/\cL a (S.hd a k R A B I n).2.s/\((S.hd a k R A B I n).1≠0->(S.hd a k R A B I n).2=S):=by
 unfold cv.hd;split
 ·rename_i hc;split
  ·grind [reg,mono]
  grind [rt,By,mono,st,dR,Bx,cut,Bw,set,Jh]
 grind [mono]
end
end Go.Proofs.YtjckpdepffejnaaGreatDoor
