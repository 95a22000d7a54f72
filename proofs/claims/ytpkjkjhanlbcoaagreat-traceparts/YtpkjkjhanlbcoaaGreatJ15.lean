import Derived.Test.YtpkjkjhanlbcoaaGreatJ14
namespace Go.Proofs.YtpkjkjhanlbcoaaGreat
set_option maxRecDepth 100000
set_option maxHeartbeats 4000000
open Tryz
open Go.RowKit W Kp ck
theorem re {P:Prop}(h:P:=by
 go_enter func57,ntmps57;go_wp2_with fail;refine P.mono ?_;rintro e w2 ⟨F2,rfl,um,T2⟩
 have HF:=c7 um ((cg.of HB.o).trans T2)
 go_wp2_with fail;go_ret2;exact⟨F2,rfl,HF.o.1,HF.o.2⟩):P:=h
theorem nu {P:Prop}(h:P:=by go_wp2_with fail;go_ret;exact⟨F2,rfl,HF.o.1,HF.o.2⟩):P:=h
theorem zW {P:Prop}(h:P:=by
 rcases(show c=0\/c=1\/c=2\/c=3\/c=4\/c=5\/c=6\/c=7\/c=8\/c=9\/c=10\/c=11\/c=12 by omega) with rfl|rfl|rfl|rfl|rfl|rfl|rfl|rfl|rfl|rfl|rfl|rfl|rfl<;>
 (go_enter func223,ntmps223
  go_wp2_with fail;go_ret2;exact⟨rfl,rfl⟩)):P:=h
theorem zX {P:Prop}(h:P:=by
 go_enter func167,ntmps167;go_wp2_with fail;refine P.mono ?_;rintro e w1 ⟨rfl,hw⟩
 have hw:=hw.symm;subst hw;go_wp2_with fail;go_ret2;exact⟨rfl,rfl⟩):P:=h
theorem zY {P:Prop}(h:P:=by
 go_enter func127,ntmps127;go_wp2_with fail;refine P.mono ?_;rintro e w1 ⟨rfl,hb⟩
 go_wp2;go_ret2;exact⟨rfl,hb⟩):P:=h
section
variable {a:Wc}{hp:Nat}{F:Nat->Prop}{S:cv}{w:az}
theorem un (h:(cA a hp).J F S w)(x:Int):
 Calls prog 48 #[aq a.pw,ak x] w fun e w'=>e=.returned (.tuple #[ak (S.kx a x),ak (S.fx a x),ak (S.ex a x)])/\Below w.heap.size w w':=
 Dg x w (fe h).c0 (lJ h).1
theorem zZ (h:(cA a hp).J F S w)(x:Int):
 Calls prog 121 #[aq hp,ak x] w fun e w'=>e=.returned (.bool (S.kx a x==5))/\Below w.heap.size w w':=by
 have P:=un h x;obtain⟨h0,_⟩:=fe h;go_enter func121,ntmps121;exact tu
theorem G5 {q:List ce}{g:Int}{i:Nat}(hi:i<q.length)(b:(q.getD i (0,0)).1=g)(c:∀e∈q.take i,¬e.1=g):dV g q=i:=by
 refine(List.findIdx_eq hi).2 ⟨?_,fun j d=>?_⟩
 ·rw[aJ,aN hi] at b;simpa using b
 ·have:=c (q[j]'aa) (by rw[List.mem_take_iff_getElem];exact⟨j,aa,rfl⟩)
  simpa using this
theorem G6 (h:(fW a).J F S w)(g:Int)(hq:S.q.length<=90000):
 Calls prog 194 #[aq a.sd,ak g] w fun e w'=>∃m,e=.returned (.tuple #[ak (if dV g S.q<S.q.length then(S.q.getD (dV g S.q) (0,0)).2 else 0),.bool (decide (dV g S.q<S.q.length))])/\(fW a).J m (if dV g S.q<S.q.length then⟨S.s,S.r,S.q.take (dV g S.q)++S.q.drop (dV g S.q+1)⟩ else S) w'/\cg F w m w':=by
 have q:=h;obtain⟨n,ar,f,⟨s,ad,cap,j,t,u,v,o,p,ab,x⟩,r0,r1,k⟩:=h;refine(zV w a.sd ar ad f cap S.r S.q g ⟨t,r0,u⟩ hq).mono ?_;rintro e w' (⟨rfl,hn,hb⟩|⟨i,b1,c1,rfl,hi,g1,g2,hs,B,fr⟩)
 ·have l:¬dV g S.q<S.q.length:=fun c=>by
   unfold dV at c;have:=List.findIdx_getElem (w:=c)
   exact hn _ (a8 c) (by simpa using this)
  rw[aI l,aI l,bB l];exact⟨F,rfl,(fW a).below q hb,cg.of hb⟩
 ·rw[(G5 hi g1 g2),aK hi,aK hi,bm hi];have nq:∀b,some b=(Value.slice b1 (S.q.take i++S.q.drop (i+1)).length c1).ownBlock->w.heap.size<=b:=fun b e=>by
   cases b1 with
   |none=>simp[Value.ownBlock] at e
   |some z=>
    simp[Value.ownBlock] at e;rw[e];exact B z rfl
  refine⟨fun b=>(n b\/some b=(Value.slice b1 _ c1).ownBlock)\/some b=(Value.slice ar S.r.length f).ownBlock,rfl,⟨fun b=>n b\/some b=(Value.slice b1 _ c1).ownBlock,ar,f,⟨s,b1,c1,(ed a).keep j fr.size (fun b d=>fr.block b ((ed a).lt j b d) (fun e=>p (by have e:=e;rw[<-e];exact d))),hs.blk,hs.q0,fun b d=>aM (v b d),aM o,p,fun b e=>⟨aL e,fun d=>by have N:=(ed a).lt j b d;have W:=nq b e;omega⟩,fun b d=>?_⟩,hs.r0,fun b e d=>?_,fun b=>Iff.rfl⟩,⟨fr.mono (fun b d=>(k b).2 (aM (by have d:=d;rw[d];exact o))),fun b d=>?_⟩⟩
  ·rcases d with d|d
   ·exact aO (x b d) fr.size
   ·exact(cu hs.q0 b d).2
  ·rcases d with d|d
   ·exact r1 b e d
   ·have N:=(cu r0 b e).2;have W:=nq b d;omega
  ·rcases d with(d|d)|d
   ·exact aM ((k b).2 (aM d))
   ·exact aL (nq b d)
   ·exact aM ((k b).2 (aL d))
theorem G7 (x y:Int)(w:az):
 Calls prog 127 #[ak x,ak y] w fun e w'=>e=.returned (.tuple #[ak (if x=y then ew 1 1 else ew 1 0),ak 0])/\Below w.heap.size w w':=by
 by_cases e:x=y
 ·subst e;rw[aK rfl];have P:=pd 1 w;rw[show vc 1 1=0 by decide] at P;exact zY
 ·have P:=pd 0 w;exact zY
theorem G8 (h:(cA a hp).J F S w)(x:Int):
 Calls prog 126 #[aq hp,ak x] w fun e w'=>e=.returned (.tuple #[ak (S.len a x).1,ak (S.len a x).2.1])/\Below w.heap.size w w':=by
 have P:=un h x;obtain⟨h0,_⟩:=fe h;unfold cv.len;generalize S.kx a x=k at*;generalize S.fx a x=f at*;generalize S.ex a x=c at*;by_cases hc:c=0
 ·subst hc;by_cases hk:k=5
  ·subst hk;rw[aI ac];go_enter func126,ntmps126;exact sG
  ·rw[aK ⟨rfl,hk⟩];have b:=fun w=>pd f w;generalize ew 1 f=v at*;generalize vc 1 f=u at*;go_enter func126,ntmps126;go_wp2_with fail;refine P.mono ?_;rintro e w1 ⟨rfl,hb1⟩
   go_wp2_with fail;refine(b w1).mono ?_;rintro e i ⟨rfl,d⟩
   have hb:=hb1.trans (d.mono hb1.size)
   go_wp2_with fail;go_ret2;exact⟨rfl,hb⟩
 ·rw[aI (fun g=>hc g.1)];go_enter func126,ntmps126;exact sG
theorem z3 (h:(cA a hp).J F S w):w.cell? (av a.pw 2)=some (aq a.sd):=by obtain⟨c,b,_⟩:=kz h;obtain⟨d,g1,_⟩:=nf b;obtain⟨_,_,c2,_⟩:=jZ g1;exact c2
theorem G9 (h:(cA a hp).J F S w)(x:Int)(hq:S.q.length<=90000):
 Calls prog 125 #[aq hp,ak x] w fun e w'=>∃d,e=.returned (.tuple #[ak (S.pop a x).1,ak (S.pop a x).2.1])/\(cA a hp).J d (S.pop a x).2.2 w'/\cg F w d w':=by
 have P:=zZ h x;have l:=hide h;unfold cv.pop;by_cases hk:S.kx a x=5
 ·rw[aK hk];rw[hk] at P;have hr:∀w1,Below w.heap.size w w1->w1.cell? (av hp 0)=some (aq a.pw)/\w1.cell? (av a.pw 2)=some (aq a.sd)/\Calls prog 194 #[aq a.sd,ak x] w1 fun e w'=>∃d,e=.returned (.tuple #[ak (if dV x S.q<S.q.length then(S.q.getD (dV x S.q) (0,0)).2 else 0),.bool (decide (dV x S.q<S.q.length))])/\(cA a hp).J d (if dV x S.q<S.q.length then⟨S.s,S.r,S.q.take (dV x S.q)++S.q.drop (dV x S.q+1)⟩ else S) w'/\cg F w d w':=fun w1 b=>by
   have j:=(cA a hp).below l.o b;refine⟨(fe j).h0,z3 j,?_⟩
   obtain⟨s,g1,_,g3⟩:=kz j;refine(G6 g1 x hq).mono ?_;rintro e w' ⟨d,rfl,n,o⟩
   obtain⟨f,j2,g⟩:=g3 _ _ _ n o;exact⟨f,rfl,j2,(cg.of b).trans g⟩
  have i:=hide hr;by_cases hi:dV x S.q<S.q.length
  ·rw[aK hi];simp only [if_pos hi,decide_eq_true hi] at i;generalize (S.q.getD (dV x S.q) (0,0)).2=v at*;generalize (⟨S.s,S.r,S.q.take (dV x S.q)++S.q.drop (dV x S.q+1)⟩:cv)=t at*;go_enter func125,ntmps125;go_wp2_with fail;refine P.mono ?_;rintro e w1 ⟨rfl,b⟩
   obtain⟨k0,p,k⟩:=i.o w1 b;go_wp2_with fail;refine k.mono ?_;rintro e m ⟨f,rfl,j2,g⟩
   have c:aA (_/\_):=⟨j2,g⟩
   go_wp2;go_ret2;exact⟨f,rfl,c.o.1,c.o.2⟩
  ·rw[aI hi];simp only [if_neg hi,decide_eq_false hi] at i;go_enter func125,ntmps125;go_wp2_with fail;refine P.mono ?_;rintro e w1 ⟨rfl,b⟩
   obtain⟨k0,p,k⟩:=i.o w1 b;go_wp2_with fail;refine k.mono ?_;rintro e m ⟨f,rfl,j2,g⟩
   have c:aA (_/\cg F w f m):=⟨j2,g⟩
   go_wp2;go_ret2;exact⟨f,rfl,c.o.1,c.o.2⟩
 ·rw[aI hk];have q:(S.kx a x==5)=false:=by simpa using hk
  rw[q] at P;go_enter func125,ntmps125;go_wp2_with fail;refine P.mono ?_;rintro e w1 ⟨rfl,b⟩
  have c:aA ((cA a hp).J F S w1/\cg F w F w1):=⟨(cA a hp).below l.o b,cg.of b⟩
  go_wp2;go_ret2;exact⟨F,rfl,c.o.1,c.o.2⟩
theorem G_ (h:(cA a hp).J F S w)(t g:Int)(hr:S.r.length<=90000)(hq:S.q.length<=90000):
 Calls prog 56 #[aq hp,ak t,ak g] w fun e w'=>∃i,e=.returned (ak (S.reg a t g).1)/\(cA a hp).J i (S.reg a t g).2 w'/\cg F w i w':=by
 have P:=un h t;obtain⟨h0,_⟩:=fe h;have q:aA ((cA a hp).J F S w):=h;unfold cv.reg;have m:aA (∀w1,Below w.heap.size w w1->Calls prog 121 #[aq hp,ak g] w1 fun e w'=>e=.returned (.bool (S.kx a g==5))/\Below w.heap.size w w'):=fun w1 b=>by
  refine(zZ ((cA a hp).below q.o b) g).mono ?_;rintro e w' ⟨rfl,d⟩
  exact⟨rfl,b.trans (d.mono b.size)⟩
 have s:aA (∀w1,Below w.heap.size w w1->w1.cell? (av hp 0)=some (aq a.pw)/\w1.cell? (av a.pw 2)=some (aq a.sd)/\Calls prog 49 #[aq a.sd,.agg #[ak g,ak t]] w1 fun e w'=>∃i,e=.returned (.bool (!j6 (S.r.length+S.q.length)))/\(cA a hp).J i (if 24<=S.r.length+S.q.length then S else⟨S.s,S.r++[(g,t)],S.q⟩) w'/\cg F w i w'):=fun w1 b=>by
  have u:=(cA a hp).below q.o b;refine⟨(fe u).h0,z3 u,?_⟩
  obtain⟨ad,g1,_,g3⟩:=kz u;refine(EK g1 g t hr hq).mono ?_;rintro e w' ⟨i,rfl,x,B⟩
  obtain⟨F2,j2,n⟩:=g3 _ _ _ x B;exact⟨F2,rfl,j2,(cg.of b).trans n⟩
 generalize S.fx a t=f at*;generalize S.kx a t=k at*;by_cases hc:S.ex a t=0
 ·rw[aK hc];rw[hc] at P;by_cases hk:S.kx a g=5
  ·rw[aK hk];rw[hk] at m;by_cases j:24<=S.r.length+S.q.length
   ·rw[aK j];simp only [if_pos j,qE j] at s;go_enter func56,ntmps56;go_wp2_with fail;refine P.mono ?_;rintro e w1 ⟨rfl,b⟩
    have o:=m.o w1 b;go_wp2_with fail;refine o.mono ?_;rintro e l ⟨rfl,d⟩
    obtain⟨k0,N,v⟩:=s.o l d;go_wp2_with fail;refine v.mono ?_;rintro e p ⟨F2,rfl,j2,n⟩
    have HF:aA ((cA a hp).J F2 S p/\cg F w F2 p):=⟨j2,n⟩
    exact nu
   ·rw[aI j];simp only [if_neg j,qF j] at s;generalize (⟨S.s,S.r++[(g,t)],S.q⟩:cv)=W at*;go_enter func56,ntmps56;go_wp2_with fail;refine P.mono ?_;rintro e w1 ⟨rfl,b⟩
    have o:=m.o w1 b;go_wp2_with fail;refine o.mono ?_;rintro e l ⟨rfl,d⟩
    obtain⟨k0,N,v⟩:=s.o l d;go_wp2_with fail;refine v.mono ?_;rintro e p ⟨F2,rfl,j2,n⟩
    have HF:aA ((cA a hp).J F2 W p/\cg F w F2 p):=⟨j2,n⟩
    exact nu
  ·rw[aI hk];have ab:(S.kx a g==5)=false:=by simpa using hk
   simp only [ab] at m;go_enter func56,ntmps56;go_wp2_with fail;refine P.mono ?_;rintro e w1 ⟨rfl,b⟩
   have o:=m.o w1 b;go_wp2_with fail;refine o.mono ?_;rintro e l ⟨rfl,d⟩
   have HF:aA ((cA a hp).J F S l/\cg F w F l):=⟨(cA a hp).below q.o d,cg.of d⟩
   go_wp2_with fail;go_ret;exact⟨F,rfl,HF.o.1,HF.o.2⟩
 ·rw[aI hc];generalize S.ex a t=c at*;go_enter func56,ntmps56;go_wp2_with fail;refine P.mono ?_;rintro e w1 ⟨rfl,b⟩
  have HF:aA ((cA a hp).J F S w1/\cg F w F w1):=⟨(cA a hp).below q.o b,cg.of b⟩
  go_wp2_with fail;go_ret;exact⟨F,rfl,HF.o.1,HF.o.2⟩
theorem z4 (h:(cA a hp).J F S w)(hq:S.q.length+S.r.length<=90000):
 Calls prog 50 #[aq a.pw] w fun e w'=>∃b,e=.returned (ak (S.code a))/\(cA a hp).J b (S.cut a) w'/\cg F w b w':=by
 obtain⟨i,g1,_,g3⟩:=kz h;refine(EE g1 hq).mono ?_;rintro e w' ⟨b,rfl,c,d⟩
 obtain⟨f,j2,g⟩:=g3 _ _ _ c d;exact⟨f,rfl,j2,g⟩
theorem z5 (h:(cA a hp).J F S w)(hq:S.q.length+S.r.length<=90000)(c:S.fX a=false->∃G,iL (S.k5 a) (S.dI a) G/\G 0 (S.k5 a,0)):
 Calls prog 37 #[aq a.pw] w fun e w'=>∃b,e=.returned (ak (S.iM a))/\(cA a hp).J b (S.dD a) w'/\cg F w b w':=by
 obtain⟨j,g1,_,g3⟩:=kz h;refine(GD g1 hq c).mono ?_;rintro e w' ⟨b,rfl,d,f⟩
 obtain⟨g,j2,i⟩:=g3 _ _ _ d f;exact⟨g,rfl,j2,i⟩
theorem Ha (h:(cA a hp).J F S w)(m:Int)(hq:S.q.length+S.r.length<=90000)(q:S.fX a=false->∃G,iL (S.k5 a) (S.dI a) G/\G 0 (S.k5 a,0)):
 Calls prog 193 #[aq hp,ak m] w fun e w'=>∃b,e=.returned (ak (S.room a m).1)/\(cA a hp).J b (S.room a m).2 w'/\cg F w b w':=by
 unfold cv.room;by_cases hm:m<=(a.N:Int)-S.s.y
 ·rw[aK hm];refine(Ft h m hm).mono ?_;rintro e w' ⟨rfl,hb⟩
  exact⟨F,rfl,(cA a hp).below h hb,cg.of hb⟩
 rw[aI hm];obtain⟨h0,c0,_⟩:=fe h;have s:=(lJ h).1;have P:=oY w s;have o:aA (∀w1,Below w.heap.size w w1->(w1.cell? (av hp 0)=some (aq a.pw)/\w1.cell? (av a.pw 0)=some (aq a.p))/\Calls prog 22 #[aq a.p] w1 fun e w'=>e=.returned (.tuple #[ak S.s.y,ak S.s.g])/\Below w.heap.size w w'):=fun w1 c=>by
  have d:=(cA a hp).below h c;obtain⟨h0,c0,_⟩:=fe d;refine⟨⟨h0,c0⟩,?_⟩
  refine(kQ w1 (lJ d).1).mono ?_;rintro e w' ⟨rfl,f⟩
  exact⟨rfl,c.trans (f.mono c.size)⟩
 have p:aA (∀w1,Below w.heap.size w w1->w1.cell? (av hp 0)=some (aq a.pw)/\(Calls prog 50 #[aq a.pw] w1 fun e w'=>∃b,e=.returned (ak (S.code a))/\(cA a hp).J b (S.cut a) w'/\cg F w b w')/\(Calls prog 37 #[aq a.pw] w1 fun e w'=>∃b,e=.returned (ak (S.iM a))/\(cA a hp).J b (S.dD a) w'/\cg F w b w')):=fun w1 c=>by
  have d:=(cA a hp).below h c;refine⟨(fe d).h0,(z4 d hq).mono ?_,(z5 d hq q).mono ?_⟩
  ·rintro e w' ⟨b,rfl,g,i⟩
   exact⟨b,rfl,g,(cg.of c).trans i⟩
  ·rintro e w' ⟨b,rfl,g,i⟩
   exact⟨b,rfl,g,(cg.of c).trans i⟩
 by_cases hy:(S.s.y:Int)<=(a.O:Int)-S.s.g
 ·rw[aK hy];generalize S.cut a=t at*;generalize S.code a=cd at*;go_enter func193,ntmps193;go_wp2_with fail;refine P.mono ?_;rintro e w1 ⟨rfl,c⟩
  obtain⟨⟨g0,g1⟩,j⟩:=o.o w1 c;go_wp2_with fail;refine j.mono ?_;rintro e k ⟨rfl,f⟩
  obtain⟨k0,l,_⟩:=p.o k f;go_wp2_with fail;refine l.mono ?_;rintro e u ⟨F2,rfl,j2,n⟩
  have HF:=c7 j2 n;exact nu
 ·rw[aI hy];generalize S.dD a=t at*;generalize S.iM a=cd at*;go_enter func193,ntmps193;go_wp2_with fail;refine P.mono ?_;rintro e w1 ⟨rfl,c⟩
  obtain⟨⟨g0,g1⟩,j⟩:=o.o w1 c;go_wp2_with fail;refine j.mono ?_;rintro e k ⟨rfl,f⟩
  obtain⟨k0,_,l⟩:=p.o k f;go_wp2_with fail;refine l.mono ?_;rintro e u ⟨F2,rfl,j2,n⟩
  have HF:=c7 j2 n;exact nu
theorem Hb (kd:Int)(rl:List Nat)(p:Option Addr)(cap:Nat)(b:cv)(b0:rl.length<=12)(hk:hc kd rl.length=0)(room:b.s.y+1+rl.length<=a.N)
 (hv:0<rl.length->∃d,p=au d/\¬F d/\d<w.heap.size/\∀i,i<rl.length->w.cell? (av d i)=some (ak ((rl.getD i 0:Nat):Int)))(hr:∀i,i<rl.length->rl.getD i 0<12)
 (h:(cA a hp).J F S w)
 (N:Calls prog 193 #[aq hp,ak (1+rl.length)] w fun e w'=>∃c,e=.returned (ak 0)/\(cA a hp).J c b w'/\cg F w c w'):
 Calls prog 123 #[aq hp,ak kd,.slice p rl.length cap] w fun e w'=>∃c,e=.returned (.tuple #[ak (ew 3 b.s.y),ak 0])/\(cA a hp).J c (b.put a kd rl) w'/\cg F w c w':=by
 have q:iV a.N b.s.y kd rl.length=true:=by unfold iV;rw[hk];simp;omega
 have W:i_ a.N b.s.y kd rl.length=b.s.y+1+rl.length:=by unfold i_;rw[aK q];omega
 have ab:qh a.N b.s.y kd rl.length=b.s.y:=by unfold qh;rw[aK q]
 have ad:aA (0<rl.length->_):=hv;have bb:aA (∀i,i<rl.length->_):=hr;have ag:aA (_/\_):=⟨W,ab⟩
 have bd:aA (b.put a kd rl=⟨{b.s with y:=b.s.y+1+rl.length,ws:=i6 b.s.rs b.s.y (fS a.N b.s.y kd rl.length b.s.ws) rl rl.length},b.r,b.q⟩):=rfl;have n1:=(lJ h).1.hN';generalize b.put a kd rl=be at*;clear hv hr q W ab hk h;go_enter func123,ntmps123;go_wp2_with fail;refine N.mono ?_;clear N;rintro e w1 ⟨b1,rfl,s,ai⟩
 obtain⟨h0,c0,_⟩:=fe s;obtain⟨f,l⟩:=lJ s;have b2:=f.hy;have b3:=f.hg;have n4:=f.hO;have u:=Da kd rl.length w1 f;rw[ag.o.1,ag.o.2] at u;have m:aA (∀w' y g ws,At w' a.p a.q a.N a.O y g ws->dh a.p a.q w1 w'->_):=l;have al:aA (_):=ai;clear s f l ai;go_wp2_with fail;refine u.mono ?_;clear u;rintro e b4 ⟨rfl,am,an⟩
 obtain⟨bg,j2,n⟩:=m.o _ _ _ _ am an;have n:=al.o.trans n;have ao:∀(c:Nat->Prop)(w':az),cg F w c w'->∀i,i<rl.length->∃d,p=au d/\w'.cell? (av d i)=some (ak ((rl.getD i 0:Nat):Int)):=fun c w' t i hi=>by obtain⟨d,e,g1,g2,g3⟩:=ad.o aa;exact⟨d,e,(aQ (a:=⟨d,i,none⟩) (t.fr.block d g2 g1)).trans (g3 i hi)⟩
 have bi:aA (∀(c:Nat->Prop)(w':az),cg F w c w'->∀i,i<rl.length->_):=ao;have ap:=c7 j2 n;clear am an j2 n m ad ao al h0 c0;go_wp2_with fail
 go_loopw [33] (fun iv wr=>∃(j:Nat)(c:Nat->Prop),j<=rl.length/\iv=ak j/\aA ((cA a hp).J c ⟨{b.s with y:=b.s.y+1+rl.length,ws:=i6 b.s.rs b.s.y (fS a.N b.s.y kd rl.length b.s.ws) rl j},b.r,b.q⟩ wr/\cg F w c wr)) (fun iv _=>rl.length-(intOf iv).toNat)
 exact⟨0,bg,a4 _,rfl,ap⟩
 ·
   clear ap;obtain⟨j,c,b5,rfl,k⟩:=hrel;by_cases ar:j<rl.length
   ·obtain⟨d,rfl,bl⟩:=bi.o c wr k.o.2 j ar;have aB:=bb.o j ar;have aF:aA (i6 b.s.rs b.s.y (fS a.N b.s.y kd rl.length b.s.ws) rl (j+1)=(i6 b.s.rs b.s.y (fS a.N b.s.y kd rl.length b.s.ws) rl j).set (b.s.y+1+j) (b.s.rs.getD (rl.getD j 0) 0)):=rfl;generalize rl.getD j 0=r at*;have bn:aA (∀(v:Nat->Prop)(o:az),(∀i,i<12->o.cell? (av a.nb i)=some (ak (b.s.rs.getD i 0))/\o.frozen? (av a.nb i)=false)->_=_):=fun _ _ g=>(g r aB).1;have aR:=(cA a hp).below k.o.1 (aH _ wr).drew;obtain⟨h0,c0,c3,rt,bo,lp,lw,ln⟩:=fe k.o.1;obtain⟨r1,_⟩:=rt r aB;obtain⟨f,l⟩:=lJ aR;dsimp only at r1 f l;have aV:dt a.N (b.s.y+1+rl.length) b.s.g ((b.s.y:Int)+1+j)=true:=iW aa aa;have a0:=lx ((b.s.y:Int)+1+j) (b.s.rs.getD r 0) wr.drew f;rw[aV,aK rfl,show((b.s.y:Int)+1+j).toNat=b.s.y+1+j by omega,<-aF.o] at a0;have m:aA (∀w' y g ws,At w' a.p a.q a.N a.O y g ws->dh a.p a.q wr.drew w'->_):=l;have j0:(0:Int)<=(j:Int):=aa;have b9:(j:Int)<(rl.length:Int):=aa;have q0:(0:Int)<=(r:Int):=aa;have q1:(r:Int)<12:=aa;have b6:IntKind.i64.wrap ((b.s.y:Int)+1)=(b.s.y:Int)+1:=by rw[bu];omega
    have bp:IntKind.i64.wrap ((b.s.y:Int)+1+(j:Int))=(b.s.y:Int)+1+j:=by rw[bu];omega
    have br:aA (_):=k.o.2.below (aH _ wr).drew;clear aR f l rt aV aF bo k;generalize b.s.rs.getD r 0=x at*;go_wp2_with fail
    go_region_held3 (fun w'=>w'.cell? (av hp 0)=some (aq a.pw)/\w'.cell? (av a.pw 0)=some (aq a.p)/\w'.cell? (av a.pw 3)=some (.slice (au a.nb) 12 12)/\w'.cell? (av a.nb r)=some (ak x)) (go_keep)
     (first
       |(go_at_call 93;refine a0.mono ?_;rintro e o ⟨rfl,a1,s5⟩;obtain⟨v,dI,a2⟩:=m.o _ _ _ _ a1 s5;have bs:=c7 dI (br.o.trans a2);obtain⟨g0,g1,g3,a3,_⟩:=fe dI;have bt:=bn.o v o a3;clear a1 s5 dI a2 a3))
    clear h0 c0 c3 r1 g0 g1 g3 bt bl b6 bp;go_wp2_with fail;go_roundw
    case rel=>exact⟨j+1,v,aa,aj,bs⟩
    case measure=>simp[intOf];omega
   ·obtain rfl:j=rl.length:=aa;go_wp2_with fail;refine(sr (b.s.y:Int) wr).mono ?_;rintro e bx ⟨rfl,B⟩
    have ba:aA ((cA a hp).J c be bx/\_):=⟨by rw[bd.o];exact(cA a hp).below k.o.1 B,k.o.2.below B⟩
    clear B k;go_wp2_with fail;go_ret2;exact⟨c,rfl,ba.o.1,ba.o.2⟩
theorem Hc (kd cd:Int)(n:Nat)(f:Option Addr)(cap:Nat)(c:cv)(hn:n<=12)(hc:cd≠0)
 (g:Calls prog 193 #[aq hp,ak (1+n)] w fun e w'=>∃b,e=.returned (ak cd)/\(cA a hp).J b c w'/\cg F w b w'):
 Calls prog 123 #[aq hp,ak kd,.slice f n cap] w fun e w'=>∃b,e=.returned (.tuple #[ak 0,ak cd])/\(cA a hp).J b c w'/\cg F w b w':=by
 go_enter func123,ntmps123;go_wp2_with fail;refine g.mono ?_;rintro e w1 ⟨i,rfl,j,k⟩
 have d:=c7 j k;go_wp2;go_ret2;exact⟨i,rfl,d.o.1,d.o.2⟩
theorem pH (h:(cA a hp).J F S w)(kd:Int)(rl:List Nat)(b:Option Addr)(cap:Nat)(hq:S.q.length+S.r.length<=90000)(k:S.fX a=false->∃G,iL (S.k5 a) (S.dI a) G/\G 0 (S.k5 a,0))(hk:hc kd rl.length=0)
 (hv:0<rl.length->∃d,b=au d/\¬F d/\d<w.heap.size/\∀i,i<rl.length->w.cell? (av d i)=some (ak ((rl.getD i 0:Nat):Int)))(hr:∀i,i<rl.length->rl.getD i 0<12)
 (room:(S.room a (1+rl.length)).1=0->(S.room a (1+rl.length)).2.s.y+1+rl.length<=a.N):
 Calls prog 123 #[aq hp,ak kd,.slice b rl.length cap] w fun e w'=>∃g,e=.returned (.tuple #[ak (S.b_ a kd rl).1,ak (S.b_ a kd rl).2.1])/\(cA a hp).J g (S.b_ a kd rl).2.2 w'/\cg F w g w':=by
 have j:rl.length<=12:=by have:=i3 kd rl.length hk;omega
 have f:=Ha h (1+rl.length) hq k;unfold cv.b_;by_cases c:(S.room a (1+rl.length)).1=0
 ·rw[aK c];rw[c] at f;exact Hb kd rl b cap _ j hk (room c) hv hr h f
 ·rw[aI c];exact Hc kd _ rl.length b cap _ j c f
theorem Hd (h:(cA a hp).J F S w)(k:Int)(R:Nat)(A B I n:Int)(N:R<12)(hc:d4 k R A B n=0)(k1:k≠9)(ar:k≠12)(aB:k≠15)(aF:k≠16)(v:Int)(d:cv)
 (W:∀f w',(cA a hp).J f S w'->Calls prog 57 #[aq hp,d5 k R A B I n] w' fun e o=>∃j,e=.returned (.tuple #[ak v,ak 0])/\(cA a hp).J j d o/\cg f w' j o):
 Calls prog 20 #[aq hp,d5 k R A B I n] w fun e w'=>∃f,e=.returned (ak 0)/\(cA a hp).J f ⟨{d.s with rs:=d.s.rs.set R v},d.r,d.q⟩ w'/\cg F w f w':=by
 have p:=aw w (cG k R A B I n)
 have ab:=aP w (.cells #[.int .i64 k,.int .i64 (R:Int),.int .i64 A,.int .i64 B,.int .i64 I,.int .i64 n] 44)
 have q:=jF k R A B I n (w.alloc (cG k R A B I n))
 rw[hc] at q;have ad:=hide (fe h).ln;have c:=iT ((cA a hp).below h p) p ab ((cA a hp).lt h)
 have ag:=hide W;go_enter func20,ntmps20;go_wp2_with fail;generalize w.alloc (cG k R A B I n)=w0 at*;generalize ai:w.heap.size=g at*;refine q.mono ?_;rintro e w1 ⟨rfl,l⟩
 have b:=iT ((cA a hp).below c.o.1 l) (c.o.2.1.trans (l.mono (by have:=lt_of_some c.o.2.2.1;omega))) ((l.block g (lt_of_some c.o.2.2.1)).trans c.o.2.2.1) c.o.2.2.2;obtain⟨q0,q1,al,q3,am,an⟩:=el b.o.2.2.1;go_wp2_with fail;refine(ag.o F w1 b.o.1).mono ?_;rintro e s ⟨j,rfl,i,m⟩
 have t:=(m.fr.block g (lt_of_some b.o.2.2.1) (fun ao=>by have:=b.o.2.2.2 g ao;omega)).trans b.o.2.2.1;obtain⟨u0,aR,_⟩:=el t;obtain⟨h0,c0,c3,rt,rl,lp,lw,ln⟩:=fe i;obtain⟨r1,aV⟩:=rt R N;have a0:(R:Int)<12:=aa;have a1:=lt_of_some t;have nx:a.nb≠g:=by have:=ad.o;omega
 obtain⟨n1,a2⟩:=Fp i;have u:=c7 ((cA a hp).below i (aH _ s).drew) (((cg.of (by rw[ai];exact b.o.2.1)).trans m).below (aH _ s).drew)
 clear rt i m b q0 q1 al q3 am an;go_wp2_with fail
 go_region_held3 (fun w'=>w'.cell? (av hp 0)=some (aq a.pw)/\w'.cell? (av a.pw 3)=some (.slice (au a.nb) 12 12)/\w'.cell? (av g 1)=some (ak (R:Int))) (go_keep) (fail)
 obtain⟨ap,cH,t3⟩:=Fl u.o.1 R v;have x:=c7 cH (u.o.2.trans t3)
 go_wp2_with fail;go_ret;exact⟨rfl,ap,x.o.1,x.o.2⟩
end
open Go.RowKit W
theorem He (c:Nat)(hc:c<=12)(w:az):Calls prog 223 #[.int .u64 1,.int .u64 c] w fun e w'=>e=.returned (.tuple #[.int .u64 0,.int .u64 c])/\w'=w:=by exact zW
theorem z6 (c:Nat)(hc:c<=12)(w:az):Calls prog 167 #[.int .u64 1,.int .u64 c] w fun e w'=>e=.returned (.tuple #[.int .u64 0,.int .u64 c])/\w'=w:=by have P:=He c hc w;exact zX
def f8 (c:Nat)(v:Int)(n:Nat):List Int:=List.replicate n v++List.replicate (c-n) 0
theorem uo (c:Nat)(v:Int)(n:Nat)(h:n<=c):(f8 c v n).length=c:=by simp[f8];omega
theorem Hf (c:Nat)(v:Int)(n m:Nat)(h:n+m<=c):splice (f8 c v n) n (List.replicate m v)=f8 c v (n+m):=by unfold splice f8;rw[List.take_left' ac,List.length_replicate,List.drop_append,List.length_replicate];simp only [List.drop_replicate];rw[show n-(n+m)=0 by omega,show c-n-(n+m-n)=c-(n+m) by omega];simp;rw[<-bw,List.replicate_append_replicate]
theorem Hg (c:Nat)(v:Int)(n i:Nat)(h:i<n):(f8 c v n).getD i 0=v:=by unfold f8;rw[aJ,List.getElem?_append_left (by simpa using h)];simp[h]
theorem Hh {c:Nat}{w:az}{nb n:Nat}{v:Int}(hr:w.heap[nb]?=some (.cells ((f8 c v n).map (Value.int .i64)).toArray 3 (0,0)))(hn:n<=c)(m:Nat)(hm:m<=n):∀j u,((List.replicate m v).map (Value.int .i64))[j]?=some u->w.cell? ((⟨nb,0,none⟩:Addr).add j)=some u:=by
 intro j u hj;have b:j<m:=by exact qH
 have d:u=ak v:=by simp[b] at hj;exact hj.symm
 have hl:=uo c v n hn;have hg:=Hg c v n j aa;rw[aJ,aN (by omega:j<(f8 c v n).length)] at hg;simp at hg;have ea:(⟨nb,0,none⟩:Addr).add j=⟨nb,j,none⟩:=by simp[Addr.add];intro h;exact h.symm
 rw[ea,d];have e:j<(f8 c v n).length:=aa;simp[World.cell?,hr,List.getElem?_eq_getElem e];exact hg
theorem z7 {c:Nat}{w w':az}{nb n m B:Nat}{v:Int}(b:ly w w' nb ((f8 c v n).map (Value.int .i64)) n ((List.replicate m v).map (Value.int .i64)))(hr:w.heap[nb]?=some (.cells ((f8 c v n).map (Value.int .i64)).toArray 3 (0,0)))(hm:0<m)(h:n+m<=c)(hB:B<=nb):w'.heap[nb]?=some (.cells ((f8 c v (n+m)).map (Value.int .i64)).toArray 3 (0,0))/\Below B w w':=by
 rcases b with⟨h0,_⟩|rfl
 ·have:=congrArg List.length h0;simp at this
  omega
 ·rw[sC,Hf c v n m h];exact⟨setRow_heap w nb _ _ _ _ hr,⟨rfl,rfl,rfl,by simp[World.setRow],fun k hk=>setRow_other w nb k _ aa⟩⟩
theorem z8:(prog.info? 3).map (fun i=>(i.zero,i.size,i.bytes))=some (some (ak 0),1,8):=ah
theorem uq:(prog.info? 3).map (·.size)=some 1:=ah
theorem z9 {w:az}{b k n:Nat}(h:w.ownsRow b 3 1 (.slice (au k) n n) n (madeCells (Value.int .i64 0).cells (n*1)).toList):
 w.heap[k]?=some (.cells ((List.replicate n (0:Int)).map (Value.int .i64)).toArray 3 (0,0)):=by
 exact vY
theorem Hi (w:az)(b c:Nat)(v:Int)(h0:0<c)(ao:c<=12)(hc:w.cell? (av b 0)=some (ak v)):
 Calls prog 124 #[.slice (au b) 1 1,ak c] w fun e w'=>∃nb,e=.returned (.slice (au nb) c c)/\w.heap.size<=nb/\w'.heap[nb]?=some (.cells ((List.replicate c v).map (Value.int .i64)).toArray 3 (0,0))/\Below w.heap.size w w':=by
 obtain⟨s,hi,ap,ar,aB⟩:=info_parts z8;have lb:=aT w _ hc;dsimp only at lb;have t:=z6 c ao w;have aF:aA (f8 c v c=List.replicate c v):=by show _=_;simp[f8]
 have c0:(0:Int)<(c:Int):=aa;have c1:(c:Int)<=12:=aa;go_enter func124,ntmps124;go_wp2_with fail;refine t.mono ?_;clear t;rintro e w0 ⟨rfl,hw⟩
 have hw:=hw.symm;subst hw
 go_upto_region 7 with(at_make;refine wpList_make_full _ rfl _ _ 74 rfl w.heap.size 3 s (ak 0) 1 underlying74 hi ap ar .i64 .i64 _ _ c rfl rfl aa aa (by rw[aB];omega) (by unfold maxLen;omega) b7 ?_;intro w1 x F)
 have hr:w1.heap[w.heap.size]?=some (.cells ((f8 c v 0).map (Value.int .i64)).toArray 3 (0,0)):=by have aR:=z9 x;simpa[f8] using aR
 have k:Below w.heap.size w w1:=(aH _ w).grown F b7 (fun _ h=>by cases h)
 have N:=(k.cell (p:=av b 0) lb).trans hc;clear x F;have d:aA (∀j u,((List.replicate 1 v).map (Value.int .i64))[j]?=some u->w1.cell? ((⟨b,0,none⟩:Addr).add j)=some u):=one_cell N;have l:aA (w1.heap[w.heap.size]?=some (.cells ((f8 c v 0).map (Value.int .i64)).toArray 3 (0,0))):=hr;have f:aA (((List.replicate 1 v).map (Value.int .i64)).length=Nat.min 1 c):=by show _=_;simp only [List.length_map,List.length_replicate,Nat.min_def];split<;>omega
 have g:aA (0+((List.replicate 1 v).map (Value.int .i64)).length<=((f8 c v 0).map (Value.int .i64)).length):=by show _<=_;rw[aZ,aZ,uo c v 0 aa];simp;omega
 clear N hr;go_wp2_with (refine tz rfl _ _ 74 74 3 rfl underlying74 uq (au w.heap.size) (au b) c c 1 1 rfl rfl w.heap.size 0 ((f8 c v 0).map (Value.int .i64)) 3 l.o ((List.replicate 1 v).map (Value.int .i64)) f.o (fun _=>⟨rfl,_,rfl,d.o⟩) g.o (oZ _) ?_;intro ba S)
 obtain⟨W,ab⟩:=z7 (B:=w.heap.size) S l.o aa aa b7
 have ad:=k.trans ab;clear S d l f g k ab
 go_loopw [8] (fun nv wr=>∃n:Nat,1<=n/\n<=c/\nv=ak n/\aA (wr.heap[w.heap.size]?=some (.cells ((f8 c v n).map (Value.int .i64)).toArray 3 (0,0)))/\Below w.heap.size w wr) (fun nv _=>c-(intOf nv).toNat)
 case atStart=>exact⟨1,aG _,aa,rfl,W,ad⟩
 case round=>
  clear W ad;obtain⟨n,n1,ag,rfl,o,hb⟩:=hrel;by_cases bb:n<c
  ·obtain⟨m,hm,aV,q,a0⟩:∃m,m=Nat.min n (c-n)/\0<m/\n+m<=c/\m<=n:=⟨_,rfl,by simp only [Nat.min_def];split<;>omega,by simp only [Nat.min_def];split<;>omega,by simp only [Nat.min_def];split<;>omega⟩
   have i:aA (wr.drew.heap[w.heap.size]?=some (.cells ((f8 c v n).map (Value.int .i64)).toArray 3 (0,0))):=o.o;have d:aA (∀j u,((List.replicate m v).map (Value.int .i64))[j]?=some u->wr.drew.cell? ((⟨w.heap.size,0,none⟩:Addr).add j)=some u):=Hh i.o ag m a0;have f:aA (((List.replicate m v).map (Value.int .i64)).length=Nat.min n (c-n)):=by show _=_;rw[<-hm];simp
   have g:aA (n+((List.replicate m v).map (Value.int .i64)).length<=((f8 c v n).map (Value.int .i64)).length):=by show _<=_;rw[aZ,aZ,uo c v n ag];simpa using q
   have bd:¬c=n:=aa;have s:(0:Int)<=(n:Int):=aa;have be:(n:Int)<=(c:Int):=aa;have bg:(n:Int)<(c:Int):=aa;clear o;go_wp2_with fail
   go_region_law (refine qe rfl (.tmp 41) (.tmp 44) 74 74 3 rfl underlying74 uq (some ⟨w.heap.size,n,none⟩) (au w.heap.size) (c-n) (c-n) n c ?_ ?_ w.heap.size n ((f8 c v n).map (Value.int .i64)) 3 i.o ((List.replicate m v).map (Value.int .i64)) f.o (fun _=>⟨rfl,_,rfl,d.o⟩) g.o (oZ _) ?_;(simp[Act.eval,Act.put]);(simp[Act.eval,Act.put]);intro a1 ai)
   obtain⟨al,am⟩:=z7 (B:=w.heap.size) ai i.o aV q b7
   have a2:aA (a1.heap[w.heap.size]?=some (.cells ((f8 c v (n+m)).map (Value.int .i64)).toArray 3 (0,0))):=al;have a3:=hb.drew.trans am;have hw:IntKind.i64.wrap ((n:Int)+(m:Int))=((n+m:Nat):Int):=by rw[bu];omega
   clear al am ai i d f g hb;simp[Act.put,go_sem,Exit.inBlock];rw[<-hm,hw];refine⟨⟨_,_,_,_,_,_,_,_,_,_,_,_,_,_,?rel,rfl⟩,?measure⟩
   case rel=>exact⟨n+m,aa,q,rfl,a2,a3⟩
   case measure=>simp[intOf];omega
  ·obtain rfl:n=c:=aa;have an:=o.o;rw[aF.o] at an;go_wp2_with fail;go_ret;exact⟨w.heap.size,rfl,aG _,an,hb⟩
theorem Hj (w:az)(b:Nat)(v:Int):
 Calls prog 124 #[.slice (au b) 1 1,ak 0] w fun e w'=>∃nb,e=.returned (.slice (au nb) 0 0)/\Below w.heap.size w w':=by
 obtain⟨m,hi,n,o,p⟩:=info_parts z8;have d:=z6 0 aa w;go_enter func124,ntmps124;go_wp2_with fail;refine d.mono ?_;clear d;rintro e w0 ⟨rfl,hw⟩
 have hw:=hw.symm;subst hw
 go_upto_region 7 with(at_make;refine wpList_make_full _ rfl _ _ 74 rfl w.heap.size 3 m (ak 0) 1 underlying74 hi n o .i64 .i64 _ _ 0 rfl rfl aa aa (by rw[p];omega) (by unfold maxLen;omega) b7 ?_;intro w1 f g)
 have c:Below w.heap.size w w1:=(aH _ w).grown g b7 (fun _ h=>by cases h)
 have i:aA (w1.heap[w.heap.size]?=some (.cells ((f8 0 v 0).map (Value.int .i64)).toArray 3 (0,0))):=by have q:=z9 f;show _=_;simpa[f8] using q
 clear f g;go_wp2_with (refine tz rfl _ _ 74 74 3 rfl underlying74 uq (au w.heap.size) (au b) 0 0 1 1 rfl rfl w.heap.size 0 ((f8 0 v 0).map (Value.int .i64)) 3 i.o [] rfl (fun h=>absurd h ae) ac (fun _ h=>by cases h) ?_;intro s j)
 have l:Below w.heap.size w s:=by
  rcases j with⟨_,e⟩|e
  ·rw[e];exact c
  ·rw[e];exact c.trans ⟨rfl,rfl,rfl,by simp[World.setRow],fun k hk=>setRow_other w1 w.heap.size k _ aa⟩
 clear j i c
 go_loopw [8] (fun nv wr=>nv=ak 0/\Below w.heap.size w wr) (fun _ _=>0)
 case atStart=>exact⟨rfl,l⟩
 case round=>
  clear l;obtain⟨rfl,hb⟩:=hrel;go_wp2_with fail;go_ret;exact⟨w.heap.size,rfl,hb⟩
structure dX (a:Wc)(S:cv)(j:Nat):Prop where
 kv:∃Y G,eE a S.s Y G
 eo:jJ a S
 m:S.s.M.length<=j
 k7:S.r.length+S.q.length<=24
def oE (a:Wc)(S:cv)(v:Int):Prop:=dd v=true->tB a.N S.s.y S.s.g S.s.ws v=true
section
variable {a:Wc}{S:cv}{j:Nat}
theorem dX.start (a:Wc)(n o:Nat):dX a (f6 n o).1 0:=by
 refine⟨⟨[],[],⟨ec.start,fun x b ha=>?_,fun v hv=>?_⟩,fun v hv=>(by cases hv)⟩,fun e he=>?_,aG _,(show(0:Nat)<=24 by decide)⟩
 ·have b:x∈tw 2 12:=b;have e:x=2:=by simpa[tw] using b
  rw[e,zL] at ha;cases ha
 ·simp_all
 ·rcases he with c|c<;>cases c
theorem dX.mono {i:Nat}(h:dX a S j)(hi:j<=i):dX a S i:=⟨h.kv,h.eo,aU h.m hi,h.k7⟩
theorem dX.cut (h:dX a S j)(hb:cM a S.s):dX a (S.cut a) j/\cM a (S.cut a).s:=by
 obtain⟨Y,G,hk⟩:=h.kv;have l1:=GA a S;have l2:=h.k7;refine⟨⟨hk.cut hb,h.eo.cut hk hb,?_,aa⟩,hk.GX hb⟩
 have:=h.m;unfold cv.cut;split
 ·omega
 ·exact a4 _
theorem dX.dD (h:dX a S j)(hb:cM a S.s):dX a (S.dD a) j/\cM a (S.dD a).s:=by obtain⟨Y,G,hk⟩:=h.kv;obtain⟨_,g2,g3⟩:=hk.dD hb;have l1:=GT a S;have l2:=h.k7;have b:=h.m;exact⟨⟨g2,h.eo.dD hk hb,aa,aa⟩,hk.GY hb⟩
theorem dX.qW (h:dX a S j)(hb:cM a S.s):S.fX a=false->∃F,iL (S.k5 a) (S.dI a) F/\F 0 (S.k5 a,0):=by obtain⟨Y,G,hk⟩:=h.kv;exact(hk.dD hb).1
theorem z_ (h:S.code a≠0):S.cut a=S:=by
 unfold cv.code at h;unfold cv.cut;split at h
 ·simp_all
 ·exact absurd rfl h
theorem Aa (h:S.iM a≠0):S.dD a=S:=by
 unfold cv.iM at h;unfold cv.dD;split at h
 ·simp_all
 ·exact absurd rfl h
theorem Hk (h:S.code a=0):(S.cut a).s.y=0:=by
 unfold cv.code at h;unfold cv.cut;split at h
 ·omega
 ·rename_i c;rw[aI c]
theorem Hl {Y G:List Int}(hk:eE a S.s Y G)(hb:cM a S.s)(h:S.iM a=0):(S.dD a).s.y=0:=by
 have b:S.fX a=false:=by
  unfold cv.iM at h;split at h
  ·omega
  ·simp_all
 obtain⟨_,g,_⟩:=mA hk hb b;exact g.gc.y
theorem dX.room (h:dX a S j)(hb:cM a S.s)(m:Int):dX a (S.room a m).2 j/\cM a (S.room a m).2.s/\((S.room a m).1=0->m<=16->m<=(a.N:Int)-(S.room a m).2.s.y)/\((S.room a m).1≠0->(S.room a m).2=S):=by
 obtain⟨Y,G,hk⟩:=h.kv;have n0:=hb.n0;unfold cv.room;split
 ·simp_all
 ·split
  ·obtain⟨b,c⟩:=h.cut hb;refine⟨b,c,fun q _=>?_,fun q=>z_ q⟩
   rw[Hk q];omega
  ·obtain⟨b,c⟩:=h.dD hb;refine⟨b,c,fun q _=>?_,fun q=>Aa q⟩
   rw[Hl hk hb q];omega
theorem dX.put (h:dX a S j)(hb:cM a S.s){kd:Int}{rl:List Nat}(hk:hc kd rl.length=0)(hr:S.s.y+1+rl.length<=a.N):dX a (S.put a kd rl) j/\cM a (S.put a kd rl).s/\oE a (S.put a kd rl) (ew 3 S.s.y):=by
 obtain⟨Y,G,kv⟩:=h.kv;have p:=ul kv hb hk hr rl.length b7
 have b:cM a (S.put a kd rl).s:=⟨hb.n0,hb.n1,hb.o1,hr,hb.g1,p.l,hb.r1⟩
 have n1:=hb.n1;have y1:=hb.y1;refine⟨⟨⟨_,_,p.k⟩,?_,h.m,h.k7⟩,b,fun _=>?_⟩
 ·exact h.eo.more kv hb p.k.inv.full b.y1 b.g1 (fun v hv=>hv.imp (fun c=>bk _ c) id)
 ·obtain⟨d,e⟩:=nk S.s.y aa;exact(jf p.k.inv.full b.n1 b.y1 b.o1 b.g1).2 ⟨d,aM (by rw[e];simp)⟩
theorem dX.b_ (h:dX a S j)(hb:cM a S.s){kd:Int}{rl:List Nat}(hk:hc kd rl.length=0):dX a (S.b_ a kd rl).2.2 j/\cM a (S.b_ a kd rl).2.2.s/\((S.b_ a kd rl).2.1=0->oE a (S.b_ a kd rl).2.2 (S.b_ a kd rl).1)/\((S.b_ a kd rl).2.1≠0->(S.b_ a kd rl).2.2=S):=by
 obtain⟨b,d,e,k⟩:=h.room hb _;have hl:=i3 kd rl.length hk;unfold cv.b_;split
 ·rename_i c;obtain⟨f,g,i⟩:=b.put d hk (by have:=e c aa;omega)
  exact⟨f,g,fun _=>i,fun q=>absurd rfl q⟩
 ·simp_all
theorem dX.root (h:dX a S j)(hb:cM a S.s)(i:Nat):oE a S (S.s.rs.getD i 0):=fun ha=>by obtain⟨Y,G,kv⟩:=h.kv;exact(jf kv.inv.full hb.n1 hb.y1 hb.o1 hb.g1).2 ⟨ha,kv.any i ha⟩
theorem rf {n:Int}(h:vc 1 n=0):oE a S (ew 1 n):=fun ha=>by rw[(nR 1 n h).1] at ha;exact absurd ha ae
theorem dX.rt (h:dX a S j)(hb:cM a S.s){k n:Int}(A B:Nat)(I:Int)(hk:h9 k n=0):dX a (S.rt a k A B I n).2.2 j/\cM a (S.rt a k A B I n).2.2.s/\((S.rt a k A B I n).2.1=0->oE a (S.rt a k A B I n).2.2 (S.rt a k A B I n).1)/\((S.rt a k A B I n).2.1≠0->(S.rt a k A B I n).2.2=S):=by
 unfold cv.rt;by_cases b:k=1
 ·rw[aK b];exact⟨h,hb,fun q=>rf q,fun _=>rfl⟩
 rw[aI b];by_cases f:k=3
 ·rw[aK f];exact⟨h,hb,fun _=>h.root hb A,fun _=>rfl⟩
 rw[aI f];by_cases g:k=4
 ·rw[aK g];exact h.b_ hb rfl
 rw[aI g];by_cases c:k=5
 ·rw[aK c];refine h.b_ hb ?_;unfold h9 at hk;rw[aI b,aK c] at hk;have:=i3 2 n hk;rw[List.length_replicate,show((n.toNat:Nat):Int)=n by omega];exact hk
 rw[aI c];by_cases e6:k=6
 ·rw[aK e6];exact h.b_ hb rfl
 rw[aI e6];by_cases i:k=7
 ·rw[aK i];exact h.b_ hb rfl
 rw[aI i];by_cases l:k=8
 ·rw[aK l];exact h.b_ hb rfl
 rw[aI l];by_cases m:k=10
 ·rw[aK m];unfold cv.pop;generalize S.s.rs.getD A 0=x;split
  ·split
   ·rename_i hi;have u:S.q.getD (dV x S.q) (0,0)∈S.q:=by simp_all
    have sub:∀e,e∈S.q.take (dV x S.q)++S.q.drop (dV x S.q+1)->e∈S.q:=fun e he=>by
     rcases List.mem_append.1 he with d|d
     ·exact List.mem_of_mem_take d
     ·exact List.mem_of_mem_drop d
    refine⟨⟨h.kv,fun e he=>h.eo e (he.imp id (sub e)),h.m,?_⟩,hb,fun _ _=>(h.eo _ (aL u)).2,fun q=>absurd rfl q⟩
    have:=h.k7;dsimp only;rw[a7,bq,List.length_drop];omega
   ·simp_all
  ·simp_all
 rw[aI m];by_cases o:k=11
 ·rw[aK o];refine⟨h,hb,fun q ha=>?_,fun _=>rfl⟩
  have q:=q;rw[aK q] at ha⊢;obtain⟨Y,G,kv⟩:=h.kv;obtain⟨v,w,t3,p⟩:=ni q;obtain⟨_,hv⟩:=(jf kv.inv.full hb.n1 hb.y1 hb.o1 hb.g1).1 v;rw[kv.inv.full.stands hb.y1 hv] at p;exact(jf kv.inv.full hb.n1 hb.y1 hb.o1 hb.g1).2 ⟨ha,kv.inv.fd _ hv I t3 p ha⟩
 rw[aI o];by_cases s:k=13
 ·rw[aK s];unfold cv.len;split
  ·exact⟨h,hb,fun q=>rf q,fun _=>rfl⟩
  ·simp_all
 rw[aI s];by_cases t:k=14
 ·rw[aK t];refine⟨h,hb,fun _=>?_,fun _=>rfl⟩
  dsimp only;split
  ·exact rf ae
  ·exact rf ae
 rw[aI t];exact⟨h,hb,fun _ ha=>by assumption,fun _=>rfl⟩
theorem dX.st (h:dX a S j)(hb:cM a S.s){R:Nat}{x:Int}(b:oE a S x):dX a (S.st R x) j/\cM a (S.st R x).s:=by
 obtain⟨Y,G,kv⟩:=h.kv;refine⟨⟨⟨Y,G,kv.root R x (fun ha=>(jf kv.inv.full hb.n1 hb.y1 hb.o1 hb.g1).1 (b ha) |>.2)⟩,fun e he=>h.eo e he,h.m,h.k7⟩,⟨hb.n0,hb.n1,hb.o1,hb.y1,hb.g1,hb.l1,?_⟩⟩
 show(S.s.rs.set R x).length=12;rw[bf];exact hb.r1
theorem dX.set (h:dX a S j)(hb:cM a S.s)(A B:Nat)(I:Int):dX a (S.set a (S.s.rs.getD A 0) I (S.s.rs.getD B 0)) (j+1)/\cM a (S.set a (S.s.rs.getD A 0) I (S.s.rs.getD B 0)).s:=by
 obtain⟨Y,G,kv⟩:=h.kv;refine⟨⟨⟨Y,G,?_,kX.set kv.inv kv.cd hb.l1 hb.n1 hb.y1 hb.o1 hb.g1 _ _ _⟩,?_,?_,h.k7⟩,⟨hb.n0,hb.n1,hb.o1,hb.y1,hb.g1,?_,hb.r1⟩⟩
 ·show ix a.N S.s.y S.s.g (gz a.N S.s.y S.s.g S.s.ws (S.s.rs.getD A 0) I (S.s.rs.getD B 0)) Y G S.s.rs;by_cases b:eD a.N S.s.y S.s.g S.s.ws (S.s.rs.getD A 0) I=0
  ·obtain⟨e,i,t3,d⟩:=ni b;obtain⟨_,hv⟩:=(jf kv.inv.full hb.n1 hb.y1 hb.o1 hb.g1).1 e;rw[kv.inv.full.stands hb.y1 hv] at d;unfold gz;rw[aK b,aK (kF kv.inv.full hv t3 d)];exact kv.inv.set hb.l1 hb.y1 hb.g1 hv t3 d (fun f=>kv.any B f)
  ·rw[(oz (M:=S.s.M) (c:=dJ a.O) b).1];exact kv.inv
 ·exact h.eo.more kv hb (kv.inv.full.gz hb.l1 hb.n1 hb.y1 hb.o1 hb.g1 (S.s.rs.getD A 0) I (S.s.rs.getD B 0)) hb.y1 hb.g1 (fun v hv=>hv)
 ·have:=h.m;have:=Gz (N:=a.N) (y:=S.s.y) (g:=S.s.g) (ws:=S.s.ws) (S.s.rs.getD A 0) I (S.s.rs.getD B 0) (dJ a.O) S.s.M;show(stM a.N S.s.y S.s.g S.s.ws _ I _ (dJ a.O) S.s.M).length<=j+1;omega
 ·show(gz a.N S.s.y S.s.g S.s.ws _ I _).length=a.N+a.O;unfold gz;split
  ·split
   ·rw[bf];exact hb.l1
   ·exact hb.l1
  ·exact hb.l1
theorem Hm {x i z:Int}(h:eD a.N S.s.y S.s.g S.s.ws x i≠0):S.set a x i z=S:=by unfold cv.set;rw[(oz (M:=S.s.M) (c:=dJ a.O) h).1,(oz h).2]
theorem Hn {x:Int}(h:S.ex a x=0):tB a.N S.s.y S.s.g S.s.ws x=true:=by
 unfold cv.ex at h;split at h
 ·assumption
 ·omega
theorem Ho {x:Int}(h:S.kx a x=5):tB a.N S.s.y S.s.g S.s.ws x=true:=by
 unfold cv.kx at h;split at h
 ·assumption
 ·omega
theorem dX.reg (h:dX a S j)(hb:cM a S.s)(t g:Int):dX a (S.reg a t g).2 j/\cM a (S.reg a t g).2.s/\((S.reg a t g).1≠0->(S.reg a t g).2=S):=by
 unfold cv.reg;split
 ·rename_i c1;split
  ·rename_i c2;split
   ·simp_all
   ·rename_i c3;refine⟨⟨h.kv,fun e he=>?_,h.m,?_⟩,hb,fun q=>absurd rfl q⟩
    ·rcases he with b|b
     ·rcases List.mem_append.1 b with b|b
      ·exact h.eo e (aM b)
      ·rw[List.mem_singleton.1 b];exact⟨Ho c2,Hn c1⟩
     ·exact h.eo e (aL b)
    ·dsimp only;rw[a7,List.length_singleton];omega
  ·simp_all
 ·simp_all
theorem Ab {k R A B n:Int}(h:d4 k R A B n=0):h9 k n=0:=by
 unfold d4 at h;split at h
 ·omega
 ·split at h
  ·omega
  ·exact h
theorem dX.hd (h:dX a S j)(hb:cM a S.s)(k R A B I n:Int):dX a (S.hd a k R A B I n).2 (j+1)/\cM a (S.hd a k R A B I n).2.s/\((S.hd a k R A B I n).1≠0->(S.hd a k R A B I n).2=S):=by
 unfold cv.hd;split
 ·rename_i hc;split
  ·obtain⟨r1,b,r3⟩:=h.reg hb _ _;exact⟨r1.mono aa,b,r3⟩
  ·split
   ·obtain⟨r1,b⟩:=h.set hb A.toNat B.toNat I;exact⟨r1,b,fun q=>Hm q⟩
   ·split
    ·obtain⟨r1,b⟩:=h.cut hb;exact⟨r1.mono aa,b,fun q=>z_ q⟩
    ·split
     ·obtain⟨r1,b⟩:=h.dD hb;exact⟨r1.mono aa,b,fun q=>Aa q⟩
     ·obtain⟨r1,b,r3,d⟩:=h.rt hb A.toNat B.toNat I (Ab hc)
      split
      ·rename_i c;obtain⟨s1,s2⟩:=r1.st b (r3 c)
       exact⟨s1.mono aa,s2,fun q=>absurd rfl q⟩
      ·rename_i c;exact⟨r1.mono aa,b,fun _=>d c⟩
 ·exact⟨h.mono aa,hb,fun _=>rfl⟩
end
theorem Hp (a:Wc)(S:cv)(x:Int):(S.pop a x).2.2.s.rs=S.s.rs:=by
 unfold cv.pop;split
 ·split<;>rfl
 ·rfl
theorem Hq (a:Wc)(S:cv)(t g:Int):(S.reg a t g).2.s.rs=S.s.rs:=by
 unfold cv.reg;split
 ·split
  ·split<;>rfl
  ·rfl
 ·rfl
section
variable {a:Wc}{hp:Nat}{F:Nat->Prop}{S:cv}{w:az}
theorem Hr (h:(cA a hp).J F S w)(R I n:Int)(A B:Nat)(f:A<12)(hB:B<12)(hq:S.q.length+S.r.length<=90000)(j:S.fX a=false->∃G,iL (S.k5 a) (S.dI a) G/\G 0 (S.k5 a,0))(room:(S.room a 3).1=0->(S.room a 3).2.s.y+3<=a.N):
 Calls prog 57 #[aq hp,d5 4 R A B I n] w fun e w'=>∃c,e=.returned (.tuple #[ak (S.b_ a 1 [A,B]).1,ak (S.b_ a 1 [A,B]).2.1])/\(cA a hp).J c (S.b_ a 1 [A,B]).2.2 w'/\cg F w c w':=by
 have d:=(aw w (cG 4 R A B I n)).alloc ac (.cells #[.int .i64 (A:Int),.int .i64 (B:Int)] 3)
 have b:=aP (w.alloc (cG 4 R A B I n)) (.cells #[.int .i64 (A:Int),.int .i64 (B:Int)] 3)
 have k:(w.alloc (cG 4 R A B I n)).heap.size=w.heap.size+1:=ac;rw[k] at b;have P:=pH ((cA a hp).below h d) 1 [A,B] (au (w.heap.size+1)) 2 hq j rfl (fun _=>⟨w.heap.size+1,rfl,fun l=>by have:=(cA a hp).lt h _ l;omega,lt_of_some b,fun i hi=>by
  have hi:i<2:=hi;rcases(show i=0\/i=1 by omega) with rfl|rfl<;>simp only [World.cell?,b]<;>rfl⟩) (fun i hi=>by
  have hi:i<2:=hi;rcases(show i=0\/i=1 by omega) with rfl|rfl
  ·exact f
  ·exact hB) room
 have HB:=hide d;generalize S.b_ a 1 [A,B]=g at*;obtain⟨v,cd,m⟩:=g;exact re
theorem Hs (h:(cA a hp).J F S w)(R I n:Int)(A B:Nat)(f:A<12)(hB:B<12)(hq:S.q.length+S.r.length<=90000)(j:S.fX a=false->∃G,iL (S.k5 a) (S.dI a) G/\G 0 (S.k5 a,0))(room:(S.room a 3).1=0->(S.room a 3).2.s.y+3<=a.N):
 Calls prog 57 #[aq hp,d5 6 R A B I n] w fun e w'=>∃c,e=.returned (.tuple #[ak (S.b_ a 3 [A,B]).1,ak (S.b_ a 3 [A,B]).2.1])/\(cA a hp).J c (S.b_ a 3 [A,B]).2.2 w'/\cg F w c w':=by
 have d:=(aw w (cG 6 R A B I n)).alloc ac (.cells #[.int .i64 (A:Int),.int .i64 (B:Int)] 3)
 have b:=aP (w.alloc (cG 6 R A B I n)) (.cells #[.int .i64 (A:Int),.int .i64 (B:Int)] 3)
 have k:(w.alloc (cG 6 R A B I n)).heap.size=w.heap.size+1:=ac;rw[k] at b;have P:=pH ((cA a hp).below h d) 3 [A,B] (au (w.heap.size+1)) 2 hq j rfl (fun _=>⟨w.heap.size+1,rfl,fun l=>by have:=(cA a hp).lt h _ l;omega,lt_of_some b,fun i hi=>by
  have hi:i<2:=hi;rcases(show i=0\/i=1 by omega) with rfl|rfl<;>simp only [World.cell?,b]<;>rfl⟩) (fun i hi=>by
  have hi:i<2:=hi;rcases(show i=0\/i=1 by omega) with rfl|rfl
  ·exact f
  ·exact hB) room
 have HB:=hide d;generalize S.b_ a 3 [A,B]=g at*;obtain⟨v,cd,m⟩:=g;exact re
theorem Ht (h:(cA a hp).J F S w)(R I n:Int)(A B:Nat)(f:A<12)(hB:B<12)(hq:S.q.length+S.r.length<=90000)(j:S.fX a=false->∃G,iL (S.k5 a) (S.dI a) G/\G 0 (S.k5 a,0))(room:(S.room a 3).1=0->(S.room a 3).2.s.y+3<=a.N):
 Calls prog 57 #[aq hp,d5 7 R A B I n] w fun e w'=>∃c,e=.returned (.tuple #[ak (S.b_ a 4 [A,B]).1,ak (S.b_ a 4 [A,B]).2.1])/\(cA a hp).J c (S.b_ a 4 [A,B]).2.2 w'/\cg F w c w':=by
 have d:=(aw w (cG 7 R A B I n)).alloc ac (.cells #[.int .i64 (A:Int),.int .i64 (B:Int)] 3)
 have b:=aP (w.alloc (cG 7 R A B I n)) (.cells #[.int .i64 (A:Int),.int .i64 (B:Int)] 3)
 have k:(w.alloc (cG 7 R A B I n)).heap.size=w.heap.size+1:=ac;rw[k] at b;have P:=pH ((cA a hp).below h d) 4 [A,B] (au (w.heap.size+1)) 2 hq j rfl (fun _=>⟨w.heap.size+1,rfl,fun l=>by have:=(cA a hp).lt h _ l;omega,lt_of_some b,fun i hi=>by
  have hi:i<2:=hi;rcases(show i=0\/i=1 by omega) with rfl|rfl<;>simp only [World.cell?,b]<;>rfl⟩) (fun i hi=>by
  have hi:i<2:=hi;rcases(show i=0\/i=1 by omega) with rfl|rfl
  ·exact f
  ·exact hB) room
 have HB:=hide d;generalize S.b_ a 4 [A,B]=g at*;obtain⟨v,cd,m⟩:=g;exact re
theorem Hu (h:(cA a hp).J F S w)(R A B I n:Int)(hq:S.q.length+S.r.length<=90000)(d:S.fX a=false->∃G,iL (S.k5 a) (S.dI a) G/\G 0 (S.k5 a,0))(room:(S.room a 1).1=0->(S.room a 1).2.s.y+1<=a.N):
 Calls prog 57 #[aq hp,d5 8 R A B I n] w fun e w'=>∃b,e=.returned (.tuple #[ak (S.b_ a 5 []).1,ak (S.b_ a 5 []).2.1])/\(cA a hp).J b (S.b_ a 5 []).2.2 w'/\cg F w b w':=by
 have c:=aw w (cG 8 R A B I n)
 have P:=pH ((cA a hp).below h c) 5 [] none 0 hq d rfl (fun f=>absurd f ac) (fun i hi=>absurd hi ac) room;have HB:=hide c;exact re
theorem Hv (h:(cA a hp).J F S w)(R B I:Int)(A n:Nat)(m:A<12)(hn:n<=12)(hq:S.q.length+S.r.length<=90000)(o:S.fX a=false->∃G,iL (S.k5 a) (S.dI a) G/\G 0 (S.k5 a,0))(room:(S.room a (1+n)).1=0->(S.room a (1+n)).2.s.y+1+n<=a.N):
 Calls prog 57 #[aq hp,d5 5 R A B I n] w fun e w'=>∃b,e=.returned (.tuple #[ak (S.b_ a 2 (List.replicate n A)).1,ak (S.b_ a 2 (List.replicate n A)).2.1])/\(cA a hp).J b (S.b_ a 2 (List.replicate n A)).2.2 w'/\cg F w b w':=by
 have f:=(aw w (cG 5 R A B I n)).alloc ac (.cells #[.int .i64 (A:Int)] 3)
 have k:=aP (w.alloc (cG 5 R A B I n)) (.cells #[.int .i64 (A:Int)] 3)
 have p:(w.alloc (cG 5 R A B I n)).heap.size=w.heap.size+1:=ac;rw[p] at k;have hl:(List.replicate n A).length=n:=List.length_replicate;have hk:hc 2 (List.replicate n A).length=0:=by rw[hl];rcases(show n=0\/n=1\/n=2\/n=3\/n=4\/n=5\/n=6\/n=7\/n=8\/n=9\/n=10\/n=11\/n=12 by omega) with e|e|e|e|e|e|e|e|e|e|e|e|e<;>(rw[e];rfl)
 have ad:=(cA a hp).below h f;have q:((w.alloc (cG 5 R A B I n)).alloc (.cells #[.int .i64 (A:Int)] 3)).cell? (av (w.heap.size+1) 0)=some (ak (A:Int)):=by simp only [World.cell?,k];rfl
 have s:Calls prog 124 #[.slice (au (w.heap.size+1)) 1 1,ak n] ((w.alloc (cG 5 R A B I n)).alloc (.cells #[.int .i64 (A:Int)] 3)) fun e w'=>∃nb,e=.returned (.slice (au nb) n n)/\(0<n->w.heap.size+2<=nb/\w'.heap[nb]?=some (.cells ((List.replicate n (A:Int)).map (Value.int .i64)).toArray 3 (0,0)))/\Below w.heap.size w w':=by
  by_cases h0:0<n
  ·refine(Hi _ (w.heap.size+1) n A h0 hn q).mono ?_;rintro e w' ⟨nb,rfl,g1,g2,g3⟩
   simp at g1;exact⟨nb,rfl,fun _=>⟨aa,g2⟩,f.trans (g3.mono (by simp;omega))⟩
  ·obtain rfl:n=0:=aa;refine(Hj _ (w.heap.size+1) A).mono ?_;rintro e w' ⟨nb,rfl,g3⟩
   exact⟨nb,rfl,fun c=>absurd c aa,f.trans (g3.mono (by simp;omega))⟩
 have u:∀d nb,Below w.heap.size w d->(0<n->w.heap.size+2<=nb/\d.heap[nb]?=some (.cells ((List.replicate n (A:Int)).map (Value.int .i64)).toArray 3 (0,0)))->Calls prog 123 #[aq hp,ak 2,.slice (au nb) n n] d fun e w'=>∃b,e=.returned (.tuple #[ak (S.b_ a 2 (List.replicate n A)).1,ak (S.b_ a 2 (List.replicate n A)).2.1])/\(cA a hp).J b (S.b_ a 2 (List.replicate n A)).2.2 w'/\cg F w b w':=fun d nb hb hr=>by
  have P:=pH ((cA a hp).below h hb) 2 (List.replicate n A) (au nb) n hq o hk (fun c=>by
   rw[hl] at c;obtain⟨g1,g2⟩:=hr c;refine⟨nb,rfl,fun c=>by have:=(cA a hp).lt h _ c;omega,lt_of_some g2,fun i hi=>?_⟩
   rw[hl] at hi;have e:(List.replicate n A).getD i 0=A:=by rw[aJ,List.getElem?_replicate_of_lt hi];rfl
   rw[e];simp[World.cell?,g2,hi]) (fun i hi=>by
   rw[hl] at hi;rw[aJ,List.getElem?_replicate_of_lt hi];exact m) (by rw[hl];exact room)
  rw[hl] at P;refine P.mono ?_;rintro e w' ⟨b,rfl,j,t⟩
  exact⟨b,rfl,j,(cg.of hb).trans t⟩
 have x:=hide u;generalize S.b_ a 2 (List.replicate n A)=g at*;obtain⟨v,cd,ag⟩:=g;go_enter func57,ntmps57;go_wp2_with fail;refine s.mono ?_;rintro e d ⟨nb,rfl,hr,hb⟩
 have P:=x.o d nb hb hr;go_wp2_with fail;refine P.mono ?_;rintro e ai ⟨N,rfl,W,ab⟩
 have l:=c7 W ab;go_wp2_with fail;go_ret2;exact⟨N,rfl,l.o.1,l.o.2⟩
theorem Hw (h:(cA a hp).J F S w)(R B I n:Int)(A:Nat)(f:A<12):
 Calls prog 57 #[aq hp,d5 3 R A B I n] w fun e w'=>e=.returned (.tuple #[ak (S.s.rs.getD A 0),ak 0])/\Below w.heap.size w w':=by
 have b:=aw w (cG 3 R A B I n)
 have c:=aP w (.cells #[.int .i64 3,.int .i64 R,.int .i64 (A:Int),.int .i64 B,.int .i64 I,.int .i64 n] 44)
 have d:=(cA a hp).below h b;obtain⟨h0,c0,c3,rt,_⟩:=fe d;obtain⟨r1,_⟩:=rt A f;skip;obtain⟨q0,q1,j,q3,k,l⟩:=el c;have fx:¬F w.heap.size:=fun g=>by have:=(cA a hp).lt h _ g;omega
 have i:=hide b;clear h d rt b c fx;generalize S.s.rs.getD A 0=x at*;go_enter func57,ntmps57
 go_upto_region 6 with fail
 go_quiet (fail)
 go_wp2_with fail;go_ret2;exact⟨rfl,below_drewN i.o _⟩
theorem Hx (h:(cA a hp).J F S w)(R B I n:Int)(A:Nat)(q:A<12)(hq:S.q.length<=90000):
 Calls prog 57 #[aq hp,d5 10 R A B I n] w fun e w'=>∃b,e=.returned (.tuple #[ak (S.pop a (S.s.rs.getD A 0)).1,ak (S.pop a (S.s.rs.getD A 0)).2.1])/\(cA a hp).J b (S.pop a (S.s.rs.getD A 0)).2.2 w'/\cg F w b w':=by
 have c:=aw w (cG 10 R A B I n)
 have d:=aP w (.cells #[.int .i64 10,.int .i64 R,.int .i64 (A:Int),.int .i64 B,.int .i64 I,.int .i64 n] 44)
 have k:=(cA a hp).below h c;obtain⟨h0,c0,c3,rt,_⟩:=fe k;obtain⟨r1,_⟩:=rt A q;have l:=(cA a hp).below k (aH _ (w.alloc (cG 10 R A B I n))).drew;have s:=G9 l (S.s.rs.getD A 0) hq;obtain⟨q0,q1,ad,q3,ar,aB⟩:=el d;have u:Below w.heap.size w (w.alloc (cG 10 R A B I n)).drew:=c.trans ((aH _ (w.alloc (cG 10 R A B I n))).drew.mono c.size)
 have aF:(0:Int)<=(A:Int):=aa;have aR:(A:Int)<12:=aa;have ag:w.heap.size<(w.alloc (cG 10 R A B I n)).heap.size:=lt_of_some d;have fx:¬F w.heap.size:=fun ai=>by have:=(cA a hp).lt h _ ai;omega
 have N:aA ((cA a hp).J F S (w.alloc (cG 10 R A B I n)).drew/\Below w.heap.size w (w.alloc (cG 10 R A B I n)).drew/\(w.alloc (cG 10 R A B I n)).drew.heap[w.heap.size]?=some (cG 10 R A B I n)/\¬F w.heap.size):=⟨l,u,d,fx⟩
 have aV:aA (Below w.heap.size w (w.alloc (cG 10 R A B I n))):=c;clear h k l rt c u d fx;have a0:aA (S.s.rs.getD A 0=S.s.rs.getD A 0):=rfl;have al:aA ((S.pop a (S.s.rs.getD A 0)).2.2.s.rs=S.s.rs):=Hp a S (S.s.rs.getD A 0)
 generalize S.pop a (S.s.rs.getD A 0)=g at*;obtain⟨v,cd,am⟩:=g;dsimp only at*;go_enter func57,ntmps57
 go_upto_region 18 with fail
 generalize w.alloc (cG 10 R A B I n)=w0 at*;generalize an:w.heap.size=f at*;have ao:aA (∀b w' m,(cA a hp).J b m w'->cg F w0.drew b w'->m.s.rs=S.s.rs->(w'.cell? ⟨hp,0,none⟩=some (.pointer (some ⟨a.pw,0,none⟩))/\w'.cell? ⟨a.pw,3,none⟩=some (.slice (some ⟨a.nb,0,none⟩) 12 12)/\w'.cell? ⟨a.nb,A,none⟩=some (.int .i64 (S.s.rs.getD A 0)))/\w'.cell? ⟨f,2,none⟩=some (.int .i64 (A:Int))):=fun b w' m j t ap=>by obtain⟨g0,_,g3,W,_⟩:=fe j;rw[ap] at W;exact⟨⟨g0,g3,(W A q).1⟩,(aQ (a:=⟨f,2,none⟩) (t.fr.block f ag N.o.2.2.2)).trans ad⟩
 generalize S.s.rs.getD A 0=x at*
 go_region_held3 (fun w'=>w'.cell? (av hp 0)=some (aq a.pw)/\w'.cell? (av a.pw 3)=some (.slice (au a.nb) 12 12)/\w'.cell? (av a.nb A)=some (ak x)/\w'.cell? (av f 2)=some (ak (A:Int))) (go_keep)
  (first
    |(go_at_call 125;refine s.mono ?_;clear s;rintro e o ⟨i,rfl,j2,p⟩;obtain⟨⟨g0,g3,gr⟩,a1⟩:=ao.o i o _ j2 p al.o;have ab:aA ((cA a hp).J i am o/\cg F w i o):=⟨j2,(cg.of (by rw[an];exact N.o.2.1)).trans p⟩;clear j2 p))
 go_wp2_with fail;go_ret2;exact⟨i,rfl,ab.o.1,ab.o.2⟩
theorem Hy (h:(cA a hp).J F S w)(R B I n:Int)(A:Nat)(k:A<12):
 Calls prog 57 #[aq hp,d5 13 R A B I n] w fun e w'=>e=.returned (.tuple #[ak (S.len a (S.s.rs.getD A 0)).1,ak (S.len a (S.s.rs.getD A 0)).2.1])/\Below w.heap.size w w':=by
 have c:=aw w (cG 13 R A B I n)
 have d:=aP w (.cells #[.int .i64 13,.int .i64 R,.int .i64 (A:Int),.int .i64 B,.int .i64 I,.int .i64 n] 44)
 have g:=(cA a hp).below h c;obtain⟨h0,c0,c3,rt,_⟩:=fe g;obtain⟨r1,_⟩:=rt A k;have i:=(cA a hp).below g (aH _ (w.alloc (cG 13 R A B I n))).drew;have l:=G8 i (S.s.rs.getD A 0)
 obtain⟨q0,q1,o,q3,ab,ad⟩:=el d;have b:Below w.heap.size w (w.alloc (cG 13 R A B I n)).drew:=c.trans ((aH _ (w.alloc (cG 13 R A B I n))).drew.mono c.size)
 have ag:(0:Int)<=(A:Int):=aa;have ai:(A:Int)<12:=aa;have q:w.heap.size<(w.alloc (cG 13 R A B I n)).heap.size:=lt_of_some d;have fx:¬F w.heap.size:=fun s=>by have:=(cA a hp).lt h _ s;omega
 have j:aA ((cA a hp).J F S (w.alloc (cG 13 R A B I n)).drew/\Below w.heap.size w (w.alloc (cG 13 R A B I n)).drew/\(w.alloc (cG 13 R A B I n)).drew.heap[w.heap.size]?=some (cG 13 R A B I n)/\¬F w.heap.size):=⟨i,b,d,fx⟩
 have al:aA (Below w.heap.size w (w.alloc (cG 13 R A B I n))):=c;clear h g i rt c b d fx;have am:aA (S.s.rs.getD A 0=S.s.rs.getD A 0):=rfl;generalize (S.len a (S.s.rs.getD A 0)).1=v at*;generalize (S.len a (S.s.rs.getD A 0)).2.1=cd at*;go_enter func57,ntmps57
 go_upto_region 22 with fail
 generalize w.alloc (cG 13 R A B I n)=w0 at*;generalize t:w.heap.size=f at*;have u:aA (∀w',Below w0.drew.heap.size w0.drew w'->(w'.cell? ⟨hp,0,none⟩=some (.pointer (some ⟨a.pw,0,none⟩))/\w'.cell? ⟨a.pw,3,none⟩=some (.slice (some ⟨a.nb,0,none⟩) 12 12)/\w'.cell? ⟨a.nb,A,none⟩=some (.int .i64 (S.s.rs.getD A 0)))/\w'.cell? ⟨f,2,none⟩=some (.int .i64 (A:Int))):=fun w' hb=>by
  obtain⟨g0,_,g3,N,_⟩:=fe ((cA a hp).below j.o.1 hb)
  exact⟨⟨g0,g3,(N A k).1⟩,(hb.cell (p:=av f 2) q).trans o⟩
 generalize S.s.rs.getD A 0=x at*
 go_region_held3 (fun w'=>w'.cell? (av hp 0)=some (aq a.pw)/\w'.cell? (av a.pw 3)=some (.slice (au a.nb) 12 12)/\w'.cell? (av a.nb A)=some (ak x)/\w'.cell? (av f 2)=some (ak (A:Int))) (go_keep)
  (first
    |(go_at_call 126;refine l.mono ?_;clear l;rintro e m ⟨rfl,b⟩;obtain⟨⟨g0,g3,gr⟩,an⟩:=u.o m b;have W:aA (Below f w m):=j.o.2.1.trans (b.mono (by have:=j.o.2.1.size;omega));clear b))
 go_wp2_with fail;go_ret2;exact⟨rfl,by rw[t];exact W.o⟩
theorem Hz (h:(cA a hp).J F S w)(R B I n:Int)(A:Nat)(k:A<12):
 Calls prog 57 #[aq hp,d5 11 R A B I n] w fun e w'=>e=.returned (.tuple #[ak (if eD a.N S.s.y S.s.g S.s.ws (S.s.rs.getD A 0) I=0 then ld a.N S.s.y S.s.g S.s.ws (cq (S.s.rs.getD A 0)+1+I) else 0),ak (eD a.N S.s.y S.s.g S.s.ws (S.s.rs.getD A 0) I)])/\Below w.heap.size w w':=by
 have d:=aw w (cG 11 R A B I n)
 have f:=aP w (.cells #[.int .i64 11,.int .i64 R,.int .i64 (A:Int),.int .i64 B,.int .i64 I,.int .i64 n] 44)
 have i:=(cA a hp).below h d;obtain⟨h0,c0,c3,rt,_⟩:=fe i;obtain⟨r1,_⟩:=rt A k;have g:=(cA a hp).below i (aH _ (w.alloc (cG 11 R A B I n))).drew;have l:=Dh (S.s.rs.getD A 0) I (w.alloc (cG 11 R A B I n)).drew (fe g).c0 (lJ g).1;obtain⟨q0,q1,q,q3,s,ad⟩:=el f;have c:Below w.heap.size w (w.alloc (cG 11 R A B I n)).drew:=d.trans ((aH _ (w.alloc (cG 11 R A B I n))).drew.mono d.size)
 have ag:(0:Int)<=(A:Int):=aa;have ai:(A:Int)<12:=aa;have m:w.heap.size<(w.alloc (cG 11 R A B I n)).heap.size:=lt_of_some f;have fx:¬F w.heap.size:=fun t=>by have:=(cA a hp).lt h _ t;omega
 have j:aA ((cA a hp).J F S (w.alloc (cG 11 R A B I n)).drew/\Below w.heap.size w (w.alloc (cG 11 R A B I n)).drew/\(w.alloc (cG 11 R A B I n)).drew.heap[w.heap.size]?=some (cG 11 R A B I n)/\¬F w.heap.size):=⟨g,c,f,fx⟩
 have al:aA (Below w.heap.size w (w.alloc (cG 11 R A B I n))):=d;clear h i g rt d c f fx;have am:aA (S.s.rs.getD A 0=S.s.rs.getD A 0):=rfl;generalize (if eD a.N S.s.y S.s.g S.s.ws (S.s.rs.getD A 0) I=0 then ld a.N S.s.y S.s.g S.s.ws (cq (S.s.rs.getD A 0)+1+I) else 0)=v at*;generalize eD a.N S.s.y S.s.g S.s.ws (S.s.rs.getD A 0) I=cd at*;go_enter func57,ntmps57
 go_upto_region 20 with fail
 generalize w.alloc (cG 11 R A B I n)=w0 at*;generalize u:w.heap.size=b at*;have N:aA (∀w',Below w0.drew.heap.size w0.drew w'->(w'.cell? ⟨hp,0,none⟩=some (.pointer (some ⟨a.pw,0,none⟩))/\w'.cell? ⟨a.pw,3,none⟩=some (.slice (some ⟨a.nb,0,none⟩) 12 12)/\w'.cell? ⟨a.nb,A,none⟩=some (.int .i64 (S.s.rs.getD A 0)))/\w'.cell? ⟨b,2,none⟩=some (.int .i64 (A:Int))/\w'.cell? ⟨b,4,none⟩=some (.int .i64 I)):=fun w' hb=>by
  obtain⟨g0,_,g3,W,_⟩:=fe ((cA a hp).below j.o.1 hb)
  exact⟨⟨g0,g3,(W A k).1⟩,(hb.cell (p:=av b 2) m).trans q,(hb.cell (p:=av b 4) m).trans s⟩
 generalize S.s.rs.getD A 0=x at*
 go_region_held3 (fun w'=>w'.cell? (av hp 0)=some (aq a.pw)/\w'.cell? (av a.pw 3)=some (.slice (au a.nb) 12 12)/\w'.cell? (av a.nb A)=some (ak x)/\w'.cell? (av b 2)=some (ak (A:Int))/\w'.cell? (av b 4)=some (ak I)) (go_keep)
  (first
    |(go_at_call 45;refine l.mono ?_;clear l;rintro e o ⟨rfl,c⟩;obtain⟨⟨g0,g3,gr⟩,an,ao⟩:=N.o o c;have ab:aA (Below b w o):=j.o.2.1.trans (c.mono (by have:=j.o.2.1.size;omega));clear c))
 go_wp2_with fail;go_ret2;exact⟨rfl,by rw[u];exact ab.o⟩
theorem HD (h:(cA a hp).J F S w)(R I n:Int)(A B:Nat)(j:A<12)(hB:B<12):
 Calls prog 57 #[aq hp,d5 14 R A B I n] w fun e w'=>e=.returned (.tuple #[ak (if S.s.rs.getD A 0=S.s.rs.getD B 0 then ew 1 1 else ew 1 0),ak 0])/\Below w.heap.size w w':=by
 have d:=aw w (cG 14 R A B I n)
 have f:=aP w (.cells #[.int .i64 14,.int .i64 R,.int .i64 (A:Int),.int .i64 (B:Int),.int .i64 I,.int .i64 n] 44)
 have g:=(cA a hp).below h d;obtain⟨h0,c0,c3,rt,_⟩:=fe g;obtain⟨r1,_⟩:=rt A j;obtain⟨N,_⟩:=rt B hB;obtain⟨q0,q1,q,q3,W,ab⟩:=el f;have c:Below w.heap.size w (w.alloc (cG 14 R A B I n)).drew:=d.trans ((aH _ (w.alloc (cG 14 R A B I n))).drew.mono d.size)
 have ad:(0:Int)<=(A:Int):=aa;have ag:(A:Int)<12:=aa;have ai:(0:Int)<=(B:Int):=aa;have al:(B:Int)<12:=aa;have k:=G7 (S.s.rs.getD A 0) (S.s.rs.getD B 0) (w.alloc (cG 14 R A B I n)).drew;have l:w.heap.size<(w.alloc (cG 14 R A B I n)).heap.size:=lt_of_some f;have i:aA ((cA a hp).J F S (w.alloc (cG 14 R A B I n)).drew/\Below w.heap.size w (w.alloc (cG 14 R A B I n)).drew/\(w.alloc (cG 14 R A B I n)).drew.heap[w.heap.size]?=some (cG 14 R A B I n)):=⟨(cA a hp).below g (aH _ (w.alloc (cG 14 R A B I n))).drew,c,f⟩
 clear h g rt d c f;have am:aA (S.s.rs.getD A 0=S.s.rs.getD A 0):=rfl;generalize (if S.s.rs.getD A 0=S.s.rs.getD B 0 then ew 1 1 else ew 1 0)=v at*;go_enter func57,ntmps57
 go_upto_region 24 with fail
 generalize w.alloc (cG 14 R A B I n)=w0 at*;generalize s:w.heap.size=b at*;have t:aA (∀w',Below w0.drew.heap.size w0.drew w'->(w'.cell? ⟨hp,0,none⟩=some (.pointer (some ⟨a.pw,0,none⟩))/\w'.cell? ⟨a.pw,3,none⟩=some (.slice (some ⟨a.nb,0,none⟩) 12 12)/\w'.cell? ⟨a.nb,A,none⟩=some (.int .i64 (S.s.rs.getD A 0))/\w'.cell? ⟨a.nb,B,none⟩=some (.int .i64 (S.s.rs.getD B 0)))/\w'.cell? ⟨b,2,none⟩=some (.int .i64 (A:Int))/\w'.cell? ⟨b,3,none⟩=some (.int .i64 (B:Int))):=fun w' hb=>by
  obtain⟨g0,_,g3,m,_⟩:=fe ((cA a hp).below i.o.1 hb)
  exact⟨⟨g0,g3,(m A j).1,(m B hB).1⟩,(hb.cell (p:=av b 2) l).trans q,(hb.cell (p:=av b 3) l).trans q3⟩
 generalize S.s.rs.getD A 0=x at*;generalize S.s.rs.getD B 0=y at*
 go_region_held3 (fun w'=>w'.cell? (av hp 0)=some (aq a.pw)/\w'.cell? (av a.pw 3)=some (.slice (au a.nb) 12 12)/\w'.cell? (av a.nb A)=some (ak x)/\w'.cell? (av a.nb B)=some (ak y)/\w'.cell? (av b 2)=some (ak (A:Int))/\w'.cell? (av b 3)=some (ak (B:Int))) (go_keep)
  (first
    |(go_at_call 127;refine k.mono ?_;clear k;rintro e o ⟨rfl,c⟩;obtain⟨⟨g0,g3,gr,an⟩,ao,ap⟩:=t.o o c;have u:aA (Below b w o):=i.o.2.1.trans (c.mono (by have:=i.o.2.1.size;omega));clear c))
 go_wp2_with fail;go_ret2;exact⟨rfl,by rw[s];exact u.o⟩
theorem HE (R A B I n:Int)(w:az)(hp:Nat):
 Calls prog 57 #[aq hp,d5 2 R A B I n] w fun e w'=>e=.returned (.tuple #[ak 2,ak 0])/\Below w.heap.size w w':=by
 have b:=aw w (cG 2 R A B I n)
 go_enter func57,ntmps57;go_wp2_with fail;refine(sq _).mono ?_;rintro e w1 ⟨rfl,hw⟩
 have hw:=hw.symm;subst hw;go_wp2_with fail;go_ret2;exact⟨rfl,b⟩
theorem HG (h:(cA a hp).J F S w){j:Nat}(ok:dX a S j)(hb:cM a S.s)(k R A B I n:Int)(hk:d4 k R A B n=0)(ad:k≠9)(ag:k≠12)(ai:k≠15)(al:k≠16):
 Calls prog 57 #[aq hp,d5 k R A B I n] w fun e w'=>∃i,e=.returned (.tuple #[ak (S.rt a k A.toNat B.toNat I n).1,ak (S.rt a k A.toNat B.toNat I n).2.1])/\(cA a hp).J i (S.rt a k A.toNat B.toNat I n).2.2 w'/\cg F w i w':=by
 have hq:S.q.length+S.r.length<=90000:=by have:=ok.k7;omega
 have l:=ok.qW hb;have low:∀{Q:Int×Int×cv},(Calls prog 57 #[aq hp,d5 k R A B I n] w fun e w'=>e=.returned (.tuple #[ak Q.1,ak Q.2.1])/\Below w.heap.size w w')->Q.2.2=S->Calls prog 57 #[aq hp,d5 k R A B I n] w fun e w'=>∃i,e=.returned (.tuple #[ak Q.1,ak Q.2.1])/\(cA a hp).J i Q.2.2 w'/\cg F w i w':=fun {Q} P e=>by
  refine P.mono ?_;rintro an w' ⟨rfl,hb⟩
  rw[e];exact⟨F,rfl,(cA a hp).below h hb,cg.of hb⟩
 have g:(di k=3\/di k=6\/di k=7)->∃c:Nat,A=c/\c<12:=fun o=>by have:=lI hk o;exact⟨A.toNat,aa,aa⟩
 have gf:(di k=6\/di k=7)->∃f:Nat,B=f/\f<12:=fun o=>by have:=me hk o;exact⟨B.toNat,aa,aa⟩
 have rm:∀m:Nat,m<=12->(S.room a (1+m)).1=0->(S.room a (1+m)).2.s.y+1+m<=a.N:=fun m hm e=>by have:=(ok.room hb (1+m)).2.2.1 e aa;omega
 unfold cv.rt;by_cases p:k=1
 ·rw[aK p];subst p;exact low (Fs R A B I n w hp) rfl
 rw[aI p];by_cases q:k=3
 ·rw[aK q];subst q;obtain⟨c,rfl,d⟩:=g ae;rw[Int.toNat_natCast];exact low (Hw h R B I n c d) rfl
 rw[aI q];by_cases s:k=4
 ·rw[aK s];subst s;obtain⟨c,rfl,d⟩:=g ae;obtain⟨f,rfl,hB⟩:=gf ae;rw[Int.toNat_natCast,Int.toNat_natCast];exact Hr h R I n c f d hB hq l (rm 2 aa)
 rw[aI s];by_cases t:k=5
 ·rw[aK t];subst t;obtain⟨c,rfl,d⟩:=g ae;have hn:hc 2 n=0:=Ab hk;have hn:=i3 2 n hn;obtain⟨n,rfl⟩:=Int.eq_ofNat_of_zero_le (show 0<=n by omega)
  rw[Int.toNat_natCast];exact Hv h R B I c n d aa hq l (rm n aa)
 rw[aI t];by_cases e6:k=6
 ·rw[aK e6];subst e6;obtain⟨c,rfl,d⟩:=g ae;obtain⟨f,rfl,hB⟩:=gf ae;rw[Int.toNat_natCast,Int.toNat_natCast];exact Hs h R I n c f d hB hq l (rm 2 aa)
 rw[aI e6];by_cases u:k=7
 ·rw[aK u];subst u;obtain⟨c,rfl,d⟩:=g ae;obtain⟨f,rfl,hB⟩:=gf ae;rw[Int.toNat_natCast,Int.toNat_natCast];exact Ht h R I n c f d hB hq l (rm 2 aa)
 rw[aI u];by_cases v:k=8
 ·rw[aK v];subst v;exact Hu h R A B I n hq l (rm 0 aa)
 rw[aI v];by_cases x:k=10
 ·rw[aK x];subst x;obtain⟨c,rfl,d⟩:=g ae;rw[Int.toNat_natCast];exact Hx h R B I n c d aa
 rw[aI x];by_cases N:k=11
 ·rw[aK N];subst N;obtain⟨c,rfl,d⟩:=g ae;rw[Int.toNat_natCast];exact low (Hz h R B I n c d) rfl
 rw[aI N];by_cases W:k=13
 ·rw[aK W];subst W;obtain⟨c,rfl,d⟩:=g ae;rw[Int.toNat_natCast];exact low (Hy h R B I n c d) (by unfold cv.len;split<;>rfl)
 rw[aI W];by_cases ab:k=14
 ·rw[aK ab];subst ab;obtain⟨c,rfl,d⟩:=g ae;obtain⟨f,rfl,hB⟩:=gf ae;rw[Int.toNat_natCast,Int.toNat_natCast];exact low (HD h R I n c f d hB) rfl
 rw[aI ab];have am:k=2:=by
  rcases qJ k with b|b|b|b|b|b|b|b|b|b|b|b|b|b|b|b|b
  all_goals
   first
    |exact b
    |exact absurd b p
    |exact absurd b q
    |exact absurd b s
    |exact absurd b t
    |exact absurd b e6
    |exact absurd b u
    |exact absurd b v
    |exact absurd b ad
    |exact absurd b x
    |exact absurd b N
    |exact absurd b ag
    |exact absurd b W
    |exact absurd b ab
    |exact absurd b ai
    |exact absurd b al
    |(have o:=qK b;unfold d4 at hk;rw[aK o] at hk;omega)
 subst am;exact low (HE R A B I n w hp) rfl
end
end Go.Proofs.YtpkjkjhanlbcoaaGreat
