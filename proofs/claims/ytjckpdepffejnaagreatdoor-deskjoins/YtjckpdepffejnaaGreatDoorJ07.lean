import Derived.Test.YtjckpdepffejnaaGreatDoorJ06
open Array renaming size->I
open Bool renaming false->O4,true->C
open Go renaming Addr->bB,Calls->O2,TypeId->bI,Value->a7,info_parts->bM,maxLen->bL,wpList_append_own->ui,wpList_append_own_at->bO
open Go.Ending renaming returned->OV
open Go.IntKind renaming i64->OW,u64->rT
open Go.Obj renaming cells->OX
open Go.Proofs.Tryz renaming prog->J
open Go.RowKit renaming Below->O7,intOf->bG
open Go.Value renaming agg->bz,bool->bA,int->U,ownBlock->A,pointer->bq,slice->Z,tuple->ay
open Go.World renaming cell?->V,frozen?->bF,heap->G,ownsRow->aC,setCell->P
open Iff renaming rfl->gp
open Int renaming toNat->K
open List renaming foldl_append->lD,getD->X,length->L,length_replicate->ji,replicate->aZ
open Nat renaming min->l8,min_def->sw,succ_pos->jw
open Option renaming none->Y,some->OR
namespace Go.Proofs.YtjckpdepffejnaaGreatDoor
set_option maxRecDepth 100000
set_option maxHeartbeats 4000000
open Tryz
open Go.RowKit W Kp ch
theorem py {P:Prop}(h:P:=by rw[hW0,aY _ _ _ _ ac];exact a6 _ _ _ y0):P:=h
theorem zQ {P:Prop}(h:P:=by
 rcases List.mem_or_eq_of_mem_set hy with hy|hy
 ·exact aK ⟨y,hy,hl,o,e⟩
 ·subst hy;have e:a2=some ⟨k,o,none⟩:=e;exact aI (cu hr k (by rw[e];rfl)).1):P:=h
theorem si {P:Prop}(h:P:=by have:=(List.getElem?_eq_some_iff.1 hj).1;simpa using this):P:=h
section
variable {c:hY}{k:cf}{F:Nat->Prop}{s:cn}{w:az}
theorem Gx (h:(eJ c k).J F s w)(m:CI k s)(hl:L s.ep<=10000):
 O2 prog 183 #[aq c.pk] w λe w'=>e=OV (ay #[])/\(eJ c k).J F (k.be s s.ep) w'/\b9 F w F w':=by
 obtain⟨cJ,bl,h⟩:=h;obtain⟨c0,_,_,_,bn,bo,_,_,_,ap,_,er,_,lk,_⟩:=eK h;obtain⟨ad,cap,rfl⟩:=e7 er;have ar:=cg m;have aB:=cg m.i1;have bp:(0:Int)<=k.N:=aa;clear m ap;go_enter func183,ntmps183;go_wp2_with fail
 go_loopw [9] (λiv wr=>∃(j:Nat)(s1:cn),j<=L s.ep/\iv=ak j/\aA (k.be s (s.ep.take j)=s1)/\(da c k cJ (Z ad (L s.ep) cap)).J F s1 wr/\b9 F w F wr/\aA (CI k s1/\ez k s s1)) (λiv _=>L s.ep-K (bG iv))
 exact⟨0,s,a4 _,rfl,rfl,h,b9.refl _ _,⟨ar.o,ez.refl _ _⟩⟩
 ·
   obtain⟨j,s1,br,rfl,n,d,o,p⟩:=hrel;obtain⟨bs,_,_,_,aF,bt,_,_,_,aR,_,q,_,bx,_⟩:=eK d;have aV:=p.o.2.ep;rw[aV] at q;by_cases g:j<L s.ep
   ·obtain⟨t,u,a0,b0,hc⟩:=ir q aa;have a1:=hc j g;subst a0;have N:X s.ep j 0∈s.ep:=by rw[aM,aP g];exact a_ g
    have S:=aB.o _ N;have v:aA (k.be s (s.ep.take (j+1))=k.ie s1 (X s.ep j 0)):=by
     show _=_;rw[h_ s.ep j g 0];unfold cf.be;rw[lD];have:=n.o;unfold cf.be at this
     rw[this];rfl
    generalize X s.ep j 0=a at a1 S v;have W:aA (CI k (k.ie s1 a)/\ez k s (k.ie s1 a)):=by obtain⟨a2,bb⟩:=p.o.1.ie S.1;exact⟨a2,p.o.2.trans bb⟩
    have ab:aA (k.ie s1 a=k.st (k.st s1 (a+1) 3) (a+2) 3):=rfl;generalize k.ie s1 a=ag at v W ab;have bd:=cU d o;have i:=(ju ((da c k cJ (Z (OR ⟨t,u,Y⟩) (L s.ep) cap)).below d (aH _ wr).drew))
    have f:aA (_):=i;have b1:IntKind.i64.wrap (a+1)=a+1:=by rw[bc];omega
    have b2:IntKind.i64.wrap (a+2)=a+2:=by rw[bc];omega
    clear hc N d o i aR q aF;go_wp2_with fail
    go_region_held3 (λw'=>V w' (av c.pk 0)=OR (aq c.pw)/\V w' (av c.pw 0)=OR (aq c.p)) (go_keep)
     (first
       |(go_at_call 257;refine(o7 _).mono ?_;rintro e be ⟨rfl,b⟩;have b:=b.symm;subst b)
       |(go_at_call 169;refine(mK (a+1) 3 wr.drew f.o.1).mono ?_;rintro e l ⟨rfl,x,B⟩;obtain⟨ai,bg⟩:=f.o.2 l _ _ x B;obtain⟨g0,_,_,_,_,g5,_⟩:=eK ai;have al:aA (_/\_):=⟨ai,(bd.o.2.below (aH _ wr).drew).trans bg⟩))
    have i:=(ju ((da c k cJ (Z (OR ⟨t,u,Y⟩) (L s.ep) cap)).below al.o.1 (aH _ l).drew))
    have f:aA (_):=i;go_wp2_with fail
    go_region_held3 (λw'=>V w' (av c.pk 0)=OR (aq c.pw)/\V w' (av c.pw 0)=OR (aq c.p)) (go_keep)
     (first
       |(go_at_call 257;refine(o7 _).mono ?_;rintro e be ⟨rfl,b⟩;have b:=b.symm;subst b)
       |(go_at_call 169;refine(mK (a+2) 3 l.drew f.o.1).mono ?_;rintro e am ⟨rfl,x,B⟩;obtain⟨an,bi⟩:=f.o.2 am _ _ x B;obtain⟨r0,_,_,_,_,b3,_⟩:=eK an;have ao:aA ((da c k cJ (Z (OR ⟨t,u,Y⟩) (L s.ep) cap)).J F ag am/\_):=⟨(by rw[ab.o];exact an),(al.o.2.below (aH _ l).drew).trans bi⟩))
    go_wp2_with fail;go_roundw
    case rel=>exact⟨j+1,ag,aa,aj,v,ao.o.1,ao.o.2,W⟩
    case measure=>simp[bG];omega
   ·obtain rfl:j=L s.ep:=aa;rw[ba] at n;go_wp2_with fail;go_end0;rw[n.o];exact⟨rfl,⟨_,_,d⟩,o⟩
theorem Gy (h:(eJ c k).J F s w)(ap:CI k s)(hl:s.wk.length<=10000):
 O2 prog 182 #[aq c.pk] w λe w'=>e=OV (ay #[])/\(eJ c k).J F (k.mw s s.wk) w'/\b9 F w F w':=by
 obtain⟨cJ,b,h⟩:=h;obtain⟨c0,_,_,b2,_,b3,_,_,_,bl,er,_,_,lk,_⟩:=eK h;obtain⟨ad,cap,rfl⟩:=e7 er;have bn:aA (CI k s):=ap;have bo:aA (∀a∈s.wk,(k.N:Int)<=a/\a<=2000):=ap.jc;have b4:(0:Int)<=k.N:=aa;clear ap bl;go_enter func182,ntmps182;go_wp2_with fail
 go_loopw [10] (λiv wr=>∃(j:Nat)(s1:cn),j<=s.wk.length/\iv=ak j/\aA (k.mw s (s.wk.take j)=s1)/\(da c k (Z ad s.wk.length cap) b).J F s1 wr/\b9 F w F wr/\aA (CI k s1/\ez k s s1)) (λiv _=>s.wk.length-K (bG iv))
 case atStart=>exact⟨0,s,a4 _,rfl,rfl,h,b9.refl _ _,⟨bn.o,ez.refl _ _⟩⟩
 case round=>
  obtain⟨j,s1,b5,rfl,ar,B,aB,aF⟩:=hrel;obtain⟨t,_,_,bp,_,u,_,_,_,br,aR,_,_,b6,_⟩:=eK B;have bs:=aF.o.2.wk;rw[bs] at aR;by_cases am:j<s.wk.length
  ·obtain⟨d,f,bt,b7,hc⟩:=ir aR aa;have aV:=hc j am;subst bt;have bd:X s.wk j 0∈s.wk:=by rw[aM,aP am];exact a_ am
   have be:=bo.o _ bd;have N:aA (k.mw s (s.wk.take (j+1))=k.e8 s1 (X s.wk j 0)):=by
    show _=_;rw[h_ s.wk j am 0];unfold cf.mw;rw[lD];have:=ar.o;unfold cf.mw at this
    rw[this];rfl
   generalize X s.wk j 0=a at aV be N;have an:aA (CI k (k.e8 s1 a)/\ez k s (k.e8 s1 a)):=by obtain⟨bx,b0⟩:=aF.o.1.e8 be.1;exact⟨bx,aF.o.2.trans b0⟩
   have b8:IntKind.i64.wrap (a+1)=a+1:=by rw[bc];omega
   obtain⟨bg,_⟩:=ju B;have L:=kN (a+1) wr bg;have bi:ld k.N k.y s1.g s1.ws (a+1)=k.ld s1 (a+1):=rfl;rw[bi] at L;have m:aA ((da c k (Z (OR ⟨d,f,Y⟩) s.wk.length cap) b).J F s1 wr/\b9 F w F wr):=⟨B,aB⟩
   clear hc bd B aB bg bi br aR bp;cases hls:k.ls s1 (k.ld s1 (a+1))
   ·have v:aA (k.e8 s1 a=k.st s1 (a+1) (k.nw s1 (k.ld s1 (a+1)))):=by show _=_;unfold cf.e8;rw[hls];rfl
    generalize k.e8 s1 a=S at N an v;generalize k.ld s1 (a+1)=x at L hls v;go_wp2_with fail;refine L.mono ?_;clear L;rintro e w1 ⟨rfl,i⟩
    have P:=pv ((da c k (Z (OR ⟨d,f,Y⟩) s.wk.length cap) b).below m.o.1 i) x;rw[hls] at P;clear aV t u;go_wp2_with fail;refine P.mono ?_;clear P;rintro e n ⟨rfl,W⟩
    have hb:=i.trans (W.mono i.size)
    have o:=(da c k (Z (OR ⟨d,f,Y⟩) s.wk.length cap) b).below m.o.1 hb;obtain⟨t,_,_,_,_,u,_⟩:=eK o;have ao:aA ((da c k (Z (OR ⟨d,f,Y⟩) s.wk.length cap) b).J F s1 n.drew/\b9 F w F n.drew):=⟨(da c k (Z (OR ⟨d,f,Y⟩) s.wk.length cap) b).below o (aH _ n).drew,(m.o.2.below hb).below (aH _ n).drew⟩
    clear i W o hb m;go_wp2_with fail
    go_region_held3 (λw'=>V w' (av c.pk 0)=OR (aq c.pw)/\V w' (av c.pw 0)=OR (aq c.p)) (go_keep)
     (first
       |(go_at_call 255;refine(r7 ao.o.1 x).mono ?_;rintro e b1 ⟨rfl,a0⟩;have a1:=(da c k (Z (OR ⟨d,f,Y⟩) s.wk.length cap) b).below ao.o.1 a0;obtain⟨g0,_,_,_,_,g5,_⟩:=eK a1;obtain⟨g,ab⟩:=ju a1;have l:aA (_/\_/\_):=⟨g,ab,ao.o.2.below a0⟩;clear a0 a1 g ab ao)
       |(go_at_call 169;refine(mK (a+1) (k.nw s1 x) b1 l.o.1).mono ?_;rintro e p ⟨rfl,g,ag⟩;obtain⟨q,ai⟩:=l.o.2.1 p _ _ g ag;obtain⟨r0,_,_,_,_,a2,_⟩:=eK q;have al:aA ((da c k (Z (OR ⟨d,f,Y⟩) s.wk.length cap) b).J F S p/\b9 F w F p):=⟨(by rw[v.o];exact q),l.o.2.2.trans ai⟩;clear g ag q ai l))
    clear g0 g5 r0 a2 t u;go_wp2_with fail;go_roundw
    case rel=>exact⟨j+1,S,aa,aj,N,al.o.1,al.o.2,an⟩
    case measure=>simp[bG];omega
   ·have v:aA (k.e8 s1 a=k.st s1 (a+1) 3):=by show _=_;unfold cf.e8;rw[aN hls]
    generalize k.e8 s1 a=S at N an v;generalize k.ld s1 (a+1)=x at L hls;go_wp2_with fail;refine L.mono ?_;clear L;rintro e w1 ⟨rfl,i⟩
    have P:=pv ((da c k (Z (OR ⟨d,f,Y⟩) s.wk.length cap) b).below m.o.1 i) x;rw[hls] at P;clear aV t u;go_wp2_with fail;refine P.mono ?_;clear P;rintro e n ⟨rfl,W⟩
    have hb:=i.trans (W.mono i.size)
    have o:=(da c k (Z (OR ⟨d,f,Y⟩) s.wk.length cap) b).below m.o.1 hb;obtain⟨t,_,_,_,_,u,_⟩:=eK o;obtain⟨g,ab⟩:=ju ((da c k (Z (OR ⟨d,f,Y⟩) s.wk.length cap) b).below o (aH _ n).drew)
    have l:aA (_/\_/\_):=⟨g,ab,(m.o.2.below hb).below (aH _ n).drew⟩
    clear i W o hb m g ab;go_wp2_with fail
    go_region_held3 (λw'=>V w' (av c.pk 0)=OR (aq c.pw)/\V w' (av c.pw 0)=OR (aq c.p)) (go_keep)
     (first
       |(go_at_call 257;refine(o7 _).mono ?_;rintro e ca ⟨rfl,bb⟩;have bb:=bb.symm;subst bb)
       |(go_at_call 169;refine(mK (a+1) 3 n.drew l.o.1).mono ?_;rintro e p ⟨rfl,g,ag⟩;obtain⟨q,ai⟩:=l.o.2.1 p _ _ g ag;obtain⟨r0,_,_,_,_,a2,_⟩:=eK q;have al:aA ((da c k (Z (OR ⟨d,f,Y⟩) s.wk.length cap) b).J F S p/\b9 F w F p):=⟨(by rw[v.o];exact q),l.o.2.2.trans ai⟩;clear g ag q ai l))
    clear r0 a2 t u;go_wp2_with fail;go_roundw
    case rel=>exact⟨j+1,S,aa,aj,N,al.o.1,al.o.2,an⟩
    case measure=>simp[bG];omega
  ·obtain rfl:j=s.wk.length:=aa;rw[ba] at ar;go_wp2_with fail;go_end0;rw[ar.o];exact⟨rfl,⟨_,_,B⟩,aB⟩
theorem Gz {cJ d:a7}(h:(da c k cJ d).J F s w):c.nb≠c.pk/\c.nb≠c.pw:=by
 obtain⟨own,h,f⟩:=h;refine⟨λe=>?_,λe=>?_⟩
 ·have b:=h.r1;rw[e,h.k1] at b;omega
 ·have b:=h.r1;rw[e,h.w1] at b;omega
theorem GA (h:(eJ c k).J F s w)(q:CI k s):
 O2 prog 176 #[aq c.pk] w λe w'=>e=OV (ay #[])/\(eJ c k).J F (k.cO s 12) w'/\b9 F w F w':=by
 obtain⟨cJ,d,h⟩:=h;obtain⟨c0,_,_,_,_,_,_,_,ap,_⟩:=eK h;have ab:aA (CI k s):=q;clear q;go_enter func176,ntmps176;go_wp2_with fail
 go_loopw [12] (λiv wr=>∃(j:Nat),j<=12/\iv=ak j/\(da c k cJ d).J F (k.cO s j) wr/\b9 F w F wr) (λiv _=>12-K (bG iv))
 case atStart=>exact⟨0,a4 _,rfl,h,b9.refl _ _⟩
 case round=>
  obtain⟨j,ar,rfl,b,l⟩:=hrel;by_cases t:j<12
  ·obtain⟨ad,_,_,_,_,_,_,_,ag,_⟩:=eK b;obtain⟨aB,aF,hr⟩:=zp b;obtain⟨u,ai⟩:=hr j t;obtain⟨n1,aR⟩:=Gz b;have m:aA (k.cO s (j+1)={(k.br (k.cO s j) (X (k.cO s j).rs j 0)).2 with rs:=(k.br (k.cO s j) (X (k.cO s j).rs j 0)).2.rs.set j (k.br (k.cO s j) (X (k.cO s j).rs j 0)).1}):=rfl;have al:aA (CI k (k.cO s j)):=(ab.o.cO j).1;have n:aA ((da c k cJ d).J F (k.cO s j) wr.drew/\b9 F w F wr.drew):=⟨(da c k cJ d).below b (aH _ wr).drew,l.below (aH _ wr).drew⟩
   obtain⟨f,o⟩:∃f,f=k.cO s (j+1):=⟨_,rfl⟩
   rw[<-o] at m;have am:aA (f=k.cO s (j+1)):=o;clear o;generalize X (k.cO s j).rs j 0=x at u m;generalize k.cO s j=s1 at*;have j0:(0:Int)<=(j:Int):=aa;have aV:(j:Int)<12:=aa;clear hr b l;go_wp2_with fail
   go_region_held3 (λw'=>V w' (av c.pk 0)=OR (aq c.pw)/\V w' (av c.pw 3)=OR (Z (au c.nb) 12 12)) (go_keep)
    (first
      |(go_at_call 239;refine(r8 n.o.1 al.o x).mono ?_;rintro e g ⟨rfl,i,v⟩;obtain⟨g0,_,_,_,_,_,_,_,an,_⟩:=eK i;obtain⟨_,a0,B⟩:=zp i;obtain⟨y1,ao⟩:=B j t;have p:aA ((da c k cJ d).J F (k.br s1 x).2 g/\b9 F w F g):=⟨i,n.o.2.trans v⟩;clear i v B n))
   obtain⟨N,S⟩:=FM p.o.1 j (k.br s1 x).1;have W:aA ((da c k cJ d).J F f (P g ⟨c.nb,j,Y⟩ (U OW (k.br s1 x).1))/\b9 F w F (P g ⟨c.nb,j,Y⟩ (U OW (k.br s1 x).1))):=⟨by rw[m.o];exact N,p.o.2.trans S⟩
   clear N S p g0 an y1 ao ad ag u ai;go_wp2_with fail;go_roundw
   case rel=>exact⟨j+1,aa,aj,by rw[<-am.o];exact W.o.1,W.o.2⟩
   case measure=>simp[bG];omega
  ·obtain rfl:j=12:=aa;go_wp2_with fail;go_end0;exact⟨rfl,⟨_,_,b⟩,l⟩
end
section
variable {a:Wc}{F:Nat->Prop}{S:cv}{w:az}
theorem GB (h:(gC a).J F S w)(d:S.full a=C):
 O2 prog 128 #[aq a.pw] w λe w'=>e=OV (ak 3)/\O7 (I (G w)) w w':=by
 obtain⟨j,ar,k,f,_⟩:=h;obtain⟨l,hw,_⟩:=jO f;obtain⟨b,_⟩:=l_ hw;have b:=b;obtain⟨c0,_,_,_,g,_⟩:=kU hw;have n1:=b.hg;have m:a.O-S.s.g<S.s.y:=by simpa[cv.full] using d
 go_enter func128,ntmps128;go_wp2_with fail;refine(lZ w b).mono ?_;rintro e w1 ⟨rfl,c⟩
 have c1:=(c.cell (p:=av a.pw 0) g).trans c0;go_wp2_with fail;refine(qs w1 (b.below c bY)).mono ?_;rintro e n ⟨rfl,i⟩
 have hb:=c.trans (i.mono c.size)
 go_wp2_with fail;go_ret;exact⟨rfl,hb⟩
theorem GC (h:(gC a).J F S w)(bb:S.full a=O4)(hq:L S.q+L S.r<=90000):
 O2 prog 128 #[aq a.pw] w λe w'=>∃i,e=OV (ak 0)/\(gC a).J i (S.cut a) w'/\b9 F w i w':=by
 have dz:∀(b1:Fn)(first cap:Array a7)(w:az),(Instr.makeFunc b1 first cap).run prog w=.ok (.func b1 first cap) w:=λ_ _ _ _=>rfl;obtain⟨cs,ar,bd,g,b2,b3,b4⟩:=h;obtain⟨b6,hw,b7⟩:=jO g;obtain⟨f,_⟩:=l_ hw;have f:At w a.p a.q a.N a.O S.s.y S.s.g S.s.ws:=f;obtain⟨c0,_,_,_,cw,_⟩:=kU hw;have n1:=f.hg;have cx:S.s.y<=a.O-S.s.g:=by unfold cv.full at bb;have:=of_decide_eq_false bb;omega
 have dA:¬(a.O:Int)-S.s.g<S.s.y:=aa;have n4:=f.hO;have dB:=f.hy;have dC:=f.hN';have b8:aA (_):=CI.start f.hN f.hN' f.hO f.hy f.hg f.hl cx;have ca:=lZ w f;have cb:aA (_/\_):=⟨hw,f⟩
 have cy:aA (∀{be:Type}(bg:dr be) B bi w',bg.J B bi w'->b9 b6 w B w'->_):=b7;have n:=ge b2 b3 b4;clear g hw f b7 b2 b3 b4 bb;go_enter func128,ntmps128;go_wp2_with fail;refine ca.mono ?_;clear ca;rintro e w1 ⟨rfl,N⟩
 have c1:=(N.cell (p:=av a.pw 0) cw).trans c0;have cc:=qs w1 (cb.o.2.below N bY)
 go_wp2_with fail;refine cc.mono ?_;clear cc;rintro e dD ⟨rfl,cd⟩
 have hb:=N.trans (cd.mono N.size)
 have cz:=Gr ((eH a).below cb.o.1 hb)
 have cA:=cg hb;clear N cd c0 c1 hb;go_wp2_with fail;refine cz.mono ?_;rintro e dE ⟨pk,ct,cW,dF,rfl,W,bl⟩
 have bl:=(b9.of (F:=b6) cA.o).trans bl;obtain⟨c,hc⟩:∃c:hY,c=⟨pk,ct,a.pw,a.p,a.q,a.pc,cW,a.sd,a.nb,dT a.O,S.s.M⟩:=⟨_,rfl⟩
 have cB:pk=c.pk:=by rw[hc]
 have m:aA (_/\a.sd=c.sd/\c.c=dT a.O/\c.M=S.s.M/\a.pw=c.pw):=⟨hc,by rw[hc],by rw[hc],by rw[hc],by rw[hc]⟩
 rw[<-hc] at W;clear hc;subst cB;have W:=W;have cC:=GA W b8.o;clear W;go_wp2_with fail;refine cC.mono ?_;rintro e dG ⟨rfl,bn,cD⟩
 have bn:=bn;obtain⟨k1,k2,k3,k4,k5,k6⟩:=b8.o.cO 12;have cE:=Gm bn (s:=S.s.s1 a) k1 k3 k4;have cF:=cg (bl.trans cD)
 go_wp2_with fail;refine cE.mono ?_;rintro e cG ⟨cH,rfl,ao,cI,ap,b5,dH⟩
 rw[m.o.2.2.1,m.o.2.2.2.1] at ao ap b5;have ao:=ao;have ap:=ap;have b5:=b5;obtain⟨dI,ce,cL⟩:=cy.o (iF c (S.s.k0 a)) cH (S.s.s2 a) cG ⟨ao,ap,b5⟩ (cF.o.trans cI)
 rw[m.o.2.1] at ce;have cM:=zJ (c:=c) rfl ce (by show L S.q<=90000;omega)
 have cN:=cg cL;go_wp2_with fail;refine cM.mono ?_;rintro e j ⟨dJ,rfl,aB,bo⟩
 have aB:=aB;have bo:=cN.o.trans bo;obtain⟨dK,⟨⟨dL,dM,cO⟩,_⟩,_⟩:=jO aB;obtain⟨o,_,_,_,_,_,_,cf,_⟩:=eK cO;have l0:=aT j _ o;have cP:=aT j _ cf;have k:aA (_/\_):=⟨(dj (iF c (S.s.k0 a)) c.sd (Z ar (L S.r) bd)).below aB (aH _ j).drew,bo.below (aH _ j).drew⟩
 have cQ:L (S.t3 a).2+L S.r<=90000:=by have:L (S.t3 a).2=L S.q:=qB _ _ _;omega
 go_wp2_with fail
 go_region_held3 (λw'=>V w' (av c.pk 0)=OR (aq c.pw)/\V w' (av c.pw 2)=OR (aq c.sd)) (go_keep)
  (first
    |(go_at_call 180;refine(zC (oq c) j.drew c.pk).mono ?_;rintro e cR ⟨rfl,cS,bp⟩;have dN:=(bp.cell (p:=av c.pk 0) l0).trans o;have dO:=(bp.cell (p:=av c.pw 2) cP).trans cf;have q:aA (_/\_):=⟨cS,bp⟩)
    |(go_at_call 179;refine(Gv (t:=S.t3 a) (r:=S.r) rfl ((dj (iF c (S.s.k0 a)) c.sd (Z ar (L S.r) bd)).below k.o.1 q.o.2) (by exact cK n.o.1 (λb e=>(q.o.2.block b (aL (cu n.o.1 b e).2 k.o.2.fr.size)).trans (k.o.2.fr.block b (cu n.o.1 b e).2 (n.o.2.1 b e)))) cQ (I (G j)) q.o.1 (λd=>by have:=(dj (iF c (S.s.k0 a)) c.sd (Z ar (L S.r) bd)).lt k.o.1 _ d;have cT:I (G j.drew)=I (G j):=rfl;omega)).mono ?_;rintro e aF ⟨a1,c1,cU,rfl,ch,aR,ab,cV,cX⟩;obtain⟨ad,⟨⟨dP,dQ,ag⟩,_⟩,_⟩:=jO ch;obtain⟨r0,_,_,_,_,_,_,dR,_⟩:=eK ag;have ci:aA (_/\_/\_/\I (G w)<=I (G cR)/\b9 cs w cU aF):=⟨ch,aR,ab,aQ k.o.2.fr.size q.o.2.size,⟨(k.o.2.below q.o.2).fr.trans cV (λb d=>d.elim (k.o.2.sub b) (λd=>aI (by have:=k.o.2.fr.size;have cT:I (G j.drew)=I (G j):=rfl;omega))),λb d=>(cX b d).elim (k.o.2.sub b) (λd=>aI (by have g:=k.o.2.fr.size;have aV:=q.o.2.size;omega))⟩⟩))
 obtain⟨ad,⟨ag,ai,a0⟩,cY⟩:=jO ci.o.1;have ag:(eJ c (S.s.k0 a)).J ad (S.s4 a) aF:=ag;have ai:CI (S.s.k0 a) (S.s4 a):=ai;have a0:eD (S.s.k0 a) (S.s4 a):=a0;obtain⟨br,cZ⟩:=ai.mw (l:=(S.s4 a).wk) (λx c2=>(ai.jc x c2).1)
 have br:CI (S.s.k0 a) (S.s5 a):=br;have c3:=Gy ag ai (by have:=a0.wk;omega)
 have cj:aA (CI (S.s.k0 a) (S.s5 a)/\L (S.s5 a).ep<=10000):=⟨br,by have g:(S.s5 a).ep=(S.s4 a).ep:=cZ.ep;rw[g];have:=a0.ep;omega⟩
 have c4:aA (∀{be:Type}(bg:dr be) B bi w',bg.J B bi w'->b9 ad aF B w'->_):=cY;go_wp2_with fail;refine c3.mono ?_;rintro e dS ⟨rfl,bs,c5⟩
 have bs:=bs;have c6:=Gx bs cj.o.1 cj.o.2;go_wp2_with fail;refine c6.mono ?_;rintro e u ⟨rfl,v,bt⟩
 have v:=v;obtain⟨cJ,c7,ck⟩:=v;obtain⟨o,_,_,_,_,cl,_⟩:=eK ck;have v:(eJ c (S.s.k0 a)).J ad (S.s6 a) u:=⟨cJ,c7,ck⟩
 rw[m.o.1] at v;obtain⟨al,c8,c9,da⟩:=Gw (pk:=c.pk) (a:=a) v;obtain⟨db,dc⟩:=l_ c8;have bt:b9 ad aF al u:=⟨(c5.trans bt).fr,λb hb=>aK (c9 b hb)⟩
 have dd:=yk u db;have bx:aA (_/\_/\∀w',At w' a.p a.q a.N a.O 0 (S.s6 a).g (S.s6 a).ws->dl a.p a.q u w'->(eH a).J al ⟨0,(S.s6 a).g,(S.s6 a).ws,S.s.M,(S.s6 a).rs⟩ w'/\b9 al u al w'):=⟨bt,da,λw' g aV=>dc w' _ _ _ g aV⟩
 have de:=aT u _ o;have df:=m.o.2.2.2.2.symm;have ep:c.p=a.p:=by rw[m.o.1]
 rw[df] at o cl;rw[ep] at cl;go_wp2_with fail;refine dd.mono ?_;rintro e am ⟨rfl,dg,dh⟩
 obtain⟨cm,cn⟩:=bx.o.2.2 am dg dh;obtain⟨di,dk,dm⟩:=zM cm;obtain⟨_,dU,_⟩:=kU cm;have dV:=(aS (a:=⟨c.pk,0,Y⟩) (cn.fr.block c.pk de bx.o.2.1)).trans o;have dn:=uQ am dk.hp;have co:aA (_/\∀w',Cd w' a.pc (I (G am)) a.N (dT a.O) []->dl a.pc di am w'->∃i,(eH a).J i ⟨0,(S.s6 a).g,(S.s6 a).ws,[],(S.s6 a).rs⟩ w'/\b9 al am i w'):=⟨bx.o.1.trans cn,λw' g aV=>dm w' _ _ g aV (aI bY)⟩
 go_wp2_with fail;refine dn.mono ?_;rintro e a2 ⟨rfl,dp,an⟩
 have dq:aA (∃i,(gC a).J i (S.cut a) a2/\b9 F w i a2):=by
  obtain⟨ds,dt,du⟩:=co.o.2 a2 dp ⟨an.os,an.tape,an.output,an.size,λb hb g _=>an.block b hb g g⟩
  obtain⟨cp,cq,b0⟩:=c4.o (eH a) ds _ a2 dt (co.o.1.trans du)
  obtain⟨_,aR,ab,dv,dw⟩:=ci.o;have dx:S.cut a=⟨⟨0,(S.s6 a).g,(S.s6 a).ws,[],(S.s6 a).rs⟩,(S.s.k0 a).sR (S.t3 a) S.r,(S.s.k0 a).j8 (S.t3 a) S.r⟩:=by unfold cv.cut;rw[aJ];unfold cv.full;simp;omega
  rw[dx];rw[<-m.o.2.1] at cq;have cr:=dw.trans b0;refine⟨λb=>cp b\/OR b=A (Value.slice a1 (L ((S.s.k0 a).sR (S.t3 a) S.r)) c1),⟨cp,a1,c1,cq,iq aR b0.fr (λb e=>(ab b e).1),λb e d=>(b0.sub b d).elim (ab b e).1 (λd=>by have:=(cu aR b e).2;omega),λb=>gp⟩,⟨cr.fr.mono (λb d=>(n.o.2.2 b).2 (aK d)),λb d=>?_⟩⟩
  rcases d with d|d
  ·exact(cr.sub b d).imp (λd=>(n.o.2.2 b).2 (aK d)) id
  ·exact aI (aQ dv (ab b d).2)
 go_wp2_with fail;go_ret;obtain⟨i,dy,j2⟩:=dq.o;exact⟨i,rfl,dy,j2⟩
theorem GD (h:(gC a).J F S w)(hq:L S.q+L S.r<=90000):
 O2 prog 128 #[aq a.pw] w λe w'=>∃c,e=OV (ak (S.code a))/\(gC a).J c (S.cut a) w'/\b9 F w c w':=by
 cases hf:S.full a
 ·have b:S.code a=0:=by unfold cv.code;rw[hf];rfl
  rw[b];exact GC h hf hq
 ·have b:S.code a=3:=by unfold cv.code;rw[aN hf]
  have d:S.cut a=S:=by unfold cv.cut;rw[aN hf]
  rw[b,d];refine(GB h hf).mono ?_;rintro e w' ⟨rfl,hb⟩
  exact⟨F,rfl,(gC a).below h hb,b9.of hb⟩
end
abbrev cH:=Int×List (Int×Int)×Bool×Bool
structure ck where
 T:List cH
 rs:List (Int×Int)
 rg:List b8
 wt:List b8
theorem vy:∀(l:List (Int×Int))(i:Nat)(x:Int×Int),ev (l.set i x)=((ev l).set (i*2) (ak x.1)).set (i*2+1) (ak x.2)
 |[],_,_=>rfl
 |e::l,0,x=>by rfl
 |e::l,i+1,x=>by have b:ev (e::l)=ak e.1::ak e.2::ev l:=af;have c:ev ((e::l).set (i+1) x)=ak e.1::ak e.2::ev (l.set i x):=af;rw[b,c,(vy l i x),show(i+1)*2=i*2+1+1 by omega];simp
def eh (g:Int)(q:List b8):Nat:=q.findIdx (λe=>e.1==g)
abbrev zR:=cH×Option bB×Nat
def tv (m:List zR):List Value:=m.flatMap λx=>[ak x.1.1,Z x.2.1 (L x.1.2.1) x.2.2,bA x.1.2.2.1,bA x.1.2.2.2]
def mc (p:Int×Int)(t:cH):Int×Int:=if t.2.2.2=C then p else if t.2.2.1=C then(p.1,p.2+(1+L t.2.1)) else(p.1+(1+L t.2.1),p.2)
def ei (l:List cH):Int×Int:=l.foldl mc (0,0)
theorem zS (l:List cH)(t:cH):ei (l++[t])=mc (ei l) t:=by simp[ei,lD]
theorem zT (l:List cH)(h:∀t∈l,L t.2.1<=12):0<=(ei l).1/\(ei l).1<=13*L l/\0<=(ei l).2/\(ei l).2<=13*L l:=by
 have key:∀(l:List cH)(p:Int×Int),(∀t∈l,L t.2.1<=12)->p.1<=(l.foldl mc p).1/\(l.foldl mc p).1<=p.1+13*L l/\p.2<=(l.foldl mc p).2/\(l.foldl mc p).2<=p.2+13*L l:=by
  intro l
  induction l with
  |nil=>simp
  |cons t l b=>
   grind [mc]
 grind [ei]
section
variable {s:ck}
def ck.th (s:ck)(i:Nat):Int:=if(X s.rs i (0,0)).1=3 then(X s.rs i (0,0)).2 else-1
end
def ck.gc (s:ck)(A:Nat)(I:Int):Int:=if s.th A<0\/(X s.T (K (s.th A)) (0,[],O4,O4)).1=5 then 2 else if I<0\/(L (X s.T (K (s.th A)) (0,[],O4,O4)).2.1:Int)<=I then 1 else 0
theorem GE (w:az)(B:Nat)(l1 l2:List b8)(f g:bB)(c1 c2:Nat)(q:V w (av B 0)=OR (Z (OR f) (L l1) c1))(F:V w (av B 1)=OR (Z (OR g) (L l2) c2))(N:dQ w (OR f) l1)(S:dQ w (OR g) l2)(hm:L l1+L l2<=100000):
 O2 J 313 #[Z (au B) 2 2] w λe w'=>∃a c,e=OV (Z a (L l1+L l2) c)/\aC w' (I (G w)) 247 2 (Z a (L l1+L l2) c) (L l1+L l2) (ev (l1++l2))/\O7 (I (G w)) w w':=by
 obtain⟨s,hi,t,u,x⟩:=bM o_;have W:=cg N;have ab:=cg S;have hB:=aT w _ q;go_enter func313,ntmps313;go_wp2
 go_loopw [3,11] (λi iv wr=>wr=w/\((iv=ak 0/\i=ak 0)\/(iv=ak 1/\i=ak (L l1))\/(iv=ak 2/\i=ak (L l1+L l2:Nat)))) (λ_ iv _=>2-K (bG iv))
 exact⟨rfl,aK ⟨rfl,rfl⟩⟩
 ·
   obtain⟨hw,⟨rfl,rfl⟩|⟨rfl,rfl⟩|⟨rfl,rfl⟩⟩:=hrel
   all_goals
    have hw:=hw.symm;subst hw
   ·go_wp2;go_roundw;exact⟨trivial,aI (aK ⟨aj,aj⟩)⟩
    simp[bG]
   ·go_wp2;go_roundw;exact⟨trivial,aI (aI ⟨aj,aj⟩)⟩
    simp[bG]
   ·go_wp2_with fail;refine(EO w (L l1+L l2) hm).mono ?_;rintro e w1 ⟨a1,ad,rfl,b,hb⟩
    go_wp2
    go_loopw [6,27] (λj iv wk=>O7 (I (G w)) w wk/\((∃a c,iv=ak 0/\j=Z a 0 c/\aC wk (I (G w)) 247 2 (Z a 0 c) 0 [])\/(∃a c,iv=ak 1/\j=Z a (L l1) c/\aC wk (I (G w)) 247 2 (Z a (L l1) c) (L l1) (ev l1))\/(∃a c,iv=ak 2/\j=Z a (L l1+L l2) c/\aC wk (I (G w)) 247 2 (Z a (L l1+L l2) c) (L l1+L l2) (ev (l1++l2))))) (λ_ iv _=>2-K (bG iv))
    exact⟨hb,aK ⟨a1,ad,rfl,rfl,b⟩⟩
    ·
      obtain⟨hb,⟨a,c,rfl,rfl,b⟩|⟨a,c,rfl,rfl,b⟩|⟨a,c,rfl,rfl,b⟩⟩:=hrel
      ·have ag:=(hb.cell (p:=av B 0) hB).trans q;have hs:=hb.size;go_wp2_with (at_builtin;refine ui _ rfl _ _ 195 rfl (I (G w)) 247 s (bz #[ak 0,ak 0]) 2 16 underlying195 hi t u x rfl ae (Z a 0 c) 0 [] rfl b f (L l1) c1 (ev l1) rfl (lY l1) ((W.o.below hb).cells f rfl) (pa l1) ?_ ?_ hs ?_;(unfold bL;omega);omega;intro v ai d l _;rw[Nat.zero_add,List.nil_append] at d;obtain⟨a2,m,n⟩:=e7 d;subst n)
       have o:=hb.grown l hs (λk e=>(cu b k e.symm).1)
       go_wp2;go_roundw;exact⟨o,aI (aK ⟨a2,m,aj,rfl,d⟩)⟩
       simp[bG]
      ·have ag:=(hb.cell (p:=av B 1) hB).trans F;have hs:=hb.size;go_wp2_with (at_builtin;refine ui _ rfl _ _ 195 rfl (I (G w)) 247 s (bz #[ak 0,ak 0]) 2 16 underlying195 hi t u x rfl ae (Z a (L l1) c) (L l1) (ev l1) rfl b g (L l2) c2 (ev l2) rfl (lY l2) ((ab.o.below hb).cells g rfl) (pa l2) ?_ ?_ hs ?_;(unfold bL;omega);omega;intro v ai d l _;rw[<-jL] at d;obtain⟨a2,m,n⟩:=e7 d;subst n)
       have o:=hb.grown l hs (λk e=>(cu b k e.symm).1)
       go_wp2;go_roundw;exact⟨o,aI (aI ⟨a2,m,aj,rfl,d⟩)⟩
       simp[bG]
      ·go_wp2;go_ret;exact⟨a,c,rfl,b,hb⟩
structure fF (w:az)(p:Nat)(a0:Option bB)(k0:Nat)(a1:Option bB)(k1:Nat)(r q:List b8):Prop where
 cY:w.heap[p]?=OR (OX #[Z a0 (L r) k0,Z a1 (L q) k1] 197 (0,0))
 r0:aC w 0 247 2 (Z a0 (L r) k0) (L r) (ev r)
 q0:aC w 0 247 2 (Z a1 (L q) k1) (L q) (ev q)
theorem sj {w:az}{base:Nat}{e:bI}{ad:Option bB}{cap:Nat}{l:List b8}(h:aC w base e 2 (Z ad (L l) cap) (L l) (ev l)):i_ w ad l cap:=by
 refine⟨iQ h,?_,?_⟩
 ·rcases h.2 with⟨hv,h0⟩|⟨g,b,c,hv,_,_,hc,_⟩
  ·omega
  ·simp at hv;omega
 ·intro d;rcases h.2 with⟨hv,h0⟩|⟨g,b,c,hv,_⟩
  ·simp at hv;exact⟨h0,hv.2.2⟩
  ·rw[d] at hv;simp at hv
theorem fF.keep {w w':az}{p:Nat}{a0 a1:Option bB}{k0 k1:Nat}{r q:List b8}(h:fF w p a0 k0 a1 k1 r q)(b:w'.heap[p]?=w.heap[p]?)(c:∀k,OR k=A (Value.slice a0 (L r) k0)->w'.heap[k]?=w.heap[k]?)(d:∀k,OR k=A (Value.slice a1 (L q) k1)->w'.heap[k]?=w.heap[k]?):fF w' p a0 k0 a1 k1 r q:=
 ⟨b.trans h.cY,cK h.r0 c,cK h.q0 d⟩
theorem fF.below {w w':az}{p:Nat}{a0 a1:Option bB}{k0 k1:Nat}{r q:List b8}(h:fF w p a0 k0 a1 k1 r q)(hb:O7 (I (G w)) w w'):fF w' p a0 k0 a1 k1 r q:=
 h.keep (hb.block p (cj h.cY)) (λk e=>hb.block k (cu h.r0 k e).2) (λk e=>hb.block k (cu h.q0 k e).2)
theorem fF.np {w:az}{p:Nat}{a0 a1:Option bB}{k0 k1:Nat}{r q:List b8}(h:fF w p a0 k0 a1 k1 r q){b n:Nat}{v:a7}{l:List a7}(hr:aC w b 247 2 v n l):∀k,OR k=A v->k≠p:=by intro k e c;obtain⟨d,hc⟩:=fI hr k e;rw[c,h.cY] at hc;simp at hc
def kV (n:Nat):Bool:=decide (24<=n)
theorem sk {n:Nat}(h:24<=n):kV n=C:=by simp[kV,h]
theorem sq {n:Nat}(h:¬24<=n):kV n=O4:=by simp[kV,h]
theorem GF {n0 n1:Nat}(h0:n0<=100000)(b:n1<=100000):aA (decide ((24:Int)<=IntKind.i64.wrap ((n0:Int)+(n1:Int)))=kV (n0+n1)):=by
 show _=_;rw[show IntKind.i64.wrap ((n0:Int)+(n1:Int))=(n0:Int)+n1 by rw[bc];omega];unfold kV;by_cases h:24<=n0+n1
 ·rw[bm h,bm aa]
 ·rw[bk h,bk aa]
theorem zU (w:az)(p:Nat)(a0 a1:Option bB)(n0 k0 n1 k1:Nat)(h:w.heap[p]?=OR (OX #[Z a0 n0 k0,Z a1 n1 k1] 197 (0,0)))(h0:n0<=100000)(b:n1<=100000):
 O2 J 230 #[aq p] w λe w'=>e=OV (bA (kV (n0+n1)))/\O7 (I (G w)) w w':=by
 have c0:V w (av p 0)=OR (Z a0 n0 k0):=aD h
 have c1:V w (av p 1)=OR (Z a1 n1 k1):=aD h
 clear h;have c:=GF h0 b;go_enter func230,ntmps230;go_wp2_with fail
 go_region_held3 (λw'=>V w' (av p 0)=OR (Z a0 n0 k0)/\V w' (av p 1)=OR (Z a1 n1 k1)) (go_keep) (fail)
 go_wp2_with fail;go_ret;exact⟨by rw[<-c.o];rfl,bZ.drew⟩
theorem fF.cells {w:az}{p:Nat}{a0 a1:Option bB}{k0 k1:Nat}{r q:List b8}(h:fF w p a0 k0 a1 k1 r q):V w (av p 0)=OR (Z a0 (L r) k0)/\V w (av p 1)=OR (Z a1 (L q) k1)/\bF w (av p 0)=O4/\bF w (av p 1)=O4/\p<I (G w):=
 ⟨by simp[World.cell?,h.cY],by simp[World.cell?,h.cY],by simp[World.frozen?,h.cY],by simp[World.frozen?,h.cY],cj h.cY⟩
theorem GG {w:az}{p:Nat}{x y v:a7}{T:bI}(h:w.heap[p]?=OR (OX #[x,y] T (0,0))):(P w ⟨p,0,Y⟩ v).heap[p]?=OR (OX #[v,y] T (0,0)):=by exact uT
theorem GH {w:az}{p:Nat}{x y v:a7}{T:bI}(h:w.heap[p]?=OR (OX #[x,y] T (0,0))):(P w ⟨p,1,Y⟩ v).heap[p]?=OR (OX #[x,v] T (0,0)):=by exact uT
theorem zV (w:az)(p:Nat)(a0 a1:Option bB)(k0 k1:Nat)(r q:List b8)(g z:Int)(h:fF w p a0 k0 a1 k1 r q)(h0:L r<=90000)(F:L q<=90000):
 O2 J 167 #[aq p,bz #[ak g,ak z]] w λe w'=>e=OV (bA (!kV (L r+L q)))/\
  ((24<=L r+L q/\O7 (I (G w)) w w')\/(¬24<=L r+L q/\∃b1 c1,fF w' p (au b1) c1 a1 k1 (r++[(g,z)]) q/\I (G w)<=b1/\Fr (λk=>k=p) w w')):=by
 obtain⟨c0,c1,s,N,lp⟩:=h.cells;have H:aA (fF w p a0 k0 a1 k1 r q):=h;have d:=aw w (OX #[U OW g,U OW z] 247)
 have t:aA (i_ w a0 r k0):=sj h.r0;by_cases b:24<=L r+L q
 ·rw[sk b];clear h;go_enter func167,ntmps167;go_wp2_with fail;refine(zU _ p a0 a1 (L r) k0 (L q) k1 ((d.block p lp).trans H.o.cY) aa aa).mono ?_;rintro e w1 ⟨rfl,hb⟩
  rw[sk b];have c:=d.trans (hb.mono ac)
  go_wp2_with fail;go_ret;exact⟨rfl,aK ⟨b,c⟩⟩
 ·rw[sq b];clear h;go_enter func167,ntmps167;go_wp2_with fail;refine(zU _ p a0 a1 (L r) k0 (L q) k1 ((d.block p lp).trans H.o.cY) aa aa).mono ?_;rintro e w1 ⟨rfl,hb⟩
  rw[sq b];have c:=d.trans (hb.mono ac)
  have S:I (G w)<I (G w1):=by have:=hb.size;simp at this;omega
  have W:V w1 (av (I (G w)) 0)=OR (ak g):=(hb.cell ac).trans ac;have y1:V w1 (av (I (G w)) 1)=OR (ak z):=(hb.cell ac).trans ac;have u:=(c.cell (p:=av p 0) lp).trans c0;have v:=(c.frozen (p:=av p 0) lp).trans s;have m:p<I (G w1):=aa;have x:=t.o.below c;clear hb d;go_wp2_with fail
  go_region_with (go_at_call 231;refine(yh _ a0 r k0 g z (x.below (bZ.drew)) aa).mono ?_;rintro e f ⟨b1,g_,rfl,j,l⟩;have ab:=(l.cell (p:=av p 0) m).trans u;have ad:=(l.frozen (p:=av p 0) m).trans v)
  all_goals
   go_wp2_with fail;go_ret;refine⟨rfl,aI ⟨b,b1,g_,?_⟩⟩
   have n:O7 (I (G w)) w f:=c.drew.trans (l.mono (by simp;omega))
   have lb:I (G w1)<=b1:=(cu j b1 rfl).1;have i:=H.o.below n;have B:Fr (λk=>k=p) w (P f ⟨p,0,Y⟩ (Z (OR ⟨b1,0,Y⟩) (L r+1) g_)):=(Fr.of n).set p 0 _ rfl;have o:∀k,k≠p->(P f ⟨p,0,Y⟩ (Z (OR ⟨b1,0,Y⟩) (L r+1) g_)).heap[k]?=f.heap[k]?:=λk hk=>aW _ _ _ _ hk;refine⟨⟨by simpa using GG i.cY,?_,cK i.q0 (λk e=>o k (i.np i.q0 k e))⟩,aa,B⟩
   have:=fA (base':=0) (cK (w':=P f ⟨p,0,Y⟩ (Z (OR ⟨b1,0,Y⟩) (L r+1) g_)) j (λk e=>o k (i.np j k e))) (λ_ _=>a4 _)
   simpa using this
section
variable {a:Wc}{F:Nat->Prop}{S:cv}{w:az}
theorem ou (h:(gC a).J F S w):∃g,(eH a).J g S.s w/\∀f s1 w',(eH a).J f s1 w'->b9 g w f w'->∃c,(gC a).J c ⟨s1,S.r,S.q⟩ w'/\b9 F w c w':=by
 obtain⟨g,ar,j,k,i,o,p⟩:=h;obtain⟨l,g1,g2⟩:=jO k;refine⟨l,g1,λf s1 w' m n=>?_⟩
 obtain⟨c,k1,k2⟩:=g2 (eH a) f s1 w' m n;refine⟨λb=>c b\/OR b=A (Value.slice ar (L S.r) j),⟨c,ar,j,k1,cK i (λb e=>k2.fr.block b (cu i b e).2 (by grind)),λb e d=>?_,λb=>gp⟩,⟨k2.fr.mono (by grind),λb d=>?_⟩⟩
 ·rcases k2.sub b d with d|d
  ·grind
  ·have:=(cu i b e).2;omega
 ·rcases d with d|d
  ·exact(k2.sub b d).imp (by grind) id
  grind
theorem GI {s:eL}(h:(eH a).J F s w)(x i z:Int)(hM:L s.M<=100000):
 O2 prog 127 #[aq a.pw,ak x,ak i,ak z] w λe w'=>e=OV (ak (eV a.N s.y s.g s.ws x i))/\(eH a).J F {s with ws:=hI a.N s.y s.g s.ws x i z,M:=stM a.N s.y s.g s.ws x i z (dT a.O) s.M} w'/\b9 F w F w':=by
 obtain⟨own,cW,h,j⟩:=h;refine(Fh x i z ⟨h.wd,h.ar,h.cd⟩ hM).mono ?_;rintro e w' ⟨rfl,c,fr⟩
 refine⟨rfl,⟨own,cW,?_,j⟩,⟨fr.mono (λb d=>?_),λ_ d=>aK d⟩⟩
 ·have hb:∀b,b<I (G w)->own b≠1->own b≠2->_=_:=λb hb f g=>fr.block b hb (λd=>by
   rcases d with d|d|d|d
   ·exact f ((d▸h.a1))
   ·exact f ((d▸h.a2))
   ·exact g ((d▸h.c1))
   ·exact g ((d▸h.c2)))
  exact {
   ar:=c.ar,cd:=c.cd,wd:=c.cY,a1:=h.a1,a2:=h.a2,c1:=h.c1,c2:=h.c2,w1:=h.w1,rl:=h.rl,r1:=h.r1,le:=h.le,lt:=λb hb=>aL (h.lt b hb) fr.size
   rt:=(by grind [eg.rt,eg.r1])}
 grind [eg.a1,eg.a2,eg.c1,eg.c2]
theorem GJ (h:(gC a).J F S w)(g z:Int)(hr:L S.r<=90000)(hq:L S.q<=90000):
 O2 prog 167 #[aq a.sd,bz #[ak g,ak z]] w λe w'=>∃f,e=OV (bA (!kV (L S.r+L S.q)))/\(gC a).J f (if 24<=L S.r+L S.q then S else⟨S.s,S.r++[(g,z)],S.q⟩) w'/\b9 F w f w':=by
 have j:=h;obtain⟨i,ar,k,⟨l,ad,cap,m,n,o,p,q,s,t,u⟩,r0,r1,v⟩:=h;refine(zV w a.sd ar ad k cap S.r S.q g z ⟨n,r0,o⟩ hr hq).mono ?_;rintro e w' ⟨rfl,⟨c,hb⟩|⟨c,b1,c1,hs,x,fr⟩⟩
 ·exact⟨F,rfl,(aN c▸(gC a).below j hb),b9.of hb⟩
 ·refine⟨λb=>i b\/OR b=A (Value.slice (au b1) (L (S.r++[(g,z)])) c1),rfl,?_,⟨(by grind [Fr.mono]),λb d=>?_⟩⟩
  ·rw[aJ c];refine⟨i,OR _,c1,⟨l,ad,cap,(eH a).keep m fr.size (by grind [Fr.block]),hs.cY,hs.q0,p,q,s,t,λb d=>aL (by grind) fr.size⟩,hs.r0,λb e d=>?_,λb=>gp⟩
   simp[Value.ownBlock] at e
   grind
  ·rcases d with d|d
   ·grind
   ·simp[Value.ownBlock] at d;omega
end
def Lq (w:az)(ad:Option bB)(l:List Int):Prop:=jn w ad l/\(0<L l->∃b o c,ad=OR ⟨b,o,Y⟩/\w.heap[b]?=OR (OX c 2 (0,0)))
theorem Lq.kf {B:Nat}{w w':az}{ad:Option bB}{l:List Int}(h:Lq w ad l)(k:Kf B w w'):Lq w' ad l:=by
 have hk:0<L l->∀b,ad=OR b->w'.heap[b.block]?=w.heap[b.block]?:=λhp b e=>by obtain⟨d,f,g,c,hb⟩:=h.2 hp;rw[c] at e;cases e;exact k.iR _ _ _ _ hb ae ae
 refine⟨h.1.keep k.size hk,λhp=>?_⟩
 obtain⟨d,f,g,c,hb⟩:=h.2 hp;exact⟨d,f,g,c,(hk hp _ c).trans hb⟩
theorem Lq.of {w:az}{base cap:Nat}{ad:Option bB}{l:List Int}(h:aC w base 2 1 (Z ad (L l) cap) (L l) (l.map (Value.int OW))):Lq w ad l:=by
 refine⟨ir h,λhp=>?_⟩
 obtain⟨b,c0,c⟩:=fi h hp;obtain⟨d,hc⟩:=fI h b (by rw[c];rfl)
 cases c;exact⟨b,0,d,rfl,hc⟩
section
variable {w0 w:az}{kb ct pw n:Nat}{T:List Int}{kd:Int->Int}{sh:Int->List Int}{M:cT->Int->cT}{s:cT}{vn:a7}{m:List ec}
theorem zW (hM:pu w0 kb ct pw T M n)(an:mJ T kd sh n M)(h:Wk w0 w kb ct pw T s vn m)(ho:fE T s)(hn:L T<=L s.1+n)(l:List Int)(ad:Option bB)(cap:Nat)(hl:Lq w ad l)(hm:L l<=100000):
 O2 J 90 #[aq kb,Z ad (L l) cap] w λe w'=>∃br B a2 c2,e=OV (Z a2 (L l) c2)/\aC w' w.heap.size 139 2 (Z a2 (L l) c2) (L l) (ev (dE M T s l).1)/\Wk w0 w' kb ct pw T (dE M T s l).2 br B/\fV w0 w m w' B/\(∀k,gf B k->OR k≠A (Value.slice a2 (L l) c2)):=by
 obtain⟨ao,hi,ap,ar,aB⟩:=bM zr;have bs:=cg hM;have bt:=cg an;have bx:=cg hl;have F:=cg h;have b0:=cg ho;clear hM an hl h ho;go_enter func90,ntmps90;go_wp2_with (at_make;refine wpList_make_own _ rfl _ _ 90 rfl w.heap.size 139 ao (bz #[ak 0,ak 0]) 2 underlying90 hi ap ar OW OW _ (L l) rfl rfl rfl (by rw[aB];omega) (by unfold bL;omega) bY ?_;intro w1 b1 b2)
 have aF:=(ax w).grown b2 bY (λk e=>by cases e)
 go_loopw [5,13] (λtv iv wr=>∃(j:Nat)(f:List (Int×Int))(s1:cT)(N:a7)(m1:List ec)(a2:Option bB)(c2:Nat),j<=L l/\iv=ak j/\aA (dE M T s (l.take j)=(f,s1))/\tv=Z a2 j c2/\aC wr w.heap.size 139 2 (Z a2 j c2) j (ev f)/\aA (Wk w0 wr kb ct pw T s1 N m1)/\aA (fV w0 w m wr m1)/\aA (∀k,gf m1 k->OR k≠A (Value.slice a2 j c2))/\aA (fE T s1/\L T<=L s1.1+n)) (λ_ iv _=>L l-K (bG iv))
 ·exact⟨0,[],s,vn,m,_,_,a4 _,rfl,rfl,rfl,b1,F.o.below aF,fV.of aF,λk hk e=>by have:=F.o.fb k hk;simp[Value.ownBlock] at e;omega,⟨b0.o,hn⟩⟩
 ·
   obtain⟨j,f,s1,N,m1,a2,c2,b,rfl,S,rfl,i,W,p,ab,g⟩:=hrel;by_cases aR:j<L l
   ·obtain⟨cf,ch,b3,ci,hc⟩:=(bx.o.kf p.o.1).1 aa;have aV:=hc j aR;subst b3;clear hc;have d:=un M T s (l.take j) (X l j 0)
    rw[<-h_ l j aR 0,S.o] at d;have d:=cg d;generalize X l j 0=x at aV d;have P:=FX bs.o W.o g.o.1 g.o.2 x;have G:=qg bt.o g.o.1 g.o.2 x;have a0:aA (fE T (el M T s1 x).2/\L T<=L (el M T s1 x).2.1+n):=⟨G.ok,by have:=G.le;have:=g.o.2;omega⟩
    clear G;generalize (el M T s1 x).2=s2 at P d a0;obtain⟨u,v,a1⟩:∃u v,(el M T s1 x).1=(u,v):=⟨_,_,rfl⟩
    rw[a1] at P d;clear a1;go_wp2_with fail;refine P.mono ?_;rintro e ag ⟨b5,ai,rfl,bb,q⟩
    have bd:=cK i (λk hk=>by obtain⟨be,al⟩:=fI i k hk;exact q.1.iR k _ _ _ al ae ae)
    have bg:aA (∀k,gf ai k->OR k≠A (Value.slice a2 j c2)):=λk hk e=>(q.2 k hk).elim (λc=>ab.o k c e) (λc=>by have:=(cu i k e).2;omega)
    have bi:=cg (p.o.trans q)
    have cj:=bi.o.1.size;have bl:=cg bb;clear i q p ab W g aV bb;have t:=cg bd;go_wp2_with (at_builtin;refine bO _ rfl _ _ 90 rfl w.heap.size 139 ao (bz #[ak 0,ak 0]) 2 16 underlying90 hi ap ar aB rfl ae (Z a2 j c2) j (ev f) rfl (gq bd _) ⟨ag.heap.size,0,Y⟩ 1 1 [ak u,ak v] rfl rfl ?_ ?_ ?_ ?_ ?_ ?_;(intro j u b;match j,b with|0,b=>(simp at b;subst b;simp[Addr.add])|1,b=>(simp at b;subst b;simp[Addr.add]));(intro u o;simp at o;rcases o with o|o<;>(subst o;rfl));(unfold bL;omega);omega;(simp;omega);intro ck b6 bn b7 _ b8;obtain⟨b4,bo,b9⟩:=fi bn (jw _);subst b9)
    have ca:aC b6 w.heap.size 139 2 (Z (au b4) (j+1) bo) (j+1) (ev (f++[(u,v)])):=by rw[jL];simpa[ev] using bn
    have am:=aw ag (OX #[U OW u,U OW v] 139)
    have bp:=(Fr.refl _ _).grown b7 (λk e=>aK e.symm)
    have cb:=cg ((bl.o.below am).but bp (λk _ e=>by obtain⟨be,al⟩:=fI t.o k e;exact⟨⟨be,(am.block k (cu t.o k e).2).trans al⟩,λc=>bg.o k c e,aQ F.o.e9.size (cu t.o k e).1⟩))
    have cc:=cg ((bi.o.trans (fV.of am)).new bp (λk e=>(cu t.o k e).1))
    have cd:=b8.imp id (λe=>by simpa[Value.ownBlock] using e)
    have ce:aA (∀k,gf ai k->OR k≠OR b4):=λk hk e=>cd.elim (λc=>bg.o k hk (e.trans c)) (λc=>by have:=bl.o.fb k hk;simp at e;omega)
    go_wp2_with fail;go_roundw;exact⟨j+1,f++[(u,v)],s2,b5,ai,au b4,bo,aa,aj,d,rfl,ca,cb,cc,ce,a0⟩
    simp[bG];omega
   ·obtain rfl:j=L l:=aa;rw[ba] at S;go_wp2_with fail;go_ret;rw[S.o];exact⟨N,m1,a2,c2,rfl,i,W.o,p.o,ab.o⟩
end
theorem GK:(prog.info? 101).map (λi=>(i.zero,i.size,i.bytes))=OR (OR (bz #[ak 0,Z Y 0 0]),2,32):=ah
section
variable {w0 w w':az}{kb ct pw:Nat}{T:List Int}{s:cT}{vn:a7}{m:List ec}
theorem Wk.turned (h:Wk w0 w kb ct pw T s vn m)(f:Fr (λk=>k=ct) w w'):Kf (I (G w0)) w w'/\w'.heap[kb]?=OR (OX #[aq pw,.map (OR ct),vn] 160 (0,0))/\aC w' (I (G w0)) 101 2 vn (L m) (nv m)/\(∀x∈m,fP w' x.2.1 x.2.2.2)/\O7 (I (G w0)) w0 w':=by
 obtain⟨D,o1,_⟩:=h.mp;obtain⟨es,d,hb,_⟩:=o1;have hk:Kf (I (G w0)) w w':=⟨f.os,f.tape,f.output,f.size,λk hk hl=>f.block k hk (λe=>by have e:=e;have:=h.lo.2;omega),λk g e mm hk _ _=>(by grind [Fr.block])⟩
 refine⟨hk,(f.block kb (cj h.cY) (λc=>?_)).trans h.cY,cK h.row (λk e=>f.block k (cu h.row k e).2 (λc=>?_)),λx b=>(h.fl x b).kf hk,h.e9.trans (hk.below h.e9.size)⟩
 ·have c:=c;have:=h.cY
  grind
 ·obtain⟨i,j⟩:=fI h.row k e
  grind
end
theorem Wk.grown {w0 w l d:az}{b ct pw:Nat}{T:List Int}{ms:List Int}{n:List _}{j f:a7}{m:List ec}{kd:Int}
 (hk:w.heap[b]?=OR (OX #[aq pw,.map (OR ct),j] 160 (0,0)))(lo:I (G w0)<=b/\I (G w0)<=ct)(hm:Nm w ct T ms)(hr:aC w (I (G w0)) 101 2 j (L m) (nv m))(F:hW m=n)(N:∀x∈m,fP w x.2.1 x.2.2.2)(hb:O7 (I (G w0)) w0 w)
 (g:O7 (I (G w)) w l)(s:aC d (I (G w0)) 101 2 f (L m+1) (nv m++[ak kd,Z Y 0 0]))(g4:l.grownBy d j.ownBlock):
 Wk w0 (P d ⟨b,2,Y⟩ f) b ct pw T (ms,n++[(kd,[])]) f (m++[(kd,Y,0,[])])/\fV w0 w m (P d ⟨b,2,Y⟩ f) (m++[(kd,Y,0,[])])/\d.heap[b]?=OR (OX #[aq pw,.map (OR ct),j] 160 (0,0)):=by
 have t:=hm;obtain⟨D,o1,_⟩:=hm;obtain⟨es,S,W,_⟩:=o1;have ab:=(Kf.of g).trans (Kf.grown g4 (λk e=>⟨(cu hr k e.symm).1,λad ty mm hc=>by obtain⟨ag,p⟩:=fI hr k e.symm;have:=(g.block k (cj p)).trans p;rw[this] at hc;simp at hc;exact aI hc.2.1.symm⟩))
 have q:=(g4.block b (aL (by grind) g.size) (by grind [fI])).trans ((g.block b (cj hk)).trans hk)
 have u:Kf (I (G w0)) w (P d ⟨b,2,Y⟩ f):=(by grind [Kf.trans,Kf.set])
 have v:ct≠b:=λe=>by grind
 have B:(nv (m++[(kd,Y,0,[])]:List ec))=nv m++[ak kd,Z Y 0 0]:=by rw[yi];rfl
 refine⟨⟨?_,lo,?_,?_,?_,λx i=>?_,(by grind [Kf.below,Below.trans])⟩,⟨u,λk hk=>?_⟩,q⟩
 ·simp only [World.setCell,Array.getElem?_modify,if_true,q,Option.map_some];rfl
 ·refine t.same ((aW _ _ _ _ v).trans ((g4.block ct (aL (by grind) g.size) (λe=>?_)).trans (by grind [Below.block])))
  grind [fI]
 ·rw[B,aX];refine cK s (λk e=>aW _ _ _ _ (λc=>?_))
  grind [fI]
 ·grind [hW]
 ·grind [fP.kf,fP.nil]
 ·obtain⟨x,i,hl,o,e⟩:=hk;rcases List.mem_append.1 i with i|i
  ·exact aK ⟨x,i,hl,o,e⟩
  grind
theorem Wk.filled {w0 w:az}{f ct pw g cap len:Nat}{T:List Int}{s:cT}{m:List ec}(h:Wk w0 w f ct pw T s (Z (au g) len cap) m){i:Nat}{k0:Int}{v0:List _}(hi:s.2[i]?=OR (k0,v0)){base c2:Nat}{a2:Option bB}{b:List _}
 (hr:aC w base 139 2 (Z a2 (L b) c2) (L b) (ev b)):
 Wk w0 (P w ⟨g,i*2+1,Y⟩ (Z a2 (L b) c2)) f ct pw T (s.1,s.2.set i (k0,b)) (Z (au g) len cap) (m.set i (k0,a2,c2,b))/\Kf (I (G w0)) w (P w ⟨g,i*2+1,Y⟩ (Z a2 (L b) c2))/\(∀k,gf (m.set i (k0,a2,c2,b)) k->gf m k\/base<=k):=by
 obtain⟨l,j⟩:=fI h.row g rfl;have d:Kf (I (G w0)) w (P w ⟨g,i*2+1,Y⟩ (Z a2 (L b) c2)):=Kf.set j (by grind) (cu h.row g rfl).1;obtain⟨x,n,p⟩:∃x:ec,m[i]?=OR x/\(x.1,x.2.2.2)=(k0,v0):=by
  have:=hi;rw[<-h.nd,hW,List.getElem?_map] at this
  grind
 have q:x.1=k0:=(by grind)
 have hlen:len=L m:=by
  rcases h.row.2 with⟨hv,_⟩|⟨t,u,v,hv,_⟩
  all_goals grind
 refine⟨⟨(aW _ _ _ _ (λc=>?_)).trans h.cY,h.lo,h.mp.same (aW _ _ _ _ (λc=>?_)),?_,?_,λy hy=>?_,h.e9.trans (d.below h.e9.size)⟩,d,λk hk=>?_⟩
 ·have c:=c;have:=h.cY
  grind
 ·obtain⟨D,⟨es,B,hb,_⟩,_⟩:=h.mp
  grind
 ·grind [uF,row,qq]
 ·rw[hW,List.map_set];show((hW m).set i (k0,b))=_;rw[h.nd]
 ·rcases List.mem_or_eq_of_mem_set hy with hy|hy
  ·exact(h.fl y hy).kf d
  ·subst hy;exact(fP.of hr).kf d
 ·obtain⟨y,hy,hl,o,e⟩:=hk;exact zQ
section
variable {w0:az}{kb ct pw p q N O y g:Nat}{ws:List Int}{sd:Nat}{v0:a7}{a1:Option bB}{k1:Nat}{Q:List b8}{T:List Int}
theorem GL (hq:oj w0 pw p q N O y g ws sd v0 a1 k1 Q)(aV:∀a∈T,0<=a/\a<2000)(cI:T.length<=100000)(n:Nat)(M:cT->Int->cT)(hM:pu w0 kb ct pw T M n)(ai:mJ T (λa=>pk (ld N y g ws a)) (fJ N y g ws Q) n M):
 pu w0 kb ct pw T (λs a=>((dE M T (s.1++[a],s.2++[(pk (ld N y g ws a),[])]) (fJ N y g ws Q a)).2.1,(dE M T (s.1++[a],s.2++[(pk (ld N y g ws a),[])]) (fJ N y g ws Q a)).2.2.set s.1.length (pk (ld N y g ws a),(dE M T (s.1++[a],s.2++[(pk (ld N y g ws a),[])]) (fJ N y g ws Q a)).1))) (n+1):=by
 intro w s cJ m a h ho ha hn hl;obtain⟨cd,hi,ce,cf,ch⟩:=bM GK;have cL:=ho.lt ha hn;have ci:=aV a ha;have ck:m.length=s.1.length:=by rw[h.len,ho.len]
 have al:=ho.more ha hn (pk (ld N y g ws a),[])
 have hlen:=o6 M T (s.1++[a],s.2++[(pk (ld N y g ws a),[])]) (fJ N y g ws Q a)
 have G:=qh ai al (by grind) (fJ N y g ws Q a)
 have cl:=FS N y g ws Q a;have cm:=hq.hm;have a0:(dE M T (s.1++[a],s.2++[(pk (ld N y g ws a),[])]) (fJ N y g ws Q a)).2.2[s.1.length]?=OR (pk (ld N y g ws a),[]):=by rw[G.old s.1.length ac,List.getElem?_append_right (by rw[ho.len];omega),ho.len];simp
 have cM:s.1.length<(dE M T (s.1++[a],s.2++[(pk (ld N y g ws a),[])]) (fJ N y g ws Q a)).2.1.length:=by
  have:=G.le
  grind
 have cn:=G.ok.len;have bb:aA (∀(l:az)(bd:a7)(be:List ec)(ad:Option bB)(cap:Nat),Wk w0 l kb ct pw T (s.1++[a],s.2++[(pk (ld N y g ws a),[])]) bd be->Lq l ad (fJ N y g ws Q a)->
  _):=
  λl bd be ad cap co cp=>zW hM ai co al (by grind) _ ad cap cp aa
 have bg:aA (∀w1,O7 w0.heap.size w0 w1->_):=λw1 hb=>hC a w1 (hq.low hb).ar;have bi:aA (∀w1,O7 w0.heap.size w0 w1->V w1 (av kb 0)=OR (aq pw)->_):=
  λw1 hb hc=>FT (hq.low hb) kb hc a ci.1 aa
 have cN:=aT w0 _ hq.c0;have cq:aA (∀w1,O7 w0.heap.size w0 w1->_=_):=λw1 hb=>(hq.low hb).c0;have bl:=j7 (a:=a) aa aa;have bn:=om (s.1.length:Int) (WalkArith.wf_i64 aa)
 clear hM ai G al cl cm hq aV;dsimp only;generalize cr:dE M T (s.1++[a],s.2++[(pk (ld N y g ws a),[])]) (fJ N y g ws Q a)=R at*;clear cr;generalize fJ N y g ws Q a=cO at*;obtain⟨cP,cQ⟩:=R;dsimp only at*;generalize pk (ld N y g ws a)=kd at*;generalize pf (ld N y g ws a)=f at*;generalize pc (ld N y g ws a)=cc at*;have H:aA (_):=h;obtain⟨am,dT,cs⟩:=e7 h.row;subst cs;obtain⟨c0,c1,c2,lk⟩:=h.cells;obtain⟨D,o1,cv,cw⟩:=h.mp;have hlo:=h.lo;have bo:aA (∀(w1:az)(k:Nat),w1.ownsMap J 3 (plainElem J 3) ct k (D.put (.int OW a) (.lit (.int OW (s.1.length:Int))))->Nm w1 ct T (s.1++[a])):=λw1 k cR=>(by grind [Nm.put])
 have bp:aA (hW m=s.2):=h.nd;clear h cv cw ho ha hn;generalize s.1.length=L at*;subst ck;go_enter func227,ntmps227;go_wp2_with (at_mapUpdate;refine wpList_mapUpdate_own _ rfl _ _ _ 158 rfl 3 3 js underlying158 (plainElem (H:=Unit) J 3) ct T.length D rfl o1 (by unfold bL;omega) _ _ _ rfl rfl bl _ [] bn ?_;intro w1 br bs;(have bt:Fr (λk=>k=ct) w w1:=(Fr.refl _ _).grown bs (by grind));(have b:aA (_/\_/\_/\_/\_):=H.o.turned bt);(have an:aA (Nm w1 ct T (s.1++[a])):=bo.o w1 _ br);(have cx:V w1 (av kb 0)=OR (aq pw):=by simp[World.cell?,b.o.2.1]);(have y1:=cq.o w1 b.o.2.2.2.2);clear br bs bt c0 c1 c2 o1 bo)
 refine(bg.o w1 b.o.2.2.2.2).mono ?_;clear bg;rintro e F ⟨rfl,c⟩
 have ao:=(c.block kb (cj b.o.2.1)).trans b.o.2.1;have bx:V F (av kb 2)=OR (.slice am m.length dT):=aD ao
 have b0:=cg ao;have b1:=cg (an.o.same (by obtain⟨cS,cy,_⟩:=an.o;exact c.block ct cy.lt))
 have ap:=cK b.o.2.2.1 (λk hk=>c.block k (cu b.o.2.2.1 k hk).2)
 have b2:=cg ap;have b3:aA (_):=λx cz=>(b.o.2.2.2.1 x cz).kf (Kf.of (B:=0) c)
 have B2:=cg (b.o.2.2.2.2.trans (c.mono b.o.2.2.2.2.size))
 have b5:=cg ((show fV w0 w m w1 m from⟨b.o.1,λk h=>aK h⟩).trans (fV.of c))
 have cU:=B2.o.size;clear b an ao cx y1 c lk;go_wp2_with (at_builtin;refine bO _ rfl _ _ 95 rfl w0.heap.size 101 cd (.agg #[ak 0,.slice Y 0 0]) 2 32 underlying95 hi ce cf ch rfl ae (.slice am m.length dT) m.length (nv m) rfl (gq ap _) ⟨F.heap.size,0,Y⟩ 1 1 [ak kd,.slice Y 0 0] rfl rfl ?_ ?_ ?_ ?_ ?_ ?_;(intro j u d;match j,d with|0,d=>(simp at d;subst d;simp[Addr.add])|1,d=>(simp at d;subst d;simp[Addr.add]));(intro u o;simp at o;rcases o with o|o<;>(subst o;rfl));(unfold bL;omega);omega;(simp;omega);intro cV ar aB b6 _ cA;obtain⟨b4,cB,cC⟩:=fi aB (jw _);subst cC;(have S:=cg (Wk.grown b0.o hlo b1.o b2.o bp.o b3.o B2.o (aw F _) aB b6));(have u0:V ar (av kb 2)=OR (.slice am m.length dT):=by simp[World.cell?,S.o.2.2]);(have cD:bF ar (av kb 2)=O4:=by simp[World.frozen?,S.o.2.2]);clear aB b6 cA bx ap b0 b1 b2 bp b3 B2)
 obtain⟨b7,b8,_⟩:=S.o;have W:=cg (b5.o.trans b8)
 have t:=cg b7;clear S b7 b8 u0 cD b5;generalize P ar ⟨kb,2,Y⟩ (.slice (OR ⟨b4,0,Y⟩) (m.length+1) cB)=l at W t⊢;refine(bi.o l t.o.e9 t.o.cells.1).mono ?_;clear bi;rintro e cE ⟨ad,cap,rfl,b9,ab⟩
 go_wp2_with fail;refine(bb.o cE _ _ ad cap (t.o.below ab) (Lq.of b9)).mono ?_;clear bb;rintro e cW ⟨cX,v,a2,cY,rfl,aF,i,ca,cF⟩
 have cZ:=i.len.trans cn;obtain⟨c3,c4,cG⟩:=fi i.row aa;subst cG;have bx:=i.cells.2.2.1;have cH:m.length<v.length:=aa;obtain⟨aR,c5⟩:=kt i.row ((qp v m.length _ (aP cH)).2)
 rw[<-hlen] at aF;have ag:=cg (i.filled a0 aF)
 have cb:=cg ((W.o.trans (fV.of ab)).trans ca)
 have c6:=((W.o.trans (fV.of ab)).1).size;generalize (v[m.length]).2.1=q1 at aR;generalize (v[m.length]).2.2.2.length=c7 at aR;generalize (v[m.length]).2.2.1=q3 at aR;rw[hlen] at ag;clear b9 ab aF i ca cF W t a0 hlen bn bl;go_wp2_with fail;go_ret;exact⟨_,_,rfl,ag.o.1,cb.o.1.trans ag.o.2.1,λk hk=>(ag.o.2.2 k hk).elim (cb.o.2 k) aa⟩
theorem zX (hq:oj w0 pw p q N O y g ws sd v0 a1 k1 Q)(b:∀a∈T,0<=a/\a<2000)(c:L T<=100000):∀n,pu w0 kb ct pw T (met T (λa=>pk (ld N y g ws a)) (fJ N y g ws Q) n) n
 |0=>λw s d m a _ ho ha hn hl=>by have:=ho.lt ha hn;omega
 |n+1=>GL hq b c n _ (zX hq b c n) (ks n)
end
section
variable {N y g:Nat}{ws:List Int}{Q:List b8}{l:List Int}
def gN (N y g:Nat)(ws:List Int)(Q:List b8)(l:List Int):List (Int×Int)×cT:=
 dE (met (eQ N y g ws++dM N y g ws) (λa=>pk (ld N y g ws a)) (fJ N y g ws Q) (L (eQ N y g ws++dM N y g ws))) (eQ N y g ws++dM N y g ws) ([],[]) l
theorem GM (N y g:Nat)(ws:List Int)(Q:List b8)(l:List Int):iE (eQ N y g ws++dM N y g ws) (λa=>pk (ld N y g ws a)) (fJ N y g ws Q) ([],[]) (gN N y g ws Q l).2 (gN N y g ws Q l).1:=
 qh (ks _) (fE.start _) ac l
end
open Go.RowKit W
theorem GN {P:Program}{o:Oper}{a:Act}{w:az}{K:Act->az->Prop}{Q:Exit->Act->az->Prop}(n:o.guard=Y)(d s:Operand)(f p i:bI)
 (ho:o.op=.call {callee:=.builtin .copy,args:=#[d,s],argTypes:=#[f,p]})(x:P.underlying f=OR (.slice i))(B:(P.info? i).map (·.size)=OR 1)
 (k sp:Option bB)(l q m u:Nat)(hd:a.eval d=Z k l q)(hs:a.eval s=Z sp m u)
 (g c:Nat)(e:List a7)(t:bI)(hg:w.heap[g]?=OR (OX e.toArray t (0,0)))(b:List a7)(hn:L b=l8 m l)
 (F:0<L b->k=OR ⟨g,c,Y⟩/\∃ad,sp=OR ad/\∀j v,b[j]?=OR v->V w (ad.add j)=OR v)
 (N:c+L b<=L e)(S:∀v∈b,v.oneCell'=C)
 (h:∀w',mL w w' g e c b->K (a.put o.dst (goInt (L b))) w'):Oper.wp P o a w K Q:=by
 have:=rR (ops:=#[]) (o:=o) (K:=K) (Q:=Q) (E:=False) n d s f p i ho x B k sp l q m u hd hs g c e t hg b hn F N S h;rwa [aN (show Region.wanted o (yielded #[] a.tmps)=C by simp[Region.wanted,n])] at this
theorem vz {P:Program}{ops:Array Oper}{n:List Oper}{o:Oper}{a:Act}{w:az}{Q:Exit->Act->az->Prop}(p:o.guard=Y)(d s:Operand)(f q i:bI)
 (ho:o.op=.call {callee:=.builtin .copy,args:=#[d,s],argTypes:=#[f,q]})(B:P.underlying f=OR (.slice i))(F:(P.info? i).map (·.size)=OR 1)
 (k sp:Option bB)(l u m x:Nat)(hd:a.eval d=Z k l u)(hs:a.eval s=Z sp m x)
 (g c:Nat)(e:List a7)(t:bI)(hg:w.heap[g]?=OR (OX e.toArray t (0,0)))(b:List a7)(hn:L b=l8 m l)
 (N:0<L b->k=OR ⟨g,c,Y⟩/\∃ad,sp=OR ad/\∀j v,b[j]?=OR v->V w (ad.add j)=OR v)
 (S:c+L b<=L e)(W:∀v∈b,v.oneCell'=C)
 (h:∀w',mL w w' g e c b->wpList P ops Q n (a.put o.dst (goInt (L b))) w'):wpList P ops Q (o::n) a w:=
 wpList_plain p λ_ ab=>GN p d s f q i ho B F k sp l u m x hd hs g c e t hg b hn N S W (λw' hw=>ab _ _ (h w' hw))
theorem GO (w:az):O2 J 222 #[U rT 1,U rT 12] w λe w'=>e=OV (ay #[U rT 0,U rT 12])/\w'=w:=by go_wp2;go_ret2;exact⟨rfl,rfl⟩
theorem GP (w:az):O2 J 157 #[U rT 1,U rT 12] w λe w'=>e=OV (ay #[U rT 0,U rT 12])/\w'=w:=by
 go_enter func157,ntmps157;go_wp2_with fail;refine(GO w).mono ?_;rintro e w1 ⟨rfl,hw⟩
 have hw:=hw.symm;subst hw;go_wp2;go_ret2;exact⟨rfl,rfl⟩
def tw (v:Int)(n:Nat):List Int:=aZ n v++aZ (12-n) 0
theorem vA (v:Int)(n:Nat)(h:n<=12):L (tw v n)=12:=by simp[tw];omega
theorem GQ (v:Int)(n m:Nat)(h:n+m<=12):splice (tw v n) n (aZ m v)=tw v (n+m):=by unfold splice tw;rw[List.take_left' ac,ji,List.drop_append,ji];simp only [List.drop_replicate];rw[show n-(n+m)=0 by omega,show 12-n-(n+m-n)=12-(n+m) by omega];simp;rw[<-bf,List.replicate_append_replicate]
theorem GR (v:Int)(n i:Nat)(h:i<n):X (tw v n) i 0=v:=by unfold tw;rw[aM,List.getElem?_append_left (by simpa using h)];simp[h]
theorem one_cell {w:az}{b:Nat}{v:Int}(hc:V w (av b 0)=OR (ak v)):∀j u,((aZ 1 v).map (Value.int OW))[j]?=OR u->V w ((⟨b,0,Y⟩:bB).add j)=OR u:=by
 intro j u hj;have c:j=0:=by exact si
 subst c;rw[<-hj];simpa[Addr.add] using hc
theorem GS {w:az}{nb n:Nat}{v:Int}(hr:w.heap[nb]?=OR (OX ((tw v n).map (Value.int OW)).toArray 2 (0,0)))(hn:n<=12)(m:Nat)(hm:m<=n):∀j u,((aZ m v).map (Value.int OW))[j]?=OR u->V w ((⟨nb,0,Y⟩:bB).add j)=OR u:=by
 intro j u hj;have b:j<m:=by exact si
 have c:u=ak v:=by simp[b] at hj;exact hj.symm
 have hl:=vA v n hn;have hg:=GR v n j aa;rw[aM,aP (by omega:j<L (tw v n))] at hg;have ea:(⟨nb,0,Y⟩:bB).add j=⟨nb,j,Y⟩:=by simp[Addr.add];intro h;exact h.symm
 rw[ea,c];have d:j<L (tw v n):=aa;simp[World.cell?,hr,List.getElem?_eq_getElem d];exact hg
theorem zY {w w':az}{nb n m B:Nat}{v:Int}(b:mL w w' nb ((tw v n).map (Value.int OW)) n ((aZ m v).map (Value.int OW)))(hr:w.heap[nb]?=OR (OX ((tw v n).map (Value.int OW)).toArray 2 (0,0)))(hm:0<m)(h:n+m<=12)(hB:B<=nb):w'.heap[nb]?=OR (OX ((tw v (n+m)).map (Value.int OW)).toArray 2 (0,0))/\O7 B w w':=by
 rcases b with⟨h0,_⟩|rfl
 ·have:=congrArg L h0;simp at this
  omega
 ·rw[uJ,GQ v n m h];exact⟨setRow_heap w nb _ _ _ _ hr,⟨rfl,rfl,rfl,by simp[World.setRow],λk hk=>setRow_other w nb k _ aa⟩⟩
theorem GT (w:az)(b:Nat)(v:Int)(hc:V w (av b 0)=OR (ak v)):
 O2 J 155 #[Z (au b) 1 1,ak 12] w λe w'=>∃nb,e=OV (Z (au nb) 12 12)/\I (G w)<=nb/\w'.heap[nb]?=OR (OX ((tw v 12).map (Value.int OW)).toArray 2 (0,0))/\O7 (I (G w)) w w':=by
 obtain⟨l,hi,F,N,S⟩:=bM yl;have lb:=aT w _ hc;go_enter func155,ntmps155;go_wp2_with fail;refine(GP w).mono ?_;rintro e w0 ⟨rfl,hw⟩
 have hw:=hw.symm;subst hw
 go_upto_region 7 with(at_make;refine wpList_make_full _ rfl _ _ 66 rfl (I (G w)) 2 l (ak 0) 1 underlying66 hi F N OW OW _ _ 12 rfl rfl aa aa (by rw[S];omega) (by unfold bL;omega) bY ?_;intro w1 W ab)
 have hr:w1.heap[I (G w)]?=OR (OX ((tw v 0).map (Value.int OW)).toArray 2 (0,0)):=by simpa[tw] using(ym W)
 have f:=(aH _ w).grown ab bY (λ_ h=>by cases h)
 have o:=cg (one_cell ((f.cell (p:=av b 0) lb).trans hc))
 have g:=cg hr;have c:aA (L ((aZ 1 v).map (Value.int OW))=l8 1 12):=rfl;have d:aA (0+L ((aZ 1 v).map (Value.int OW))<=L ((tw v 0).map (Value.int OW))):=by show _<=_;rw[a5,a5,vA v 0 aa];simp
 go_wp2_with (refine vz rfl _ _ 66 66 2 rfl underlying66 uI (au (I (G w))) (au b) 12 12 1 1 rfl rfl (I (G w)) 0 ((tw v 0).map (Value.int OW)) 2 g.o ((aZ 1 v).map (Value.int OW)) c.o (λ_=>⟨rfl,_,rfl,o.o⟩) d.o (qu _) ?_;intro ap q)
 obtain⟨s,t⟩:=zY (B:=I (G w)) q g.o aa aa bY
 have u:=f.trans t;clear q o g c d f t
 go_loopw [8] (λnv wr=>∃n:Nat,1<=n/\n<=12/\nv=ak n/\aA (wr.heap[I (G w)]?=OR (OX ((tw v n).map (Value.int OW)).toArray 2 (0,0)))/\O7 (I (G w)) w wr) (λnv _=>12-K (bG nv))
 exact⟨1,aG _,aa,rfl,s,u⟩
 ·
   clear s u;obtain⟨n,n1,x,rfl,i,hb⟩:=hrel;by_cases ar:n<12
   ·obtain⟨m,hm,ad,j,ag⟩:∃m,m=l8 n (12-n)/\0<m/\n+m<=12/\m<=n:=⟨_,rfl,by simp only [sw];split<;>omega,by simp only [sw];split<;>omega,by simp only [sw];split<;>omega⟩
    have k:=cg i.o;have c:aA (L ((aZ m v).map (Value.int OW))=l8 n (12-n)):=by show _=_;rw[<-hm];simp
    have d:aA (n+L ((aZ m v).map (Value.int OW))<=L ((tw v n).map (Value.int OW))):=by show _<=_;rw[a5,a5,vA v n x];simpa using j
    have aB:¬12=n:=aa;have l:(0:Int)<=(n:Int):=aa;have aF:(n:Int)<=12:=aa;have aR:(n:Int)<12:=aa;clear i;go_wp2_with fail
    go_region_law (refine rR rfl (.tmp 41) (.tmp 44) 66 66 2 rfl underlying66 uI (OR ⟨I (G w),n,Y⟩) (au (I (G w))) (12-n) (12-n) n 12 ?_ ?_ (I (G w)) n ((tw v n).map (Value.int OW)) 2 k.o ((aZ m v).map (Value.int OW)) c.o (λ_=>⟨rfl,_,rfl,(cg (GS k.o x m ag)).o⟩) d.o (qu _) ?_;(simp[Act.eval,Act.put]);(simp[Act.eval,Act.put]);intro aV ai)
    obtain⟨al,am⟩:=zY (B:=I (G w)) ai k.o ad j bY
    have an:=cg al;have ao:=hb.drew.trans am;have hw:IntKind.i64.wrap ((n:Int)+(m:Int))=((n+m:Nat):Int):=by rw[bc];omega
    simp[Act.put,go_sem,Exit.inBlock];rw[<-hm,hw];refine⟨⟨_,_,_,_,_,_,_,_,_,_,_,_,_,_,?rel,rfl⟩,?measure⟩
    exact⟨n+m,aa,j,rfl,an,ao⟩
    simp[bG];omega
   ·obtain rfl:n=12:=aa;go_wp2_with fail;go_ret;exact⟨I (G w),rfl,aG _,i.o,hb⟩
theorem zZ (n o:Nat)(w:az)(h0:16<=n)(b1:n<=256)(b2:o<=1024):
 O2 J 114 #[ak n,ak o] w λe w'=>∃pw p q pc cW s nb,e=OV (ay #[aq pw,bz #[ak 0,ak 0]])/\iY w' pw p q pc cW n o 0 0 (aZ (n+o) 0) (dT o) [] (aq s) (Z (au nb) 12 12)/\w'.heap[s]?=OR (OX #[Z Y 0 0,Z Y 0 0] 197 (0,0))/\w'.heap[nb]?=OR (OX ((tw 2 12).map (Value.int OW)).toArray 2 (0,0))/\
  (I (G w)<=pw/\I (G w)<=p/\I (G w)<=q/\I (G w)<=pc/\I (G w)<=cW/\I (G w)<=s/\I (G w)<=nb)/\O7 (I (G w)) w w':=by
 have P:=EA n o (w.alloc (OX #[U OW 0,U OW 0] 33)) aa aa aa aa;simp only [Int.toNat_natCast] at P;go_enter func114,ntmps114;go_wp2_with fail;refine P.mono ?_;clear P;rintro e w1 ⟨p,q,rfl,S,hp,hq,m⟩
 have W:=(m.block (I (G w)) ac).trans (aO w (OX #[U OW 0,U OW 0] 33))
 have aR:=(aw w (OX #[U OW 0,U OW 0] 33)).trans (m.mono ac)
 simp at hp hq;have aV:=m.size;simp at aV;have u:=S.alloc (OX #[U OW 0,U OW 0] 33)
 have B:=aw w1 (OX #[U OW 0,U OW 0] 33)
 clear m;go_wp2_with fail;refine(n8 _ u).mono ?_;rintro e a0 ⟨rfl,j⟩
 have ab:=u.below j bY
 have a1:=(aR.trans (B.mono aa)).trans (j.mono (by simp;omega))
 have a2:=j.size;simp at a2;have ad:=((j.block (I (G w)) (by simp;omega)).trans (B.block (I (G w)) aa)).trans W;clear S u j B W;go_wp2_with fail;refine(Fg n o a0 aa).mono ?_;rintro e d ⟨pc,cW,rfl,ag,b3,b4,l⟩
 have ai:=ab.below l bY
 have bb:=a1.trans (l.mono aa)
 have b5:=l.size;have al:=(l.block (I (G w)) aa).trans ad;clear ab l ad;go_wp2_with fail;have i:=aw d (OX #[Z Y 0 0,Z Y 0 0] 197)
 have F:=aO d (OX #[Z Y 0 0,Z Y 0 0] 197)
 refine(uz _).mono ?_;rintro e N ⟨rfl,hw⟩
 have bd:I (G N)=I (G d)+1:=by rw[hw];simp
 rw[<-hw] at i F;clear hw;have am:=ai.below i bY
 have an:=ag.below i bY
 have be:=bb.trans (i.mono aa)
 have ao:=(i.block (I (G w)) aa).trans al;clear ai ag al i;go_wp2_with fail;have ap:=aw N (OX #[U OW 2] 2)
 refine(GT _ (I (G d)+1) 2 (by rw[<-bd];simp)).mono ?_;rintro e c ⟨nb,rfl,ar,hrow,aB⟩
 have f:=ap.trans (aB.mono ac)
 have bg:=am.below f bY
 have bi:=an.below f bY
 have bl:=be.trans (f.mono aa)
 have t:=(f.block (I (G w)) aa).trans ao;have bn:=(f.block (I (G d)) aa).trans F;have b6:=f.size;have b7:I (G w)<nb:=by simp at ar;omega
 have b8:=cj hrow;have y0:V c (av (I (G w)) 0)=OR (ak 0):=aD t
 have y1:V c (av (I (G w)) 1)=OR (ak 0):=aD t
 have bo:bF c (av (I (G w)) 0)=O4:=aE t
 have bp:bF c (av (I (G w)) 1)=O4:=aE t
 have br:I (G w)<I (G c):=aa;clear am an ao F aB f ap ar;go_wp2_with fail;obtain⟨b,hW0⟩:∃b,b=(c.setCell ⟨I (G w),0,Y⟩ (U OW 0)).setCell ⟨I (G w),1,Y⟩ (U OW 0):=⟨_,rfl⟩
 rw[<-hW0];have bs:I (G b)=I (G c):=by rw[hW0];simp[World.setCell]
 have k0:∀k,k≠I (G w)->b.heap[k]?=c.heap[k]?:=λk hk=>by rw[hW0];exact(aW _ _ _ _ hk).trans (aW _ _ _ _ hk)
 have g0:V b (av (I (G w)) 0)=OR (ak 0):=by exact py
 have g1:V b (av (I (G w)) 1)=OR (ak 0):=by rw[hW0];exact a6 _ _ _ ((aY c ⟨I (G w),0,Y⟩ ⟨I (G w),1,Y⟩ _ ac).trans y1)
 have bt:O7 (I (G w)) w b:=by rw[hW0];exact bl.trans ((((Fr.refl (λk=>k=I (G w)) c).set (I (G w)) 0 _ rfl).set (I (G w)) 1 _ rfl).below (Nat.le_of_lt br) (λx e=>by have e:x=I (G w):=e;omega))
 have aF:=aO b (OX #[bq (OR ⟨p,0,Y⟩),bq (OR ⟨pc,0,Y⟩),bq (OR ⟨I (G d),0,Y⟩),Z (OR ⟨nb,0,Y⟩) 12 12] 125)
 rw[bs] at aF;have g:=aw b (OX #[bq (OR ⟨p,0,Y⟩),bq (OR ⟨pc,0,Y⟩),bq (OR ⟨I (G d),0,Y⟩),Z (OR ⟨nb,0,Y⟩) 12 12] 125)
 have bx:=(bi.same (w':=b) (k0 pc aa) (k0 cW aa)).below g bY
 have b0:=((g.block (I (G d)) aa).trans (k0 _ aa)).trans bn;clear y0 y1 bo bp hW0;generalize b.alloc (OX #[bq (OR ⟨p,0,Y⟩),bq (OR ⟨pc,0,Y⟩),bq (OR ⟨I (G d),0,Y⟩),Z (OR ⟨nb,0,Y⟩) 12 12] 125)=b9 at*;refine a3 (v:=ay #[aq (I (G c)),bz #[ak 0,ak 0]]) (by simp[results,results114,go_sem,((g.cell (p:=av (I (G w)) 0) (by show I (G w)<_;omega)).trans g0),((g.cell (p:=av (I (G w)) 1) (by show I (G w)<_;omega)).trans g1)]) rfl ⟨I (G c),p,q,pc,cW,I (G d),nb,rfl,⟨aF,((bg.same (w':=b) (k0 p aa) (k0 q aa)).below g bY),bx⟩,b0,(((g.block nb aa).trans (k0 _ aa)).trans hrow),⟨aa,aa,aa,aa,aa,aa,aa⟩,(bt.trans (g.mono aa))⟩
end Go.Proofs.YtjckpdepffejnaaGreatDoor
