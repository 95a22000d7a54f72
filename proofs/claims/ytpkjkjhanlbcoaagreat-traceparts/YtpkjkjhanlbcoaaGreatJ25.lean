import Derived.Test.YtpkjkjhanlbcoaaGreatJ24
namespace Go.Proofs.YtpkjkjhanlbcoaaGreat
set_option maxRecDepth 100000
set_option maxHeartbeats 16000000
open Tryz
open Go.RowKit W Kp ck
theorem vK {P:Prop}(h:P:=by rw[hW1];exact a_ _ _ _ ((aY _ ⟨w.heap.size+1,0,none⟩ ⟨w.heap.size+1,1,none⟩ _ ac).trans ((aY _ ⟨w.heap.size,1,none⟩ ⟨w.heap.size+1,1,none⟩ _ ac).trans ((aY _ ⟨w.heap.size,0,none⟩ ⟨w.heap.size+1,1,none⟩ _ ac).trans f1)))):P:=h
theorem vL {P:Prop}(h:P:=by rw[hW1,aY _ _ _ _ ac];exact a_ _ _ _ ((aY _ ⟨w.heap.size,1,none⟩ ⟨w.heap.size+1,0,none⟩ _ ac).trans ((aY _ ⟨w.heap.size,0,none⟩ ⟨w.heap.size+1,0,none⟩ _ ac).trans f0))):P:=h
theorem vM {P:Prop}(h:P:=by rw[hW1,aY _ _ _ _ ac,aY _ _ _ _ ac];exact a_ _ _ _ ((aY _ ⟨w.heap.size,0,none⟩ ⟨w.heap.size,1,none⟩ _ ac).trans v1)):P:=h
theorem vN {P:Prop}(h:P:=by rw[hW1,aY _ _ _ _ ac,aY _ _ _ _ ac,aY _ _ _ _ ac];exact a_ _ _ _ v0):P:=h
theorem BN {P:Prop}(h:P:=by rw[hW1];exact((((Fr.refl (fun b=>b=w.heap.size\/b=w.heap.size+1) w5).set _ 0 _ (aM rfl)).set _ 1 _ (aM rfl)).set _ 0 _ (aL rfl)).set _ 1 _ (aL rfl)):P:=h
theorem vO {P:Prop}(h:P:=by go_enter func74,ntmps74;go_wp2_with fail;go_ret;exact⟨rfl,ba⟩):P:=h
theorem Le {w:az}{b k n:Nat}(h:w.ownsRow b 3 1 (.slice (au k) n n) n (madeCells (Value.int .i64 0).cells (n*1)).toList):
 w.ownsRow b 3 1 (.slice (au k) n n) n (List.replicate n (Value.int .i64 0)):=by
 have e:(madeCells (Value.int .i64 0).cells (n*1)).toList=List.replicate n (Value.int .i64 0):=by show(madeCells #[Value.int .i64 0] (n*1)).toList=_;rw[toList_madeCells_one,Nat.mul_one]
 rwa [e] at h
section
variable {w1 w w':az}{c:Wc}{t:rZ}{F G:Nat->Prop}{S:cv}{W:cn}{g:eM}
theorem d8.fr {X:Nat->Prop}{i k:Nat}(h:d8 w1 c t F G S W i k w)(f:Fr X w w')(g:∀b,F b->¬X b)(j:∀b,G b->¬X b)(ht:¬X t.tp)(l:∀b,X b->w1.heap.size<=b):d8 w1 c t F G S W i k w':=
 ⟨(cA c t.hp).fr h.g f (fun b d e=>g b d e),(cE t.b9 t.n t.o t.rb).fr h.r f (fun b d e=>j b d e),(f.block t.tp (lt_of_some h.tw) ht).trans h.tw,h.oN,h.tG,h.pZ,h.ok,h.gi,h.rl,h.ap,h.fZ,h.p4,h.be.trans (f.below h.be.size l),h.sz⟩
theorem Lf (h:d8 w1 c t F G S W 0 0 w)(hg:∀T wt,eX T wt->dL T wt (g T wt))(l:List S6)(ad:Option Addr)(cp:Nat)(hl:iR w1 ad l)(hm:l.length<=2000):
 Calls prog 73 #[aq t.tp,.slice ad l.length cp] w fun e w'=>∃ca u ai x al,e=.returned (.tuple #[.slice ca l.length l.length,.agg #[.slice u 12 ai,.slice x (dR.ez (W.run g t.n t.o l).T (W.run g t.n t.o l).wt (W.run g t.n t.o l).rs).2.2.length al],.agg #[ak 0,ak 0]])/\f3 w' w.heap.size ca (W.i9 g t.n t.o l)/\jo w' w.heap.size u (dR.ez (W.run g t.n t.o l).T (W.run g t.n t.o l).wt (W.run g t.n t.o l).rs).1/\i5 w' w.heap.size x (dR.ez (W.run g t.n t.o l).T (W.run g t.n t.o l).wt (W.run g t.n t.o l).rs).2.2/\Below w1.heap.size w1 w':=by
 obtain⟨b6,cH,cI,cJ,cK⟩:=info_parts kn;have b9:=(aw w (.cells #[.slice none 0 0,.slice none 0 0] 60)).alloc ac (.cells #[.int .i64 0,.int .i64 0] 28)
 have bl:aA (((w.alloc (.cells #[.slice none 0 0,.slice none 0 0] 60)).alloc (.cells #[.int .i64 0,.int .i64 0] 28)).heap[w.heap.size]?=some (.cells #[.slice none 0 0,.slice none 0 0] 60 (0,0))/\((w.alloc (.cells #[.slice none 0 0,.slice none 0 0] 60)).alloc (.cells #[.int .i64 0,.int .i64 0] 28)).heap[w.heap.size+1]?=some (.cells #[ak 0,ak 0] 28 (0,0))):=⟨by rw[aS _ _ _ ac];exact aP _ _,gb _ _ _⟩
 have s0:((w.alloc (.cells #[.slice none 0 0,.slice none 0 0] 60)).alloc (.cells #[.int .i64 0,.int .i64 0] 28)).heap.size=w.heap.size+1+1:=ac;have j:aA (d8 w1 c t F G S W 0 0 ((w.alloc (.cells #[.slice none 0 0,.slice none 0 0] 60)).alloc (.cells #[.int .i64 0,.int .i64 0] 28))/\(∀b,F b->b<w.heap.size)/\(∀b,G b->b<w.heap.size)/\t.tp<w.heap.size/\w1.heap.size<=w.heap.size):=⟨h.below b9,(cA c t.hp).lt h.g,(cE t.b9 t.n t.o t.rb).lt h.r,lt_of_some h.tw,h.be.size⟩
 have cM:aA (iR w1 ad l):=hl;have cN:aA (∀T wt,eX T wt->dL T wt (g T wt)):=hg;have cb:aA (l.length<=2000):=hm;clear h hl hg b9;go_enter func73,ntmps73;go_wp2_with (at_make;refine wpList_make_full _ rfl _ _ 74 rfl w.heap.size 3 b6 (ak 0) 1 underlying74 cH cI cJ .i64 .i64 _ _ l.length rfl rfl aa aa (by rw[cK];omega) (by unfold maxLen;omega) (by simp;omega) ?_;intro ao ap cc)
 have ap:=Le ap;rw[s0] at ap;have b2:Below ((w.alloc (.cells #[.slice none 0 0,.slice none 0 0] 60)).alloc (.cells #[.int .i64 0,.int .i64 0] 28)).heap.size ((w.alloc (.cells #[.slice none 0 0,.slice none 0 0] 60)).alloc (.cells #[.int .i64 0,.int .i64 0] 28)) ao:=b8.grown cc b7 (fun _ h=>by cases h)
 have ce:aA (d8 w1 c t F G S W 0 0 ao/\(∀b,F b->b<w.heap.size\/w.heap.size+1+1<b)/\(∀b,G b->b<w.heap.size\/w.heap.size+1+1<b)):=⟨j.o.1.below b2,fun b d=>aM (j.o.2.1 b d),fun b d=>aM (j.o.2.2.1 b d)⟩
 have cf:aA (ao.ownsRow w.heap.size 3 1 (.slice (au (w.heap.size+1+1)) l.length l.length) l.length ((i2 W g t.n t.o l 0).map (Value.int .i64))/\ao.heap[w.heap.size]?=some (.cells #[.slice none 0 0,.slice none 0 0] 60 (0,0))/\ao.heap[w.heap.size+1]?=some (.cells #[ak 0,ak 0] 28 (0,0))):=⟨by
  have e:(i2 W g t.n t.o l 0).map (Value.int .i64)=List.replicate l.length (Value.int .i64 0):=by unfold i2;simp[cn.i9]
  rw[e];exact ap,(b2.block _ (by rw[s0];omega)).trans bl.o.1,(b2.block _ (by rw[s0];omega)).trans bl.o.2⟩
 have a1:aA (t.tp<w.heap.size/\w1.heap.size<=w.heap.size):=j.o.2.2.2;clear ap cc b2 bl j s0
 go_loopw [17] (fun iv wr=>∃(i:Nat)(am:cv)(a2 a3:Nat->Prop),i<=l.length/\iv=ak i/\aA (d8 w1 c t a2 a3 am (W.run g t.n t.o (l.take i)) i i wr/\(∀b,a2 b->b<w.heap.size\/w.heap.size+1+1<b)/\(∀b,a3 b->b<w.heap.size\/w.heap.size+1+1<b))/\aA (wr.ownsRow w.heap.size 3 1 (.slice (au (w.heap.size+1+1)) l.length l.length) l.length ((i2 W g t.n t.o l i).map (Value.int .i64))/\wr.heap[w.heap.size]?=some (.cells #[.slice none 0 0,.slice none 0 0] 60 (0,0))/\wr.heap[w.heap.size+1]?=some (.cells #[ak 0,ak 0] 28 (0,0)))) (fun iv _=>l.length-(intOf iv).toNat)
 case atStart=>exact⟨0,S,F,G,a4 _,rfl,ce,cf⟩
 case round=>
  clear ce cf;obtain⟨i,am,a2,a3,hi,rfl,j,N⟩:=hrel;by_cases bn:i<l.length
  ·obtain⟨c8,c9,bo,l0,hc⟩:=cM.o aa;obtain⟨cg,_⟩:=hc i bn;subst bo;clear hc;have b6:(0:Int)<=(i:Int):=aa;have cO:(i:Int)<(l.length:Int):=aa;have ba:aA (W.run g t.n t.o (l.take (i+1))=((W.run g t.n t.o (l.take i)).sx g t.n t.o (l.getD i ig)).2/\(i2 W g t.n t.o l i).set i ((W.run g t.n t.o (l.take i)).sx g t.n t.o (l.getD i ig)).1=i2 W g t.n t.o l (i+1)):=⟨by rw[vI l bn,La],Ld W g t.n t.o l i bn⟩
   have ch:((i2 W g t.n t.o l i).map (Value.int .i64))[i]?=some (ak ((i2 W g t.n t.o l i).getD i 0)):=by have:=Lb W g t.n t.o l i hi;rw[List.getElem?_map,aN aa,aJ,aN aa];rfl
   have ci:aA _:=ch;clear ch;unfold cn.sx at ba;generalize l.getD i ig=st at*;obtain⟨m,sR,n,p,q,sn⟩:=st;obtain⟨cj,y1,ar,bb,ck,cl⟩:=cg.below j.o.1.be l0;dsimp only at cj y1 ar bb ck cl;have ab:=aw wr (cG m sR n p q sn)
   have bp:aA ((wr.alloc (cG m sR n p q sn)).heap[wr.heap.size]?=some (cG m sR n p q sn)):=aP _ _;have cm:aA (d8 w1 c t a2 a3 am (W.run g t.n t.o (l.take i)) i i (wr.alloc (cG m sR n p q sn))):=j.o.1.below ab;have co:aA (Below wr.heap.size wr (wr.alloc (cG m sR n p q sn))):=ab;have P:=K4 cm.o cN.o (by have:=cb.o;omega) m sR n p q sn;clear cg ab;obtain⟨z0,cP,cQ,cR,cS,cT⟩:=el bp.o
   go_upto_region 5 with fail
   generalize wr.alloc (cG m sR n p q sn)=cq at*;generalize br:wr.heap.size=aB at*;have bd:aA (cq.heap[aB]?=some (cG m sR n p q sn)/\w.heap.size+1+1<aB):=⟨bp.o,by rw[<-br];exact(cu N.o.1 _ rfl).2⟩
   have cU:aA (Below aB wr cq):=co.o;have da:aA (wr.heap.size=aB):=br;clear bp co br;go_wp2_with fail;refine P.mono ?_;clear P;rintro e s ⟨aF,G2,rfl,cr,bs,cs,ct⟩
   have ab:=aw s (.cells #[.int .i64 0,.int .i64 0] 28)
   have cV:=lt_of_some bd.o.1;have be:aA (∀b,w.heap.size<=b->b<=w.heap.size+1+1->(s.alloc (.cells #[.int .i64 0,.int .i64 0] 28)).heap[b]?=wr.heap[b]?):=fun b cw cx=>by
    have bt:b<aB:=by have:=bd.o.2;omega
    have bx:=bs.block b aa (fun d=>by
     have db:=a1.o;rcases d with d|d|d
     ·have:=j.o.2.1 b d;omega
     ·have:=j.o.2.2 b d;omega
     ·omega)
    exact(ab.block b (aO aa bs.size)).trans (bx.trans (cU.o.block b bt))
   have aR:aA (d8 w1 c t aF G2 (am.hd c m sR n p q sn).2 ((W.run g t.n t.o (l.take i)).gm g t.n t.o m sR n p q sn).2 (i+1) (i+1) (s.alloc (.cells #[.int .i64 0,.int .i64 0] 28))/\(∀b,aF b->b<w.heap.size\/w.heap.size+1+1<b)/\(∀b,G2 b->b<w.heap.size\/w.heap.size+1+1<b)):=⟨cr.below ab,fun b d=>(cs b d).elim (j.o.2.1 b) (fun d=>by have:=bd.o.2;omega),fun b d=>(ct b d).elim (j.o.2.2 b) (fun d=>by have:=bd.o.2;omega)⟩
   have an:aA ((s.alloc (.cells #[.int .i64 0,.int .i64 0] 28)).ownsRow w.heap.size 3 1 (.slice (au (w.heap.size+1+1)) l.length l.length) l.length ((i2 W g t.n t.o l i).map (Value.int .i64))/\(s.alloc (.cells #[.int .i64 0,.int .i64 0] 28)).heap[w.heap.size]?=some (.cells #[.slice none 0 0,.slice none 0 0] 60 (0,0))/\(s.alloc (.cells #[.int .i64 0,.int .i64 0] 28)).heap[w.heap.size+1]?=some (.cells #[ak 0,ak 0] 28 (0,0))):=⟨cL N.o.1 (fun k e=>by have e:some k=some (w.heap.size+1+1):=e;cases e;exact be.o _ aa aa),(be.o _ aa aa).trans N.o.2.1,(be.o _ aa aa).trans N.o.2.2⟩
   clear cr bs cs ct ab be j N cm cV cj y1 ar bb ck cl z0 cP cQ cR cS cT
   go_upto_region 8 with fail
   generalize s.alloc (.cells #[.int .i64 0,.int .i64 0] 28)=w5 at*;generalize s.heap.size=fx at*;obtain⟨u0,cW⟩:=jR an.o.1 ci.o;have dc:=(cu an.o.1 _ rfl).2;have b0:aA (∀v:Int,d8 w1 c t aF G2 (am.hd c m sR n p q sn).2 ((W.run g t.n t.o (l.take i)).gm g t.n t.o m sR n p q sn).2 (i+1) (i+1) (w5.setCell ⟨w.heap.size+1+1,i,none⟩ (.int .i64 v))/\(w5.setCell ⟨w.heap.size+1+1,i,none⟩ (.int .i64 v)).ownsRow w.heap.size 3 1 (.slice (some ⟨w.heap.size+1+1,0,none⟩) l.length l.length) l.length (((i2 W g t.n t.o l i).set i v).map (Value.int .i64))/\(w5.setCell ⟨w.heap.size+1+1,i,none⟩ (.int .i64 v)).heap[w.heap.size]?=some (.cells #[.slice none 0 0,.slice none 0 0] 60 (0,0))/\(w5.setCell ⟨w.heap.size+1+1,i,none⟩ (.int .i64 v)).heap[w.heap.size+1]?=some (.cells #[.int .i64 0,.int .i64 0] 28 (0,0))):=fun v=>by
    have f:Fr (fun b=>b=w.heap.size+1+1) w5 (w5.setCell ⟨w.heap.size+1+1,i,none⟩ (.int .i64 v)):=(Fr.refl (fun b=>b=w.heap.size+1+1) w5).set _ i _ rfl;refine⟨aR.o.1.fr f (fun b d e=>by have e:b=w.heap.size+1+1:=e;have:=aR.o.2.1 b d;omega) (fun b d e=>by have e:b=w.heap.size+1+1:=e;have:=aR.o.2.2 b d;omega) (fun e=>by have e:t.tp=w.heap.size+1+1:=e;have:=a1.o;omega) (fun b d=>by have d:b=w.heap.size+1+1:=d;have:=a1.o;omega),?_,(aW _ _ _ _ (show w.heap.size≠w.heap.size+1+1 by omega)).trans an.o.2.1,(aW _ _ _ _ (show w.heap.size+1≠w.heap.size+1+1 by omega)).trans an.o.2.2⟩
    rw[List.map_set];exact mU an.o.1 i _
   have cX:aA ((∀b,aF b->b<w.heap.size\/w.heap.size+1+1<b)/\(∀b,G2 b->b<w.heap.size\/w.heap.size+1+1<b)):=aR.o.2;clear aR an ci;generalize (am.hd c m sR n p q sn).2=cY at*;generalize (W.run g t.n t.o (l.take i)).gm g t.n t.o m sR n p q sn=E at*;obtain⟨cd,dd⟩:=E;dsimp only at ba b0;go_wp2_with fail;have b1:=b0.o cd;rw[ba.o.2,<-ba.o.1] at b1;have cy:aA _:=b1;clear b0 b1 u0 cW;go_roundw
   case rel=>exact⟨i+1,cY,aF,G2,aa,aj,⟨cy.o.1,cX.o⟩,cy.o.2⟩
   case measure=>simp[intOf];omega
  ·obtain rfl:i=l.length:=aa;have cO:¬((l.length:Int)<(l.length:Int)):=aa;rw[bz,Lc] at*;have bg:=j.o.1.BK (by have:=cb.o;omega)
   obtain⟨cZ,c0,_⟩:=j.o.1.cells;obtain⟨q0,q1,_⟩:=fe j.o.1.g;generalize cz:(dR.ez (W.run g t.n t.o l).T (W.run g t.n t.o l).wt (W.run g t.n t.o l).rs)=cB at bg;have c1:aA ((dR.ez (W.run g t.n t.o l).T (W.run g t.n t.o l).wt (W.run g t.n t.o l).rs)=cB):=cz;clear cz;obtain⟨c2,ms,bi⟩:=cB;dsimp only at bg;have ag:aA (wr.ownsRow w.heap.size 3 1 (.slice (au (w.heap.size+1+1)) l.length l.length) l.length ((W.i9 g t.n t.o l).map (Value.int .i64))/\wr.heap[w.heap.size]?=some (.cells #[.slice none 0 0,.slice none 0 0] 60 (0,0))/\wr.heap[w.heap.size+1]?=some (.cells #[ak 0,ak 0] 28 (0,0))):=N.o;have b3:aA (Below w1.heap.size w1 wr):=j.o.1.be;clear j N;go_wp2_with fail;refine bg.mono ?_;clear bg;rintro e w5 ⟨u,ai,x,al,rfl,cC,cD,aV⟩
   have c3:=(cu ag.o.1 _ rfl).2;have b4:=(aV.block _ (lt_of_some ag.o.2.1)).trans ag.o.2.1;have b5:=(aV.block _ (lt_of_some ag.o.2.2)).trans ag.o.2.2;have c4:aA (f3 w5 w.heap.size (au (w.heap.size+1+1)) (W.i9 g t.n t.o l)/\jo w5 wr.heap.size u c2/\i5 w5 wr.heap.size x bi/\Below w1.heap.size w1 w5/\w.heap.size+1+1<wr.heap.size):=⟨(f3.of ag.o.1).below aV,cC,cD,b3.o.trans (aV.mono b3.o.size),c3⟩
   obtain⟨v0,v1,bo,c5⟩:w5.cell? (av w.heap.size 0)=some (.slice none 0 0)/\w5.cell? (av w.heap.size 1)=some (.slice none 0 0)/\w5.frozen? (av w.heap.size 0)=false/\w5.frozen? (av w.heap.size 1)=false:=by refine⟨?_,?_,?_,?_⟩<;>simp[World.cell?,World.frozen?,b4]
   obtain⟨f0,f1,g0,g1⟩:w5.cell? (av (w.heap.size+1) 0)=some (ak 0)/\w5.cell? (av (w.heap.size+1) 1)=some (ak 0)/\w5.frozen? (av (w.heap.size+1) 0)=false/\w5.frozen? (av (w.heap.size+1) 1)=false:=by refine⟨?_,?_,?_,?_⟩<;>simp[World.cell?,World.frozen?,b5]
   have l0:=lt_of_some b4;have l1:=lt_of_some b5;clear aV cC cD b4 b5 ag b3 cZ c0 q0 q1;go_wp2_with fail;rw[c1.o];obtain⟨B,hW1⟩:∃B,B=(((w5.setCell ⟨w.heap.size,0,none⟩ (.slice u 12 ai)).setCell ⟨w.heap.size,1,none⟩ (.slice x bi.length al)).setCell ⟨w.heap.size+1,0,none⟩ (.int .i64 0)).setCell ⟨w.heap.size+1,1,none⟩ (.int .i64 0):=⟨_,rfl⟩
   rw[<-hW1];have cw:B.cell? (av w.heap.size 0)=some (.slice u 12 ai):=by exact vN
   have cx:B.cell? (av w.heap.size 1)=some (.slice x bi.length al):=by exact vM
   have bt:B.cell? (av (w.heap.size+1) 0)=some (ak 0):=by exact vL
   have bx:B.cell? (av (w.heap.size+1) 1)=some (ak 0):=by exact vK
   have a0:Fr (fun b=>b=w.heap.size\/b=w.heap.size+1) w5 B:=by exact BN
   clear hW1 v0 v1 bo c5 f0 f1 g0 g1;obtain⟨k1,c6,c7,cF,k5⟩:=c4.o;have de:=a1.o;have q1:f3 B w.heap.size (au (w.heap.size+1+1)) (W.i9 g t.n t.o l):=fun hp=>by
    obtain⟨b,o,e,y1,ar,bb⟩:=k1 hp;cases e;refine⟨_,_,rfl,y1,aO ar a0.size,fun i hi=>?_⟩
    rw[aQ (w:=w5) (a:=⟨w.heap.size+1+1,0+i,none⟩) (a0.block (w.heap.size+1+1) ar (fun d=>by rcases d with d|d<;>omega))];exact bb i hi
   refine a5 (v:=.tuple #[.slice (au (w.heap.size+1+1)) l.length l.length,.agg #[.slice u 12 ai,.slice x bi.length al],.agg #[ak 0,ak 0]]) (by simp[results,results73,go_sem,cw,cx,bt,bx]) rfl ⟨_,u,ai,x,al,rfl,q1,(c6.fr a0 (fun b d=>by rcases d with d|d<;>omega)).base aa,(c7.fr a0 (fun b d=>by rcases d with d|d<;>omega)).base aa,cF.trans (a0.below cF.size (fun b d=>by rcases d with d|d<;>omega))⟩
end
theorem f3.fr {X:Nat->Prop}{w w':az}{base:Nat}{ad:Option Addr}{l:List Int}(h:f3 w base ad l)(f:Fr X w w')(d:∀b,X b->b<base):f3 w' base ad l:=fun hp=>by
 obtain⟨b,o,e,y1,c,g⟩:=h hp;refine⟨b,o,e,y1,aO c f.size,fun i hi=>?_⟩
 exact(aQ (f.block b c (fun j=>by have:=d b j;omega))).trans (g i hi)
theorem f3.base {w:az}{b c:Nat}{ad:Option Addr}{l:List Int}(h:f3 w b ad l)(hb:c<=b):f3 w c ad l:=fun hp=>by obtain⟨k,o,e,y1,d⟩:=h hp;exact⟨k,o,e,aa,d⟩
def mS (g:eM)(n o:Nat)(l:List S6):List Int:=(f6 n o).2.i9 g n o l
def lu (g:eM)(n o:Nat)(l:List S6):List (Int×Int)×cW:=dR.ez ((f6 n o).2.run g n o l).T ((f6 n o).2.run g n o l).wt ((f6 n o).2.run g n o l).rs
theorem vP {g:eM}(hg:∀T wt,eX T wt->dL T wt (g T wt))(n o:Nat)(h0:16<=n)(s:n<=256)(u:o<=1024)(l:List S6)(ad:Option Addr)(cp:Nat)(w:az)(hl:iR w ad l)(hm:l.length<=2000):
 Calls prog 33 #[ak n,ak o,.slice ad l.length cp] w fun e w'=>∃ca f k i m,e=.returned (.tuple #[.slice ca l.length l.length,.agg #[.slice f 12 k,.slice i (lu g n o l).2.2.length m],.agg #[ak 0,ak 0]])/\f3 w' w.heap.size ca (mS g n o l)/\jo w' w.heap.size f (lu g n o l).1/\i5 w' w.heap.size i (lu g n o l).2.2/\Below w.heap.size w w':=by
 unfold lu mS;have S:=(aw w (.cells #[.slice none 0 0,.slice none 0 0] 60)).alloc ac (.cells #[.int .i64 0,.int .i64 0] 28)
 have p:aA (((w.alloc (.cells #[.slice none 0 0,.slice none 0 0] 60)).alloc (.cells #[.int .i64 0,.int .i64 0] 28)).heap[w.heap.size]?=some (.cells #[.slice none 0 0,.slice none 0 0] 60 (0,0))/\((w.alloc (.cells #[.slice none 0 0,.slice none 0 0] 60)).alloc (.cells #[.int .i64 0,.int .i64 0] 28)).heap[w.heap.size+1]?=some (.cells #[ak 0,ak 0] 28 (0,0))/\_):=⟨by rw[aS _ _ _ ac];exact aP _ _,gb _ _ _,S⟩
 have s0:((w.alloc (.cells #[.slice none 0 0,.slice none 0 0] 60)).alloc (.cells #[.int .i64 0,.int .i64 0] 28)).heap.size=w.heap.size+1+1:=ac;have P:=K2 n o ((w.alloc (.cells #[.slice none 0 0,.slice none 0 0] 60)).alloc (.cells #[.int .i64 0,.int .i64 0] 28)) h0 s u;have W:=c7 (hl.below S) hm;have an:=hide hg;go_enter func33,ntmps33;go_wp2_with fail;generalize (w.alloc (.cells #[.slice none 0 0,.slice none 0 0] 60)).alloc (.cells #[.int .i64 0,.int .i64 0] 28)=w0 at*;refine P.mono ?_;rintro e w1 ⟨c,t,F,G,rfl,⟨tn,tm⟩,x⟩
 have ab:=aw w1 (.cells #[.int .i64 0,.int .i64 0] 28)
 have ag:=Lf (x.below ab) an.o l ad cp W.o.1 W.o.2;rw[tn,tm] at ag;have ao:=hide (x.be.trans (ab.mono x.be.size))
 go_wp2_with fail;generalize w1.alloc (.cells #[.int .i64 0,.int .i64 0] 28)=ap at*;refine ag.mono ?_;rintro e w5 ⟨ca,f,k,i,m,rfl,ar,aB,aF,B⟩
 have ai:=(B.block _ (lt_of_some p.o.1)).trans p.o.1;have al:=(B.block _ (lt_of_some p.o.2.1)).trans p.o.2.1;have bd:w.heap.size+1<ap.heap.size:=by have:=ao.o.size;omega
 have am:=iT ar aB aF (p.o.2.2.trans (B.mono aa))
 obtain⟨v0,v1,be,bg⟩:w5.cell? (av w.heap.size 0)=some (.slice none 0 0)/\w5.cell? (av w.heap.size 1)=some (.slice none 0 0)/\w5.frozen? (av w.heap.size 0)=false/\w5.frozen? (av w.heap.size 1)=false:=by refine⟨?_,?_,?_,?_⟩<;>simp[World.cell?,World.frozen?,ai]
 obtain⟨f0,f1,g0,g1⟩:w5.cell? (av (w.heap.size+1) 0)=some (ak 0)/\w5.cell? (av (w.heap.size+1) 1)=some (ak 0)/\w5.frozen? (av (w.heap.size+1) 0)=false/\w5.frozen? (av (w.heap.size+1) 1)=false:=by refine⟨?_,?_,?_,?_⟩<;>simp[World.cell?,World.frozen?,al]
 have l0:=lt_of_some ai;have l1:=lt_of_some al;generalize aR:(dR.ez ((f6 n o).2.run g n o l).T ((f6 n o).2.run g n o l).wt ((f6 n o).2.run g n o l).rs)=aV at am⊢;have a0:=hide aR;obtain⟨bi,ms,N⟩:=aV;go_wp2_with fail;rw[a0.o];obtain⟨j,hW1⟩:∃j,j=(((w5.setCell ⟨w.heap.size,0,none⟩ (.slice f 12 k)).setCell ⟨w.heap.size,1,none⟩ (.slice i N.length m)).setCell ⟨w.heap.size+1,0,none⟩ (.int .i64 0)).setCell ⟨w.heap.size+1,1,none⟩ (.int .i64 0):=⟨_,rfl⟩
 rw[<-hW1];have s:j.cell? (av w.heap.size 0)=some (.slice f 12 k):=by exact vN
 have a1:j.cell? (av w.heap.size 1)=some (.slice i N.length m):=by exact vM
 have u:j.cell? (av (w.heap.size+1) 0)=some (ak 0):=by exact vL
 have a2:j.cell? (av (w.heap.size+1) 1)=some (ak 0):=by exact vK
 have q:Fr (fun b=>b=w.heap.size\/b=w.heap.size+1) w5 j:=by exact BN
 obtain⟨k1,a3,ba,bb⟩:=am.o;refine a5 (v:=.tuple #[.slice ca l.length l.length,.agg #[.slice f 12 k,.slice i N.length m],.agg #[ak 0,ak 0]]) (by simp[results,results33,go_sem,s,a1,u,a2]) rfl ⟨_,f,k,i,m,rfl,(k1.fr q (fun b d=>by rcases d with d|d<;>omega)).base aa,(a3.fr q (fun b d=>by rcases d with d|d<;>omega)).base aa,(ba.fr q (fun b d=>by rcases d with d|d<;>omega)).base aa,bb.trans (q.below aa (fun b d=>by rcases d with d|d<;>omega))⟩
def e6 (x:S6):List Value:=[ak x.k,ak x.R,ak x.A,ak x.B,ak x.I,ak x.n]
def jO (l:List S6):List Value:=l.flatMap e6
theorem Lg (a b:List S6):jO (a++b)=jO a++jO b:=by simp[jO]
theorem Lh:(prog.info? 44).map (fun i=>(i.zero,i.size,i.bytes))=some (some (.agg #[ak 0,ak 0,ak 0,ak 0,ak 0,ak 0]),6,48):=ah
theorem Lj (k R A B I n:Int)(w:az):Calls prog 74 #[d5 k R A B I n] w fun e w'=>e=.returned (.bool (k==15||k==16))/\Below w.heap.size w w':=by
 have ba:=aw w (cG k R A B I n)
 obtain⟨z0,_⟩:=el (aP w (cG k R A B I n))
 by_cases h:k=15
 ·subst h;exact vO
 ·have c:(k==15)=false:=by simpa using h
  rw[c];by_cases b:k=16
  ·subst b;exact vO
  ·have d:(k==16)=false:=by simpa using b
   rw[d];exact vO
def f4 (l:List S6):List S6:=l.filter (fun x=>!(x.k==15||x.k==16))
theorem Lk (l:List S6)(x:S6):f4 (l++[x])=f4 l++if(x.k==15||x.k==16)=true then[] else[x]:=by
 unfold f4;rw[List.filter_append]
 congr 1
 by_cases h:(x.k==15||x.k==16)=true
 ·rw[aK h];simp only [List.filter,h,Bool.not_true]
 ·rw[aI h];have h:(x.k==15||x.k==16)=false:=by simpa using h
  simp only [List.filter,h,Bool.not_false]
theorem Ll (l:List S6)(ad:Option Addr)(cp:Nat)(w:az)(hl:iR w ad l)(hm:l.length<=2000):
 Calls prog 34 #[.slice ad l.length cp] w fun e w'=>∃o rc,e=.returned (.slice o (f4 l).length rc)/\w'.ownsRow w.heap.size 44 6 (.slice o (f4 l).length rc) (f4 l).length (jO (f4 l))/\Below w.heap.size w w':=by
 obtain⟨be,bg,bi,bl,bn⟩:=info_parts Lh;have bo:aA (iR w ad l):=hl;have ai:aA (l.length<=2000):=hm;clear hl hm;go_enter func34,ntmps34;go_wp2_with fail
 go_loopw [3,8] (fun rv iv wr=>∃(i:Nat)(o:Option Addr)(rc:Nat),i<=l.length/\iv=ak i/\rv=.slice o (f4 (l.take i)).length rc/\aA (wr.ownsRow w.heap.size 44 6 (.slice o (f4 (l.take i)).length rc) (f4 (l.take i)).length (jO (f4 (l.take i))))/\aA (Below w.heap.size w wr)) (fun _ iv _=>l.length-(intOf iv).toNat)
 case atStart=>exact⟨0,none,0,a4 _,rfl,rfl,bc _ _ _ _,aH _ _⟩
 case round=>
  obtain⟨i,o,rc,hi,rfl,rfl,al,t⟩:=hrel;by_cases am:i<l.length
  ·obtain⟨b2,b3,bp,l0,hc⟩:=bo.o aa;obtain⟨an,_⟩:=hc i am;subst bp;clear hc;have q0:(0:Int)<=(i:Int):=aa;have q1:(i:Int)<(l.length:Int):=aa;have n:aA (f4 (l.take (i+1))=f4 (l.take i)++if((l.getD i ig).k==15||(l.getD i ig).k==16)=true then[] else[l.getD i ig]):=by show _=_;rw[vI l am,Lk]
   have br:aA ((f4 (l.take i)).length<=2000):=by
    have:=bA (fun x:S6=>!(x.k==15||x.k==16)) (l.take i)
    rw[bq] at this
    have:=ai.o;show(List.filter _ _).length<=_;omega
   generalize l.getD i ig=st at*;obtain⟨c,sR,f,g,m,sn⟩:=st;obtain⟨ao,y1,ap,ar,aB,aF⟩:=an.below t.o l0;dsimp only at ao y1 ap ar aB aF;have v:=aw wr (cG c sR f g m sn)
   have s:aA ((wr.alloc (cG c sR f g m sn)).heap[wr.heap.size]?=some (cG c sR f g m sn)/\Below w.heap.size w (wr.alloc (cG c sR f g m sn))/\(wr.alloc (cG c sR f g m sn)).ownsRow w.heap.size 44 6 (.slice o (f4 (l.take i)).length rc) (f4 (l.take i)).length (jO (f4 (l.take i)))):=⟨aP _ _,t.o.trans (v.mono t.o.size),f9 al.o _⟩
   have P:=Lj c sR f g m sn (wr.alloc (cG c sR f g m sn))
   clear an v t al;obtain⟨z0,F,N,S,W,ab⟩:=el s.o.1
   go_upto_region 5 with fail
   generalize wr.alloc (cG c sR f g m sn)=b4 at*;generalize wr.heap.size=aR at*;clear ao y1 ap ar aB aF;generalize f4 (l.take i)=Q at*;go_wp2_with fail;refine P.mono ?_;clear P;rintro e p ⟨rfl,ag⟩
   have aV:=(ag.block aR (lt_of_some s.o.1)).trans s.o.1;have q:aA (p.heap[aR]?=some (cG c sR f g m sn)/\Below w.heap.size w p/\p.ownsRow w.heap.size 44 6 (.slice o Q.length rc) Q.length (jO Q)):=⟨aV,s.o.2.1.trans (ag.mono s.o.2.1.size),cL s.o.2.2 (fun k e=>ag.block k (cu s.o.2.2 k e).2)⟩
   clear z0 F N S W ab ag aV s;obtain⟨z0,F,N,S,W,ab⟩:=el q.o.1;cases hb:(c==15||c==16)
   ·rw[hb] at n;have n:aA (f4 (l.take (i+1))=Q++[⟨c,sR,f,g,m,sn⟩]):=n;have v:=aw p (cG c sR f g m sn)
    have a0:w.heap.size<=p.heap.size:=q.o.2.1.size;have bs:=br.o;have hM:=ai.o;go_wp2_with (at_builtin;refine wpList_append_lies _ rfl _ _ 36 rfl w.heap.size 44 be (.agg #[ak 0,ak 0,ak 0,ak 0,ak 0,ak 0]) 6 48 underlying36 bg bi bl bn rfl ae (.slice o Q.length rc) Q.length (jO Q) rfl (f9 q.o.2.2 _) ⟨p.heap.size,0,none⟩ 1 1 (e6 ⟨c,sR,f,g,m,sn⟩) rfl rfl ?_ ?_ ae (by unfold maxLen;omega) aa (by simp;omega) _ rfl ?_;(intro j u d;have d:=d;match j,d with|0,d=>(cases d;simp[Addr.add])|1,d=>(cases d;simp[Addr.add])|2,d=>(cases d;simp[Addr.add])|3,d=>(cases d;simp[Addr.add])|4,d=>(cases d;simp[Addr.add])|5,d=>(cases d;simp[Addr.add]));(intro u a1;simp[e6] at a1;rcases a1 with rfl|rfl|rfl|rfl|rfl|rfl<;>rfl);intro bt bx a2 a3 ba b0 b1)
    have bb:aA (a2.ownsRow w.heap.size 44 6 (.slice (au bt) (f4 (l.take (i+1))).length bx) (f4 (l.take (i+1))).length (jO (f4 (l.take (i+1))))/\Below w.heap.size w a2):=by
     rw[n.o,Lg,a7];have e:jO [(⟨c,sR,f,g,m,sn⟩:S6)]=e6 ⟨c,sR,f,g,m,sn⟩:=by simp[jO]
     rw[e];exact⟨a3,(q.o.2.1.trans (v.mono a0)).grown ba (by simp;omega) (fun b e=>(cu q.o.2.2 b e.symm).1)⟩
    have B:(Q.length+1)=(f4 (l.take (i+1))).length:=by rw[n.o,a7];rfl
    rw[B];clear B bs a0 a3 ba b0 b1 v q n z0 F N S W ab hb;go_wp2_with fail;go_roundw
    case rel=>exact⟨i+1,_,_,aa,aj,rfl,⟨bb.o.1,bb.o.2⟩⟩
    case measure=>simp[intOf];omega
   ·rw[hb] at n;have n:aA (f4 (l.take (i+1))=Q++[]):=n;have hM:=ai.o;have bd:aA (p.ownsRow w.heap.size 44 6 (.slice o (f4 (l.take (i+1))).length rc) (f4 (l.take (i+1))).length (jO (f4 (l.take (i+1))))/\Below w.heap.size w p):=by rw[n.o,List.append_nil];exact⟨q.o.2.2,q.o.2.1⟩
    have B:Q.length=(f4 (l.take (i+1))).length:=by rw[n.o,List.append_nil]
    rw[B];clear B q n z0 F N S W ab hb;go_wp2_with fail;go_roundw
    case rel=>exact⟨i+1,_,_,aa,aj,rfl,⟨bd.o.1,bd.o.2⟩⟩
    case measure=>simp[intOf];omega
  ·obtain rfl:i=l.length:=aa;rw[bz] at*;go_wp2_with fail;go_ret;exact⟨o,rc,rfl,al.o,t.o⟩
theorem vQ {g:eM}(hg:∀T wt,eX T wt->dL T wt (g T wt))(n o:Int):∀(l:List S6)(s:cn)(j:Nat),dO s j->j+l.length<=9000->dO (s.run g n o l) (j+l.length)
 |[],s,j,h,_=>h
 |x::l,s,j,h,hl=>by have hl:j+(l.length+1)<=9000:=hl;have e:=vQ hg n o l (s.sx g n o x).2 (j+1) (h.gm aa (hg _ _ h.iv) _ _ _ _ _ _) aa;rw[List.length_cons,show j+(l.length+1)=j+1+l.length by omega];exact e
theorem Lm {g:eM}(hg:∀T wt,eX T wt->dL T wt (g T wt))(n o:Nat)(l:List S6)(hl:l.length<=2000):(lu g n o l).1.length=12/\(lu g n o l).2.2.length<=10000/\∀nd∈(lu g n o l).2.2,nd.2.length<=20000:=by have h:dO ((f6 n o).2.run g n o l) (0+l.length):=vQ hg n o l _ 0 dO.start aa;obtain⟨q1,b,q3⟩:=Bf (h.vd aa) ((f6 n o).2.run g n o l).rs;exact⟨q1.trans h.rl,b,q3⟩
def mT:List S6:=[⟨4,0,0,0,0,0⟩,⟨15,0,0,0,0,0⟩,⟨11,0,1,0,0,0⟩]
def tA:Wc:={pw:=0,p:=0,q:=0,pc:=0,sd:=0,nb:=0,N:=16,O:=8}
def p5:cv:=((f6 16 8).1.hd tA 4 0 0 0 0 0).2
def p6:cv:=(p5.hd tA 15 0 0 0 0 0).2
def oP:cv:=(p6.hd tA 11 0 1 0 0 0).2
theorem Lr {g:eM}(hg:∀T wt,eX T wt->dL T wt (g T wt)):mS g 16 8 mT=[0,0,2]/\(lu g 16 8 mT).2.2.length=1:=by
 have b:cM tA (f6 16 8).1.s:=⟨ae,ae,ae,ae,ae,ae,ae⟩
 have b1:cM tA p5.s:=⟨ae,ae,ae,by decide+kernel,by decide+kernel,by decide+kernel,by decide+kernel⟩
 have b2:cM tA p6.s:=⟨ae,ae,ae,by decide+kernel,by decide+kernel,by decide+kernel,by decide+kernel⟩
 have b3:cM tA oP.s:=⟨ae,ae,ae,by decide+kernel,by decide+kernel,by decide+kernel,by decide+kernel⟩
 have k0:=dX.start tA 16 8;have k1:dX tA p5 1:=(k0.hd b 4 0 0 0 0 0).1;have c:dX tA p6 2:=(k1.hd b1 15 0 0 0 0 0).1;obtain⟨c1,m1,n,o,d⟩:lr tA ((f6 16 8).1.hd tA 4 0 0 0 0 0) ((f6 16 8).2.gm g tA.N tA.O 4 0 0 0 0 0):=(cD.start tA 16 8).hds k0 b hg 4 0 0 0 0 0;obtain⟨c2,p,q,G2,f⟩:lr tA (p5.hd tA 15 0 0 0 0 0) (((f6 16 8).2.gm g tA.N tA.O 4 0 0 0 0 0).2.gm g tA.N tA.O 15 0 0 0 0 0):=d.hds k1 b1 hg 15 0 0 0 0 0;obtain⟨c3,s,t,G3,i⟩:lr tA (p6.hd tA 11 0 1 0 0 0) ((((f6 16 8).2.gm g tA.N tA.O 4 0 0 0 0 0).2.gm g tA.N tA.O 15 0 0 0 0 0).2.gm g tA.N tA.O 11 0 1 0 0 0):=f.hds c b2 hg 11 0 1 0 0 0;have j:((f6 16 8).1.hd tA 4 0 0 0 0 0).1=0:=by decide+kernel
 have k:(p5.hd tA 15 0 0 0 0 0).1=0:=by decide+kernel
 have l:(p6.hd tA 11 0 1 0 0 0).1=2:=by decide+kernel
 have m:dO ((f6 16 8).2.run g (16:Nat) (8:Nat) mT) (0+3):=vQ hg _ _ mT _ 0 dO.start ae;have hv:=(i.view b3 (aU m.tj ae)).2;refine⟨?_,?_⟩
 ·show[_,_,_]=_;rw[j] at c1;rw[k] at c2;rw[l] at c3;exact congr (congrArg List.cons c1.symm) (congr (congrArg List.cons c2.symm) (congr (congrArg List.cons c3.symm) rfl))
 ·have e:(lu g 16 8 mT).2.2=(iJ tA.N oP.s.y oP.s.g oP.s.ws oP.q oP.s.rs).2.2:=hv.symm;rw[e];decide+kernel
theorem jP {w:az}{b:Nat}{c:Array Value}{T:TypeId}(h:w.heap[b]?=some (.cells c T (0,0))){i:Nat}{v:Value}(hi:c[i]?=some v):w.cell? (av b i)=some v:=by simp[World.cell?,h,hi]
theorem kk (a:Int)(h:-100<=a/\a<=100):ih a:=⟨aa,aa⟩
theorem Lt {w:az}{b:Nat}(h:w.heap[b]?=some (.cells #[ak 4,ak 0,ak 0,ak 0,ak 0,ak 0,ak 15,ak 0,ak 0,ak 0,ak 0,ak 0,ak 11,ak 0,ak 1,ak 0,ak 0,ak 0] 44 (0,0))):iR w (au b) mT:=fun _=>by
 refine⟨b,0,rfl,lt_of_some h,fun i hi=>?_⟩
 have hi:i<3:=hi;rcases(show i=0\/i=1\/i=2 by omega) with rfl|rfl|rfl
 all_goals exact⟨⟨jP h rfl,jP h rfl,jP h rfl,jP h rfl,jP h rfl,jP h rfl⟩,kk _ ae,kk _ ae,kk _ ae,kk _ ae,kk _ ae,kk _ ae⟩
theorem Lu {w:az}{b:Nat}(h:w.heap[b]?=some (.cells #[ak 16,ak 0,ak 0,ak 0,ak 0,ak 0,ak 2,ak 0,ak 0,ak 0,ak 0,ak 0] 44 (0,0))):iR w (au b) [⟨16,0,0,0,0,0⟩,⟨2,0,0,0,0,0⟩]:=fun _=>by
 refine⟨b,0,rfl,lt_of_some h,fun i hi=>?_⟩
 have hi:i<2:=hi;rcases(show i=0\/i=1 by omega) with rfl|rfl
 all_goals exact⟨⟨jP h rfl,jP h rfl,jP h rfl,jP h rfl,jP h rfl,jP h rfl⟩,kk _ ae,kk _ ae,kk _ ae,kk _ ae,kk _ ae,kk _ ae⟩
theorem vR (w:az):Calls prog 32 #[] w fun e w'=>e=.returned (.bool true)/\Below w.heap.size w w':=by
 obtain⟨g,hg⟩:=A7;have u:=hide hg;have S:aA (∀(b:Nat)(w':az),iR w' (au b) mT->Calls prog 33 #[ak 16,ak 8,.slice (au b) 3 3] w' fun e o=>∃ca f j c d,e=.returned (.tuple #[.slice ca 3 3,.agg #[.slice f 12 j,.slice c 1 d],.agg #[ak 0,ak 0]])/\f3 o w'.heap.size ca [0,0,2]/\Below w'.heap.size w' o):=fun b w' h=>by
  obtain⟨c1,c2⟩:=Lr u.o;refine(vP u.o 16 8 ae ae ae mT (au b) 3 w' h ae).mono ?_;rintro e o ⟨ca,f,j,c,d,rfl,q1,_,_,W⟩
  rw[c1] at q1;exact⟨ca,f,j,c,d,by rw[c2];rfl,q1,W⟩
 go_enter func32,ntmps32;have P:=S.o w.heap.size _ (Lt (aP w (.cells #[.int .i64 4,.int .i64 0,.int .i64 0,.int .i64 0,.int .i64 0,.int .i64 0,.int .i64 15,.int .i64 0,.int .i64 0,.int .i64 0,.int .i64 0,.int .i64 0,.int .i64 11,.int .i64 0,.int .i64 1,.int .i64 0,.int .i64 0,.int .i64 0] 44)))
 have v:=hide (aw w (.cells #[.int .i64 4,.int .i64 0,.int .i64 0,.int .i64 0,.int .i64 0,.int .i64 0,.int .i64 15,.int .i64 0,.int .i64 0,.int .i64 0,.int .i64 0,.int .i64 0,.int .i64 11,.int .i64 0,.int .i64 1,.int .i64 0,.int .i64 0,.int .i64 0] 44))
 go_wp2_with fail;generalize w.alloc (.cells #[.int .i64 4,.int .i64 0,.int .i64 0,.int .i64 0,.int .i64 0,.int .i64 0,.int .i64 15,.int .i64 0,.int .i64 0,.int .i64 0,.int .i64 0,.int .i64 0,.int .i64 11,.int .i64 0,.int .i64 1,.int .i64 0,.int .i64 0,.int .i64 0] 44)=w0 at*;refine P.mono ?_;rintro e w1 ⟨ca,f,j,c,d,rfl,q1,ab⟩
 have p:=c7 q1 (v.o.trans (ab.mono v.o.size))
 go_upto_region 2 with fail
 have x:=(aw w1 (.cells #[.slice f 12 j,.slice c 1 d] 60)).alloc ac (.cells #[.int .i64 0,.int .i64 0] 28)
 have l:aA (((w1.alloc (.cells #[.slice f 12 j,.slice c 1 d] 60)).alloc (.cells #[.int .i64 0,.int .i64 0] 28)).heap[w1.heap.size]?=some (.cells #[.slice f 12 j,.slice c 1 d] 60 (0,0))/\((w1.alloc (.cells #[.slice f 12 j,.slice c 1 d] 60)).alloc (.cells #[.int .i64 0,.int .i64 0] 28)).heap[w1.heap.size+1]?=some (.cells #[ak 0,ak 0] 28 (0,0))/\f3 ((w1.alloc (.cells #[.slice f 12 j,.slice c 1 d] 60)).alloc (.cells #[.int .i64 0,.int .i64 0] 28)) w0.heap.size ca [0,0,2]/\Below w.heap.size w ((w1.alloc (.cells #[.slice f 12 j,.slice c 1 d] 60)).alloc (.cells #[.int .i64 0,.int .i64 0] 28))):=⟨by rw[aS _ _ _ ac];exact aP _ _,gb _ _ _,p.o.1.below x,p.o.2.trans (x.mono p.o.2.size)⟩
 generalize (w1.alloc (.cells #[.slice f 12 j,.slice c 1 d] 60)).alloc (.cells #[.int .i64 0,.int .i64 0] 28)=k at*;generalize w1.heap.size=B at*;obtain⟨ad,_⟩:k.cell? ⟨B+1,0,none⟩=some (.int .i64 0)/\True:=⟨by simp[World.cell?,l.o.2.1],trivial⟩
 have hl:=aP k (.cells #[.int .i64 0,.int .i64 0,.int .i64 2] 3)
 have q:=aw k (.cells #[.int .i64 0,.int .i64 0,.int .i64 2] 3)
 have P:=vJ ca (au k.heap.size) 3 3 w0.heap.size k.heap.size [0,0,2] _ ae (l.o.2.2.1.below q) (fun _=>⟨k.heap.size,0,rfl,aG _,lt_of_some hl,fun i hi=>by have hi:i<3:=hi;rcases(show i=0\/i=1\/i=2 by omega) with rfl|rfl|rfl<;>exact jP hl rfl⟩)
 have m:=c7 (l.o.2.2.2.trans (q.mono l.o.2.2.2.size)) ((q.block _ (lt_of_some l.o.1)).trans l.o.1)
 go_wp2_with fail;generalize k.alloc (.cells #[.int .i64 0,.int .i64 0,.int .i64 2] 3)=ai at*;refine P.mono ?_;rintro e n ⟨rfl,s⟩
 have t:=c7 (m.o.1.trans (s.mono m.o.1.size)) ((s.block _ (lt_of_some m.o.2)).trans m.o.2)
 have al:n.cell? (av B 1)=some (.slice c 1 d):=aD t.o.2
 have P:=Ll [⟨16,0,0,0,0,0⟩,⟨2,0,0,0,0,0⟩] (au n.heap.size) 2 _ (Lu (aP n (.cells #[.int .i64 16,.int .i64 0,.int .i64 0,.int .i64 0,.int .i64 0,.int .i64 0,.int .i64 2,.int .i64 0,.int .i64 0,.int .i64 0,.int .i64 0,.int .i64 0] 44))) ae;have F:=hide (t.o.1.trans ((aw n (.cells #[.int .i64 16,.int .i64 0,.int .i64 0,.int .i64 0,.int .i64 0,.int .i64 0,.int .i64 2,.int .i64 0,.int .i64 0,.int .i64 0,.int .i64 0,.int .i64 0] 44)).mono t.o.1.size))
 have N:(f4 [⟨16,0,0,0,0,0⟩,⟨2,0,0,0,0,0⟩]).length=1:=ae;rw[N] at P;clear s m N ad;go_wp2_with fail;refine P.mono ?_;rintro e am ⟨an,rc,rfl,_,ag⟩
 have hB:=F.o.trans (ag.mono F.o.size)
 go_wp2_with fail;go_ret;exact⟨rfl,hB⟩
theorem vS (n o:Int)(h:n<16\/256<n\/o<0\/1024<o)(ad:Option Addr)(len cp:Nat)(w:az):
 Calls prog 33 #[ak n,ak o,.slice ad len cp] w fun e w'=>e=.returned (.tuple #[.slice none 0 0,.agg #[.slice none 0 0,.slice none 0 0],.agg #[ak 1,ak (-1)]])/\Below w.heap.size w w':=by
 have N:=(aw w (.cells #[.slice none 0 0,.slice none 0 0] 60)).alloc ac (.cells #[.int .i64 0,.int .i64 0] 28)
 have d:aA (((w.alloc (.cells #[.slice none 0 0,.slice none 0 0] 60)).alloc (.cells #[.int .i64 0,.int .i64 0] 28)).heap[w.heap.size]?=some (.cells #[.slice none 0 0,.slice none 0 0] 60 (0,0))/\((w.alloc (.cells #[.slice none 0 0,.slice none 0 0] 60)).alloc (.cells #[.int .i64 0,.int .i64 0] 28)).heap[w.heap.size+1]?=some (.cells #[ak 0,ak 0] 28 (0,0))/\_):=⟨by rw[aS _ _ _ ac];exact aP _ _,gb _ _ _,N⟩
 have P:=K3 n o ((w.alloc (.cells #[.slice none 0 0,.slice none 0 0] 60)).alloc (.cells #[.int .i64 0,.int .i64 0] 28)) h;go_enter func33,ntmps33;go_wp2_with fail;generalize (w.alloc (.cells #[.slice none 0 0,.slice none 0 0] 60)).alloc (.cells #[.int .i64 0,.int .i64 0] 28)=w0 at*;refine P.mono ?_;rintro e w1 ⟨rfl,g⟩
 have f:=(g.block _ (lt_of_some d.o.1)).trans d.o.1;have j:=(g.block _ (lt_of_some d.o.2.1)).trans d.o.2.1;have i:=aw w1 (.cells #[.int .i64 1,.int .i64 (-1)] 28)
 have k:=(i.block _ (lt_of_some f)).trans f;have l:=(i.block _ (lt_of_some j)).trans j;have x:=aP w1 (.cells #[.int .i64 1,.int .i64 (-1)] 28)
 have nx:¬w.heap.size=w1.heap.size:=by have:=lt_of_some f;omega
 have B:=hide ((d.o.2.2.trans (g.mono d.o.2.2.size)).trans (i.mono (by have:=lt_of_some f;omega)))
 clear d g f j i
 go_upto_region 3 with fail
 generalize w1.alloc (.cells #[.int .i64 1,.int .i64 (-1)] 28)=m at*;generalize w1.heap.size=W at*;obtain⟨ab,ag,_⟩:=jB x;obtain⟨v0,v1,ai,al⟩:=jB k;obtain⟨f0,f1,g0,g1⟩:=jB l;have l0:=lt_of_some k;have l1:=lt_of_some l;clear x k l
 go_region_law (fail)
 all_goals
  obtain⟨c,hW1⟩:∃c,c=(((m.setCell ⟨w.heap.size,0,none⟩ (.slice none 0 0)).setCell ⟨w.heap.size,1,none⟩ (.slice none 0 0)).setCell ⟨w.heap.size+1,0,none⟩ (.int .i64 1)).setCell ⟨w.heap.size+1,1,none⟩ (.int .i64 (-1)):=⟨_,rfl⟩
  rw[<-hW1];have p:c.cell? (av w.heap.size 0)=some (.slice none 0 0):=by exact vN
  have q:c.cell? (av w.heap.size 1)=some (.slice none 0 0):=by exact vM
  have s:c.cell? (av (w.heap.size+1) 0)=some (ak 1):=by exact vL
  have t:c.cell? (av (w.heap.size+1) 1)=some (ak (-1)):=by exact vK
  have F:Fr (fun b=>b=w.heap.size\/b=w.heap.size+1) m c:=by rw[hW1];exact((((Fr.refl (fun b=>b=w.heap.size\/b=w.heap.size+1) m).set _ 0 _ (aM rfl)).set _ 1 _ (aM rfl)).set _ 0 _ (aL rfl)).set _ 1 _ (aL rfl)
  have S:_:=(B.o.trans (F.below aa (fun b u=>by rcases u with u|u<;>omega))).trans ((aH _ c).drew.mono (aU B.o.size F.size))
  have p:c.drew.cell? (av w.heap.size 0)=some (.slice none 0 0):=p;have q:c.drew.cell? (av w.heap.size 1)=some (.slice none 0 0):=q;have s:c.drew.cell? (av (w.heap.size+1) 0)=some (ak 1):=s;have t:c.drew.cell? (av (w.heap.size+1) 1)=some (ak (-1)):=t;generalize c.drew=am at*;go_wp2_with fail;refine a5 (v:=.tuple #[.slice none 0 0,.agg #[.slice none 0 0,.slice none 0 0],.agg #[ak 1,ak (-1)]]) (by simp[results,results33,go_sem,p,q,s,t]) rfl ⟨rfl,S⟩
open Go.ChangeShapes Go.WideShapes Go.ChangeAt Go.RowKit Go.Joins Go.Deep W ck
theorem Lw {H:Type}{enc:TypeId×Value->H}{W:az}{sp:Nat->Bool}{d:Bool}{e len cap:Nat}{ad:Option Addr}{x:DataW H×List MemPlace}
 (f:DataW.trod enc prog W 0 sp d e 36 [.slice ad len cap]=some x):len<=cap/\(cap:Int)<=maxLen:=by
 rcases open_slice underlying36 f with⟨b,_⟩|⟨z,l,c,m,n,D,g,b,hb,hl,hm,_⟩
 ·simp at b;obtain⟨rfl,rfl,rfl⟩:=b;exact⟨aG _,ae⟩
 ·simp at b;obtain⟨rfl,rfl,rfl⟩:=b;exact⟨hl,by exact_mod_cast hm⟩
namespace TPa
theorem Lx (t:Int)(n:Nat)(hn:n<=250):∃r:Nat,r<=n/\wrap64 ((IntKind.u64.wrap t).tmod ((n:Int)+1))=r:=by
 have h0:0<=IntKind.u64.wrap t:=by rw[IntKind.wrap_u64];omega
 generalize IntKind.u64.wrap t=u at*;rw[(Int.tmod_eq_emod_of_nonneg h0)];have b:=Int.emod_nonneg u (show((n:Int)+1)≠0 by omega)
 have c:=Int.emod_lt_of_pos u (show(0:Int)<(n:Int)+1 by omega)
 generalize u%((n:Int)+1)=v at*;refine⟨v.toNat,aa,?_⟩
 unfold wrap64;omega
theorem walk (n o:Int)(a:Option Addr)(cc:Nat)(l:List S6)(cut:Int)(w:az)(hl:iR w a l)(cp:l.length<=cc):
 Calls prog 10 #[ak n,ak o,.slice a l.length cc,ak cut] w fun e w'=>e=.returned (.bool true)/\Below w.heap.size w w':=by
 obtain⟨g,hg⟩:=A7;have a0:=hide hl;have a1:=hide hg;by_cases cq:250<l.length
 ·go_enter func10,ntmps10;go_wp2_with fail;refine(vR w).mono ?_;rintro e w1 ⟨rfl,an⟩
  have aV:(250:Int)<(l.length:Int):=aa;go_wp2_with fail;go_ret;exact⟨rfl,an⟩
 ·have aV:¬((250:Int)<(l.length:Int)):=aa;obtain⟨k,hk,fU⟩:=Lx cut l.length aa;by_cases a2:n<16\/256<n\/o<0\/1024<o
  ·have a3:aA (_):=a2;clear a2;go_enter func10,ntmps10;go_wp2_with fail;refine(vR w).mono ?_;rintro e w1 ⟨rfl,an⟩
   have x:aA (Below w.heap.size w w1):=an;have bx:(k:Int)<=(cc:Int):=aa;have k0:(0:Int)<=(k:Int):=aa;clear an;go_wp2_with fail;rw[fU];clear fU;refine(vS n o a3.o _ _ _ _).mono ?_;rintro e m ⟨rfl,ao⟩
   have b:=(aw m (.cells #[.slice none 0 0,.slice none 0 0] 60)).alloc ac (.cells #[.int .i64 1,.int .i64 (-1)] 28)
   have i:aA (Below w.heap.size w ((m.alloc (.cells #[.slice none 0 0,.slice none 0 0] 60)).alloc (.cells #[.int .i64 1,.int .i64 (-1)] 28))/\((m.alloc (.cells #[.slice none 0 0,.slice none 0 0] 60)).alloc (.cells #[.int .i64 1,.int .i64 (-1)] 28)).heap[m.heap.size+1]?=some (.cells #[ak 1,ak (-1)] 28 (0,0))):=⟨(x.o.trans (ao.mono x.o.size)).trans (b.mono (aU x.o.size ao.size)),gb _ _ _⟩
   clear ao b x
   go_upto_region 7 with fail
   generalize (m.alloc (.cells #[.slice none 0 0,.slice none 0 0] 60)).alloc (.cells #[.int .i64 1,.int .i64 (-1)] 28)=bn at*;generalize m.heap.size=ba at*;go_wp2_with fail;refine(vS n o a3.o _ _ _ _).mono ?_;rintro e d ⟨rfl,ab⟩
   have b:=(aw d (.cells #[.slice none 0 0,.slice none 0 0] 60)).alloc ac (.cells #[.int .i64 1,.int .i64 (-1)] 28)
   have b0:d.heap.size<=((d.alloc (.cells #[.slice none 0 0,.slice none 0 0] 60)).alloc (.cells #[.int .i64 1,.int .i64 (-1)] 28)).heap.size:=b.size;have c:aA (Below w.heap.size w ((d.alloc (.cells #[.slice none 0 0,.slice none 0 0] 60)).alloc (.cells #[.int .i64 1,.int .i64 (-1)] 28))/\((d.alloc (.cells #[.slice none 0 0,.slice none 0 0] 60)).alloc (.cells #[.int .i64 1,.int .i64 (-1)] 28)).heap[ba+1]?=some (.cells #[ak 1,ak (-1)] 28 (0,0))/\((d.alloc (.cells #[.slice none 0 0,.slice none 0 0] 60)).alloc (.cells #[.int .i64 1,.int .i64 (-1)] 28)).heap[d.heap.size+1]?=some (.cells #[ak 1,ak (-1)] 28 (0,0))):=by have ar:=(ab.block _ (lt_of_some i.o.2)).trans i.o.2;exact⟨(i.o.1.trans (ab.mono i.o.1.size)).trans (b.mono (aU i.o.1.size ab.size)),(b.block _ (lt_of_some ar)).trans ar,gb _ _ _⟩
   clear ab b b0 i
   go_upto_region 8 with fail
   generalize (d.alloc (.cells #[.slice none 0 0,.slice none 0 0] 60)).alloc (.cells #[.int .i64 1,.int .i64 (-1)] 28)=bo at*;generalize d.heap.size=bp at*;go_wp2_with fail;refine(vS n o a3.o _ _ _ _).mono ?_;rintro e f ⟨rfl,B⟩
   have b:=(aw f (.cells #[.slice none 0 0,.slice none 0 0] 60)).alloc ac (.cells #[.int .i64 1,.int .i64 (-1)] 28)
   have q:aA (Below w.heap.size w ((f.alloc (.cells #[.slice none 0 0,.slice none 0 0] 60)).alloc (.cells #[.int .i64 1,.int .i64 (-1)] 28))/\((f.alloc (.cells #[.slice none 0 0,.slice none 0 0] 60)).alloc (.cells #[.int .i64 1,.int .i64 (-1)] 28)).heap[ba+1]?=some (.cells #[ak 1,ak (-1)] 28 (0,0))/\((f.alloc (.cells #[.slice none 0 0,.slice none 0 0] 60)).alloc (.cells #[.int .i64 1,.int .i64 (-1)] 28)).heap[bp+1]?=some (.cells #[ak 1,ak (-1)] 28 (0,0))/\((f.alloc (.cells #[.slice none 0 0,.slice none 0 0] 60)).alloc (.cells #[.int .i64 1,.int .i64 (-1)] 28)).heap[f.heap.size+1]?=some (.cells #[ak 1,ak (-1)] 28 (0,0))):=by have ar:=(B.block _ (lt_of_some c.o.2.1)).trans c.o.2.1;have aV:=(B.block _ (lt_of_some c.o.2.2)).trans c.o.2.2;exact⟨(c.o.1.trans (B.mono c.o.1.size)).trans (b.mono (aU c.o.1.size B.size)),(b.block _ (lt_of_some ar)).trans ar,(b.block _ (lt_of_some aV)).trans aV,gb _ _ _⟩
   clear B b c
   go_upto_region 9 with fail
   generalize (f.alloc (.cells #[.slice none 0 0,.slice none 0 0] 60)).alloc (.cells #[.int .i64 1,.int .i64 (-1)] 28)=br at*;generalize f.heap.size=b1 at*;obtain⟨b2,y1,_⟩:=jB q.o.2.1;obtain⟨b3,b4,_⟩:=jB q.o.2.2.1;obtain⟨b5,b6,_⟩:=jB q.o.2.2.2;go_wp2_with fail;go_ret;exact⟨rfl,q.o.1⟩
  ·have b9:16<=n/\n<=256/\0<=o/\o<=1024:=aa;obtain⟨n,rfl⟩:=Int.eq_ofNat_of_zero_le (show 0<=n by omega)
   obtain⟨o,rfl⟩:=Int.eq_ofNat_of_zero_le (show 0<=o by omega)
   have bb:aA (∀w',iR w' a l->_):=fun w' h=>vP a1.o n o aa aa aa l a cc w' h aa;have ce:aA (∀w',iR w' a l->Calls prog 33 #[ak n,ak o,.slice a k cc] w' fun e bd=>∃ca t u s cf v,e=.returned (.tuple #[.slice ca k k,.agg #[.slice t 12 u,.slice s cf v],.agg #[ak 0,ak 0]])/\f3 bd w'.heap.size ca ((mS g n o l).take k)/\Below w'.heap.size w' bd):=fun w' h=>by
    have cg:(l.take k).length=k:=by rw[bq];omega
    have P:=vP a1.o n o aa aa aa (l.take k) a cc w' (h.take k) aa;rw[cg] at P;refine P.mono ?_;rintro e bd ⟨ca,t,u,s,v,rfl,q1,_,_,ch⟩
    refine⟨ca,t,u,s,_,v,rfl,?_,ch⟩
    have e:mS g n o (l.take k)=(mS g n o l).take k:=BM g n o l _ k;rwa [<-e]
   have be:aA ((mS g n o l).length=l.length):=r4 g n o l _;have aB:=hide (Lm a1.o n o l aa)
   generalize mS g n o l=C at*;generalize lu g n o l=ci at*;obtain⟨bg,ms,j⟩:=ci;dsimp only at bb aB;have cj:aA (k<=l.length):=hk;have bx:(k:Int)<=(cc:Int):=aa;have k0:(0:Int)<=(k:Int):=aa;have cr:(k:Int)<=(l.length:Int):=aa;clear a2 b9 hk;go_enter func10,ntmps10;go_wp2_with fail;refine(vR w).mono ?_;rintro e w1 ⟨rfl,an⟩
   have x:aA (_):=an;clear an;go_wp2_with fail;rw[fU];clear fU;refine(bb.o w1 (a0.o.below x.o)).mono ?_;rintro e m ⟨ca,t,u,s,v,rfl,ad,aF,aR,ao⟩
   have b:=(aw m (.cells #[.slice t 12 u,.slice s j.length v] 60)).alloc ac (.cells #[.int .i64 0,.int .i64 0] 28)
   have i:aA (_/\((m.alloc (.cells #[.slice t 12 u,.slice s j.length v] 60)).alloc (.cells #[.int .i64 0,.int .i64 0] 28)).heap[m.heap.size]?=some (.cells #[.slice t 12 u,.slice s j.length v] 60 (0,0))/\((m.alloc (.cells #[.slice t 12 u,.slice s j.length v] 60)).alloc (.cells #[.int .i64 0,.int .i64 0] 28)).heap[m.heap.size+1]?=some (.cells #[ak 0,ak 0] 28 (0,0))/\_/\_/\Ln ((m.alloc (.cells #[.slice t 12 u,.slice s j.length v] 60)).alloc (.cells #[.int .i64 0,.int .i64 0] 28)) s j):=⟨(x.o.trans (ao.mono x.o.size)).trans (b.mono (aU x.o.size ao.size)),by rw[aS _ _ _ ac];exact aP _ _,gb _ _ _,(ad.below b).base (a4 _),aF.1.below b,aR.ln.below b⟩
   clear ao b x ad aF aR
   go_upto_region 7 with fail
   generalize (m.alloc (.cells #[.slice t 12 u,.slice s j.length v] 60)).alloc (.cells #[.int .i64 0,.int .i64 0] 28)=bn at*;generalize m.heap.size=ba at*;go_wp2_with fail;refine(ce.o bn (a0.o.below i.o.1)).mono ?_;rintro e d ⟨cb,ag,ai,n4,al,c4,rfl,ad,ab⟩
   have b:=(aw d (.cells #[.slice ag 12 ai,.slice n4 al c4] 60)).alloc ac (.cells #[.int .i64 0,.int .i64 0] 28)
   have p:=ab.trans (b.mono ab.size)
   have c:aA (Below w.heap.size w ((d.alloc (.cells #[.slice ag 12 ai,.slice n4 al c4] 60)).alloc (.cells #[.int .i64 0,.int .i64 0] 28))/\_/\_/\((d.alloc (.cells #[.slice ag 12 ai,.slice n4 al c4] 60)).alloc (.cells #[.int .i64 0,.int .i64 0] 28)).heap[d.heap.size+1]?=some (.cells #[ak 0,ak 0] 28 (0,0))/\(f3 ((d.alloc (.cells #[.slice ag 12 ai,.slice n4 al c4] 60)).alloc (.cells #[.int .i64 0,.int .i64 0] 28)) 0 ca C/\dz ((d.alloc (.cells #[.slice ag 12 ai,.slice n4 al c4] 60)).alloc (.cells #[.int .i64 0,.int .i64 0] 28)) t bg/\Ln ((d.alloc (.cells #[.slice ag 12 ai,.slice n4 al c4] 60)).alloc (.cells #[.int .i64 0,.int .i64 0] 28)) s j)/\f3 ((d.alloc (.cells #[.slice ag 12 ai,.slice n4 al c4] 60)).alloc (.cells #[.int .i64 0,.int .i64 0] 28)) 0 cb (C.take k)):=⟨i.o.1.trans (p.mono i.o.1.size),(p.block _ (lt_of_some i.o.2.1)).trans i.o.2.1,(p.block _ (lt_of_some i.o.2.2.1)).trans i.o.2.2.1,gb _ _ _,⟨i.o.2.2.2.1.below p,i.o.2.2.2.2.1.below p,i.o.2.2.2.2.2.below p⟩,(ad.below b).base (a4 _)⟩
   clear ab b p i ad
   go_upto_region 8 with fail
   generalize (d.alloc (.cells #[.slice ag 12 ai,.slice n4 al c4] 60)).alloc (.cells #[.int .i64 0,.int .i64 0] 28)=bo at*;generalize d.heap.size=bp at*;go_wp2_with fail;refine(bb.o bo (a0.o.below c.o.1)).mono ?_;rintro e f ⟨cd,F,N,S,W,rfl,ad,aF,aR,B⟩
   have b:=(aw f (.cells #[.slice F 12 N,.slice S j.length W] 60)).alloc ac (.cells #[.int .i64 0,.int .i64 0] 28)
   have p:=B.trans (b.mono B.size)
   have bs:((f.alloc (.cells #[.slice F 12 N,.slice S j.length W] 60)).alloc (.cells #[.int .i64 0,.int .i64 0] 28)).heap[f.heap.size]?=some (.cells #[.slice F 12 N,.slice S j.length W] 60 (0,0)):=by rw[aS _ _ _ ac];exact aP _ _
   have q:aA (_/\(f3 ((f.alloc (.cells #[.slice F 12 N,.slice S j.length W] 60)).alloc (.cells #[.int .i64 0,.int .i64 0] 28)) 0 ca C/\dz ((f.alloc (.cells #[.slice F 12 N,.slice S j.length W] 60)).alloc (.cells #[.int .i64 0,.int .i64 0] 28)) t bg/\Ln ((f.alloc (.cells #[.slice F 12 N,.slice S j.length W] 60)).alloc (.cells #[.int .i64 0,.int .i64 0] 28)) s j)/\_/\_/\_/\_):=⟨c.o.1.trans (p.mono c.o.1.size),⟨c.o.2.2.2.2.1.1.below p,c.o.2.2.2.2.1.2.1.below p,c.o.2.2.2.2.1.2.2.below p⟩,c.o.2.2.2.2.2.below p,(ad.below b).base (a4 _),aF.1.below b,aR.ln.below b⟩
   have ap:aA (_/\_/\_/\_/\((f.alloc (.cells #[.slice F 12 N,.slice S j.length W] 60)).alloc (.cells #[.int .i64 0,.int .i64 0] 28)).heap[f.heap.size+1]?=some (.cells #[ak 0,ak 0] 28 (0,0))):=⟨(p.block _ (lt_of_some c.o.2.1)).trans c.o.2.1,(p.block _ (lt_of_some c.o.2.2.1)).trans c.o.2.2.1,(p.block _ (lt_of_some c.o.2.2.2.1)).trans c.o.2.2.2.1,bs,gb _ _ _⟩
   clear B b p c ad aF aR bs
   go_upto_region 9 with fail
   generalize (f.alloc (.cells #[.slice F 12 N,.slice S j.length W] 60)).alloc (.cells #[.int .i64 0,.int .i64 0] 28)=br at*;generalize f.heap.size=b1 at*;obtain⟨b2,y1,_⟩:=jB ap.o.2.1;obtain⟨b3,b4,_⟩:=jB ap.o.2.2.1;obtain⟨b5,b6,_⟩:=jB ap.o.2.2.2.2;have am:=vJ cb ca k l.length 0 0 (C.take k) br (by rw[bq];omega) q.o.2.2.1 (q.o.2.1.1.take k)
   rw[bq,be.o,Nat.min_eq_left cj.o] at am;go_wp2_with fail;refine am.mono ?_;rintro e ck ⟨rfl,bi⟩
   have am:=vJ ca cd l.length l.length 0 0 C ck (by rw[be.o];omega) (q.o.2.1.1.below bi) (q.o.2.2.2.1.below bi)
   rw[be.o] at am;have bt:=hide bi;go_wp2_with fail;refine am.mono ?_;rintro e cl ⟨rfl,cm⟩
   have bl:=hide (bt.o.trans (cm.mono bt.o.size))
   have hz:=bl.o;obtain⟨z0,cs,_⟩:=jB ((hz.block _ (lt_of_some ap.o.1)).trans ap.o.1)
   obtain⟨ct,cu,_⟩:=jB ((hz.block _ (lt_of_some ap.o.2.2.2.1)).trans ap.o.2.2.2.1)
   have am:=CZ t F s S u N v W bg j cl (by rw[aB.o.1];decide) (by have:=aB.o.2.1;omega) (fun nd cn=>by have:=aB.o.2.2 nd cn;omega) (q.o.2.1.2.1.below hz) (q.o.2.2.2.2.1.below hz) (q.o.2.1.2.2.below hz) (q.o.2.2.2.2.2.below hz)
   rw[aB.o.1] at am;go_wp2_with fail;refine am.mono ?_;rintro e cv ⟨rfl,co⟩
   go_wp2_with fail;go_ret;exact⟨rfl,(q.o.1.trans ((bl.o.trans (co.mono bl.o.size)).mono q.o.1.size))⟩
end TPa
end Go.Proofs.YtpkjkjhanlbcoaaGreat
