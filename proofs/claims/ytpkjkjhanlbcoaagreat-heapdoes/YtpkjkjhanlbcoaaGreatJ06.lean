import Derived.Test.YtpkjkjhanlbcoaaGreatJ05
import Derived.Deep.LoopGhost
import Derived.Deep.DeepCutAuto
namespace Go.Proofs.YtpkjkjhanlbcoaaGreat
set_option maxRecDepth 100000
set_option maxHeartbeats 8000000
open Tryz
open Go.RowKit W Kp ch
theorem qb {P:Prop}(h:P:=by
 go_wp2_with fail;go_roundw;exact⟨i+1,aa,aj,nu⟩
 simp[intOf];omega):P:=h
theorem oJ {P:Prop}(h:P:=by have:=(List.getElem?_eq_some_iff.1 hj).1;simpa using this):P:=h
theorem w6 {P:Prop}(h:P:=by
 go_wp2_with fail;go_roundw
 case rel=>exact⟨i+1,L,more,aa,rfl,aj,⟨HB1.o.1,HB1.o.2.1⟩,HN⟩
 case measure=>simp[intOf];omega):P:=h
structure Wg (w:aw)(p:Nat)(T:List cH)(wt:List b9):Prop where
 th:∃w7 cT,w.cell? (ao p 0)=some (.slice w7 T.length cT)/\∀(i:Nat)(x:cH),T[i]?=some x->∃b ad cp,w7=an b/\w.cell? (ao b (i*4))=some (ak x.1)/\w.cell? (ao b (i*4+1))=some (.slice ad x.2.1.length cp)/\w.cell? (ao b (i*4+2))=some (.bool x.2.2.1)/\w.cell? (ao b (i*4+3))=some (.bool x.2.2.2)/\c8 w ad x.2.1
 wa:∃a3 c3,w.cell? (ao p 3)=some (.slice a3 wt.length c3)/\c8 w a3 wt
theorem Wg.below {w w':aw}{p:Nat}{T:List cH}{wt:List b9}(h:Wg w p T wt)(hb:Below w.heap.size w w'):Wg w' p T wt:=by
 have k:∀{a:Addr}{v:Value},w.cell? a=some v->_=_:=fun {a v} e=>(hb.cell (aM w _ e)).trans e;refine⟨?_,?_⟩
 ·obtain⟨f,cT,c,d⟩:=h.th;refine⟨f,cT,k c,fun i x g=>?_⟩
  obtain⟨b,j,cp,e,l,m,n,o,hl⟩:=d i x g;exact⟨b,j,cp,e,k l,k m,k n,k o,hl.below hb⟩
 ·obtain⟨q,c3,c,d⟩:=h.wa;exact⟨q,c3,k c,d.below hb⟩
theorem Dk (w:aw):(w.alloc (.cells #[] 4)).ownsRow w.heap.size 4 1 (.slice (an w.heap.size) 0 0) 0 []:=
 ⟨ac,aK ⟨w.heap.size,0,#[],rfl,aD _,aN _ _,ac,ac,ac,rfl⟩⟩
theorem Dl (L:List Bool):∀v∈L.map Value.bool,v.oneCell'=true:=by intro v c;obtain⟨b,_,rfl⟩:=List.mem_map.1 c;rfl
theorem km.cells {w:aw}{d:Option Addr}{L:List Bool}(h:km w d L):∀a,d=some a->∀j u,(L.map Value.bool)[j]?=some u->w.cell? (a.add j)=some u:=fun a e j u hj=>by
 have c:j<L.length:=by exact oJ
 obtain⟨b,f,_,hc⟩:=h aa;rw[e] at f;cases f;have g:=hc j c;rw[bv,aI c] at hj;rw[aG,aI c] at g;rw[<-hj];have ea:(⟨b,0,none⟩:Addr).add j=⟨b,j,none⟩:=by simp[Addr.add];intro h;exact h.symm
 rw[ea];exact g
section
variable {w:aw}{p:Nat}{T:List cH}{wt:List b9}{is:List Bool}
theorem w8 (h:Wg w p T wt)(cS:gD T wt)(bn:Option Addr)(ci:Nat)(hi:km w bn is)(a1:bn=none->is.length=0/\ci=0)(hl:is.length=T.length)(hm:T.length<=10000)(dF:wt.length<=10000)(cU:∀k,cw is k->cI T k):
 Calls prog 116 #[am p,.slice bn is.length ci] w fun e w'=>∃N c bx,e=.returned (.slice N bx.length c)/\w'.ownsRow w.heap.size 4 1 (.slice N bx.length c) bx.length (bx.map Value.bool)/\jy T wt is bx/\Below w.heap.size w w':=by
 obtain⟨dh,di,dj,dk,dm⟩:=info_parts si;have cq:ay (Wg w p T wt):=h;have s:ay (gD T wt/\(∀k,cw is k->cI T k)/\is.length=T.length):=⟨cS,cU,hl⟩
 have cr:=aq w (.cells #[] 4)
 have cs:ay (km (w.alloc (.cells #[] 4)) bn is/\(bn=none->is.length=0/\ci=0)):=⟨hi.below cr,a1⟩
 have cV:=Dk w;have dG:is.length<=10000:=aa;have dH:ay (is.length=T.length):=hl;clear h cS hi a1 cU hl;go_enter func116,ntmps116;go_wp2_with (at_builtin;refine je _ rfl _ _ 79 rfl w.heap.size 4 dh (.bool false) 1 1 underlying79 di dj dk dm rfl ae (.slice (an w.heap.size) 0 0) 0 [] rfl cV bn is.length ci (is.map Value.bool) rfl ac cs.o.2 cs.o.1.cells (Dl is) (by unfold maxLen;omega) aa ac ?_;intro N c w1 cf cW _;rw[Nat.zero_add,List.nil_append] at cf)
 have ct:=aq w1 (.cells #[.slice N is.length c] 79)
 have ch:Below w.heap.size w w1:=cr.trans ((aE w.heap.size (w.alloc (.cells #[] 4))).grown cW ac (fun k e=>by simp[Value.ownBlock] at e;omega))
 have cj:ay (fW (w1.alloc (.cells #[.slice N is.length c] 79)) w1.heap.size N c w.heap.size is/\Below w.heap.size w (w1.alloc (.cells #[.slice N is.length c] 79))/\w.heap.size<=w1.heap.size):=⟨⟨aN _ _,cy cf (fun k e=>ct.block k (cg cf k e).2)⟩,ch.trans (ct.mono ch.size),ch.size⟩
 clear cr cV cf cW ct ch cs;generalize w1.alloc (.cells #[.slice N is.length c] 79)=dI at*;generalize w1.heap.size=o at*;obtain⟨cX,cT,cu,cY⟩:=cq.o.th;obtain⟨cZ,c3,cv,c1⟩:=cq.o.wa;have cx:ay (∀w',Below w.heap.size w w'->w'.cell? (ao p 0)=some (.slice cX T.length cT)/\w'.cell? (ao p 3)=some (.slice cZ wt.length c3)/\c8 w' cZ wt):=fun w' hb=>⟨(hb.cell (p:=ao p 0) (aM w _ cu)).trans cu,(hb.cell (p:=ao p 3) (aM w _ cv)).trans cv,c1.below hb⟩
 have dn:ay (∀(i:Nat)(x:cH),T[i]?=some x->∃b N cp,cX=an b/\∀w',Below w.heap.size w w'->(w'.cell? (ao b (i*4))=some (ak x.1)/\w'.cell? (ao b (i*4+1))=some (.slice N x.2.1.length cp)/\w'.cell? (ao b (i*4+2))=some (.bool x.2.2.1)/\w'.cell? (ao b (i*4+3))=some (.bool x.2.2.2))/\c8 w' N x.2.1):=fun i x b0=>by obtain⟨b,N,cp,e,ag,y1,cz,cA,dp⟩:=cY i x b0;have k:∀{w':aw}(hb:Below w.heap.size w w'){a:Addr}{v:Value},w.cell? a=some v->w'.cell? a=some v:=fun {w'} hb {a v} e=>(hb.cell (p:=a) (aM w _ e)).trans e;exact⟨b,N,cp,e,fun w' hb=>⟨⟨k hb ag,k hb y1,k hb cz,k hb cA⟩,dp.below hb⟩⟩
 clear cu cY cv c1 cq;have c2:ay ((∀k,cw is k->cw is k)/\∀X,fK T wt X->(∀k,cw is k->X k)->∀k,cw is k->X k):=⟨fun _ h=>h,fun _ _ h=>h⟩
 go_loopg [7] (cnt is+1) (fun m mv wr=>∃(L:List Bool)(more:Bool),mv=.bool more/\ay (fW wr o N c w.heap.size L/\Below w.heap.size w wr)/\ay (L.length=is.length/\(∀k,cw is k->cw L k)/\∀X,fK T wt X->(∀k,cw is k->X k)->∀k,cw L k->X k)/\ay ((more=true->cnt L+1<=m)/\(more=false->cnt L<=m/\jy T wt is L)))
 case atStart=>exact⟨is,true,rfl,⟨cj.o.1,cj.o.2.1⟩,⟨rfl,c2.o⟩,⟨fun _=>aD _,fun h=>by cases h⟩⟩
 case round=>
  have dJ:ay (w.heap.size<=o):=cj.o.2.2;clear cj c2;obtain⟨F,more,rfl,aB,cB,cC⟩:=hrel;cases more
  ·obtain⟨_,cD⟩:=cC.o.2 rfl;have b0:=aB.o;have c0:wr.cell? (ao o 0)=some (.slice N F.length c):=aA b0.1.blk
   go_wp2_with fail;go_ret;exact⟨N,c,F,rfl,b0.1.row,cD,b0.2⟩
  ·have dK:=cC.o.1 rfl;have q:ay (fq T wt is F F false 0):=fq.start cB.o.1 cB.o.2.1 cB.o.2.2;clear cC;go_wp2_with fail
   go_loopw [7,8] (fun mv iv wr=>∃(i:Nat)(L:List Bool)(more:Bool),i<=T.length/\mv=.bool more/\iv=ak i/\ay (fW wr o N c w.heap.size L/\Below w.heap.size w wr)/\ay (fq T wt is F L more i)) (fun _ iv _=>T.length-(intOf iv).toNat)
   case atStart=>exact⟨0,F,false,aX _,rfl,rfl,aB,q⟩
   case round=>
    clear aB q;obtain⟨i,L,more,hi,rfl,rfl,aB,q⟩:=hrel;obtain⟨bi,ck,dL⟩:=cx.o wr aB.o.2;by_cases b6:i<T.length
    ·obtain⟨t,ht⟩:∃t,T[i]?=some t:=⟨_,aI b6⟩
     obtain⟨b,aT,fc,rfl,cE⟩:=dn.o i t ht;have cF:ay (∀w',Below w.heap.size w w'->c8 w' aT t.2.1):=fun w' hb=>(cE w' hb).2;obtain⟨⟨ag,y1,cz,cA⟩,_⟩:=cE wr aB.o.2;clear cE;have c4:T.getD i t0=t:=by rw[aG,ht];rfl
     have q0:(0:Int)<=(i:Int):=aa;have q1:(i:Int)<(T.length:Int):=aa;have bo:=aB.o.1;have cG:L.length=T.length:=q.o.len.trans s.o.2.2;have dM:L.length<=10000:=aa;obtain⟨rb,dq,cl⟩:=d4 bo.row aa;obtain⟨rfl,rfl⟩:N=an rb/\c=dq:=by simpa using cl
     have c5:(L.map Value.bool)[i]?=some (.bool (L.getD i false)):=by rw[bv,aI (by omega:i<L.length),aG,aI (by omega:i<L.length)];rfl
     have c6:=(fe bo.row c5).1;have lo:=lt_of_some bo.blk;have cJ:=(cg bo.row rb rfl).2;have cm:=aq wr (.cells #[.int .i64 t.1,.slice aT t.2.1.length fc,.bool t.2.2.1,.bool t.2.2.2] 118)
     have B1:=bo.below cm;have k0:(wr.alloc (.cells #[.int .i64 t.1,.slice aT t.2.1.length fc,.bool t.2.2.1,.bool t.2.2.2] 118)).cell? (ao o 0)=some (.slice (an rb) L.length c):=aA B1.blk
     have k1:=(cm.cell (p:=ao rb i) cJ).trans c6;have dN:(i:Int)<(L.length:Int):=aa;have ap:ay (T.getD i t0=t):=c4;have HB1:ay (fW (wr.alloc (.cells #[.int .i64 t.1,.slice aT t.2.1.length fc,.bool t.2.2.1,.bool t.2.2.2] 118)) o (an rb) c w.heap.size L/\Below w.heap.size w (wr.alloc (.cells #[.int .i64 t.1,.slice aT t.2.1.length fc,.bool t.2.2.1,.bool t.2.2.2] 118))/\(wr.alloc (.cells #[.int .i64 t.1,.slice aT t.2.1.length fc,.bool t.2.2.1,.bool t.2.2.2] 118)).heap[wr.heap.size]?=some (.cells #[ak t.1,.slice aT t.2.1.length fc,.bool t.2.2.1,.bool t.2.2.2] 118 (0,0))/\rb<wr.heap.size):=⟨B1,aB.o.2.trans (cm.mono aB.o.2.size),aN _ _,cJ⟩
     clear c4 bo cl c5 c6 B1 cm;cases a1:L.getD i false
     ·rw[a1] at k1;have HN:ay (fq T wt is F L more (i+1)):=q.o.next (fun _ _ cK=>by unfold cw at cK;rw[a1] at cK;cases cK)
      clear a1 q;exact w6
     ·rw[a1] at k1;have a2:ay (cw L i):=a1;clear a1
      go_upto_region 11 with fail
      generalize wr.alloc (.cells #[.int .i64 t.1,.slice aT t.2.1.length fc,.bool t.2.2.1,.bool t.2.2.2] 118)=w3 at*;generalize wr.heap.size=tb at*;obtain⟨kd,d,c7,c9⟩:=t;dsimp only at*;have z0:w3.cell? ⟨tb,0,none⟩=some (.int .i64 kd):=by simp[World.cell?,HB1.o.2.2.1]
      have a3:w3.cell? (ao tb 1)=some (.slice aT d.length fc):=aA HB1.o.2.2.1
      have cL:=q.o.wQ s.o.1 s.o.2.1 a2.o;have b7:=s.o.1.tl i;rw[ap.o] at b7;dsimp only at b7;have da:=lt_of_some HB1.o.2.2.1;clear ag y1 cz cA k0 k1 bi lo cJ;by_cases bp:kd=1\/kd=2
      ·have cn:ay (∀(X:Nat->Prop)(v:Int×Int),v∈d->f8 T wt X i v):=fun X v n=>aL (by rw[ap.o];exact⟨bp,n⟩)
       have aV:ay (∀(X:Nat->Prop)(v:Int×Int),f8 T wt X i v->v∈d):=fun X v n=>by
        unfold f8 at n;rw[ap.o] at n;dsimp only at n;rcases n with⟨_,h⟩|⟨h,_⟩|⟨h,_⟩|⟨h,_⟩
        ·exact h
        ·omega
        ·omega
        ·omega
       have dr:((kd==1)=true)\/((kd==1)=false/\(kd==2)=true):=by
        rcases bp with e|e
        ·exact aL (by simpa using e)
        ·exact aK ⟨by rw[e];decide,by simpa using e⟩
       clear bp;rcases dr with b1|⟨b1,b2⟩
       all_goals
        go_wp2_with fail
        go_loopw [7,10] (fun mv kv wr=>∃(f:Nat)(j:List Bool)(ar:Bool),f<=d.length/\mv=.bool ar/\kv=ak f/\ay (fW wr o (an rb) c w.heap.size j/\Below w.heap.size w wr/\wr.heap[tb]?=some (.cells #[ak kd,.slice aT d.length fc,.bool c7,.bool c9] 118 (0,0)))/\ay (fq T wt is F j ar i/\cw j i/\∀g,g<f->(d.getD g (0,0)).1=3->cw j (d.getD g (0,0)).2.toNat)) (fun _ kv _=>d.length-(intOf kv).toNat)
        case atStart=>exact⟨0,L,more,aX _,rfl,rfl,⟨HB1.o.1,HB1.o.2.1,HB1.o.2.2.1⟩,⟨q.o,a2.o,fun g h=>absurd h aa⟩⟩
        case round=>
         have ds:ay (rb<tb):=HB1.o.2.2.2;clear HB1 q a2 z0 a3 aB;obtain⟨f,j,ar,dt,rfl,rfl,S,B⟩:=hrel;have a3:wr.cell? (ao tb 1)=some (.slice aT d.length fc):=aA S.o.2.2
         by_cases b8:f<d.length
         ·obtain⟨fb,dl,rfl,co,ax⟩:=cF.o wr S.o.2.1 aa;obtain⟨ag,y1⟩:=ax f b8;have bl:d.getD f (0,0)∈d:=getD_in b8;have a0:ay (∀g,g<f+1->(d.getD g (0,0)).1=3->cw (ey j (d.getD f (0,0))) (d.getD g (0,0)).2.toNat):=fun g h l=>by
           by_cases c:g<f
           ·exact oF _ _ _ (B.o.2.2 g c l)
           ·obtain rfl:g=f:=aa;exact p4 (fun l=>by have:=B.o.1.bd s.o.1 s.o.2.1 s.o.2.2 B.o.2.1 (cn.o (cw j) _ bl) l;omega) l
          generalize d.getD f (0,0)=v at*;have W:=cn.o (cw j) v bl;have ab:=B.o.1.bd s.o.1 s.o.2.1 s.o.2.2 B.o.2.1 W;have ai:=qa wr o (some ⟨rb,0,none⟩) c w.heap.size j v S.o.1 ab (by have:=B.o.1.len;have:=s.o.2.2;omega)
          have aF:ay (fq T wt is F (ey j v) (!dy j v||ar) i/\cw (ey j v) i):=⟨B.o.1.add b6 B.o.2.1 W (fun l=>by have:=ab l;omega),oF _ _ _ B.o.2.1⟩
          have q3:(0:Int)<=(f:Int):=aa;have du:(f:Int)<(d.length:Int):=aa;clear ax ab W bl;cases hs:dy j v
          all_goals
           rw[hs] at ai aF;clear hs;go_wp2_with fail;refine ai.mono ?_;clear ai;rintro e al ⟨rfl,be,bb⟩
           have aR:ay (fW al o (an rb) c w.heap.size (ey j v)/\Below w.heap.size w al/\al.heap[tb]?=some (.cells #[ak kd,.slice (some ⟨fb,dl,none⟩) d.length fc,.bool c7,.bool c9] 118 (0,0))):=⟨be,S.o.2.1.trans (bb.below S.o.2.1.size (fun k e=>(cg S.o.1.row k e).1)),(bb.block tb (lt_of_some S.o.2.2) (fun e=>by have e:some tb=some rb:=e;have dO:=ds.o;cases e;omega)).trans S.o.2.2⟩
           clear be bb ag y1 a3;go_wp2_with fail;go_roundw
           case rel=>exact⟨f+1,ey j v,_,aa,rfl,aj,aR,⟨aF.o.1,aF.o.2,a0.o⟩⟩
           case measure=>simp[intOf];omega
         ·obtain rfl:f=d.length:=aa;have HN:ay (fq T wt is F j ar (i+1)):=B.o.1.next (fun _ _ _ v n l=>by
           obtain⟨g,ca,e⟩:=List.mem_iff_getElem.1 (aV.o _ _ n)
           have cb:d.getD g (0,0)=v:=by rw[aG,aI ca,e];rfl
           have:=B.o.2.2 g ca (by rw[cb];exact l)
           rwa [cb] at this)
          go_wp2_with fail;go_roundw
          case rel=>exact⟨i+1,j,ar,aa,rfl,aj,⟨S.o.1,S.o.2.1⟩,HN⟩
          case measure=>simp[intOf];omega
      ·by_cases bg:kd=3
       ·skip;have b1:(kd==1)=false:=by rw[bg];decide
        have b2:(kd==2)=false:=by rw[bg];decide
        have b3:(kd==3)=true:=by rw[bg];decide
        have cc:d.length=2:=by
         have:=s.o.1.fl i cL (by rw[ap.o];exact aL bg)
         rw[ap.o] at this
         exact this
        have W:f8 T wt (cw L) i (d.getD 1 (0,0)):=aK (aL (by rw[ap.o];exact⟨bg,rfl⟩))
        have aV:ay (∀(X:Nat->Prop)(v:Int×Int),f8 T wt X i v->v=d.getD 1 (0,0)):=fun X v n=>by
         unfold f8 at n;rw[ap.o] at n;dsimp only at n;rcases n with⟨h,_⟩|⟨_,h⟩|⟨h,_⟩|⟨h,_⟩
         ·omega
         ·exact h
         ·omega
         ·omega
        obtain⟨fb,dl,rfl,co,ax⟩:=cF.o w3 HB1.o.2.1 aa;obtain⟨ag,y1⟩:=ax 1 aa;have ab:=q.o.bd s.o.1 s.o.2.1 s.o.2.2 a2.o W;have dv:(1:Int)<(d.length:Int):=aa;have a0:ay ((d.getD 1 (0,0)).1=3->cw (ey L (d.getD 1 (0,0))) (d.getD 1 (0,0)).2.toNat):=p4 (fun l=>by have:=ab l;omega)
        generalize d.getD 1 (0,0)=v at*;have ai:=qa w3 o (some ⟨rb,0,none⟩) c w.heap.size L v HB1.o.1 ab aa;have aF:ay (fq T wt is F (ey L v) (!dy L v||more) i):=q.o.add b6 a2.o W (fun l=>by have:=ab l;omega)
        have HN:ay (fq T wt is F (ey L v) (!dy L v||more) (i+1)):=aF.o.next (fun _ _ _ u cM l=>by rw[aV.o _ _ cM] at l⊢;exact a0.o l)
        rw[show dl+1*2=dl+2 by omega] at ag y1;clear ax ab W aF a0 aV;cases hs:dy L v
        all_goals
         rw[hs] at ai HN;clear hs;go_wp2_with fail;refine ai.mono ?_;clear ai;rintro e al ⟨rfl,be,bb⟩
         have aR:ay (fW al o (an rb) c w.heap.size (ey L v)/\Below w.heap.size w al):=⟨be,HB1.o.2.1.trans (bb.below HB1.o.2.1.size (fun k e=>(cg HB1.o.1.row k e).1))⟩
         clear be bb ag y1 z0 a3;go_wp2_with fail;go_roundw
         case rel=>exact⟨i+1,ey L v,_,aa,rfl,aj,aR,HN⟩
         case measure=>simp[intOf];omega
       ·by_cases bd:kd=4
        ·have b1:(kd==1)=false:=by rw[bd];decide
         have b2:(kd==2)=false:=by rw[bd];decide
         have b3:(kd==3)=false:=by rw[bd];decide
         have b4:(kd==4)=true:=by rw[bd];decide
         have cc:d.length=2:=by
          have:=s.o.1.fl i cL (by rw[ap.o];exact aK bd)
          rw[ap.o] at this
          exact this
         have aV:ay (∀(X:Nat->Prop)(v:Int×Int),f8 T wt X i v->((d.getD 0 (0,0)).1=3->X (d.getD 0 (0,0)).2.toNat)/\v=d.getD 1 (0,0)):=fun X v n=>by
          unfold f8 at n;rw[ap.o] at n;dsimp only at n;rcases n with⟨h,_⟩|⟨h,_⟩|⟨_,h⟩|⟨h,_⟩
          ·omega
          ·omega
          ·exact h
          ·omega
         have cN:(d.getD 0 (0,0)).1=3->0<=(d.getD 0 (0,0)).2/\(d.getD 0 (0,0)).2<L.length:=fun l=>by obtain⟨g1,g2⟩:=s.o.1.fv i cL (d.getD 0 (0,0)) (by rw[ap.o];exact getD_in (by show 0<d.length;omega)) l;have:=g2.1;exact⟨g1,aa⟩
         have W:dy L (d.getD 0 (0,0))=true->f8 T wt (cw L) i (d.getD 1 (0,0)):=fun h=>aK (aK (aL (by rw[ap.o];exact⟨bd,mz h,rfl⟩)))
         obtain⟨fb,dl,rfl,co,ax⟩:=cF.o w3 HB1.o.2.1 aa;obtain⟨ag,y1⟩:=ax 1 aa;obtain⟨bi,cd⟩:=ax 0 aa;have dv:(1:Int)<(d.length:Int):=aa;have dP:(0:Int)<(d.length:Int):=aa;have dQ:0<d.length:=aa;have dR:¬d=[]:=fun e=>by rw[e] at cc;cases cc
         rw[show dl+1*2=dl+2 by omega] at ag y1;rw[show dl+0*2=dl by omega] at bi cd;have k0:w3.cell? (ao o 0)=some (.slice (an rb) L.length c):=aA HB1.o.1.blk
         have br:=p_ w3.drew (an rb) c L (d.getD 0 (0,0)) ((oG HB1.o.1.row).below (aE _ w3).drew) cN aa;have bs:fb<w3.heap.size:=co;have db:=lt_of_some HB1.o.1.blk;cases ny:dy L (d.getD 0 (0,0))
         ·have HN:ay (fq T wt is F L more (i+1)):=q.o.next (fun _ _ _ v n _=>by
           exfalso;obtain⟨g1,_⟩:=aV.o _ _ n;obtain⟨n1,dw⟩:=oE ny;have:=g1 n1;unfold cw at this
           rw[dw] at this
           cases this)
          rw[ny] at br;clear ax W cN aV ny ag y1;generalize d.getD 0 (0,0)=v0 at*;clear cG cc bd bg bp b7
          as_aux_lemma=>
          go_upto_region 21 with fail
          go_region_held3 (fun w'=>w'.cell? (ao o 0)=some (.slice (an rb) L.length c)/\w'.cell? (ao tb 1)=some (.slice (some ⟨fb,dl,none⟩) d.length fc)/\w'.cell? (ao fb dl)=some (ak v0.1)/\w'.cell? (ao fb (dl+1))=some (ak v0.2)) (go_keep)
           (first
             |(go_at_call 118;refine br.mono ?_;clear br;rintro e al ⟨rfl,ce⟩;have ad:=(aE _ w3).drew.trans (ce.mono bY);have aR:ay (fW al o (an rb) c w.heap.size L/\Below w.heap.size w al):=⟨HB1.o.1.below ad,HB1.o.2.1.trans (ad.mono HB1.o.2.1.size)⟩;have u0:=(ad.cell (p:=ao o 0) db).trans k0;have cO:=(ad.cell (p:=ao tb 1) da).trans a3;have cP:=(ad.cell (p:=ao fb dl) bs).trans bi;have cQ:=(ad.cell (p:=ao fb (dl+1)) bs).trans cd;clear ce ad))
          all_goals
           clear k0 z0 a3 bi cd u0 cO cP cQ;go_wp2_with fail;go_roundw
           case rel=>exact⟨i+1,L,more,aa,rfl,aj,aR,HN⟩
           case measure=>simp[intOf];omega
         ·have W:=W ny;have ab:=q.o.bd s.o.1 s.o.2.1 s.o.2.2 a2.o W;have a0:ay ((d.getD 1 (0,0)).1=3->cw (ey L (d.getD 1 (0,0))) (d.getD 1 (0,0)).2.toNat):=p4 (fun l=>by have:=ab l;omega)
          generalize d.getD 1 (0,0)=v at*;have aF:ay (fq T wt is F (ey L v) (!dy L v||more) i):=q.o.add b6 a2.o W (fun l=>by have:=ab l;omega)
          have HN:ay (fq T wt is F (ey L v) (!dy L v||more) (i+1)):=aF.o.next (fun _ _ _ u cM l=>by rw[(aV.o _ _ cM).2] at l⊢;exact a0.o l)
          have dc:ay (∀w',fW w' o (an rb) c w.heap.size L->Calls prog 192 #[.agg #[ak v.1,ak v.2],am o] w' fun e dd=>e=.returned (.bool (!dy L v))/\fW dd o (an rb) c w.heap.size (ey L v)/\Fr (fun k=>some k=(Value.slice (an rb) L.length c).ownBlock) w' dd):=fun w' hB=>qa w' o (an rb) c w.heap.size L v hB ab aa;rw[ny] at br;clear ax W cN aV ny ab aF a0;generalize d.getD 0 (0,0)=v0 at*;clear cG cc bd bg bp b7
          as_aux_lemma=>
          go_upto_region 21 with fail
          go_region_held3 (fun w'=>w'.cell? (ao o 0)=some (.slice (an rb) L.length c)/\w'.cell? (ao tb 1)=some (.slice (some ⟨fb,dl,none⟩) d.length fc)/\w'.cell? (ao fb dl)=some (ak v0.1)/\w'.cell? (ao fb (dl+1))=some (ak v0.2)) (go_keep)
           (first
             |(go_at_call 118;refine br.mono ?_;clear br;rintro e al ⟨rfl,ce⟩;have ad:=(aE _ w3).drew.trans (ce.mono bY);have aR:ay (fW al o (an rb) c w.heap.size L/\Below w.heap.size w al):=⟨HB1.o.1.below ad,HB1.o.2.1.trans (ad.mono HB1.o.2.1.size)⟩;have u0:=(ad.cell (p:=ao o 0) db).trans k0;have cO:=(ad.cell (p:=ao tb 1) da).trans a3;have cP:=(ad.cell (p:=ao fb dl) bs).trans bi;have cQ:=(ad.cell (p:=ao fb (dl+1)) bs).trans cd;have dx:=(ad.cell (p:=ao fb (dl+2)) bs).trans ag;have dz:=(ad.cell (p:=ao fb (dl+2+1)) bs).trans y1;clear ce ad))
          all_goals
           have ai:=dc.o al aR.o.1;clear dc k0 z0 a3 bi cd u0 cP cQ ag y1;cases hs:dy L v
           all_goals
            rw[hs] at ai HN;clear hs;go_wp2_with fail;refine ai.mono ?_;clear ai;rintro e de ⟨rfl,df,dg⟩
            have dA:ay (fW de o (an rb) c w.heap.size (ey L v)/\Below w.heap.size w de):=⟨df,aR.o.2.trans (dg.below aR.o.2.size (fun k e=>(cg aR.o.1.row k e).1))⟩
            clear df dg cO dx dz;go_wp2_with fail;go_roundw
            case rel=>exact⟨i+1,ey L v,_,aa,rfl,aj,dA,HN⟩
            case measure=>simp[intOf];omega
        ·by_cases k5:kd=5
         ·have b1:(kd==1)=false:=by rw[k5];decide
          have b2:(kd==2)=false:=by rw[k5];decide
          have b3:(kd==3)=false:=by rw[k5];decide
          have b4:(kd==4)=false:=by rw[k5];decide
          have b5:(kd==5)=true:=by rw[k5];decide
          have cn:ay (∀(X:Nat->Prop)(e:b9),e∈wt->e.1=i->f8 T wt X i (3,e.2)):=fun X e he dB=>aK (aK (aK (by rw[ap.o];exact⟨k5,e,he,dB,rfl⟩)))
          have aV:ay (∀(X:Nat->Prop)(v:Int×Int),f8 T wt X i v->∃e∈wt,e.1=i/\v=(3,e.2)):=fun X v n=>by
           unfold f8 at n;rw[ap.o] at n;dsimp only at n;rcases n with⟨h,_⟩|⟨h,_⟩|⟨h,_⟩|⟨_,h⟩
           ·omega
           ·omega
           ·omega
           ·exact h
          obtain⟨_,ck,_⟩:=cx.o w3 HB1.o.2.1;clear cG k5 bd bg bp b7;go_wp2_with fail
          go_loopw [7,11] (fun mv kv wr=>∃(f:Nat)(j:List Bool)(ar:Bool),f<=wt.length/\mv=.bool ar/\kv=ak f/\ay (fW wr o (an rb) c w.heap.size j/\Below w.heap.size w wr)/\ay (fq T wt is F j ar i/\cw j i/\∀g,g<f->(wt.getD g (0,0)).1=i->cw j (wt.getD g (0,0)).2.toNat)) (fun _ kv _=>wt.length-(intOf kv).toNat)
          case atStart=>exact⟨0,L,more,aX _,rfl,rfl,⟨HB1.o.1,HB1.o.2.1⟩,⟨q.o,a2.o,fun g h=>absurd h aa⟩⟩
          case round=>
           clear HB1 q a2 z0 a3 aB ck;obtain⟨f,j,ar,dt,rfl,rfl,S,B⟩:=hrel;obtain⟨_,ck,cR⟩:=cx.o wr S.o.2;by_cases b8:f<wt.length
           ·obtain⟨fb,dl,rfl,co,ax⟩:=cR aa;obtain⟨ag,y1⟩:=ax f b8;have bl:wt.getD f (0,0)∈wt:=getD_in b8;have q3:(0:Int)<=(f:Int):=aa;have du:(f:Int)<(wt.length:Int):=aa;by_cases bt:(wt.getD f (0,0)).1=i
            ·have W:=cn.o (cw j) _ bl bt;have ab:=B.o.1.bd s.o.1 s.o.2.1 s.o.2.2 B.o.2.1 W;have a0:ay (∀g,g<f+1->(wt.getD g (0,0)).1=i->cw (ey j (3,(wt.getD f (0,0)).2)) (wt.getD g (0,0)).2.toNat):=fun g h l=>by
              by_cases c:g<f
              ·exact oF _ _ _ (B.o.2.2 g c l)
              ·obtain rfl:g=f:=aa;exact p4 (v:=(3,(wt.getD g (0,0)).2)) (fun l=>by have:=ab l;omega) rfl
             have ai:=qa wr o (an rb) c w.heap.size j (3,(wt.getD f (0,0)).2) S.o.1 ab (by have:=B.o.1.len;have:=s.o.2.2;omega)
             have aF:ay (fq T wt is F (ey j (3,(wt.getD f (0,0)).2)) (!dy j (3,(wt.getD f (0,0)).2)||ar) i/\cw (ey j (3,(wt.getD f (0,0)).2)) i):=⟨B.o.1.add b6 B.o.2.1 W (fun l=>by have:=ab l;omega),oF _ _ _ B.o.2.1⟩
             rw[bt] at ag;generalize (wt.getD f (0,0)).2=u at*;clear ax ab W bl cR bt;dsimp only at ai;cases hs:dy j (3,u)
             all_goals
              rw[hs] at ai aF;clear hs;go_wp2_with fail;refine ai.mono ?_;clear ai;rintro e al ⟨rfl,be,bb⟩
              have aR:ay (fW al o (an rb) c w.heap.size (ey j (3,u))/\Below w.heap.size w al):=⟨be,S.o.2.trans (bb.below S.o.2.size (fun k e=>(cg S.o.1.row k e).1))⟩
              clear be bb ag y1 ck;go_wp2_with fail;go_roundw
              case rel=>exact⟨f+1,ey j (3,u),_,aa,rfl,aj,aR,⟨aF.o.1,aF.o.2,a0.o⟩⟩
              case measure=>simp[intOf];omega
            ·have a0:ay (∀g,g<f+1->(wt.getD g (0,0)).1=i->cw j (wt.getD g (0,0)).2.toNat):=fun g h l=>by
              by_cases c:g<f
              ·exact B.o.2.2 g c l
              ·obtain rfl:g=f:=aa;exact absurd l bt
             have dS:((wt.getD f (0,0)).1==(i:Int))=false:=by simpa using bt
             generalize (wt.getD f (0,0)).1=u at*;clear ax bl cR bt y1;go_wp2_with fail;go_roundw
             case rel=>exact⟨f+1,j,ar,aa,rfl,aj,S,⟨B.o.1,B.o.2.1,a0.o⟩⟩
             case measure=>simp[intOf];omega
           ·obtain rfl:f=wt.length:=aa;have HN:ay (fq T wt is F j ar (i+1)):=B.o.1.next (fun _ _ _ v n _=>by
             obtain⟨dC,dD,cl,rfl⟩:=aV.o _ _ n;obtain⟨g,ca,e⟩:=List.mem_iff_getElem.1 dD;have cb:wt.getD g (0,0)=dC:=by rw[aG,aI ca,e];rfl
             have:=B.o.2.2 g ca (by rw[cb];exact cl)
             rwa [cb] at this)
            go_wp2_with fail;go_roundw
            case rel=>exact⟨i+1,j,ar,aa,rfl,aj,S,HN⟩
            case measure=>simp[intOf];omega
         ·have b1:(kd==1)=false:=by simp;omega
          have b2:(kd==2)=false:=by simp;omega
          have b3:(kd==3)=false:=by simp;omega
          have b4:(kd==4)=false:=by simp;omega
          have b5:(kd==5)=false:=by simp;omega
          have HN:ay (fq T wt is F L more (i+1)):=q.o.next (fun _ _ _ v n _=>by unfold f8 at n;rw[ap.o] at n;dsimp only at n;rcases n with⟨h,_⟩|⟨h,_⟩|⟨h,_⟩|⟨h,_⟩<;>omega)
          exact w6
    ·obtain rfl:i=T.length:=aa;cases more
     ·have cD:=q.o.done;have dE:=(q.o.no rfl).1;go_wp2_with fail
      go_roundg (cnt F)
      case measure=>omega
      case rel=>exact⟨L,false,rfl,aB,⟨q.o.len,q.o.up,q.o.lt⟩,⟨fun h=>(by cases h),fun _=>⟨by rw[dE];exact aD _,cD⟩⟩⟩
     ·have hc:=q.o.yes rfl;go_wp2_with fail
      go_roundg (cnt L+1)
      case measure=>omega
      case rel=>exact⟨L,true,rfl,aB,⟨q.o.len,q.o.up,q.o.lt⟩,⟨fun _=>aD _,fun h=>by cases h⟩⟩
end
section
variable {rp rb:Nat}{ca b8:Int}{F:Nat->Prop}{s:cn}{w:aw}
def iJ (b:Bool)(T:List cH)(i:Nat):List Bool:=(T.take i).map (ij b)++List.replicate (T.length-i) false
theorem Dm (b:Bool)(T:List cH)(i:Nat)(hi:i<=T.length):(iJ b T i).length=T.length:=by unfold iJ;simp;omega
theorem Do (b:Bool)(T:List cH)(i:Nat)(hi:i<T.length):(iJ b T i).set i (ij b (T.getD i t0))=iJ b T (i+1):=by
 unfold iJ;have hl:((T.take i).map (ij b)).length=i:=by simp;omega
 rw[List.set_append_right _ _ aa,hl,Nat.sub_self,List.take_succ_eq_append_getElem hi,bC,show T.length-i=(T.length-(i+1))+1 by omega,List.replicate_succ,List.set_cons_zero,bj];rw[aG,aI hi];rfl
theorem Dp (h:(cq rp rb ca b8).J F s w)(c:Bool)(hl:s.T.length<=10000)(x:∀v∈s.rs,v.1=3->0<=v.2/\v.2<s.T.length):
 Calls prog 117 #[am rp,.bool c] w fun e w'=>∃b,e=.returned (.slice (an b) s.T.length s.T.length)/\w'.ownsRow w.heap.size 4 1 (.slice (an b) s.T.length s.T.length) s.T.length ((jz s.T s.rs c).map Value.bool)/\Below w.heap.size w w':=by
 obtain⟨aB,aF,aR,aT,aV⟩:=info_parts si;have B:ay ((cq rp rb ca b8).J F s w):=h;have a0:ay (∀v∈s.rs,v.1=3->0<=v.2/\v.2<s.T.length):=x;obtain⟨a1,cT,c0,_⟩:=kh h;clear h x;go_enter func117,ntmps117;go_wp2_with (at_make;refine wpList_make_full _ rfl _ _ 79 rfl w.heap.size 4 aB (.bool false) 1 underlying79 aF aR aT .i64 .i64 _ _ s.T.length rfl rfl aa aa (by rw[aV];omega) (by unfold maxLen;omega) bY ?_;intro w1 N S)
 have W:Below w.heap.size w w1:=(aE _ w).grown S bY (fun _ h=>by cases h)
 have a2:ay (w1.ownsRow w.heap.size 4 1 (.slice (an w.heap.size) s.T.length s.T.length) s.T.length ((iJ c s.T 0).map Value.bool)/\Below w.heap.size w w1):=⟨by
  have e:iJ c s.T 0=List.replicate s.T.length false:=by unfold iJ;simp
  rw[e];exact oH N,W⟩
 have ab:ay (∀w',Below w.heap.size w w'->(cq rp rb ca b8).J F s w'):=fun w' hb=>(cq rp rb ca b8).below B.o hb;clear N S W c0 B
 go_loopw [6] (fun iv wr=>∃i:Nat,i<=s.T.length/\iv=ak i/\ay (wr.ownsRow w.heap.size 4 1 (.slice (an w.heap.size) s.T.length s.T.length) s.T.length ((iJ c s.T i).map Value.bool)/\Below w.heap.size w wr)) (fun iv _=>s.T.length-(intOf iv).toNat)
 exact⟨0,aX _,rfl,a2⟩
 ·
   obtain⟨i,hi,rfl,H⟩:=hrel;have d:=ab.o wr H.o.2;obtain⟨a1,cT,c0,_,a3⟩:=kh d;by_cases ad:i<s.T.length
   ·obtain⟨t,ht⟩:∃t,s.T[i]?=some t:=⟨_,aI ad⟩
    obtain⟨b,bo,fc,rfl,bp,y1,br,bs,_⟩:=a3 i t ht;have bb:s.T.getD i t0=t:=by rw[aG,ht];rfl
    have g:ay ((iJ c s.T i).set i (ij c t)=iJ c s.T (i+1)):=by show _=_;rw[<-bb];exact Do c s.T i ad
    have bt:=Dm c s.T i hi;have l:((iJ c s.T i).map Value.bool)[i]?=some (.bool ((iJ c s.T i).getD i false)):=by rw[bv,aI aa,aG,aI aa];rfl
    obtain⟨u0,bd⟩:=fe H.o.1 l;have be:ay (∀v:Bool,(wr.setCell ⟨w.heap.size,i,none⟩ (.bool v)).ownsRow w.heap.size 4 1 (.slice (an w.heap.size) s.T.length s.T.length) s.T.length (((iJ c s.T i).set i v).map Value.bool)/\Below w.heap.size w (wr.setCell ⟨w.heap.size,i,none⟩ (.bool v))):=fun v=>⟨by rw[List.map_set];exact jp H.o.1 i _,H.o.2.trans (((Fr.refl (fun k=>k=w.heap.size) wr).set w.heap.size i _ rfl).below H.o.2.size (fun k e=>Nat.le_of_eq (Eq.symm e)))⟩
    have q0:(0:Int)<=(i:Int):=aa;have q1:(i:Int)<(s.T.length:Int):=aa;obtain⟨kd,bg,ag,ai⟩:=t;have j:=be.o (ij c (kd,bg,ag,ai))
    rw[g.o] at j;have nu:=hide j;unfold ij at nu;cases ag
    ·simp only [Bool.false_and] at nu;exact qb
    ·cases ai
     ·cases c
      ·simp only [Bool.not_false,Bool.and_self] at nu;exact qb
      ·simp only [Bool.not_false,Bool.not_true,Bool.and_self,Bool.and_false] at nu;exact qb
     ·simp only [Bool.not_true,Bool.and_false,Bool.false_and] at nu;exact qb
   ·obtain rfl:i=s.T.length:=aa;have al:ay (wr.ownsRow w.heap.size 4 1 (.slice (an w.heap.size) s.T.length s.T.length) s.T.length ((((s.rs.take 0).foldl gX (s.T.map (ij c)))).map Value.bool)/\Below w.heap.size w wr):=⟨by
     have e:iJ c s.T s.T.length=s.T.map (ij c):=by unfold iJ;simp
     have:=H.o.1;rw[e] at this
     simpa using this,H.o.2⟩
    have ap:=hide (e8 d).2.2.2.2.2.2.1;go_wp2_with fail
    go_loopw [7] (fun kv wr=>∃k:Nat,k<=12/\kv=ak k/\ay (wr.ownsRow w.heap.size 4 1 (.slice (an w.heap.size) s.T.length s.T.length) s.T.length ((((s.rs.take k).foldl gX (s.T.map (ij c)))).map Value.bool)/\Below w.heap.size w wr)) (fun kv _=>12-(intOf kv).toNat)
    exact⟨0,aa,rfl,al⟩
    ·
      clear al c0;obtain⟨k,hk,rfl,H⟩:=hrel;have d:=ab.o wr H.o.2;obtain⟨c1,_,_,_,_,_,_,m⟩:=e8 d;by_cases ar:k<12
      ·obtain⟨bx,b0,_⟩:=m k ar;have o:k<s.rs.length:=by rw[ap.o];exact ar
       have p:=a0.o (s.rs.getD k (0,0)) (getD_in o)
       have g:ay (∀q:List Bool,(s.rs.take (k+1)).foldl gX q=gX ((s.rs.take k).foldl gX q) (s.rs.getD k (0,0))):=fun q=>by rw[List.take_succ_eq_append_getElem o,List.foldl_append,aG,aI o];rfl
       have bi:ay (((s.rs.take k).foldl gX (s.T.map (ij c))).length=s.T.length):=by show _=_;have:=p5 s.T (s.rs.take k) c;exact this
       generalize s.rs.getD k (0,0)=v at*;obtain⟨u,b1⟩:=v;by_cases f:u=3
       ·obtain⟨n0,n1⟩:=p f;obtain⟨n,rfl⟩:=Int.eq_ofNat_of_zero_le n0;have b3:(u==3)=true:=by simpa using f
        have j:ay ((wr.setCell ⟨w.heap.size,n,none⟩ (.bool true)).ownsRow w.heap.size 4 1 (.slice (an w.heap.size) s.T.length s.T.length) s.T.length (((s.rs.take (k+1)).foldl gX (s.T.map (ij c))).map Value.bool)/\Below w.heap.size w (wr.setCell ⟨w.heap.size,n,none⟩ (.bool true))):=⟨by rw[g.o];unfold gX;rw[aJ f,List.map_set];exact jp H.o.1 n _,H.o.2.trans (((Fr.refl (fun k=>k=w.heap.size) wr).set w.heap.size n _ rfl).below H.o.2.size (fun k e=>Nat.le_of_eq (Eq.symm e)))⟩
        have l:(((s.rs.take k).foldl gX (s.T.map (ij c))).map Value.bool)[n]?=some (.bool (((s.rs.take k).foldl gX (s.T.map (ij c))).getD n false)):=by
         have ax:n<((s.rs.take k).foldl gX (s.T.map (ij c))).length:=by rw[bi.o];omega
         rw[bv,aI ax,aG,aI ax];rfl
        obtain⟨u0,bd⟩:=fe H.o.1 l;have b2:=n0;clear d m p g f H l n0;go_wp2_with fail;go_roundw;exact⟨k+1,aa,aj,j⟩
        case measure=>simp[intOf];omega
       ·have b3:(u==3)=false:=by simpa using f
        have j:ay (wr.ownsRow w.heap.size 4 1 (.slice (an w.heap.size) s.T.length s.T.length) s.T.length (((s.rs.take (k+1)).foldl gX (s.T.map (ij c))).map Value.bool)/\Below w.heap.size w wr):=⟨by rw[g.o];unfold gX;rw[aH f];exact H.o.1,H.o.2⟩
        clear d m p g f H;go_wp2_with fail;go_roundw
        case rel=>exact⟨k+1,aa,aj,j⟩
        simp[intOf];omega
      ·obtain rfl:k=12:=aa;have bl:wr.ownsRow w.heap.size 4 1 (.slice (an w.heap.size) s.T.length s.T.length) s.T.length ((jz s.T s.rs c).map Value.bool):=by
        have:=H.o.1;rw[List.take_of_length_le (by rw[ap.o];decide)] at this
        exact this
       have bn:=H.o.2;clear d m H;go_wp2_with fail;go_ret;exact⟨w.heap.size,rfl,bl,bn⟩
end
structure gF (s:cn):Prop where
 iv:gD s.T s.wt
 rv:∀v∈s.rs,v.1=3->0<=v.2/\cI s.T v.2.toNat
 gv:∀e∈s.rg,(0<=e.1/\cI s.T e.1.toNat)/\0<=e.2/\cI s.T e.2.toNat
 wg:∀e∈s.wt,0<=e.1/\cI s.T e.1.toNat
 tl:s.T.length<=10000
 gl:s.rg.length<=1000
 wl:s.wt.length<=1000
theorem gF.t12 {s:cn}(h:gF s):∀t∈s.T,t.2.1.length<=12:=fun t ht=>by
 obtain⟨i,hi,e⟩:=List.mem_iff_getElem.1 ht;have:=h.iv.tl i;rw[aG,aI hi,e] at this
 exact this
theorem gF.first {s:cn}(h:gF s)(c:Bool):fV s.T (jz s.T s.rs c):=
 ⟨p5 _ _ _,fun k hk=>by
  obtain⟨d,b⟩:=(lJ _ _ _ _).1 hk;rcases b with⟨_,b,_⟩|⟨v,f,g,e⟩
  ·exact⟨d,b⟩
  ·rw[<-e];exact(h.rv v f g).2⟩
theorem ss {rp rb:Nat}{ca b8:Int}{F:Nat->Prop}{s:cn}{w:aw}(h:(cq rp rb ca b8).J F s w):Wg w rp s.T s.wt:=by obtain⟨c,cT,c0,_,d⟩:=kh h;obtain⟨v2,q,_,f,_,r3,_⟩:=pQ h;obtain⟨g,c3,j⟩:=dU r3;subst j;exact⟨⟨c,cT,c0,fun i x k=>by obtain⟨b,l,cp,e,m,y1,n,o,p,_⟩:=d i x k;exact⟨b,l,cp,e,m,y1,n,o,p⟩⟩,⟨g,c3,f,gn r3⟩⟩
theorem Dq {b:Type}(f:b->Bool)(l:List b)(i:Nat)(hi:i<l.length)(c:b):(((l.take i).map f)++List.replicate (l.length-i) false).set i (f (l.getD i c))=((l.take (i+1)).map f)++List.replicate (l.length-(i+1)) false:=by
 have hl:((l.take i).map f).length=i:=by simp;omega
 rw[List.set_append_right _ _ aa,hl,Nat.sub_self,List.take_succ_eq_append_getElem hi,bC,show l.length-i=(l.length-(i+1))+1 by omega,List.replicate_succ,List.set_cons_zero,bj];rw[aG,aI hi];rfl
theorem Dr {b:Type}(f:b->Bool)(l:List b)(i:Nat)(hi:i<=l.length):(((l.take i).map f)++List.replicate (l.length-i) false).length=l.length:=by simp;omega
theorem jA {L:List Bool}{i:Nat}(h:i<L.length):(L.map Value.bool)[i]?=some (.bool (L.getD i false)):=by rw[bv,aI h,aG,aI h];rfl
structure fw (w:aw)(s:cn)(db mb xb:Nat)(v0 v1 v2:Value)(ca b8:Int)(D:List Bool)(wr:aw)(iR:Option Addr)(ci:Nat)(L M:List Bool)(C:List b9):Prop where
 ri:wr.ownsRow w.heap.size 4 1 (.slice iR s.T.length ci) s.T.length (L.map Value.bool)
 bl:Below w.heap.size w wr
 rd:wr.ownsRow w.heap.size 4 1 (.slice (an db) s.rg.length s.rg.length) s.rg.length (D.map Value.bool)
 rm:wr.ownsRow w.heap.size 4 1 (.slice (an mb) s.rg.length s.rg.length) s.rg.length (M.map Value.bool)
 kW:∃w9 cx,wr.heap[xb]?=some (.cells #[v0,v1,v2,.slice w9 (s.wt++C).length cx,ak ca,ak b8] 111 (0,0))/\wr.ownsRow w.heap.size 116 2 (.slice w9 (s.wt++C).length cx) (s.wt++C).length (ev (s.wt++C))
 ne:∀k,some k=(Value.slice iR s.T.length ci).ownBlock->k≠db/\k≠mb
theorem fw.below {w:aw}{s:cn}{c mb b:Nat}{v0 v1 v2:Value}{ca b8:Int}{D:List Bool}{wr d:aw}{f:Option Addr}{ci:Nat}{L M:List Bool}{C:List b9}(h:fw w s c mb b v0 v1 v2 ca b8 D wr f ci L M C)(hb:Below wr.heap.size wr d):fw w s c mb b v0 v1 v2 ca b8 D d f ci L M C:=by obtain⟨j,l,g,i⟩:=h.kW;exact⟨cy h.ri (fun k e=>hb.block k (cg h.ri k e).2),h.bl.trans (hb.mono h.bl.size),cy h.rd (fun k e=>hb.block k (cg h.rd k e).2),cy h.rm (fun k e=>hb.block k (cg h.rm k e).2),⟨j,l,(hb.block b (lt_of_some g)).trans g,cy i (fun k e=>hb.block k (cg i k e).2)⟩,h.ne⟩
section
variable {w:aw}{s:cn}{db mb xb:Nat}{v0 v1 v2:Value}{ca b8:Int}{D:List Bool}{wr:aw}{iR:Option Addr}{ci:Nat}{L M:List Bool}{C:List b9}
theorem su {b g n i m j:Nat}{e d:TypeId}{v f:Value}{l o:List Value}(h:wr.ownsRow b e m v n l)(p:wr.ownsRow g d j f i o)(q:e≠d):∀k,some k=v.ownBlock->¬some k=f.ownBlock:=by intro k s t;obtain⟨c1,u⟩:=d6 h k s;obtain⟨c2,c⟩:=d6 p k t;rw[u] at c;simp at c;exact q c.2
theorem fw.world (h:fw w s db mb xb v0 v1 v2 ca b8 D wr iR ci L M C):∀{b n m:Nat}{e:TypeId}{v:Value}{l:List Value},wr.ownsRow b e m v n l->e≠111->∀k,some k=v.ownBlock->k≠xb:=fun d f k g i=>by obtain⟨o,p,j,_⟩:=h.kW;obtain⟨c1,c⟩:=d6 d k g;rw[i,j] at c;simp at c;exact f c.2.symm
theorem fw.push (h:fw w s db mb xb v0 v1 v2 ca b8 D wr iR ci L M C)(x:w.heap.size<=xb){f:Option Addr}{g:Nat}(j:wr.heap[xb]?=some (.cells #[v0,v1,v2,.slice f (s.wt++C).length g,ak ca,ak b8] 111 (0,0)))(i:wr.ownsRow w.heap.size 116 2 (.slice f (s.wt++C).length g) (s.wt++C).length (ev (s.wt++C))){d:aw}{e:b9}{ks:Option Addr}{kt:Nat}(hg:Fr (fun k=>some k=(Value.slice f (s.wt++C).length g).ownBlock) wr d)(o:d.ownsRow w.heap.size 116 2 (.slice ks (s.wt++(C++[e])).length kt) (s.wt++(C++[e])).length (ev (s.wt++(C++[e])))):fw w s db mb xb v0 v1 v2 ca b8 D (d.setCell ⟨xb,3,none⟩ (.slice ks (s.wt++(C++[e])).length kt)) iR ci L M (C++[e]):=by
 have p:∀k,k≠xb->(d.setCell ⟨xb,3,none⟩ (.slice ks (s.wt++(C++[e])).length kt)).heap[k]?=d.heap[k]?:=fun k hk=>aP _ _ _ _ hk;have q:=(hg.block xb (lt_of_some j) (fun c=>h.world i ae xb c rfl)).trans j;have hk:∀{b n m:Nat}{v:Value}{l:List Value},wr.ownsRow b 4 m v n l->_:=fun hb=>cy hb (fun k c=>(p k (h.world hb ae k c)).trans (hg.block k (cg hb k c).2 (su hb i ae k c)))
 refine⟨hk h.ri,?_,hk h.rd,hk h.rm,⟨ks,kt,?_,cy o (fun k c=>p k (fun u=>?_))⟩,h.ne⟩
 ·have hb:=h.bl.trans (hg.below h.bl.size (fun k c=>(cg i k c).1))
  exact hb.trans (((Fr.refl (fun k=>k=xb) d).set xb 3 _ rfl).below hb.size (fun k c=>by omega))
 ·simp only [World.setCell,Array.getElem?_modify,if_true,q,Option.map_some];simp
 ·obtain⟨c1,t⟩:=d6 o k c;rw[u,q] at t;simp at t
theorem fw.mark {b:Nat}(h:fw w s db mb xb v0 v1 v2 ca b8 D wr (an b) ci L M C)(n:Nat):fw w s db mb xb v0 v1 v2 ca b8 D (wr.setCell ⟨b,n,none⟩ (.bool true)) (an b) ci (L.set n true) M C:=by
 have d:∀k,k≠b->(wr.setCell ⟨b,n,none⟩ (.bool true)).heap[k]?=wr.heap[k]?:=fun k hk=>aP _ _ _ _ hk;obtain⟨g,i,j,f⟩:=h.kW;obtain⟨n1,l⟩:=h.ne b rfl;refine⟨?_,?_,cy h.rd (fun k e=>d k (fun c=>by have e:=e;cases e;exact n1 c.symm)),cy h.rm (fun k e=>d k (fun c=>by have e:=e;cases e;exact l c.symm)),⟨g,i,(d xb (fun e=>h.world h.ri ae b rfl e.symm)).trans j,cy f (fun k e=>d k (fun c=>su f h.ri ae k e (by rw[c];rfl)))⟩,h.ne⟩
 ·rw[List.map_set];exact jp h.ri n _
 ·exact h.bl.trans (((Fr.refl (fun k=>k=b) wr).set b n _ rfl).below h.bl.size (fun k e=>by have:=(cg h.ri b rfl).1;omega))
theorem fw.mv (h:fw w s db mb xb v0 v1 v2 ca b8 D wr iR ci L M C)(f:db≠mb)(n:Nat):fw w s db mb xb v0 v1 v2 ca b8 D (wr.setCell ⟨mb,n,none⟩ (.bool true)) iR ci L (M.set n true) C:=by
 have b:∀k,k≠mb->(wr.setCell ⟨mb,n,none⟩ (.bool true)).heap[k]?=wr.heap[k]?:=fun k hk=>aP _ _ _ _ hk;obtain⟨g,i,j,d⟩:=h.kW;refine⟨cy h.ri (fun k e=>b k (h.ne k e).2),?_,cy h.rd (fun k e=>b k (fun c=>by have e:=e;cases e;exact f c)),?_,⟨g,i,(b xb (fun e=>h.world h.rm ae mb rfl e.symm)).trans j,cy d (fun k e=>b k (fun c=>su d h.rm ae k e (by rw[c];rfl)))⟩,h.ne⟩
 ·exact h.bl.trans (((Fr.refl (fun k=>k=mb) wr).set mb n _ rfl).below h.bl.size (fun k e=>by have:=(cg h.rm mb rfl).1;omega))
 ·rw[List.map_set];exact jp h.rm n _
theorem fw.is (h:fw w s db mb xb v0 v1 v2 ca b8 D wr iR ci L M C){c:aw}(hb:Below wr.heap.size wr c){f:Option Addr}{g:Nat}{i:List Bool}(d:c.ownsRow wr.heap.size 4 1 (.slice f s.T.length g) s.T.length (i.map Value.bool)):fw w s db mb xb v0 v1 v2 ca b8 D c f g i M C:=by
 have b:=h.below hb;refine⟨ec d (fun k e=>aS h.bl.size (cg d k e).1),b.bl,b.rd,b.rm,b.kW,fun k e=>?_⟩
 have j:=(cg d k e).1;have l:=(cg h.rd db rfl).2;have m:=(cg h.rm mb rfl).2;exact⟨aa,aa⟩
end
theorem w_:(prog.info? 116).map (fun i=>(i.zero,i.size,i.bytes))=some (some (.agg #[ak 0,ak 0]),2,16):=ah
theorem Ds (w:aw):(w.alloc (.cells #[] 116)).ownsRow w.heap.size 116 2 (.slice (an w.heap.size) 0 0) 0 []:=
 ⟨ac,aK ⟨w.heap.size,0,#[],rfl,aD _,aN _ _,ac,ac,ac,rfl⟩⟩
section
variable {rp rb:Nat}{ca b8:Int}{F:Nat->Prop}{s:cn}{w:aw}
theorem Dt (h:(cq rp rb ca b8).J F s w)(c:gF s)(h0:0<=b8)(g:b8<=100000)(i:b8-(dC s.T).2<(dC s.T).1):
 Calls prog 51 #[am rp,.bool false] w fun e w'=>e=.returned (ak 3)/\Below w.heap.size w w':=by
 have d:=pT h c.t12 c.tl;obtain⟨_,_,c5,_⟩:=e8 h;have bd:=pS s.T c.t12;have ht:=c.tl;have f:ay (∀w',Below w.heap.size w w'->_=_):=fun w' hb=>(hb.cell (p:=ao rp 5) (aM w _ c5)).trans c5;generalize (dC s.T).1=a at*;generalize (dC s.T).2=b at*;obtain⟨a0,_,j,_⟩:=bd;clear h c c5;go_enter func51,ntmps51;go_wp2_with fail;refine d.mono ?_;clear d;rintro e w1 ⟨rfl,hb1⟩
 have c5:=f.o w1 hb1;exact lz
end
theorem xa:∀(l:List iA)(i:Nat)(x:iA)(v:Bool),l[i]?=some x->tv (l.set i ((x.1.1,x.1.2.1,v,x.1.2.2.2),x.2))=(tv l).set (i*4+2) (.bool v)
 |[],_,_,_,_=>rfl
 |e::l,0,x,v,h=>by simp_all [tv]
 |e::l,i+1,x,v,h=>by
  have b:(tv (e::l))=ak e.1.1::.slice e.2.1 e.1.2.1.length e.2.2::.bool e.1.2.2.1::.bool e.1.2.2.2::tv l:=af;have c:∀k:List iA,(tv (e::k))=ak e.1.1::.slice e.2.1 e.1.2.1.length e.2.2::.bool e.1.2.2.1::.bool e.1.2.2.2::tv k:=fun k=>by rfl
  rw[List.set_cons_succ,c,b,(xa l i x v (by assumption)),show(i+1)*4+2=i*4+2+1+1+1+1 by omega];simp
theorem xc:∀(l:List iA)(i:Nat)(x:iA)(v:Bool),l[i]?=some x->tv (l.set i ((x.1.1,x.1.2.1,x.1.2.2.1,v),x.2))=(tv l).set (i*4+3) (.bool v)
 |[],_,_,_,_=>rfl
 |e::l,0,x,v,h=>by simp_all [tv]
 |e::l,i+1,x,v,h=>by
  have b:(tv (e::l))=ak e.1.1::.slice e.2.1 e.1.2.1.length e.2.2::.bool e.1.2.2.1::.bool e.1.2.2.2::tv l:=af;have c:∀k:List iA,(tv (e::k))=ak e.1.1::.slice e.2.1 e.1.2.1.length e.2.2::.bool e.1.2.2.1::.bool e.1.2.2.2::tv k:=fun k=>by rfl
  rw[List.set_cons_succ,c,b,(xc l i x v (by assumption)),show(i+1)*4+3=i*4+3+1+1+1+1 by omega];simp
section
variable {rp rb:Nat}{ca b8:Int}{F:Nat->Prop}{s:cn}{w:aw}
theorem Du (h:(cq rp rb ca b8).J F s w){i:Nat}{x:cH}(d:s.T[i]?=some x){b cT:Nat}(hc:w.cell? (ao rp 0)=some (.slice (an b) s.T.length cT)):
 (cq rp rb ca b8).J F {s with T:=s.T.set i (x.1,x.2.1,true,x.2.2.2)} (w.setCell ⟨b,i*4+2,none⟩ (.bool true))/\(cq rp rb ca b8).J F {s with T:=s.T.set i (x.1,x.2.1,x.2.2.1,true)} (w.setCell ⟨b,i*4+3,none⟩ (.bool true))/\F b/\(∀o,w.frozen? (ao b o)=false)/\b≠rp:=by
 obtain⟨own,m,f,v2,g,h,c⟩:=h;obtain rfl:f=.slice _ s.T.length cT:=by simpa[World.cell?,h.blk] using hc
 have n:=h.ro b rfl;obtain⟨y,hy,rfl⟩:∃y,m[i]?=some y/\y.1=x:=by
  rw[<-h.nd] at d
  grind
 have key:∀(t:cH)(o:Nat)(v:Value),t.2.1=y.1.2.1->tv (m.set i (t,y.2))=(tv m).set o v->(cq rp rb ca b8).J F {s with T:=s.T.set i t} (w.setCell ⟨b,o,none⟩ v):=fun t o v p q=>by
  have sz:(w.setCell ⟨b,o,none⟩ v).heap.size=w.heap.size:=by simp_all
  have hk:∀k,own k≠2->(w.setCell ⟨b,o,none⟩ v).heap[k]?=w.heap[k]?:=fun k u=>(by grind [aP])
  refine⟨own,m.set i (t,y.2),.slice (an b) s.T.length cT,v2,g,?_,c⟩
  exact {
   blk:=(by grind [da.b1,da.blk]),b1:=h.b1
   row:=by
    have B:m.length=s.T.length:=by rw[<-h.nd];simp
    grind [da.row,jp]
   ro:=h.ro
   nd:=by rw[List.map_set,h.nd]
   fl:=fun z hz=>by
    have old:∀z∈m,c8 (w.setCell ⟨b,o,none⟩ v) z.2.1 z.1.2.1/\(0<z.1.2.1.length->∃b o,z.2.1=some ⟨b,o,none⟩/\own b=3):=fun z hz=>⟨(h.fl z hz).1.at aa (fun N S hp e=>by
     obtain⟨b2,W,ab,ad⟩:=(h.fl z hz).2 hp
     grind),(h.fl z hz).2⟩
    grind
   rt:=(by grind [da.r1,da.rt]),rl:=h.rl,r1:=h.r1
   g2:=cy h.g2 (by grind [da.fQ]),fQ:=h.fQ
   g3:=cy h.g3 (by grind [da.f5]),f5:=h.f5
   lt:=fun k j=>(sz▸h.lt k j)}
 refine⟨key _ _ _ rfl (xa m i y true hy),key _ _ _ rfl (xc m i y true hy),(c b).2 aa,fun o=>?_,fun e=>by grind [da.b1]⟩
 obtain⟨ag,l⟩:=d6 h.row b rfl;simp[World.frozen?,l]
theorem xd (h:(cq rp rb ca b8).J F s w){i:Nat}{x:cH}(n:s.T[i]?=some x){b cT:Nat}(hc:w.cell? (ao rp 0)=some (.slice (an b) s.T.length cT))(e:Option Addr)(c:Nat)(d:List _)(f:c8 w e d)(g:∀b o,0<d.length->e=some ⟨b,o,none⟩->¬F b):
 (cq rp rb ca b8).J (fun b=>F b\/(0<d.length/\∃o,e=some ⟨b,o,none⟩)) {s with T:=s.T.set i (x.1,d,x.2.2)} (w.setCell ⟨b,i*4+1,none⟩ (.slice e d.length c))/\Fr F w (w.setCell ⟨b,i*4+1,none⟩ (.slice e d.length c)):=by
 obtain⟨j,k,p,l,q,_,_,_,m⟩:=pP h;obtain rfl:k=.slice _ s.T.length cT:=by have:=l.symm.trans hc;simpa using this
 obtain⟨y,hy,rfl⟩:∃y,j[i]?=some y/\y.1=x:=by grind
 exact m i y e c d b hy rfl f g
theorem Dv (h:(cq rp rb ca b8).J F s w)(l f:List b9)(v d:Value)(w1:aw)(hb:Below w.heap.size w w1)(g:w1.ownsRow w.heap.size 116 2 v l.length (ev l))(i:w1.ownsRow w.heap.size 116 2 d f.length (ev f))(al:∀b,some b=v.ownBlock->¬some b=d.ownBlock):
 ∃n,(cq rp rb ca b8).J n {s with rg:=l,wt:=f} ((w1.setCell ⟨rp,2,none⟩ v).setCell ⟨rp,3,none⟩ d)/\ce F w n ((w1.setCell ⟨rp,2,none⟩ v).setCell ⟨rp,3,none⟩ d)/\(∀b,n b->F b\/some b=v.ownBlock\/some b=d.ownBlock):=by
 classical
 obtain⟨own,m,N,v2,ap,h,ar⟩:=h;have t:=h.blk;have u:∀b,w.heap.size<=b->_=_:=fun b hb=>Classical.byContradiction (fun c=>by have:=h.lt b c;omega)
 have n1:∀b,some b=v.ownBlock->_=_:=fun b e=>u b (cg g b e).1;have ax:∀b,some b=d.ownBlock->_=_:=fun b e=>u b (cg i b e).1;have x:∀b j,own b=j->j≠0->(if some b=v.ownBlock then 5 else if some b=d.ownBlock then 6 else own b)=j:=fun b j e h0=>by grind
 have sz:((w1.setCell ⟨rp,2,none⟩ v).setCell ⟨rp,3,none⟩ d).heap.size=w1.heap.size:=by simp_all
 have p:∀k,k≠rp->((w1.setCell ⟨rp,2,none⟩ v).setCell ⟨rp,3,none⟩ d).heap[k]?=w1.heap[k]?:=fun k hk=>(by grind [aP])
 have hk:∀b,b<w.heap.size->own b≠1->_=_:=fun b S W=>(p b (fun e=>W ((e▸h.b1)))).trans (hb.block b S)
 have ab:=lt_of_some t;refine⟨fun b=>F b\/some b=v.ownBlock\/some b=d.ownBlock,⟨fun b=>if some b=v.ownBlock then 5 else if some b=d.ownBlock then 6 else own b,m,N,v,d,?_,fun b=>?_⟩,⟨?_,fun b B=>?_⟩,fun b B=>B⟩
 ·exact {
   blk:=by have hq:=(hb.block rp ab).trans t;simp only [World.setCell,Array.getElem?_modify,if_true,hq,Option.map_some];simp
   b1:=x _ _ h.b1 ae
   row:=cy h.row (by grind [da.ro])
   ro:=fun b e=>(by grind [da.ro])
   nd:=h.nd
   fl:=fun y hy=>by
    refine⟨(h.fl y hy).1.at ((sz▸hb.size)) (fun b o hp e=>?_),fun hp=>?_⟩
    ·obtain⟨ad,ag,q,ai⟩:=(h.fl y hy).2 hp
     grind
    ·obtain⟨ad,ag,q,ai⟩:=(h.fl y hy).2 hp
     grind
   rt:=(by grind [da.rt,da.r1])
   rl:=h.rl
   r1:=x _ _ h.r1 ae
   g2:=ec (cy g (fun b e=>p b (fun q=>by have:=(cg g b e).1;omega))) aa
   fQ:=fun b e=>by grind
   g3:=ec (cy i (fun b e=>p b (fun q=>by have:=(cg i b e).1;omega))) aa
   f5:=fun b e=>by grind
   lt:=fun b aB=>by grind [cg,aO,Below.size]}
 ·grind
 ·grind [Fr.set,Fr.of,da.b1]
 grind [cg]
end
end Go.Proofs.YtpkjkjhanlbcoaaGreat
