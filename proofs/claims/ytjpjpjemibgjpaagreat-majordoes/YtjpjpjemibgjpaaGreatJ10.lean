import Derived.Test.YtjpjpjemibgjpaaGreatJ09
import Derived.Deep.LoopGhost
import Derived.Deep.DeepCutAuto
import Derived.Deep.RegionHeld3
import Derived.Test.YtjpjpjemibgjpaaGreatJ07
import Derived.Test.YtjpjpjemibgjpaaGreatJ08
import Derived.Test.YtjpjpjemibgjpaaGreatJ06
import Derived.Test.YtjpjpjemibgjpaaGreatJ01
import Derived.Test.YtjpjpjemibgjpaaGreatJ00
import Derived.Test.YtjpjpjemibgjpaaGreatJ02
import Derived.Test.YtjpjpjemibgjpaaGreatJ04
import Derived.Test.YtjpjpjemibgjpaaGreatJ03
namespace Go.Proofs.YtjpjpjemibgjpaaGreat
set_option maxRecDepth 100000
set_option maxHeartbeats 8000000
open Tryz
open Go.RowKit W Kp bY
structure Wg (w:World)(p:Nat)(T:List cE)(wt:List bN):Prop where
 th:∃sf cT,w.cell? (ah p 0)=some (.slice sf T.length cT)/\∀(i:Nat)(x:cE),T[i]?=some x->∃b ad cp,sf=ag b/\w.cell? (ah b (i*4))=some (ae x.1)/\w.cell? (ah b (i*4+1))=some (.slice ad x.2.1.length cp)/\w.cell? (ah b (i*4+2))=some (.bool x.2.2.1)/\w.cell? (ah b (i*4+3))=some (.bool x.2.2.2)/\cS w ad x.2.1
 wa:∃a3 c3,w.cell? (ah p 3)=some (.slice a3 wt.length c3)/\cS w a3 wt
theorem Wg.below {w w':World}{p:Nat}{T:List cE}{wt:List bN}(h:Wg w p T wt)(c:Below w.heap.size w w'):Wg w' p T wt:=by
 have k:∀{a:Addr}{v:Value},w.cell? a=some v->w'.cell? a=some v:=fun {a v} e=>(c.cell (p:=a) (au w _ e)).trans e;refine⟨?_,?_⟩
 ·obtain⟨g,cT,d,f⟩:=h.th;refine⟨g,cT,k d,fun i x j=>?_⟩
  obtain⟨b,l,cp,e,m,n,o,q,hl⟩:=f i x j;exact⟨b,l,cp,e,k m,k n,k o,k q,hl.below c⟩
 ·obtain⟨s,t,d,f⟩:=h.wa;exact⟨s,t,k d,f.below c⟩
theorem xu (w:World):(w.alloc (.cells #[] 4)).ownsRow w.heap.size 4 1 (.slice (ag w.heap.size) 0 0) 0 []:=
 ⟨V,an ⟨w.heap.size,0,#[],rfl,ak _,aw _ _,V,V,V,rfl⟩⟩
theorem xv (L:List Bool):∀v∈L.map Value.bool,v.oneCell'=true:=by intro v a;obtain⟨b,_,rfl⟩:=List.mem_map.1 a;rfl
theorem iI.cells {w:World}{g:Option Addr}{L:List Bool}(h:iI w g L):∀a,g=some a->∀j u,(L.map Value.bool)[j]?=some u->w.cell? (a.add j)=some u:=fun a e j u c=>by
 have d:j<L.length:=by have:=(List.getElem?_eq_some_iff.1 c).1;simpa using this
 obtain⟨b,i,_,hc⟩:=h I;rw[e] at i;cases i;have f:=hc j d;rw[aX,am d] at c;rw[aj,am d] at f;simp at c f;rw[<-c];have ea:(⟨b,0,none⟩:Addr).add j=⟨b,j,none⟩:=by simp[Addr.add];intro h;exact h.symm
 rw[ea];exact f
section
variable {w:World}{p:Nat}{T:List cE}{wt:List bN}{is:List Bool}
theorem sg (h:Wg w p T wt)(cr:gX T wt)(a1:Option Addr)(ci:Nat)(hi:iI w a1 is)(al:a1=none->is.length=0/\ci=0)(hl:is.length=T.length)(hm:T.length<=10000)(de:wt.length<=10000)(cs:∀k,b8 is k->cv T k):
 Calls prog 91 #[af p,.slice a1 is.length ci] w fun e w'=>∃D c be,e=.returned (.slice D be.length c)/\w'.ownsRow w.heap.size 4 1 (.slice D be.length c) be.length (be.map Value.bool)/\iF T wt is be/\Below w.heap.size w w':=by
 obtain⟨cO,cP,cQ,cR,cU⟩:=info_parts pa;have bV:Hid (Wg w p T wt):=h;have A:Hid (gX T wt/\(∀k,b8 is k->cv T k)/\is.length=T.length):=⟨cr,cs,hl⟩
 have bW:=(Below.refl w.heap.size w).alloc bJ (.cells #[] 4)
 have bX:Hid (iI (w.alloc (.cells #[] 4)) a1 is/\(a1=none->is.length=0/\ci=0)):=⟨hi.below bW,al⟩
 have ct:=xu w;have df:is.length<=10000:=I;have dg:Hid (is.length=T.length):=hl;clear h cr hi al cs hl;go_enter func91,ntmps91;go_wp2_with (at_builtin;refine hS _ rfl _ _ 145 rfl w.heap.size 4 cO (.bool false) 1 1 Tryz.underlying145 cP cQ cR cU rfl Z (.slice (ag w.heap.size) 0 0) 0 [] rfl ct a1 is.length ci (is.map Value.bool) rfl V bX.out.2 bX.out.1.cells (xv is) (by unfold maxLen;omega) I V ?_;intro D c w1 bL cu _;rw[Nat.zero_add,List.nil_append] at bL)
 have bY:=(Below.refl w1.heap.size w1).alloc bJ (.cells #[.slice D is.length c] 145)
 have bM:Below w.heap.size w w1:=bW.trans ((Below.refl w.heap.size (w.alloc (.cells #[] 4))).grown cu V (fun k e=>by simp[Value.ownBlock] at e;omega))
 have bO:Hid (eZ (w1.alloc (.cells #[.slice D is.length c] 145)) w1.heap.size D c w.heap.size is/\Below w.heap.size w (w1.alloc (.cells #[.slice D is.length c] 145))/\w.heap.size<=w1.heap.size):=⟨⟨aw _ _,ca bL (fun k e=>bY.block k (bR bL k e).2)⟩,bM.trans (bY.mono bM.size),bM.size⟩
 clear bW ct bL cu bY bM bX;generalize w1.alloc (.cells #[.slice D is.length c] 145)=dh at*;generalize w1.heap.size=q at*;obtain⟨cw,cT,bZ,cx⟩:=bV.out.th;obtain⟨cy,cW,b0,cz⟩:=bV.out.wa;have b6:Hid (∀w',Below w.heap.size w w'->w'.cell? (ah p 0)=some (.slice cw T.length cT)/\w'.cell? (ah p 3)=some (.slice cy wt.length cW)/\cS w' cy wt):=fun w' P=>⟨(P.cell (p:=ah p 0) (au w _ bZ)).trans bZ,(P.cell (p:=ah p 3) (au w _ b0)).trans b0,cz.below P⟩
 have cX:Hid (∀(i:Nat)(x:cE),T[i]?=some x->∃b D cp,cw=ag b/\∀w',Below w.heap.size w w'->(w'.cell? (ah b (i*4))=some (ae x.1)/\w'.cell? (ah b (i*4+1))=some (.slice D x.2.1.length cp)/\w'.cell? (ah b (i*4+2))=some (.bool x.2.2.1)/\w'.cell? (ah b (i*4+3))=some (.bool x.2.2.2))/\cS w' D x.2.1):=fun i x bg=>by obtain⟨b,D,cp,e,J,y1,b7,b9,cY⟩:=cx i x bg;have k:∀{w':World}(P:Below w.heap.size w w'){a:Addr}{v:Value},w.cell? a=some v->w'.cell? a=some v:=fun {w'} P {a v} e=>(P.cell (p:=a) (au w _ e)).trans e;exact⟨b,D,cp,e,fun w' P=>⟨⟨k P J,k P y1,k P b7,k P b9⟩,cY.below P⟩⟩
 clear bZ cx b0 cz bV;have cA:Hid ((∀k,b8 is k->b8 is k)/\∀X,eF T wt X->(∀k,b8 is k->X k)->∀k,b8 is k->X k):=⟨fun _ h=>h,fun _ _ h=>h⟩
 go_loopg [7] (cnt is+1) (fun m mv wr=>∃(L:List Bool)(more:Bool),mv=.bool more/\Hid (eZ wr q D c w.heap.size L/\Below w.heap.size w wr)/\Hid (L.length=is.length/\(∀k,b8 is k->b8 L k)/\∀X,eF T wt X->(∀k,b8 is k->X k)->∀k,b8 L k->X k)/\Hid ((more=true->cnt L+1<=m)/\(more=false->cnt L<=m/\iF T wt is L)))
 case atStart=>exact⟨is,true,rfl,⟨bO.out.1,bO.out.2.1⟩,⟨rfl,cA.out⟩,⟨fun _=>ak _,fun h=>by cases h⟩⟩
 case round=>
  have di:Hid (w.heap.size<=q):=bO.out.2.2;clear bO cA;obtain⟨C,more,rfl,S,cb,cc⟩:=hrel;cases more
  ·obtain⟨_,cd⟩:=cc.out.2 rfl;have bg:=S.out;have c0:wr.cell? (ah q 0)=some (.slice D C.length c):=by simp[World.cell?,bg.1.blk]
   go_wp2_with fail;go_ret;exact⟨D,c,C,rfl,bg.1.row,cd,bg.2⟩
  ·have dj:=cc.out.1 rfl;have s:Hid (eG T wt is C C false 0):=eG.start cb.out.1 cb.out.2.1 cb.out.2.2;clear cc;go_wp2_with fail
   go_loopw [7,8] (fun mv iv wr=>∃(i:Nat)(L:List Bool)(more:Bool),i<=T.length/\mv=.bool more/\iv=ae i/\Hid (eZ wr q D c w.heap.size L/\Below w.heap.size w wr)/\Hid (eG T wt is C L more i)) (fun _ iv _=>T.length-(intOf iv).toNat)
   case atStart=>exact⟨0,C,false,aA _,rfl,rfl,S,s⟩
   case round=>
    clear S s;obtain⟨i,L,more,hi,rfl,rfl,S,s⟩:=hrel;obtain⟨aV,bP,dk⟩:=b6.out wr S.out.2;by_cases bi:i<T.length
    ·obtain⟨t,ht⟩:∃t,T[i]?=some t:=⟨_,am bi⟩
     obtain⟨b,Y,fc,rfl,ce⟩:=cX.out i t ht;have cf:Hid (∀w',Below w.heap.size w w'->cS w' Y t.2.1):=fun w' P=>(ce w' P).2;obtain⟨⟨J,y1,b7,b9⟩,_⟩:=ce wr S.out.2;clear ce;have cB:T.getD i t0=t:=by rw[aj,ht];rfl
     have q0:(0:Int)<=(i:Int):=I;have q1:(i:Int)<(T.length:Int):=I;have a2:=S.out.1;have cg:L.length=T.length:=s.out.len.trans A.out.2.2;have dm:L.length<=10000:=I;obtain⟨rb,cZ,bQ⟩:=dP a2.row I;obtain⟨rfl,rfl⟩:D=ag rb/\c=cZ:=by simpa using bQ
     have cC:(L.map Value.bool)[i]?=some (.bool (L.getD i false)):=by rw[aX,am (by omega:i<L.length),aj,am (by omega:i<L.length)];rfl
     have cD:=(eO a2.row cC).1;have lo:=lt_of_some a2.blk;have lr:=(bR a2.row rb rfl).2;have bS:=(Below.refl wr.heap.size wr).alloc bJ (.cells #[ae t.1,.slice Y t.2.1.length fc,.bool t.2.2.1,.bool t.2.2.2] 99)
     have B1:=a2.below bS;have k0:(wr.alloc (.cells #[.int .i64 t.1,.slice Y t.2.1.length fc,.bool t.2.2.1,.bool t.2.2.2] 99)).cell? (ah q 0)=some (.slice (ag rb) L.length c):=by simp[World.cell?,B1.blk]
     have k1:=(bS.cell (p:=ah rb i) lr).trans cD;have dn:(i:Int)<(L.length:Int):=I;have N:Hid (T.getD i t0=t):=cB;have o:Hid (eZ (wr.alloc (.cells #[.int .i64 t.1,.slice Y t.2.1.length fc,.bool t.2.2.1,.bool t.2.2.2] 99)) q (ag rb) c w.heap.size L/\Below w.heap.size w (wr.alloc (.cells #[.int .i64 t.1,.slice Y t.2.1.length fc,.bool t.2.2.1,.bool t.2.2.2] 99))/\(wr.alloc (.cells #[.int .i64 t.1,.slice Y t.2.1.length fc,.bool t.2.2.1,.bool t.2.2.2] 99)).heap[wr.heap.size]?=some (.cells #[ae t.1,.slice Y t.2.1.length fc,.bool t.2.2.1,.bool t.2.2.2] 99 (0,0))/\rb<wr.heap.size):=⟨B1,S.out.2.trans (bS.mono S.out.2.size),aw _ _,lr⟩
     clear cB a2 bQ cC cD B1 bS;cases al:L.getD i false
     ·rw[al] at k1;have O:Hid (eG T wt is C L more (i+1)):=s.out.next (fun _ _ ch=>by unfold b8 at ch;rw[al] at ch;cases ch)
      clear al s;go_wp2_with fail;go_roundw
      case rel=>exact⟨i+1,L,more,I,rfl,ac,⟨o.out.1,o.out.2.1⟩,O⟩
      case measure=>simp[intOf];omega
     ·rw[al] at k1;have ar:Hid (b8 L i):=al;clear al
      go_upto_region 11 with fail
      generalize wr.alloc (.cells #[.int .i64 t.1,.slice Y t.2.1.length fc,.bool t.2.2.1,.bool t.2.2.2] 99)=w3 at*;generalize wr.heap.size=tb at*;obtain⟨kd,d,cF,cG⟩:=t;dsimp only at*;have z0:w3.cell? ⟨tb,0,none⟩=some (.int .i64 kd):=by simp[World.cell?,o.out.2.2.1]
      have ax:w3.cell? (ah tb 1)=some (.slice Y d.length fc):=by simp[World.cell?,o.out.2.2.1]
      have cj:=s.out.rY A.out.1 A.out.2.1 ar.out;have bl:=A.out.1.tl i;rw[N.out] at bl;dsimp only at bl;have cH:=lt_of_some o.out.2.2.1;clear J y1 b7 b9 k0 k1 aV lo lr;by_cases k12:kd=1\/kd=2
      ·have bT:Hid (∀(X:Nat->Prop)(v:Int×Int),v∈d->fj T wt X i v):=fun X v n=>ap (by rw[N.out];exact⟨k12,n⟩)
       have ad:Hid (∀(X:Nat->Prop)(v:Int×Int),fj T wt X i v->v∈d):=fun X v n=>by
        unfold fj at n;rw[N.out] at n;dsimp only at n;rcases n with⟨_,h⟩|⟨h,_⟩|⟨h,_⟩|⟨h,_⟩
        ·exact h
        ·omega
        ·omega
        ·omega
       have c1:((kd==1)=true)\/((kd==1)=false/\(kd==2)=true):=by
        rcases k12 with e|e
        ·exact ap (by simpa using e)
        ·exact an ⟨by rw[e];decide,by simpa using e⟩
       clear k12;rcases c1 with b1|⟨b1,b2⟩
       all_goals
        go_wp2_with fail
        go_loopw [7,10] (fun mv kv wr=>∃(f:Nat)(j:List Bool)(Q:Bool),f<=d.length/\mv=.bool Q/\kv=ae f/\Hid (eZ wr q (ag rb) c w.heap.size j/\Below w.heap.size w wr/\wr.heap[tb]?=some (.cells #[ae kd,.slice Y d.length fc,.bool cF,.bool cG] 99 (0,0)))/\Hid (eG T wt is C j Q i/\b8 j i/\∀g,g<f->(d.getD g (0,0)).1=3->b8 j (d.getD g (0,0)).2.toNat)) (fun _ kv _=>d.length-(intOf kv).toNat)
        case atStart=>exact⟨0,L,more,aA _,rfl,rfl,⟨o.out.1,o.out.2.1,o.out.2.2.1⟩,⟨s.out,ar.out,fun g h=>absurd h I⟩⟩
        case round=>
         have c2:Hid (rb<tb):=o.out.2.2.2;clear o s ar z0 ax S;obtain⟨f,j,Q,c3,rfl,rfl,E,B⟩:=hrel;have ax:wr.cell? (ah tb 1)=some (.slice Y d.length fc):=by simp[World.cell?,E.out.2.2]
         by_cases bn:f<d.length
         ·obtain⟨fb,cV,rfl,bU,R⟩:=cf.out wr E.out.2.1 I;obtain⟨J,y1⟩:=R f bn;have a0:d.getD f (0,0)∈d:=getD_in bn;have ai:Hid (∀g,g<f+1->(d.getD g (0,0)).1=3->b8 (dV j (d.getD f (0,0))) (d.getD g (0,0)).2.toNat):=fun g h l=>by
           by_cases c:g<f
           ·exact me _ _ _ (B.out.2.2 g c l)
           ·obtain rfl:g=f:=I;exact nh (fun l=>by have:=B.out.1.bd A.out.1 A.out.2.1 A.out.2.2 B.out.2.1 (bT.out (b8 j) _ a0) l;omega) l
          generalize d.getD f (0,0)=v at*;have F:=bT.out (b8 j) v a0;have G:=B.out.1.bd A.out.1 A.out.2.1 A.out.2.2 B.out.2.1 F;have K:=nB wr q (some ⟨rb,0,none⟩) c w.heap.size j v E.out.1 G (by have:=B.out.1.len;have:=A.out.2.2;omega)
          have U:Hid (eG T wt is C (dV j v) (!dl j v||Q) i/\b8 (dV j v) i):=⟨B.out.1.add bi B.out.2.1 F (fun l=>by have:=G l;omega),me _ _ _ B.out.2.1⟩
          have q3:(0:Int)<=(f:Int):=I;have c4:(f:Int)<(d.length:Int):=I;clear R G F a0;cases hs:dl j v
          all_goals
           rw[hs] at K U;clear hs;go_wp2_with fail;refine K.mono ?_;clear K;rintro e M ⟨rfl,aR,aB⟩
           have W:Hid (eZ M q (ag rb) c w.heap.size (dV j v)/\Below w.heap.size w M/\M.heap[tb]?=some (.cells #[ae kd,.slice (some ⟨fb,cV,none⟩) d.length fc,.bool cF,.bool cG] 99 (0,0))):=⟨aR,E.out.2.1.trans (aB.below E.out.2.1.size (fun k e=>(bR E.out.1.row k e).1)),(aB.block tb (lt_of_some E.out.2.2) (fun e=>by have e:some tb=some rb:=e;have dp:=c2.out;cases e;omega)).trans E.out.2.2⟩
           clear aR aB J y1 ax;go_wp2_with fail;go_roundw
           case rel=>exact⟨f+1,dV j v,_,I,rfl,ac,W,⟨U.out.1,U.out.2,ai.out⟩⟩
           case measure=>simp[intOf];omega
         ·obtain rfl:f=d.length:=I;have O:Hid (eG T wt is C j Q (i+1)):=B.out.1.next (fun _ _ _ v n l=>by
           obtain⟨g,bo,e⟩:=List.mem_iff_getElem.1 (ad.out _ _ n)
           have bp:d.getD g (0,0)=v:=by rw[aj,am bo,e];rfl
           have:=B.out.2.2 g bo (by rw[bp];exact l)
           rwa [bp] at this)
          go_wp2_with fail;go_roundw
          case rel=>exact⟨i+1,j,Q,I,rfl,ac,⟨E.out.1,E.out.2.1⟩,O⟩
          case measure=>simp[intOf];omega
      ·by_cases aT:kd=3
       ·skip;have b1:(kd==1)=false:=by rw[aT];decide
        have b2:(kd==2)=false:=by rw[aT];decide
        have b3:(kd==3)=true:=by rw[aT];decide
        have br:d.length=2:=by
         have:=A.out.1.fl i cj (by rw[N.out];exact ap aT)
         rw[N.out] at this
         exact this
        have F:fj T wt (b8 L) i (d.getD 1 (0,0)):=an (ap (by rw[N.out];exact⟨aT,rfl⟩))
        have ad:Hid (∀(X:Nat->Prop)(v:Int×Int),fj T wt X i v->v=d.getD 1 (0,0)):=fun X v n=>by
         unfold fj at n;rw[N.out] at n;dsimp only at n;rcases n with⟨h,_⟩|⟨_,h⟩|⟨h,_⟩|⟨h,_⟩
         ·omega
         ·exact h
         ·omega
         ·omega
        obtain⟨fb,cV,rfl,bU,R⟩:=cf.out w3 o.out.2.1 I;obtain⟨J,y1⟩:=R 1 I;have G:=s.out.bd A.out.1 A.out.2.1 A.out.2.2 ar.out F;have c5:(1:Int)<(d.length:Int):=I;have ai:Hid ((d.getD 1 (0,0)).1=3->b8 (dV L (d.getD 1 (0,0))) (d.getD 1 (0,0)).2.toNat):=nh (fun l=>by have:=G l;omega)
        generalize d.getD 1 (0,0)=v at*;have K:=nB w3 q (some ⟨rb,0,none⟩) c w.heap.size L v o.out.1 G I;have U:Hid (eG T wt is C (dV L v) (!dl L v||more) i):=s.out.add bi ar.out F (fun l=>by have:=G l;omega)
        have O:Hid (eG T wt is C (dV L v) (!dl L v||more) (i+1)):=U.out.next (fun _ _ _ u ck l=>by rw[ad.out _ _ ck] at l⊢;exact ai.out l)
        rw[show cV+1*2=cV+2 by omega] at J y1;clear R G F U ai ad;cases hs:dl L v
        all_goals
         rw[hs] at K O;clear hs;go_wp2_with fail;refine K.mono ?_;clear K;rintro e M ⟨rfl,aR,aB⟩
         have W:Hid (eZ M q (ag rb) c w.heap.size (dV L v)/\Below w.heap.size w M):=⟨aR,o.out.2.1.trans (aB.below o.out.2.1.size (fun k e=>(bR o.out.1.row k e).1))⟩
         clear aR aB J y1 z0 ax;go_wp2_with fail;go_roundw
         case rel=>exact⟨i+1,dV L v,_,I,rfl,ac,W,O⟩
         case measure=>simp[intOf];omega
       ·by_cases aF:kd=4
        ·have b1:(kd==1)=false:=by rw[aF];decide
         have b2:(kd==2)=false:=by rw[aF];decide
         have b3:(kd==3)=false:=by rw[aF];decide
         have b4:(kd==4)=true:=by rw[aF];decide
         have br:d.length=2:=by
          have:=A.out.1.fl i cj (by rw[N.out];exact an aF)
          rw[N.out] at this
          exact this
         have ad:Hid (∀(X:Nat->Prop)(v:Int×Int),fj T wt X i v->((d.getD 0 (0,0)).1=3->X (d.getD 0 (0,0)).2.toNat)/\v=d.getD 1 (0,0)):=fun X v n=>by
          unfold fj at n;rw[N.out] at n;dsimp only at n;rcases n with⟨h,_⟩|⟨h,_⟩|⟨_,h⟩|⟨h,_⟩
          ·omega
          ·omega
          ·exact h
          ·omega
         have cl:(d.getD 0 (0,0)).1=3->0<=(d.getD 0 (0,0)).2/\(d.getD 0 (0,0)).2<L.length:=fun l=>by obtain⟨g1,g2⟩:=A.out.1.fv i cj (d.getD 0 (0,0)) (by rw[N.out];exact getD_in (by show 0<d.length;omega)) l;have:=g2.1;exact⟨g1,I⟩
         have F:dl L (d.getD 0 (0,0))=true->fj T wt (b8 L) i (d.getD 1 (0,0)):=fun h=>an (an (ap (by rw[N.out];exact⟨aF,ly h,rfl⟩)))
         obtain⟨fb,cV,rfl,bU,R⟩:=cf.out w3 o.out.2.1 I;obtain⟨J,y1⟩:=R 1 I;obtain⟨aV,bs⟩:=R 0 I;have c5:(1:Int)<(d.length:Int):=I;have dq:(0:Int)<(d.length:Int):=I;have dr:0<d.length:=I;have ds:¬d=[]:=fun e=>by rw[e] at br;cases br
         rw[show cV+1*2=cV+2 by omega] at J y1;rw[show cV+0*2=cV by omega] at aV bs;have k0:w3.cell? (ah q 0)=some (.slice (ag rb) L.length c):=by simp[World.cell?,o.out.1.blk]
         have a3:=nA w3.drew (ag rb) c L (d.getD 0 (0,0)) ((mj o.out.1.row).below (Below.refl _ w3).drew) cl I;have bb:fb<w3.heap.size:=bU;have cI:=lt_of_some o.out.1.blk;cases lD:dl L (d.getD 0 (0,0))
         ·have O:Hid (eG T wt is C L more (i+1)):=s.out.next (fun _ _ _ v n _=>by
           exfalso;obtain⟨g1,_⟩:=ad.out _ _ n;obtain⟨n1,c6⟩:=l_ lD;have:=g1 n1;unfold b8 at this
           rw[c6] at this
           cases this)
          rw[lD] at a3;clear R F cl ad lD J y1;generalize d.getD 0 (0,0)=v0 at*;clear cg br aF aT k12 bl
          as_aux_lemma=>
          go_upto_region 21 with fail
          go_region_held3 (fun w'=>w'.cell? (ah q 0)=some (.slice (ag rb) L.length c)/\w'.cell? (ah tb 1)=some (.slice (some ⟨fb,cV,none⟩) d.length fc)/\w'.cell? (ah fb cV)=some (ae v0.1)/\w'.cell? (ah fb (cV+1))=some (ae v0.2)) (go_keep)
           (first
             |(go_at_call 93;refine a3.mono ?_;clear a3;rintro e M ⟨rfl,bx⟩;have H:=(Below.refl _ w3).drew.trans (bx.mono bJ);have W:Hid (eZ M q (ag rb) c w.heap.size L/\Below w.heap.size w M):=⟨o.out.1.below H,o.out.2.1.trans (H.mono o.out.2.1.size)⟩;have u0:=(H.cell (p:=ah q 0) cI).trans k0;have cm:=(H.cell (p:=ah tb 1) cH).trans ax;have cn:=(H.cell (p:=ah fb cV) bb).trans aV;have co:=(H.cell (p:=ah fb (cV+1)) bb).trans bs;clear bx H))
          all_goals
           clear k0 z0 ax aV bs u0 cm cn co;go_wp2_with fail;go_roundw
           case rel=>exact⟨i+1,L,more,I,rfl,ac,W,O⟩
           case measure=>simp[intOf];omega
         ·have F:=F lD;have G:=s.out.bd A.out.1 A.out.2.1 A.out.2.2 ar.out F;have ai:Hid ((d.getD 1 (0,0)).1=3->b8 (dV L (d.getD 1 (0,0))) (d.getD 1 (0,0)).2.toNat):=nh (fun l=>by have:=G l;omega)
          generalize d.getD 1 (0,0)=v at*;have U:Hid (eG T wt is C (dV L v) (!dl L v||more) i):=s.out.add bi ar.out F (fun l=>by have:=G l;omega)
          have O:Hid (eG T wt is C (dV L v) (!dl L v||more) (i+1)):=U.out.next (fun _ _ _ u ck l=>by rw[(ad.out _ _ ck).2] at l⊢;exact ai.out l)
          have cJ:Hid (∀w',eZ w' q (ag rb) c w.heap.size L->Calls prog 159 #[.agg #[ae v.1,ae v.2],af q] w' fun e cK=>e=.returned (.bool (!dl L v))/\eZ cK q (ag rb) c w.heap.size (dV L v)/\Fr (fun k=>some k=(Value.slice (ag rb) L.length c).ownBlock) w' cK):=fun w' hB=>nB w' q (ag rb) c w.heap.size L v hB G I;rw[lD] at a3;clear R F cl ad lD G U ai;generalize d.getD 0 (0,0)=v0 at*;clear cg br aF aT k12 bl
          as_aux_lemma=>
          go_upto_region 21 with fail
          go_region_held3 (fun w'=>w'.cell? (ah q 0)=some (.slice (ag rb) L.length c)/\w'.cell? (ah tb 1)=some (.slice (some ⟨fb,cV,none⟩) d.length fc)/\w'.cell? (ah fb cV)=some (ae v0.1)/\w'.cell? (ah fb (cV+1))=some (ae v0.2)) (go_keep)
           (first
             |(go_at_call 93;refine a3.mono ?_;clear a3;rintro e M ⟨rfl,bx⟩;have H:=(Below.refl _ w3).drew.trans (bx.mono bJ);have W:Hid (eZ M q (ag rb) c w.heap.size L/\Below w.heap.size w M):=⟨o.out.1.below H,o.out.2.1.trans (H.mono o.out.2.1.size)⟩;have u0:=(H.cell (p:=ah q 0) cI).trans k0;have cm:=(H.cell (p:=ah tb 1) cH).trans ax;have cn:=(H.cell (p:=ah fb cV) bb).trans aV;have co:=(H.cell (p:=ah fb (cV+1)) bb).trans bs;have c7:=(H.cell (p:=ah fb (cV+2)) bb).trans J;have c8:=(H.cell (p:=ah fb (cV+2+1)) bb).trans y1;clear bx H))
          all_goals
           have K:=cJ.out M W.out.1;clear cJ k0 z0 ax aV bs u0 cn co J y1;cases hs:dl L v
           all_goals
            rw[hs] at K O;clear hs;go_wp2_with fail;refine K.mono ?_;clear K;rintro e cL ⟨rfl,cM,cN⟩
            have c9:Hid (eZ cL q (ag rb) c w.heap.size (dV L v)/\Below w.heap.size w cL):=⟨cM,W.out.2.trans (cN.below W.out.2.size (fun k e=>(bR W.out.1.row k e).1))⟩
            clear cM cN cm c7 c8;go_wp2_with fail;go_roundw
            case rel=>exact⟨i+1,dV L v,_,I,rfl,ac,c9,O⟩
            case measure=>simp[intOf];omega
        ·by_cases k5:kd=5
         ·have b1:(kd==1)=false:=by rw[k5];decide
          have b2:(kd==2)=false:=by rw[k5];decide
          have b3:(kd==3)=false:=by rw[k5];decide
          have b4:(kd==4)=false:=by rw[k5];decide
          have b5:(kd==5)=true:=by rw[k5];decide
          have bT:Hid (∀(X:Nat->Prop)(e:bN),e∈wt->e.1=i->fj T wt X i (3,e.2)):=fun X e he da=>an (an (an (by rw[N.out];exact⟨k5,e,he,da,rfl⟩)))
          have ad:Hid (∀(X:Nat->Prop)(v:Int×Int),fj T wt X i v->∃e∈wt,e.1=i/\v=(3,e.2)):=fun X v n=>by
           unfold fj at n;rw[N.out] at n;dsimp only at n;rcases n with⟨h,_⟩|⟨h,_⟩|⟨h,_⟩|⟨_,h⟩
           ·omega
           ·omega
           ·omega
           ·exact h
          obtain⟨_,bP,_⟩:=b6.out w3 o.out.2.1;clear cg k5 aF aT k12 bl;go_wp2_with fail
          go_loopw [7,11] (fun mv kv wr=>∃(f:Nat)(j:List Bool)(Q:Bool),f<=wt.length/\mv=.bool Q/\kv=ae f/\Hid (eZ wr q (ag rb) c w.heap.size j/\Below w.heap.size w wr)/\Hid (eG T wt is C j Q i/\b8 j i/\∀g,g<f->(wt.getD g (0,0)).1=i->b8 j (wt.getD g (0,0)).2.toNat)) (fun _ kv _=>wt.length-(intOf kv).toNat)
          case atStart=>exact⟨0,L,more,aA _,rfl,rfl,⟨o.out.1,o.out.2.1⟩,⟨s.out,ar.out,fun g h=>absurd h I⟩⟩
          case round=>
           clear o s ar z0 ax S bP;obtain⟨f,j,Q,c3,rfl,rfl,E,B⟩:=hrel;obtain⟨_,bP,cq⟩:=b6.out wr E.out.2;by_cases bn:f<wt.length
           ·obtain⟨fb,cV,rfl,bU,R⟩:=cq I;obtain⟨J,y1⟩:=R f bn;have a0:wt.getD f (0,0)∈wt:=getD_in bn;have q3:(0:Int)<=(f:Int):=I;have c4:(f:Int)<(wt.length:Int):=I;by_cases bd:(wt.getD f (0,0)).1=i
            ·have F:=bT.out (b8 j) _ a0 bd;have G:=B.out.1.bd A.out.1 A.out.2.1 A.out.2.2 B.out.2.1 F;have ai:Hid (∀g,g<f+1->(wt.getD g (0,0)).1=i->b8 (dV j (3,(wt.getD f (0,0)).2)) (wt.getD g (0,0)).2.toNat):=fun g h l=>by
              by_cases c:g<f
              ·exact me _ _ _ (B.out.2.2 g c l)
              ·obtain rfl:g=f:=I;exact nh (v:=(3,(wt.getD g (0,0)).2)) (fun l=>by have:=G l;omega) rfl
             have K:=nB wr q (ag rb) c w.heap.size j (3,(wt.getD f (0,0)).2) E.out.1 G (by have:=B.out.1.len;have:=A.out.2.2;omega)
             have U:Hid (eG T wt is C (dV j (3,(wt.getD f (0,0)).2)) (!dl j (3,(wt.getD f (0,0)).2)||Q) i/\b8 (dV j (3,(wt.getD f (0,0)).2)) i):=⟨B.out.1.add bi B.out.2.1 F (fun l=>by have:=G l;omega),me _ _ _ B.out.2.1⟩
             rw[bd] at J;generalize (wt.getD f (0,0)).2=u at*;clear R G F a0 cq bd;dsimp only at K;cases hs:dl j (3,u)
             all_goals
              rw[hs] at K U;clear hs;go_wp2_with fail;refine K.mono ?_;clear K;rintro e M ⟨rfl,aR,aB⟩
              have W:Hid (eZ M q (ag rb) c w.heap.size (dV j (3,u))/\Below w.heap.size w M):=⟨aR,E.out.2.trans (aB.below E.out.2.size (fun k e=>(bR E.out.1.row k e).1))⟩
              clear aR aB J y1 bP;go_wp2_with fail;go_roundw
              case rel=>exact⟨f+1,dV j (3,u),_,I,rfl,ac,W,⟨U.out.1,U.out.2,ai.out⟩⟩
              case measure=>simp[intOf];omega
            ·have ai:Hid (∀g,g<f+1->(wt.getD g (0,0)).1=i->b8 j (wt.getD g (0,0)).2.toNat):=fun g h l=>by
              by_cases c:g<f
              ·exact B.out.2.2 g c l
              ·obtain rfl:g=f:=I;exact absurd l bd
             have dt:((wt.getD f (0,0)).1==(i:Int))=false:=by simpa using bd
             generalize (wt.getD f (0,0)).1=u at*;clear R a0 cq bd y1;go_wp2_with fail;go_roundw
             case rel=>exact⟨f+1,j,Q,I,rfl,ac,E,⟨B.out.1,B.out.2.1,ai.out⟩⟩
             case measure=>simp[intOf];omega
           ·obtain rfl:f=wt.length:=I;have O:Hid (eG T wt is C j Q (i+1)):=B.out.1.next (fun _ _ _ v n _=>by
             obtain⟨db,dc,bQ,rfl⟩:=ad.out _ _ n;obtain⟨g,bo,e⟩:=List.mem_iff_getElem.1 dc;have bp:wt.getD g (0,0)=db:=by rw[aj,am bo,e];rfl
             have:=B.out.2.2 g bo (by rw[bp];exact bQ)
             rwa [bp] at this)
            go_wp2_with fail;go_roundw
            case rel=>exact⟨i+1,j,Q,I,rfl,ac,E,O⟩
            case measure=>simp[intOf];omega
         ·have b1:(kd==1)=false:=by simp;omega
          have b2:(kd==2)=false:=by simp;omega
          have b3:(kd==3)=false:=by simp;omega
          have b4:(kd==4)=false:=by simp;omega
          have b5:(kd==5)=false:=by simp;omega
          have O:Hid (eG T wt is C L more (i+1)):=s.out.next (fun _ _ _ v n _=>by unfold fj at n;rw[N.out] at n;dsimp only at n;rcases n with⟨h,_⟩|⟨h,_⟩|⟨h,_⟩|⟨h,_⟩<;>omega)
          go_wp2_with fail;go_roundw
          case rel=>exact⟨i+1,L,more,I,rfl,ac,⟨o.out.1,o.out.2.1⟩,O⟩
          case measure=>simp[intOf];omega
    ·obtain rfl:i=T.length:=I;cases more
     ·have cd:=s.out.done;have dd:=(s.out.no rfl).1;go_wp2_with fail
      go_roundg (cnt C)
      case measure=>omega
      case rel=>exact⟨L,false,rfl,S,⟨s.out.len,s.out.up,s.out.lt⟩,⟨fun h=>(by cases h),fun _=>⟨by rw[dd];exact ak _,cd⟩⟩⟩
     ·have hc:=s.out.yes rfl;go_wp2_with fail
      go_roundg (cnt L+1)
      case measure=>omega
      case rel=>exact⟨L,true,rfl,S,⟨s.out.len,s.out.up,s.out.lt⟩,⟨fun _=>ak _,fun h=>by cases h⟩⟩
end
section
variable {rp rb:Nat}{bS bT:Int}{F:Nat->Prop}{s:b_}{w:World}
def b_.th (s:b_)(i:Nat):Int:=if(s.rs.getD i (0,0)).1=3 then(s.rs.getD i (0,0)).2 else-1
def b_.gd (s:b_)(i:Nat):Int:=if s.th i<0 then-1 else if(s.T.getD (s.th i).toNat (0,[],false,false)).1=5 then s.th i else-1
theorem nD (h:(cf rp rb bS bT).J F s w)(i:Nat)(hi:i<12):
 Calls prog 44 #[af rp,ae i] w fun e w'=>e=.returned (ae (s.th i))/\w'=w:=by
 obtain⟨c1,_,_,_,_,_,_,b⟩:=fT h;obtain⟨c,d,_⟩:=b i hi;have E:Hid (s.th i=if(s.rs.getD i (0,0)).1=3 then(s.rs.getD i (0,0)).2 else-1):=rfl;generalize s.th i=z at E⊢;generalize (s.rs.getD i (0,0)).1=k at c E;generalize (s.rs.getD i (0,0)).2=n at d E;have f:(0:Int)<=(i:Int):=I;have g:(i:Int)<12:=I;clear h b;by_cases hk:k=3
 ·subst hk;have a:Hid (z=n):=E.out;go_enter func44,ntmps44;go_wp2_with fail;go_ret;rw[a.out];exact⟨rfl,rfl⟩
 ·have a:Hid (z=-1):=E.out.trans (ao hk)
  have j:¬3=k:=fun e=>hk e.symm;go_enter func44,ntmps44;go_wp2_with fail;go_ret;rw[a.out];exact⟨rfl,rfl⟩
theorem xw (h:(cf rp rb bS bT).J F s w)(i:Nat)(hi:i<12)(f:0<=s.th i->s.th i<s.T.length):
 Calls prog 45 #[af rp,ae i] w fun e w'=>e=.returned (ae (s.gd i))/\w'=w:=by
 have P:=nD h i hi;obtain⟨o,cT,c0,_,g⟩:=jq h;have E:Hid (s.gd i=if s.th i<0 then-1 else if(s.T.getD (s.th i).toNat (0,[],false,false)).1=5 then s.th i else-1):=rfl;generalize s.gd i=z at E⊢;generalize s.th i=a at P E f;clear h;by_cases ha:a<0
 ·have d:Hid (z=-1):=E.out.trans (aq ha)
  clear g;go_enter func45,ntmps45;go_wp2_with fail;refine P.mono ?_;rintro e w1 ⟨rfl,rfl⟩
  go_wp2_with fail;go_ret;rw[d.out];exact⟨rfl,rfl⟩
 ·obtain⟨j,rfl⟩:∃j:Nat,a=j:=⟨a.toNat,I⟩
  have p:=f I;have m:j<s.T.length:=I;obtain⟨t,ht⟩:∃t,s.T[j]?=some t:=⟨_,am m⟩
  obtain⟨b,q,cp,rfl,n,_⟩:=g j t ht;have d:Hid (z=if t.1=5 then(j:Int) else-1):=by show _=_;rw[E.out,ao ha,Int.toNat_natCast,aj,ht];rfl
  generalize t.1=k at n d;have j0:(0:Int)<=(j:Int):=I;have u:decide ((j:Int)<0)=false:=V;clear g ht E f;by_cases hk:k=5
  ·subst hk;have l:Hid (z=j):=d.out;go_enter func45,ntmps45;go_wp2_with fail;refine P.mono ?_;rintro e w1 ⟨rfl,c⟩
   have c:=c.symm;subst c;go_wp2_with fail;go_ret;rw[l.out];exact⟨rfl,rfl⟩
  ·have l:Hid (z=-1):=d.out.trans (ao hk)
   have v:(k !=5)=true:=by simpa using hk
   go_enter func45,ntmps45;go_wp2_with fail;refine P.mono ?_;rintro e w1 ⟨rfl,c⟩
   have c:=c.symm;subst c;go_wp2_with fail;go_ret;rw[l.out];exact⟨rfl,rfl⟩
end
theorem si (k f:Int)(w:World):Calls prog 66 #[ae k,ae f] w fun e w'=>e=.returned (ae (hc k f))/\w'=w:=by
 by_cases d:k=1
 ·subst d;by_cases c:f=2
  ·subst c;go_enter func66,ntmps66;go_wp2_with fail;go_ret;exact⟨rfl,rfl⟩
  ·have e:hc 1 f=1:=by simp[hc,c]
   rw[e];go_enter func66,ntmps66;go_wp2_with fail;go_ret;exact⟨rfl,rfl⟩
 by_cases g:k=3
 ·subst g;by_cases c:f=2
  ·subst c;go_enter func66,ntmps66;go_wp2_with fail;go_ret;exact⟨rfl,rfl⟩
  ·have e:hc 3 f=1:=by simp[hc,c]
   rw[e];go_enter func66,ntmps66;go_wp2_with fail;go_ret;exact⟨rfl,rfl⟩
 by_cases i:k=4
 ·subst i;by_cases c:f=2
  ·subst c;go_enter func66,ntmps66;go_wp2_with fail;go_ret;exact⟨rfl,rfl⟩
  ·have e:hc 4 f=1:=by simp[hc,c]
   rw[e];go_enter func66,ntmps66;go_wp2_with fail;go_ret;exact⟨rfl,rfl⟩
 by_cases j:k=5
 ·subst j;by_cases c:f=0
  ·subst c;go_enter func66,ntmps66;go_wp2_with fail;go_ret;exact⟨rfl,rfl⟩
  ·have e:hc 5 f=1:=by simp[hc,c]
   rw[e];go_enter func66,ntmps66;go_wp2_with fail;go_ret;exact⟨rfl,rfl⟩
 by_cases c:k=2
 ·subst c;by_cases a:f<0
  ·have e:hc 2 f=1:=by simp[hc,a]
   rw[e];go_enter func66,ntmps66;go_wp2_with fail;go_ret;exact⟨rfl,rfl⟩
  ·by_cases b:12<f
   ·have e:hc 2 f=1:=by simp[hc,b]
    rw[e];go_enter func66,ntmps66;go_wp2_with fail;go_ret;exact⟨rfl,rfl⟩
   ·have e:hc 2 f=0:=by simp[hc,a,b]
    rw[e];go_enter func66,ntmps66;go_wp2_with fail;go_ret;exact⟨rfl,rfl⟩
 have e:hc k f=2:=by simp[hc,d,c,g,i,j]
 rw[e];have g1:(k==1)=false:=by simpa using d
 have g2:(k==2)=false:=by simpa using c
 have g3:(k==3)=false:=by simpa using g
 have l:(k==4)=false:=by simpa using i
 have m:(k==5)=false:=by simpa using j
 go_enter func66,ntmps66;go_wp2_with fail;go_ret;exact⟨rfl,rfl⟩
theorem xy {w:World}{b k n size:Nat}{T:TypeId}{xs:List Value}(h:w.ownsRow b T size (.slice (ag k) n n) n xs):w.heap[k]?=some (.cells xs.toArray T (0,0)):=by
 obtain⟨j,c⟩:=h;rcases c with⟨e,_⟩|⟨m,o,a,d,p,f,q,s,t,g⟩
 ·cases e
 ·cases d;rw[f];have:a.toList=xs:=by rw[<-List.take_of_length_le (l:=a.toList) (i:=n*size) (by simp;omega),g]
  rw[<-this]
theorem xz (n o:Int)(w:World):Calls prog 12 #[ae n,ae o] w fun e w'=>∃rp rb F,e=.returned (af rp)/\(cf rp rb n o).J F ⟨[],List.replicate 12 (0,0),[],[]⟩ w'/\(∀b,F b->w.heap.size<=b)/\Below w.heap.size w w':=by
 obtain⟨d,hi,f,g,i⟩:=info_parts kA;go_enter func12,ntmps12;go_wp2_with (at_make;refine wpList_make_full _ rfl _ _ 57 rfl w.heap.size 77 d (.agg #[ae 0,ae 0]) 2 Tryz.underlying57 hi f g .i64 .i64 _ _ 12 rfl rfl I I (by rw[i];omega) (by unfold maxLen;omega) V ?_;intro w1 j k)
 go_ret;have a:=xy j;have l:(madeCells (Value.agg #[ae 0,ae 0]).cells (12*2)).toList=ev (List.replicate 12 (0,0)):=ab;rw[l] at a;have m:=lt_of_some a;have p:Below w.heap.size w w1:=bK.grown k bJ (fun _ h=>by cases h)
 have q:=aw w1 (.cells #[.slice none 0 0,.slice (ag w.heap.size) 12 12,.slice none 0 0,.slice none 0 0,ae n,ae o] 91)
 refine⟨w1.heap.size,w.heap.size,fun b=>b=w1.heap.size\/b=w.heap.size,rfl,⟨fun b=>if b=w1.heap.size then 1 else if b=w.heap.size then 4 else 0,[],.slice none 0 0,.slice none 0 0,.slice none 0 0,?_,fun b=>?_⟩,fun b c=>I,p.alloc I _⟩
 ·exact {
   blk:=q,b1:=by rw[aq rfl],row:=aO _ _ _ _,ro:=fun b e=>by simp[Value.ownBlock] at e,nd:=rfl,fl:=fun x s=>by simp at s
   rt:=(Below.heap_alloc _ _ _ m).trans a
   rl:=rfl
   r1:=by rw[ao I,aq rfl]
   g2:=aO _ _ _ _,fq:=fun b e=>by simp[Value.ownBlock] at e
   g3:=aO _ _ _ _,fK:=fun b e=>by simp[Value.ownBlock] at e
   lt:=fun b c=>by
    simp only [World.size_alloc];by_cases c1:b=w1.heap.size
    ·omega
    ·by_cases c2:b=w.heap.size
     ·omega
     ·rw[ao c1,ao c2] at c;exact absurd rfl c}
 ·by_cases c1:b=w1.heap.size
  ·simp[c1]
  ·by_cases c2:b=w.heap.size
   ·simp[c2,show¬w.heap.size=w1.heap.size by omega]
   ·simp[c1,c2]
end Go.Proofs.YtjpjpjemibgjpaaGreat
