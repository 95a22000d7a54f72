import Derived.Test.YtjpjpjemibgjpaaGreatJ13
import Derived.Test.YtjpjpjemibgjpaaGreatJ15
import Derived.Test.YtjpjpjemibgjpaaGreatJ00
import Derived.Test.YtjpjpjemibgjpaaGreatJ01
import Derived.Test.YtjpjpjemibgjpaaGreatJ02
import Derived.Test.YtjpjpjemibgjpaaGreatJ07
import Derived.Test.YtjpjpjemibgjpaaGreatJ04
import Derived.Test.YtjpjpjemibgjpaaGreatJ03
import Derived.Test.YtjpjpjemibgjpaaGreatJ05
import Derived.Test.YtjpjpjemibgjpaaGreatJ06
namespace Go.Proofs.YtjpjpjemibgjpaaGreat
set_option maxRecDepth 100000
set_option maxHeartbeats 8000000
open Tryz
open Go.RowKit W Kp bY
section
variable {rp rb:Nat}{bS bT:Int}{F:Nat->Prop}{s:b_}{w:World}
theorem BB (h:(cf rp rb bS bT).J F s w)(al:iJ s)(h0:0<=bT)(aV:bT<=100000)(d:Bool)(cC:d=false->¬bT-(d8 s.T).2<(d8 s.T).1)(g:List Bool->List Bool)(hg:e_ s.T s.wt g):
 Calls prog 34 #[af rp,.bool d] w fun e w'=>∃dM,e=.returned (ae (s.g9 g bT d))/\(cf rp rb bS bT).J dM (s.cut g bT d) w'/\bM F w dM w':=by
 have dN:=mh h al.t12 al.tl;have bd:=mf s.T al.t12;have ht:=al.tl;have cb:Hid ((cf rp rb bS bT).J F s w):=h;have U:Hid (iJ s):=al;have dO:Hid (e_ s.T s.wt g):=hg;have eY:Hid (s.cF g bT d=decide (bT<f2 s.T (s.cR g d).1 s.T.length)):=by
  show _=_;unfold b_.cF;cases d
  ·rw[aZ (cC rfl)];rfl
  ·rfl
 have dQ:Hid (d=false->¬bT-(d8 s.T).2<(d8 s.T).1):=cC;obtain⟨_,_,bL,_⟩:=fT h;have dR:Hid (∀w',Below w.heap.size w w'->w'.cell? (ah rp 5)=some (ae bT)):=fun w' a0=>(a0.cell (p:=ah rp 5) (au w _ bL)).trans bL;have dS:Hid (∀w',Below w.heap.size w w'->Calls prog 92 #[af rp,.bool d] w' fun e bl=>∃b,e=.returned (.slice (ag b) s.T.length s.T.length)/\(bl.ownsRow w'.heap.size 4 1 (.slice (ag b) s.T.length s.T.length) s.T.length ((iG s.T s.rs d).map Value.bool))/\Below w'.heap.size w' bl):=fun w' a0=>xC ((cf rp rb bS bT).below h a0) d al.tl (fun v eZ c4=>by obtain⟨q1,bO⟩:=al.rv v eZ c4;have:=bO.1;exact⟨q1,I⟩)
 have c5:Hid (∀w' b,Below w.heap.size w w'->w'.ownsRow w.heap.size 4 1 (.slice (ag b) s.T.length s.T.length) s.T.length ((iG s.T s.rs d).map Value.bool)->Calls prog 91 #[af rp,.slice (ag b) s.T.length s.T.length] w' fun e bl=>∃J c,e=.returned (.slice J s.T.length c)/\bl.ownsRow w'.heap.size 4 1 (.slice J s.T.length c) s.T.length ((s.c0 g d).map Value.bool)/\Below w'.heap.size w' bl):=fun w' b a0 cq=>by
  have c6:=al.first d;have hl:=ni s.T s.rs d;rw[<-hl] at cq;have P:=sg ((pi h).below a0) al.iv (ag b) s.T.length (mj cq) (fun e=>by cases e) hl al.tl (az al.wl I) c6.al;rw[hl] at P;refine P.mono ?_;rintro e bl ⟨J,c,cd,rfl,q1,bO,q3⟩
  have eo:cd=s.c0 g d:=bO.uniq (hg _ c6.len c6.al)
  have c7:cd.length=s.T.length:=bO.len.trans hl;rw[c7] at q1⊢;rw[eo] at q1;exact⟨J,c,rfl,q1,q3⟩
 have dT:Hid (fp s.T (s.c0 g d)):=(hg.ok al.iv (al.first d)).1;have fH:Hid (s.g9 g bT d=if s.cF g bT d=true then 3 else 0):=rfl;generalize dU:s.g9 g bT d=cc at*;generalize dV:s.cut g bT d=c8 at*;have cD:Hid (s.g9 g bT d=cc/\s.cut g bT d=c8):=⟨dU,dV⟩
 generalize (d8 s.T).1=a at*;generalize (d8 s.T).2=b at*;have a1:a<=130000:=I;have b1:b<=130000:=I;obtain⟨fI,_,b0,_⟩:=bd;clear h al hg cC bL dU dV;go_enter func34,ntmps34;go_wp2_with fail;refine dN.mono ?_;clear dN;rintro e w1 ⟨rfl,cF⟩
 have bL:=dR.out w1 cF;have c9:=dS.out w1 cF;have cG:Hid (Below w.heap.size w w1):=cF;clear cF dS;have dW:d=true\/(d=false/\a<=bT-b):=by
  cases d
  ·exact an ⟨rfl,by have:=dQ.out rfl;omega⟩
  ·exact ap rfl
 clear dQ
 go_upto_region 2 with fail
 go_cut [39] (fun e0 e1=>e0=.bool false/\e1=w1)
 case first=>
  clear c9 dR c5;rcases dW with rfl|⟨rfl,fJ⟩
  ·go_wp2_with fail
   go_meet
   case rel=>exact⟨rfl,rfl⟩
  ·go_wp2_with fail
   go_meet
   case rel=>exact⟨by rw[aZ I],rfl⟩
 case rest=>
  obtain⟨rfl,rfl⟩:=hcut;clear dW bL;go_wp2_with fail;refine c9.mono ?_;clear c9;rintro e da ⟨fb,rfl,db,dX⟩
  have dc:Below w.heap.size w da:=cG.out.trans (dX.mono cG.out.size)
  have dY:=c5.out da fb dc (d5 db (fun k e=>az cG.out.size (bR db k e).1))
  have cH:Hid (Below w.heap.size w da):=dc;clear db dX dc c5 cG;go_wp2_with fail;refine dY.mono ?_;clear dY;rintro e w3 ⟨J,c,rfl,dd,dZ⟩
  have a3:Hid (w3.ownsRow w.heap.size 4 1 (.slice J s.T.length c) s.T.length ((s.c0 g d).map Value.bool)/\Below w.heap.size w w3):=⟨d5 dd (fun k e=>az cH.out.size (bR dd k e).1),cH.out.trans (dZ.mono cH.out.size)⟩
  clear dd dZ cH;have de:Hid (∀w',Below w.heap.size w w'->∃v2 bY,w'.cell? (ah rp 2)=some v2/\w'.cell? (ah rp 3)=some bY/\w'.ownsRow 0 97 2 v2 s.rg.length (ev s.rg)/\w'.ownsRow 0 97 2 bY s.wt.length (ev s.wt)):=fun w' a0=>by
   obtain⟨v2,bY,q1,bO,q3,d0,_⟩:=nn ((cf rp rb bS bT).below cb.out a0)
   exact⟨v2,bY,q1,bO,q3,d0⟩
  obtain⟨v2,bY,ce,cg,bb,r3⟩:=de.out w3 a3.out.2;obtain⟨a2,c2,ch⟩:=dG bb;subst ch;obtain⟨d1,df,dg,dh,di⟩:=info_parts pa;have fK:=U.out.gl;clear bb r3 cg
  go_upto_region 6 with(at_make;refine wpList_make_full _ rfl _ _ 145 rfl w3.heap.size 4 d1 (.bool false) 1 Tryz.underlying145 df dg dh .i64 .i64 _ _ s.rg.length rfl rfl I I (by rw[di];omega) (by unfold maxLen;omega) bJ ?_;intro be dj d2)
  have cI:Below w3.heap.size w3 be:=(Below.refl _ w3).grown d2 bJ (fun _ h=>by cases h)
  have aF:Hid (be.ownsRow w.heap.size 4 1 (.slice J s.T.length c) s.T.length ((s.c0 g d).map Value.bool)/\Below w.heap.size w be/\be.ownsRow w.heap.size 4 1 (.slice (ag w3.heap.size) s.rg.length s.rg.length) s.rg.length ((List.replicate s.rg.length false).map Value.bool)/\(∀k,some k=(Value.slice J s.T.length c).ownBlock->k<w3.heap.size)/\w.heap.size<=w3.heap.size):=⟨ca a3.out.1 (fun k e=>cI.block k (bR a3.out.1 k e).2),a3.out.2.trans (cI.mono a3.out.2.size),d5 (mm dj) (fun k e=>az a3.out.2.size (bR (mm dj) k e).1),fun k e=>(bR a3.out.1 k e).2,a3.out.2.size⟩
  have e2:=(cI.cell (p:=ah rp 2) (au w3 _ ce)).trans ce;clear dj d2 cI a3 ce;generalize w3.heap.size=A at*
  go_upto_region 7 with(at_make;refine wpList_make_full _ rfl _ _ 145 rfl be.heap.size 4 d1 (.bool false) 1 Tryz.underlying145 df dg dh .i64 .i64 _ _ s.rg.length rfl rfl I I (by rw[di];omega) (by unfold maxLen;omega) bJ ?_;intro cr dk d3)
  have cJ:Below be.heap.size be cr:=(Below.refl _ be).grown d3 bJ (fun _ h=>by cases h)
  have dl:A<be.heap.size:=(bR aF.out.2.2.1 A rfl).2;have d4:Hid (cr.ownsRow w.heap.size 4 1 (.slice J s.T.length c) s.T.length ((s.c0 g d).map Value.bool)/\Below w.heap.size w cr/\cr.ownsRow w.heap.size 4 1 (.slice (ag A) s.rg.length s.rg.length) s.rg.length ((((s.rg.take 0).map (fun e=>!cn (s.c0 g d) e.2))++List.replicate (s.rg.length-0) false).map Value.bool)/\cr.ownsRow w.heap.size 4 1 (.slice (ag be.heap.size) s.rg.length s.rg.length) s.rg.length ((List.replicate s.rg.length false).map Value.bool)):=⟨ca aF.out.1 (fun k e=>cJ.block k (bR aF.out.1 k e).2),aF.out.2.1.trans (cJ.mono aF.out.2.1.size),by
   have:=ca aF.out.2.2.1 (fun k e=>cJ.block k (bR aF.out.2.2.1 k e).2)
   simpa using this,d5 (mm dk) (fun k e=>az aF.out.2.1.size (bR (mm dk) k e).1)⟩
  have bo:Hid ((∀k,some k=(Value.slice J s.T.length c).ownBlock->k<A)/\A<be.heap.size/\w.heap.size<=A):=⟨aF.out.2.2.2.1,dl,aF.out.2.2.2.2⟩
  clear dk d3 cJ aF e2 dl df dg dh di;generalize be.heap.size=O at*;go_wp2_with fail
  go_loopw [10] (fun iv wr=>∃i:Nat,i<=s.rg.length/\iv=ae i/\Hid (wr.ownsRow w.heap.size 4 1 (.slice J s.T.length c) s.T.length ((s.c0 g d).map Value.bool)/\Below w.heap.size w wr/\wr.ownsRow w.heap.size 4 1 (.slice (ag A) s.rg.length s.rg.length) s.rg.length ((((s.rg.take i).map (fun e=>!cn (s.c0 g d) e.2))++List.replicate (s.rg.length-i) false).map Value.bool)/\wr.ownsRow w.heap.size 4 1 (.slice (ag O) s.rg.length s.rg.length) s.rg.length ((List.replicate s.rg.length false).map Value.bool))) (fun iv _=>s.rg.length-(intOf iv).toNat)
  case atStart=>exact⟨0,aA _,rfl,d4⟩
  case round=>
   clear d4;obtain⟨i,hi,rfl,H⟩:=hrel;obtain⟨v2,bY,ce,cg,bb,r3⟩:=de.out wr H.out.2.1;obtain⟨W,X,ch⟩:=dG bb;subst ch;by_cases Y:i<s.rg.length
   ·obtain⟨fb,cV,rfl,e3,cs⟩:=fR bb I;obtain⟨cj,y1⟩:=cs i Y;have ck:s.rg.getD i (0,0)∈s.rg:=getD_in Y;obtain⟨_,n0,n1⟩:=U.out.gv _ ck;have dm:=xD (fun e:bN=>!cn (s.c0 g d) e.2) s.rg i Y (0,0)
    have fL:=dT.out.len;obtain⟨n,cK⟩:=Int.eq_ofNat_of_zero_le n0;rw[cK] at y1;have n1:n<s.T.length:=by have:=n1.1;rw[cK] at this;simpa using this
    have d6:(!cn (s.c0 g d) (s.rg.getD i (0,0)).2)=!(s.c0 g d).getD n false:=by rw[cK];rfl
    rw[d6] at dm;obtain⟨dn,d7,cL⟩:=dP H.out.1 I;obtain⟨rfl,rfl⟩:J=ag dn/\c=d7:=by simpa using cL
    have u0:=(eO H.out.1 (ie (L:=s.c0 g d) (i:=n) I)).1;have d9:=ie (L:=((s.rg.take i).map (fun e:bN=>!cn (s.c0 g d) e.2))++List.replicate (s.rg.length-i) false) (i:=i) (by rw[xE _ _ _ hi];exact Y)
    obtain⟨cM,fM⟩:=eO H.out.2.2.1 d9;have B:Hid ((wr.setCell ⟨A,i,none⟩ (.bool (!(s.c0 g d).getD n false))).ownsRow w.heap.size 4 1 (.slice (ag dn) s.T.length c) s.T.length ((s.c0 g d).map Value.bool)/\Below w.heap.size w (wr.setCell ⟨A,i,none⟩ (.bool (!(s.c0 g d).getD n false)))/\(wr.setCell ⟨A,i,none⟩ (.bool (!(s.c0 g d).getD n false))).ownsRow w.heap.size 4 1 (.slice (ag A) s.rg.length s.rg.length) s.rg.length ((((s.rg.take (i+1)).map (fun e=>!cn (s.c0 g d) e.2))++List.replicate (s.rg.length-(i+1)) false).map Value.bool)/\(wr.setCell ⟨A,i,none⟩ (.bool (!(s.c0 g d).getD n false))).ownsRow w.heap.size 4 1 (.slice (ag O) s.rg.length s.rg.length) s.rg.length ((List.replicate s.rg.length false).map Value.bool)):=by
     have ct:∀k,k≠A->(wr.setCell ⟨A,i,none⟩ (.bool (!(s.c0 g d).getD n false))).heap[k]?=wr.heap[k]?:=fun k hk=>Below.heap_setCell _ _ _ _ hk;refine⟨ca H.out.1 (fun k e=>ct k (fun ea=>by have:=bo.out.1 k e;omega)),H.out.2.1.trans (((Fr.refl (fun k=>k=A) wr).set A i _ rfl).below H.out.2.1.size (fun k e=>by have e:k=A:=e;have:=bo.out.2.2;omega)),?_,ca H.out.2.2.2 (fun k e=>ct k (fun ea=>by have e:some k=some O:=e;cases e;have:=bo.out.2.1;omega))⟩
     rw[<-dm,List.map_set];exact h7 H.out.2.2.1 i _
    have q0:(0:Int)<=(i:Int):=I;have q1:(i:Int)<(s.rg.length:Int):=I;have bO:(0:Int)<=(n:Int):=I;have q3:(n:Int)<(s.T.length:Int):=I;clear cs ck n0 dm cK d6 cL d9 H bb r3 cg;generalize (s.c0 g d).getD n false=fN at*
    as_aux_lemma=>
    go_wp2_with fail;go_roundw
    case rel=>exact⟨i+1,I,ac,B⟩
    case measure=>simp[intOf];omega
   ·obtain rfl:i=s.rg.length:=I;have ai:Hid (wr.ownsRow w.heap.size 4 1 (.slice J s.T.length c) s.T.length ((s.c0 g d).map Value.bool)/\Below w.heap.size w wr/\wr.ownsRow w.heap.size 4 1 (.slice (ag A) s.rg.length s.rg.length) s.rg.length ((s.rg.map (fun e=>!cn (s.c0 g d) e.2)).map Value.bool)/\wr.ownsRow w.heap.size 4 1 (.slice (ag O) s.rg.length s.rg.length) s.rg.length ((List.replicate s.rg.length false).map Value.bool)):=⟨H.out.1,H.out.2.1,by
     have:=H.out.2.2.1;rw[aP,Nat.sub_self] at this
     simpa using this,H.out.2.2.2⟩
    clear H bb;have eb:=(cf rp rb bS bT).below cb.out ai.out.2.1;obtain⟨Q,cT,cu,ec⟩:=(pi cb.out).th;have c0:=(ai.out.2.1.cell (p:=ah rp 0) (au w _ cu)).trans cu;have e4:Hid (∀w',Below w.heap.size w w'->w'.cell? (ah rp 0)=some (.slice Q s.T.length cT)):=fun w' a0=>(a0.cell (p:=ah rp 0) (au w _ cu)).trans cu;have ed:Hid (∀w',Below w.heap.size w w'->∀(i:Nat)(x:cE),s.T[i]?=some x->∃b J cp,Q=ag b/\w'.cell? (ah b (i*4))=some (ae x.1)/\w'.cell? (ah b (i*4+1))=some (.slice J x.2.1.length cp)/\w'.cell? (ah b (i*4+2))=some (.bool x.2.2.1)/\w'.cell? (ah b (i*4+3))=some (.bool x.2.2.2)/\cS w' J x.2.1):=fun w' a0 i x bP=>by obtain⟨b,J,cp,e,cj,y1,ee,ef,e5⟩:=ec i x bP;have k:∀{a:Addr}{v:Value},w.cell? a=some v->w'.cell? a=some v:=fun {a v} e=>(a0.cell (p:=a) (au w _ e)).trans e;exact⟨b,J,cp,e,k cj,k y1,k ee,k ef,e5.below a0⟩
    clear cu ec;obtain⟨c1,e6,bL,_⟩:=fT eb;obtain⟨bp,bQ,dq⟩:=dG r3;subst dq;have eg:=fR r3;have eh:bp=none->s.wt.length=0/\bQ=0:=pr r3;obtain⟨ei,ej,ek,el,em⟩:=info_parts sk;have fO:=U.out.wl;have cN:=(Below.refl wr.heap.size wr).alloc bJ (.cells #[.slice Q s.T.length cT,.slice (ag rb) 12 12,.slice W s.rg.length X,.slice bp s.wt.length bQ,ae bS,ae bT] 91)
    have dr:=aw wr (.cells #[.slice Q s.T.length cT,.slice (ag rb) 12 12,.slice W s.rg.length X,.slice bp s.wt.length bQ,ae bS,ae bT] 91)
    clear eb r3
    go_upto_region 12 with fail
    generalize wr.alloc (.cells #[.slice Q s.T.length cT,.slice (some ⟨rb,0,none⟩) 12 12,.slice W s.rg.length X,.slice bp s.wt.length bQ,.int .i64 bS,.int .i64 bT] 91)=ar at*;have cl:Hid (ar.heap[wr.heap.size]?=some (.cells #[.slice Q s.T.length cT,.slice (some ⟨rb,0,none⟩) 12 12,.slice W s.rg.length X,.slice bp s.wt.length bQ,.int .i64 bS,.int .i64 bT] 91 (0,0))/\Below wr.heap.size wr ar):=⟨dr,cN⟩
    have en:=(cN.cell (p:=ah rp 3) (au wr _ cg)).trans cg;have e7:rp<ar.heap.size:=au ar _ en;have ep:=xF ar;have cm:=(Below.refl ar.heap.size ar).alloc bJ (.cells #[] 97)
    have ds:Hid (cS (ar.alloc (.cells #[] 97)) bp s.wt/\(bp=none->s.wt.length=0/\bQ=0)):=⟨(eg.below cN).below cm,eh⟩
    have eq:=lt_of_some dr;clear dr cN eg eh cg c0 c1 e6 bL ce
    go_upto_region 13 with(at_builtin;refine hS _ rfl _ _ 89 rfl ar.heap.size 97 ei (.agg #[ae 0,ae 0]) 2 16 Tryz.underlying89 ej ek el em rfl Z (.slice (ag ar.heap.size) 0 0) 0 [] rfl ep bp s.wt.length bQ (ev s.wt) rfl (kq s.wt) ds.out.2 ds.out.1.cells (jM s.wt) (by unfold maxLen;omega) I V ?_;intro K N br cw er _;rw[Nat.zero_add,List.nil_append] at cw;have cx:Below ar.heap.size ar br:=(cm.trans ((Below.refl ar.heap.size (ar.alloc (.cells #[] 97))).grown er V (fun k e=>by simp[Value.ownBlock] at e;omega)));have cO:=(cx.block wr.heap.size eq).trans cl.out.1;have u0:br.cell? (ah wr.heap.size 3)=some (.slice bp s.wt.length bQ):=(by simp[World.cell?,cO]);have cM:br.frozen? (ah wr.heap.size 3)=false:=(by simp[World.frozen?,cO]))
    have es:Hid (eI w s A O wr.heap.size (.slice Q s.T.length cT) (.slice (ag rb) 12 12) (.slice W s.rg.length X) bS bT (s.rg.map (fun e=>!cn (s.c0 g d) e.2)) (br.setCell ⟨wr.heap.size,3,none⟩ (.slice K s.wt.length N)) J c (s.c0 g d) (List.replicate s.rg.length false) []):=by
     have ct:∀k,k≠wr.heap.size->(br.setCell ⟨wr.heap.size,3,none⟩ (.slice K s.wt.length N)).heap[k]?=br.heap[k]?:=fun k hk=>Below.heap_setCell _ _ _ _ hk;have dt:∀k,k<wr.heap.size->(br.setCell ⟨wr.heap.size,3,none⟩ (.slice K s.wt.length N)).heap[k]?=wr.heap[k]?:=fun k hk=>(ct k I).trans ((cx.block k (by have:=cl.out.2.size;omega)).trans (cl.out.2.block k hk))
     have e8:=cl.out.2.size;refine⟨ca ai.out.1 (fun k e=>dt k (bR ai.out.1 k e).2),?_,ca ai.out.2.2.1 (fun k e=>dt k (bR ai.out.2.2.1 k e).2),ca ai.out.2.2.2 (fun k e=>dt k (bR ai.out.2.2.2 k e).2),⟨K,N,?_,?_⟩,fun k e=>⟨by have:=bo.out.1 k e;omega,by have:=bo.out.1 k e;have:=bo.out.2.1;omega⟩⟩
     ·refine(ai.out.2.1.trans ((cl.out.2.trans (cx.mono e8)).mono ai.out.2.1.size)).trans (((Fr.refl (fun k=>k=wr.heap.size) br).set wr.heap.size 3 _ rfl).below ?_ (fun k e=>by have e:k=wr.heap.size:=e;have:=ai.out.2.1.size;omega))
      have:=ai.out.2.1.size;have:=cx.size;omega
     ·rw[List.append_nil];simp only [World.setCell,Array.getElem?_modify,if_true,cO,Option.map_some];simp
     ·rw[List.append_nil];refine ca (d5 cw (fun k e=>?_)) (fun k e=>ct k (fun ea=>?_))
      ·have:=(bR cw k e).1;have:=ai.out.2.1.size;omega
      ·have:=(bR cw k e).1;omega
    have et:Hid (O<wr.heap.size/\w.heap.size<=A/\A<O):=⟨(bR ai.out.2.2.2 O rfl).2,bo.out.2.2,bo.out.2.1⟩
    clear ai cO u0 cM cw er cx cl en e7 ep cm ds eq bo;generalize br.setCell ⟨wr.heap.size,3,none⟩ (.slice K s.wt.length N)=fP at*;generalize wr.heap.size=G at*;have eu:Hid (rem s.rg (s.rg.map (fun e=>!cn (s.c0 g d) e.2)) (List.replicate s.rg.length false)=s.rg.filter (fun e=>!cn (s.c0 g d) e.2)):=qO (fun e=>cn (s.c0 g d) e.2) s.rg;have ew:Hid (turns cn (dp g) (s.rg.length+1) (rem s.rg (s.rg.map (fun e=>!cn (s.c0 g d) e.2)) (List.replicate s.rg.length false)) (s.c0 g d) []=s.cR g d):=by show _=_;rw[eu.out];rfl
    generalize hD:s.rg.map (fun e=>!cn (s.c0 g d) e.2)=D at*;have ex:Hid (D.length=s.rg.length):=by show _=_;rw[<-hD,aE]
    go_wp2_with fail
    go_loopg [7,12] (s.rg.length+1) (fun m iv mv wr=>∃(aR:Option Addr)(ci:Nat)(L M:List Bool)(C:List bN)(more:Bool),iv=.slice aR s.T.length ci/\mv=.bool more/\Hid (eI w s A O G (.slice Q s.T.length cT) (.slice (ag rb) 12 12) (.slice W s.rg.length X) bS bT D wr aR ci L M C)/\Hid (M.length=s.rg.length/\fp s.T L/\(∀e∈C,e∈s.rg/\b8 L e.2.toNat)/\C.length+(rem s.rg D M).length<=s.rg.length)/\Hid ((more=true->turns cn (dp g) m (rem s.rg D M) L C=s.cR g d/\(rem s.rg D M).length+1<=m)/\(more=false->(L,C,rem s.rg D M)=s.cR g d)))
    case atStart=>exact⟨J,c,s.c0 g d,List.replicate s.rg.length false,[],true,rfl,rfl,es,⟨V,dT.out,fun e he=>(by cases he),by have:=oK s.rg D (List.replicate s.rg.length false);simpa using this⟩,⟨fun _=>⟨ew.out,by have:=oK s.rg D (List.replicate s.rg.length false);omega⟩,fun h=>by cases h⟩⟩
    case round=>
     clear es eu ew;obtain⟨aR,ci,L,M,C,more,rfl,rfl,S,bn,cP⟩:=hrel;cases more
     ·have bZ:Hid ((L,C,rem s.rg D M)=s.cR g d):=cP.out.2 rfl;have fQ:L.length=s.T.length:=bn.out.2.1.len;have e9:Hid (∀j,0<=f2 s.T L j/\f2 s.T L j<=13*j):=r6 s.T L U.out.iv.tl;clear cP;go_wp2_with fail
      go_loopw [15,16] (fun nv iv fa=>∃j:Nat,j<=s.T.length/\nv=ae (f2 s.T L j)/\iv=ae j/\Hid (Below wr.heap.size wr fa)) (fun _ iv _=>s.T.length-(intOf iv).toNat)
      case atStart=>exact⟨0,aA _,rfl,rfl,Below.refl _ _⟩
      case round=>
       obtain⟨j,fS,rfl,rfl,du⟩:=hrel;have b2:=S.out.below du.out;have fc:=e4.out _ b2.bl;have bd:=e9.out j;obtain⟨fU,fV⟩:=bd;generalize cQ:f2 s.T L j=ax at*;by_cases Y:j<s.T.length
       ·obtain⟨t,ht⟩:∃t,s.T[j]?=some t:=⟨_,am Y⟩
        obtain⟨dn,fW,fX,cR,cj,y1,ee,ef,_⟩:=ed.out _ b2.bl j t ht;rw[cR] at fc;have ey:s.T.getD j t0=t:=by rw[aj,ht];rfl
        have cC:t.2.1.length<=12:=by have:=U.out.iv.tl j;rw[ey] at this;exact this
        obtain⟨bg,dv,fd⟩:=dP S.out.ri I;obtain⟨rfl,rfl⟩:aR=ag bg/\ci=dv:=by simpa using fd
        have cy:=(eO b2.ri (ie (L:=L) (i:=j) I)).1;have cU:Hid (f2 s.T L (j+1)=if L.getD j false=true then ax+(1+t.2.1.length) else ax):=by show _=_;rw[f2,ey,cQ]
        have j0:(0:Int)<=(j:Int):=I;have fZ:(j:Int)<(s.T.length:Int):=I;clear b2 cQ;cases hg:L.getD j false
        ·rw[hg] at cy;have dw:Hid (f2 s.T L (j+1)=ax):=by show _=_;have:=cU.out;rw[hg] at this;simpa using this
         clear cU hg
         as_aux_lemma=>
         go_wp2_with fail;go_roundw
         case rel=>exact⟨j+1,I,by rw[dw.out],ac,du⟩
         case measure=>simp[intOf];omega
        ·rw[hg] at cy;have dw:Hid (f2 s.T L (j+1)=ax+(1+t.2.1.length)):=by show _=_;have:=cU.out;rw[hg] at this;simpa using this
         clear cU hg
         as_aux_lemma=>
         go_wp2_with fail;go_roundw
         case rel=>exact⟨j+1,I,by rw[dw.out],ac,du⟩
         case measure=>simp[intOf];omega
       ·obtain rfl:j=s.T.length:=I;have bL:=(fT ((cf rp rb bS bT).below cb.out b2.bl)).2.2.1;have dx:Hid (eI w s A O G (.slice Q s.T.length cT) (.slice (ag rb) 12 12) (.slice W s.rg.length X) bS bT D _ aR ci L M C):=b2;have ez:Hid (f2 s.T L s.T.length=ax):=cQ;clear b2 cQ S;by_cases eA:bT<ax
        ·have fe:Hid (s.cF g bT d=true):=by show _=_;unfold b_.cF;rw[<-bZ.out,ez.out,a8 eA,Bool.or_true]
         have cz:Hid (cc=3/\c8=s):=by have aV:=cD.out.1;have aB:=cD.out.2;unfold b_.g9 at aV;unfold b_.cut at aB;rw[aq fe.out] at aV aB;exact⟨aV.symm,aB.symm⟩
         go_wp2_with fail;go_ret;exact⟨F,by rw[cz.out.1];rfl,by rw[cz.out.2];exact(cf rp rb bS bT).below cb.out dx.out.bl,bM.of dx.out.bl⟩
        ·have cz:Hid (cc=0/\c8=⟨dz L s.T s.T.length,s.rs,s.rg.filter (fun e=>cn (s.c0 g d) e.2&&cn L e.1),(s.wt++C).filter (fun e=>cn L e.1)⟩):=by
          have ff:s.cF g bT d=false:=by rw[eY.out,<-bZ.out,ez.out,aZ eA]
          have aV:=cD.out.1;have aB:=cD.out.2;unfold b_.g9 at aV;unfold b_.cut at aB;rw[ff,ao V] at aV aB;rw[<-bZ.out] at aB;exact⟨aV.symm,aB.symm⟩
         have eB:Hid ((∀e∈C,e∈s.rg)/\C.length<=1000):=⟨fun e he=>(bn.out.2.2.1 e he).1,by have aV:=bn.out.2.2.2;have aB:=U.out.gl;omega⟩
         have fg:Hid (fp s.T L):=bn.out.2.1;have fh:Hid (D=s.rg.map (fun e=>!cn (s.c0 g d) e.2)):=hD.symm
         iterate 62 go_step
         refine kH.xN cb.out U.out dx.out fh.out fg.out eB.out.1 eB.out.2 ?_;intro f0 w' fi ha hd fj fk;simp only [Array.getD_eq_getD_getElem?] at ha;refine aW (v:=ae 0) (by simp[results,results34,ha]) hd ⟨fi,by rw[cz.out.1],by rw[cz.out.2];exact fj,fk⟩
     ·obtain⟨eC,fl⟩:=cP.out.1 rfl;obtain⟨bU,eD⟩:∃bU,gk=bU+1:=⟨gk-1,I⟩
      have b3:Hid (turns cn (dp g) gk (rem s.rg D M) L C=s.cR g d/\gk=bU+1/\(rem s.rg D M).length<=bU):=⟨eC,eD,I⟩
      obtain⟨P,eE⟩:∃P,Hid (pass cn (dp g) (rem s.rg D M) L C []=P):=⟨_,rfl⟩
      have eF:Hid (fY cn (dp g) s.rg D P 0 L C M):=by rw[<-eE.out];exact fY.start ex.out bn.out.1
      clear cP eC fl eD;go_wp2_with fail
      go_loopw [7,12,13] (fun iv mv kv wr=>∃(i:Nat)(aR:Option Addr)(ci:Nat)(q E:List Bool)(f:List bN)(more:Bool),i<=s.rg.length/\iv=.slice aR s.T.length ci/\mv=.bool more/\kv=ae i/\Hid (eI w s A O G (.slice Q s.T.length cT) (.slice (ag rb) 12 12) (.slice W s.rg.length X) bS bT D wr aR ci q E f)/\Hid (E.length=s.rg.length/\fp s.T q/\(∀e∈f,e∈s.rg/\b8 q e.2.toNat)/\f.length<=C.length+i)/\Hid (fY cn (dp g) s.rg D P i q f E/\C.length<=f.length/\(more=false->f.length=C.length)/\(more=true->C.length<f.length))) (fun _ _ kv _=>s.rg.length-(intOf kv).toNat)
      case atStart=>exact⟨0,aR,ci,L,M,C,false,aA _,rfl,rfl,rfl,S,⟨bn.out.1,bn.out.2.1,bn.out.2.2.1,ak _⟩,⟨eF.out,ak _,fun _=>rfl,fun h=>by cases h⟩⟩
      case round=>
       clear S eF;obtain⟨i,aR,ci,q,E,f,more,hi,rfl,rfl,rfl,S,B,ad⟩:=hrel;obtain⟨v2,bY,ce,_,bb,_⟩:=de.out wr S.out.bl;obtain⟨f1,d7,cL⟩:=dG bb;subst cL;by_cases Y:i<s.rg.length
       ·obtain⟨f3,f4,rfl,e3,cs⟩:=fR bb I;obtain⟨cj,y1⟩:=cs i Y;have ck:s.rg.getD i (0,0)∈s.rg:=getD_in Y;obtain⟨⟨g0,g1⟩,n0,n1⟩:=U.out.gv _ ck;obtain⟨o,l,dy⟩:∃o fm:Nat,s.rg.getD i (0,0)=((o:Int),(fm:Int)):=⟨(s.rg.getD i (0,0)).1.toNat,(s.rg.getD i (0,0)).2.toNat,by rw[show(((s.rg.getD i (0,0)).1.toNat:Nat):Int)=(s.rg.getD i (0,0)).1 by omega,show(((s.rg.getD i (0,0)).2.toNat:Nat):Int)=(s.rg.getD i (0,0)).2 by omega]⟩
        have dA:Hid (s.rg.getD i (0,0)=((o:Int),(l:Int))):=dy;rw[dy] at cj y1 g1 n1 ck;dsimp only at cj y1 g1 n1;have g1:o<s.T.length:=by simpa using g1.1
        have dB:cv s.T l:=by simpa using n1
        have f5:l<s.T.length:=dB.1;have f6:=B.out.2.1.len;obtain⟨bg,dv,cR⟩:=dP S.out.ri I;obtain⟨rfl,rfl⟩:aR=ag bg/\ci=dv:=by simpa using cR
        have eG:=(eO S.out.rd (ie (L:=D) (i:=i) (by rw[ex.out];exact Y))).1;have bV:=eO S.out.rm (ie (L:=E) (i:=i) (by rw[B.out.1];exact Y))
        have cy:=(eO S.out.ri (ie (L:=q) (i:=o) I)).1;have q0:(0:Int)<=(i:Int):=I;have q1:(i:Int)<(s.rg.length:Int):=I;have bO:(0:Int)<=(o:Int):=I;have q3:(o:Int)<(s.T.length:Int):=I;have d0:(0:Int)<=(l:Int):=I;have f7:(l:Int)<(s.T.length:Int):=I;have dl:=(bR S.out.rd A rfl).2;have f8:=(bR S.out.rm O rfl).2;have f9:=(bR S.out.ri bg rfl).2;have cm:=(Below.refl wr.heap.size wr).alloc bJ (.cells #[ae (o:Int),ae (l:Int)] 97)
        have b4:Hid (eI w s A O G (.slice Q s.T.length cT) (.slice (ag rb) 12 12) (.slice W s.rg.length X) bS bT D (wr.alloc (.cells #[.int .i64 (o:Int),.int .i64 (l:Int)] 97)) (ag bg) ci q E f):=S.out.below cm;have eH:Hid ((wr.alloc (.cells #[.int .i64 (o:Int),.int .i64 (l:Int)] 97)).heap[wr.heap.size]?=some (.cells #[ae (o:Int),ae (l:Int)] 97 (0,0))):=aw _ _;clear dy g0 n0 cs cR bb;cases hd:D.getD i false
        ·rw[hd] at eG;have aT:=ad.out.1.skip Y (by rw[hd];rfl)
         have bs:Hid (fY cn (dp g) s.rg D P (i+1) q f E/\C.length<=f.length/\(more=false->f.length=C.length)/\(more=true->C.length<f.length)):=⟨aT,ad.out.2⟩
         clear ad aT hd
         as_aux_lemma=>
         go_wp2_with fail;go_roundw
         case rel=>exact⟨i+1,_,_,q,E,f,more,I,rfl,rfl,ac,b4,⟨B.out.1,B.out.2.1,B.out.2.2.1,by have:=B.out.2.2.2;omega⟩,bs⟩
         case measure=>simp[intOf];omega
        ·rw[hd] at eG;cases hmv:E.getD i false
         ·rw[hmv] at bV;cases hgi:q.getD o false
          ·rw[hgi] at cy;have aT:=ad.out.1.left Y (by rw[hd,hmv];rfl) (by rw[dA.out];exact hgi)
           have bs:Hid (fY cn (dp g) s.rg D P (i+1) q f E/\C.length<=f.length/\(more=false->f.length=C.length)/\(more=true->C.length<f.length)):=⟨aT,ad.out.2⟩
           obtain⟨bV,_⟩:=bV;clear ad aT hd hmv hgi
           as_aux_lemma=>
           go_wp2_with fail;go_roundw
           case rel=>exact⟨i+1,_,_,q,E,f,more,I,rfl,rfl,ac,b4,⟨B.out.1,B.out.2.1,B.out.2.2.1,by have:=B.out.2.2.2;omega⟩,bs⟩
           case measure=>simp[intOf];omega
          ·rw[hgi] at cy;have aT:=ad.out.1.come Y (by rw[hd,hmv];rfl) (by rw[dA.out];exact hgi)
           rw[dA.out] at aT;dsimp only at aT;obtain⟨k1,eJ,eK⟩:=fp.dp dO.out U.out.iv B.out.2.1 (x:=(l:Int)) (by simpa using dB)
           have bs:Hid (fY cn (dp g) s.rg D P (i+1) (dp g q (l:Int)) (f++[((o:Int),(l:Int))]) (E.set i true)/\C.length<=(f++[((o:Int),(l:Int))]).length/\C.length<(f++[((o:Int),(l:Int))]).length):=⟨aT,by rw[aJ];have:=ad.out.2.1;simp;omega,by rw[aJ];have:=ad.out.2.1;simp;omega⟩
           have dC:Hid ((E.set i true).length=s.rg.length/\fp s.T (dp g q (l:Int))/\(∀e∈f++[((o:Int),(l:Int))],e∈s.rg/\b8 (dp g q (l:Int)) e.2.toNat)/\(f++[((o:Int),(l:Int))]).length<=C.length+(i+1)):=⟨by rw[aM];exact B.out.1,k1,fun e he=>by
            rcases List.mem_append.1 he with bi|bi
            ·exact⟨(B.out.2.2.1 e bi).1,eK _ (B.out.2.2.1 e bi).2⟩
            ·rw[List.mem_singleton.1 bi];exact⟨ck,by simpa using eJ⟩,by rw[aJ];have:=B.out.2.2.2;simp;omega⟩
           have ga:f.length<=2000:=by have:=B.out.2.2.2;have:=bn.out.2.2.2;omega
           have fn:Hid (∀w',eI w s A O G (.slice Q s.T.length cT) (.slice (ag rb) 12 12) (.slice W s.rg.length X) bS bT D w' (ag bg) ci (q.set l true) E (f++[((o:Int),(l:Int))])->Calls prog 91 #[af G,.slice (ag bg) s.T.length ci] w' fun e bl=>∃b5 ax,e=.returned (.slice b5 s.T.length ax)/\bl.ownsRow w'.heap.size 4 1 (.slice b5 s.T.length ax) s.T.length ((dp g q (l:Int)).map Value.bool)/\Below w'.heap.size w' bl):=fun w' dD=>by
            obtain⟨K,N,eL,fq⟩:=dD.gB;obtain⟨b6,fr,fs⟩:=B.out.2.1.put dB;have ft:Wg w' G s.T (s.wt++(f++[((o:Int),(l:Int))])):=⟨⟨Q,cT,by simp[World.cell?,eL],fun i x bP=>ed.out w' dD.bl i x bP⟩,⟨K,N,by simp[World.cell?,eL],fR fq⟩⟩
            have fu:gX s.T (s.wt++(f++[((o:Int),(l:Int))])):=⟨U.out.iv.fl,U.out.iv.fv,fun e he=>by
             rcases List.mem_append.1 he with bi|bi
             ·exact U.out.iv.wv e bi
             ·have hm:e∈s.rg:=(dC.out.2.2.1 e bi).1;exact(U.out.gv e hm).2,U.out.iv.tl⟩
            have cq:=dD.ri;rw[<-b6.len] at cq;have fv:(s.wt++(f++[((o:Int),(l:Int))])).length<=10000:=by rw[aJ,aJ];have:=U.out.wl;simp;omega
            have cA:=sg ft fu (ag bg) ci (mj cq) (fun e=>by cases e) b6.len ht fv b6.al;rw[b6.len] at cA;refine cA.mono ?_;rintro e bl ⟨b5,ax,cd,rfl,o1,cW,fw⟩
            have fx:iF s.T s.wt (q.set l true) cd:=cW.less (fun e he=>by
             rcases List.mem_append.1 he with bi|bi
             ·exact fs _ (B.out.2.2.1 e bi).2
             ·rw[List.mem_singleton.1 bi];simpa using fr)
            have eo:cd=dp g q (l:Int):=by unfold dp;rw[Int.toNat_natCast];exact fx.uniq (dO.out _ b6.len b6.al)
            have c7:cd.length=s.T.length:=cW.len.trans b6.len;rw[c7] at o1⊢;rw[eo] at o1;exact⟨b5,ax,rfl,o1,fw⟩
           obtain⟨bV,gb⟩:=bV;clear ad aT k1 eJ eK hd hmv hgi B;have eM:Hid (G<wr.heap.size/\∀K N,(wr.alloc (.cells #[.int .i64 (o:Int),.int .i64 (l:Int)] 97)).heap[G]?=some (.cells #[.slice Q s.T.length cT,.slice (ag rb) 12 12,.slice W s.rg.length X,.slice K (s.wt++f).length N,ae bS,ae bT] 91 (0,0))->∀k,some k=(Value.slice K (s.wt++f).length N).ownBlock->k<wr.heap.size):=by
            obtain⟨fy,fz,aB,c4⟩:=S.out.gB;refine⟨lt_of_some aB,fun K N eN k hk=>?_⟩
            rw[cm.block G (lt_of_some aB),aB] at eN;have fA:fy=K/\fz=N:=by simpa using eN
            obtain⟨rfl,rfl⟩:=fA;exact(bR c4 k hk).2
           go_upto_region 21 with fail
           generalize wr.alloc (.cells #[.int .i64 (o:Int),.int .i64 (l:Int)] 97)=R at*;have cX:R.heap[wr.heap.size]?=some (.cells #[.int .i64 (o:Int),.int .i64 (l:Int)] 97 (0,0)):=eH.out;generalize wr.heap.size=bW at*;have z0:R.cell? ⟨bW,0,none⟩=some (.int .i64 (o:Int)):=by simp[World.cell?,cX]
           have fB:R.cell? (ah bW 1)=some (ae (l:Int)):=by simp[World.cell?,cX]
           obtain⟨K,N,bP,cY⟩:=b4.out.gB;have eP:R.cell? (ah G 3)=some (.slice K (s.wt++f).length N):=by simp[World.cell?,bP]
           have fC:=lt_of_some bP;have fD:=lt_of_some cX;have dE:=(Below.refl R.heap.size R).alloc bJ (.cells #[ae (o:Int),ae (l:Int)] 97)
           have dF:=aw R (.cells #[ae (o:Int),ae (l:Int)] 97)
           have b7:Hid (R.heap[G]?=some (.cells #[.slice Q s.T.length cT,.slice (ag rb) 12 12,.slice W s.rg.length X,.slice K (s.wt++f).length N,ae bS,ae bT] 91 (0,0))/\R.ownsRow w.heap.size 97 2 (.slice K (s.wt++f).length N) (s.wt++f).length (ev (s.wt++f))/\Below R.heap.size R (R.alloc (.cells #[.int .i64 (o:Int),.int .i64 (l:Int)] 97))/\w.heap.size<=R.heap.size):=⟨bP,cY,dE,b4.out.bl.size⟩
           have dH:=ca cY (fun k e=>dE.block k (bR cY k e).2)
           have fE:(s.wt++f).length<=3000:=by rw[aJ];have:=U.out.wl;omega
           have fF:Hid (∀a,(ag R.heap.size:Option Addr)=some a->∀k u,(ev [((o:Int),(l:Int))])[k]?=some u->(R.alloc (.cells #[.int .i64 (o:Int),.int .i64 (l:Int)] 97)).cell? (a.add k)=some u):=fun a e k u hk=>by
            cases e;have gc:k<2:=by have:=(List.getElem?_eq_some_iff.1 hk).1;simpa[ev] using this
            rcases(show k=0\/k=1 by omega) with rfl|rfl
            ·simp[ev] at hk;subst hk;show World.cell? _ ⟨R.heap.size,0,none⟩=_;unfold World.cell?;rw[dF];rfl
            ·simp[ev] at hk;subst hk;show World.cell? _ ⟨R.heap.size,1,none⟩=_;unfold World.cell?;rw[dF];rfl
           have dI:Hid ((s.wt++(f++[((o:Int),(l:Int))])).length=(s.wt++f).length+1/\ev (s.wt++(f++[((o:Int),(l:Int))]))=ev (s.wt++f)++ev [((o:Int),(l:Int))]):=⟨by simp;omega,by rw[<-aU];simp[ev]⟩
           obtain⟨bX,cZ⟩:∃bX,(s.wt++f).length=bX:=⟨_,rfl⟩
           rw[cZ] at eP dH fE;clear cY bP dF dE cX
           go_upto_region 22 with(at_builtin;refine hS _ rfl _ _ 89 rfl w.heap.size 97 ei (.agg #[ae 0,ae 0]) 2 16 Tryz.underlying89 ej ek el em rfl Z (.slice K bX N) bX (ev (s.wt++f)) rfl dH (ag R.heap.size) 1 1 (ev [((o:Int),(l:Int))]) rfl rfl (fun e=>by cases e) fF.out (jM _) (by unfold maxLen;omega) I (by have:=b7.out.2.2.2;simp;omega) ?_;intro iK iL co eQ eR _;have c3:Fr (fun k=>some k=(Value.slice K bX N).ownBlock) R co:=(Fr.of b7.out.2.2.1).grown eR (fun k e=>ap (by simpa using e.symm));have dJ:=(c3.block G fC (fun b9=>b4.out.world b7.out.2.1 Z G (by rw[cZ];exact b9) rfl)).trans b7.out.1;have u0:co.cell? (ah G 3)=some (.slice K (s.wt++f).length N):=(by simp[World.cell?,dJ]);have cM:co.frozen? (ah G 3)=false:=(by simp[World.frozen?,dJ]))
           have dK:eI w s A O G (.slice Q s.T.length cT) (.slice (ag rb) 12 12) (.slice W s.rg.length X) bS bT D (co.setCell ⟨G,3,none⟩ (.slice iK (bX+1) iL)) (ag bg) ci q E (f++[((o:Int),(l:Int))]):=by
            subst cZ;have h:=b4.out.push (by have:=et.out;omega) b7.out.1 b7.out.2.1 (e:=((o:Int),(l:Int))) (iK:=iK) (iL:=iL) c3 (by rw[dI.out.1,dI.out.2];exact eQ)
            rw[dI.out.1] at h;exact h
           have eS:(co.setCell ⟨G,3,none⟩ (.slice iK (bX+1) iL)).heap[bW]?=some (.cells #[ae (o:Int),ae (l:Int)] 97 (0,0)):=(Below.heap_setCell _ _ _ _ (show bW≠G from fun e=>by have h:=eM.out.1;rw[e] at h;exact Nat.lt_irrefl _ h)).trans ((c3.block bW fD (fun b9=>Nat.lt_irrefl bW (eM.out.2 K N b7.out.1 bW (by rw[cZ];exact b9)))).trans eH.out)
           clear c3 dJ u0 cM eQ eR eP z0 fB dH;generalize co.setCell ⟨G,3,none⟩ (.slice iK (bX+1) iL)=dL at*;have gd:dL.cell? (ah bW 1)=some (ae (l:Int)):=by simp[World.cell?,eS]
           obtain⟨ge,gf⟩:=eO dK.ri (ie (L:=q) (i:=l) I)
           have eT:=dK.mark l;have eU:Hid (eI w s A O G (.slice Q s.T.length cT) (.slice (ag rb) 12 12) (.slice W s.rg.length X) bS bT D (dL.setCell ⟨bg,l,none⟩ (.bool true)) (ag bg) ci (q.set l true) E (f++[((o:Int),(l:Int))])):=eT;clear dK eT eS
           go_upto_region 23 with fail
           generalize dL.setCell ⟨bg,l,none⟩ (.bool true)=fG at*;have cA:=fn.out fG eU.out
           go_upto_region 24 with(go_at_call 91;refine cA.mono ?_;clear cA;rintro e eV ⟨b5,ax,rfl,o1,cW⟩;have a3:Hid (eI w s A O G (.slice Q s.T.length cT) (.slice (ag rb) 12 12) (.slice W s.rg.length X) bS bT D eV b5 ax (dp g q (l:Int)) E (f++[((o:Int),(l:Int))])):=(eU.out.is cW o1))
           obtain⟨gg,gh⟩:=eO a3.out.rm (ie (L:=E) (i:=i) (by have:=dC.out.1;rw[aM] at this;rw[this];exact Y))
           have aF:Hid (eI w s A O G (.slice Q s.T.length cT) (.slice (ag rb) 12 12) (.slice W s.rg.length X) bS bT D (eV.setCell ⟨O,i,none⟩ (.bool true)) b5 ax (dp g q (l:Int)) (E.set i true) (f++[((o:Int),(l:Int))])):=a3.out.mv (fun e=>by have h:=et.out.2.2;rw[e] at h;exact Nat.lt_irrefl _ h) i;go_wp2_with fail;go_roundw
           case rel=>exact⟨i+1,_,_,dp g q (l:Int),E.set i true,f++[((o:Int),(l:Int))],true,I,rfl,rfl,ac,aF,dC,⟨bs.out.1,bs.out.2.1,fun h=>(by cases h),fun _=>bs.out.2.2⟩⟩
           case measure=>simp[intOf];omega
         ·rw[hmv] at bV;have aT:=ad.out.1.skip Y (by rw[hd,hmv];rfl)
          have bs:Hid (fY cn (dp g) s.rg D P (i+1) q f E/\C.length<=f.length/\(more=false->f.length=C.length)/\(more=true->C.length<f.length)):=⟨aT,ad.out.2⟩
          obtain⟨bV,_⟩:=bV;clear ad aT hd hmv
          as_aux_lemma=>
          go_wp2_with fail;go_roundw
          case rel=>exact⟨i+1,_,_,q,E,f,more,I,rfl,rfl,ac,b4,⟨B.out.1,B.out.2.1,B.out.2.2.1,by have:=B.out.2.2.2;omega⟩,bs⟩
          case measure=>simp[intOf];omega
       ·obtain rfl:i=s.rg.length:=I;have bx:=ad.out.1.stop;rw[<-eE.out] at bx;have cB:=oI (is:=cn) (kp:=dp g) (rem s.rg D M) L C [];have eW:Hid (f.length+(rem s.rg D E).length<=s.rg.length):=by have aV:=cB.1;rw[<-bx] at aV;simp only [List.length_nil,Nat.add_zero] at aV;have aB:=bn.out.2.2.2;show _<=_;omega
        clear bb;cases more
        ·have eX:=ad.out.2.2.1 rfl;have bZ:Hid ((q,f,rem s.rg D E)=s.cR g d):=by show _=_;rw[<-b3.out.1,b3.out.2.1,qM (by rw[<-bx];exact eX)];exact bx
         clear bx cB
         as_aux_lemma=>
         go_wp2_with fail
         go_roundg bU
         case measure=>have:=b3.out.2.1;omega
         case rel=>exact⟨aR,ci,q,E,f,false,rfl,rfl,S,⟨B.out.1,B.out.2.1,B.out.2.2.1,eW.out⟩,⟨fun h=>(by cases h),fun _=>bZ.out⟩⟩
        ·have eX:=ad.out.2.2.2 rfl;have bZ:Hid (turns cn (dp g) bU (rem s.rg D E) q f=s.cR g d/\(rem s.rg D E).length+1<=bU):=by
          have b9:(pass cn (dp g) (rem s.rg D M) L C []).2.1=f:=by rw[<-bx]
          have ch:(pass cn (dp g) (rem s.rg D M) L C []).2.2=rem s.rg D E:=by rw[<-bx]
          have dq:(pass cn (dp g) (rem s.rg D M) L C []).1=q:=by rw[<-bx]
          rw[b9,ch] at cB;simp only [List.length_nil,Nat.add_zero] at cB;refine⟨?_,by have:=b3.out.2.2;omega⟩
          rw[<-b3.out.1,b3.out.2.1,qL (by rw[b9];omega),b9,ch,dq]
         clear bx cB
         as_aux_lemma=>
         go_wp2_with fail
         go_roundg bU
         case measure=>have:=b3.out.2.1;omega
         case rel=>exact⟨aR,ci,q,E,f,true,rfl,rfl,S,⟨B.out.1,B.out.2.1,B.out.2.2.1,eW.out⟩,⟨fun _=>bZ.out,fun h=>(by cases h)⟩⟩
end
end Go.Proofs.YtjpjpjemibgjpaaGreat
