import Derived.Test.YtpkjkjhanlbcoaaGreatJ07
namespace Go.Proofs.YtpkjkjhanlbcoaaGreat
set_option maxRecDepth 100000
set_option maxHeartbeats 8000000
open Tryz
open Go.RowKit W Kp ch
theorem sA {P:Prop}(h:P:=by
 as_aux_lemma=>
 go_wp2_with fail;go_roundw
 case rel=>exact⟨i+1,_,_,L',M',C',more,aa,rfl,rfl,aj,oL,⟨HQ.o.1,HQ.o.2.1,HQ.o.2.2.1,by have:=HQ.o.2.2.2;omega⟩,mF⟩
 case measure=>simp[intOf];omega):P:=h
theorem xi {P:Prop}(h:P:=by
 obtain⟨q0,q1,q2,q3,q4,q5⟩:=fX hx;have PC:=HC.o w1 iL;have HT:ay (ce F w F w1):=ce.of hb;clear iL hb hb1 hx HJ HC;go_wp2_with fail;refine PC.mono ?_;clear PC;rintro e w2 ⟨F2,rfl,j2,t2⟩
 have HR:ay ((cq rp rb ca b8).J F2 s2 w2/\ce F w F2 w2):=⟨j2,HT.o.trans t2⟩
 clear j2 t2 q0 q1 q2 q3 q4 q5;go_wp2_with fail;go_ret;exact⟨F2,rfl,HR.o.1,HR.o.2⟩):P:=h
theorem xj {P:Prop}(h:P:=by
 clear sB hg
 as_aux_lemma=>
 go_wp2_with fail;go_roundw
 case rel=>exact⟨j+1,aa,by rw[xk.o],aj,fH⟩
 case measure=>simp[intOf];omega):P:=h
section
variable {rp rb:Nat}{ca b8:Int}{F:Nat->Prop}{s:cn}{w:aw}
theorem Dz (h:(cq rp rb ca b8).J F s w)(aB:gF s)(h0:0<=b8)(be:b8<=100000)(d:Bool)(cQ:d=false->¬b8-(dC s.T).2<(dC s.T).1)(g:List Bool->List Bool)(hg:ed s.T s.wt g):
 Calls prog 51 #[am rp,.bool d] w fun e w'=>∃dY,e=.returned (ak (s.gE g b8 d))/\(cq rp rb ca b8).J dY (s.cut g b8 d) w'/\ce F w dY w':=by
 have dZ:=pT h aB.t12 aB.tl;have bd:=pS s.T aB.t12;have ht:=aB.tl;have co:ay ((cq rp rb ca b8).J F s w):=h;have ag:ay (gF s):=aB;have d0:ay (ed s.T s.wt g):=hg;have fc:ay (s.cF g b8 d=decide (b8<gY s.T (s.cR g d).1 s.T.length)):=by
  show _=_;unfold cn.cF;cases d
  ·rw[bA (cQ rfl)];rfl
  ·rfl
 have d1:ay (d=false->¬b8-(dC s.T).2<(dC s.T).1):=cQ;obtain⟨_,_,c5,_⟩:=e8 h;have d2:ay (∀w',Below w.heap.size w w'->w'.cell? (ao rp 5)=some (ak b8)):=fun w' hb=>(hb.cell (p:=ao rp 5) (aM w _ c5)).trans c5;have d3:ay (∀w',Below w.heap.size w w'->Calls prog 117 #[am rp,.bool d] w' fun e bp=>∃b,e=.returned (.slice (an b) s.T.length s.T.length)/\(bp.ownsRow w'.heap.size 4 1 (.slice (an b) s.T.length s.T.length) s.T.length ((jz s.T s.rs d).map Value.bool))/\Below w'.heap.size w' bp):=fun w' hb=>Dp ((cq rp rb ca b8).below h hb) d aB.tl (fun v fd di=>by obtain⟨q1,b2⟩:=aB.rv v fd di;have:=b2.1;exact⟨q1,aa⟩)
 have dj:ay (∀w' b,Below w.heap.size w w'->w'.ownsRow w.heap.size 4 1 (.slice (an b) s.T.length s.T.length) s.T.length ((jz s.T s.rs d).map Value.bool)->Calls prog 116 #[am rp,.slice (an b) s.T.length s.T.length] w' fun e bp=>∃B c,e=.returned (.slice B s.T.length c)/\bp.ownsRow w'.heap.size 4 1 (.slice B s.T.length c) s.T.length ((s.c0 g d).map Value.bool)/\Below w'.heap.size w' bp):=fun w' b hb cC=>by
  have dk:=aB.first d;have hl:=p5 s.T s.rs d;rw[<-hl] at cC;have P:=w8 ((ss h).below hb) aB.iv (an b) s.T.length (oG cC) (fun e=>by cases e) hl aB.tl (aS aB.wl aa) dk.al;rw[hl] at P;refine P.mono ?_;rintro e bp ⟨B,c,cr,rfl,q1,b2,q3⟩
  have eo:cr=s.c0 g d:=b2.uniq (hg _ dk.len dk.al)
  have dm:cr.length=s.T.length:=b2.len.trans hl;rw[dm] at q1⊢;rw[eo] at q1;exact⟨B,c,rfl,q1,q3⟩
 have d5:ay (fV s.T (s.c0 g d)):=(hg.ok aB.iv (aB.first d)).1;have fU:ay (s.gE g b8 d=if s.cF g b8 d=true then 3 else 0):=rfl;generalize d6:s.gE g b8 d=cc at*;generalize d7:s.cut g b8 d=dn at*;have cR:ay (s.gE g b8 d=cc/\s.cut g b8 d=dn):=⟨d6,d7⟩
 generalize (dC s.T).1=a at*;generalize (dC s.T).2=b at*;have a1:a<=130000:=aa;have b1:b<=130000:=aa;obtain⟨a0,_,fW,_⟩:=bd;clear h aB hg cQ c5 d6 d7;go_enter func51,ntmps51;go_wp2_with fail;refine dZ.mono ?_;clear dZ;rintro e w1 ⟨rfl,cS⟩
 have c5:=d2.o w1 cS;have dp:=d3.o w1 cS;have cU:ay (Below w.heap.size w w1):=cS;clear cS d3;have d9:d=true\/(d=false/\a<=b8-b):=by
  cases d
  ·exact aK ⟨rfl,by have:=d1.o rfl;omega⟩
  ·exact aL rfl
 clear d1
 go_upto_region 2 with fail
 go_cut [39] (fun ff wc=>ff=.bool false/\wc=w1)
 case first=>
  clear dp d2 dj;rcases d9 with rfl|⟨rfl,fX⟩
  ·go_wp2_with fail
   go_meet
   case rel=>exact⟨rfl,rfl⟩
  ·go_wp2_with fail
   go_meet
   case rel=>exact⟨by rw[bA aa],rfl⟩
 case rest=>
  obtain⟨rfl,rfl⟩:=hcut;clear d9 c5;go_wp2_with fail;refine dp.mono ?_;clear dp;rintro e dq ⟨fb,rfl,dr,ea⟩
  have ds:Below w.heap.size w dq:=cU.o.trans (ea.mono cU.o.size)
  have eb:=dj.o dq fb ds (ec dr (fun k e=>aS cU.o.size (cg dr k e).1))
  have cV:ay (Below w.heap.size w dq):=ds;clear dr ea ds dj cU;go_wp2_with fail;refine eb.mono ?_;clear eb;rintro e w3 ⟨B,c,rfl,dt,ee⟩
  have bg:ay (w3.ownsRow w.heap.size 4 1 (.slice B s.T.length c) s.T.length ((s.c0 g d).map Value.bool)/\Below w.heap.size w w3):=⟨ec dt (fun k e=>aS cV.o.size (cg dt k e).1),cV.o.trans (ee.mono cV.o.size)⟩
  clear dt ee cV;have du:ay (∀w',Below w.heap.size w w'->∃v2 cb,w'.cell? (ao rp 2)=some v2/\w'.cell? (ao rp 3)=some cb/\w'.ownsRow 0 116 2 v2 s.rg.length (ev s.rg)/\w'.ownsRow 0 116 2 cb s.wt.length (ev s.wt)):=fun w' hb=>by
   obtain⟨v2,cb,q1,b2,q3,ef,_⟩:=pQ ((cq rp rb ca b8).below co.o hb)
   exact⟨v2,cb,q1,b2,q3,ef⟩
  obtain⟨v2,cb,cs,ct,bi,r3⟩:=du.o w3 bg.o.2;obtain⟨a2,c2,cu⟩:=dU bi;subst cu;obtain⟨eg,dv,dw,dx,dy⟩:=info_parts si;have fY:=ag.o.gl;clear bi r3 ct
  go_upto_region 6 with(at_make;refine wpList_make_full _ rfl _ _ 79 rfl w3.heap.size 4 eg (.bool false) 1 underlying79 dv dw dx .i64 .i64 _ _ s.rg.length rfl rfl aa aa (by rw[dy];omega) (by unfold maxLen;omega) bY ?_;intro bl dz eh)
  have cW:Below w3.heap.size w3 bl:=(aE _ w3).grown eh bY (fun _ h=>by cases h)
  have aV:ay (bl.ownsRow w.heap.size 4 1 (.slice B s.T.length c) s.T.length ((s.c0 g d).map Value.bool)/\Below w.heap.size w bl/\bl.ownsRow w.heap.size 4 1 (.slice (an w3.heap.size) s.rg.length s.rg.length) s.rg.length ((List.replicate s.rg.length false).map Value.bool)/\(∀k,some k=(Value.slice B s.T.length c).ownBlock->k<w3.heap.size)/\w.heap.size<=w3.heap.size):=⟨cy bg.o.1 (fun k e=>cW.block k (cg bg.o.1 k e).2),bg.o.2.trans (cW.mono bg.o.2.size),ec (oH dz) (fun k e=>aS bg.o.2.size (cg (oH dz) k e).1),fun k e=>(cg bg.o.1 k e).2,bg.o.2.size⟩
  have fg:=(cW.cell (p:=ao rp 2) (aM w3 _ cs)).trans cs;clear dz eh cW bg cs;generalize w3.heap.size=o at*
  go_upto_region 7 with(at_make;refine wpList_make_full _ rfl _ _ 79 rfl bl.heap.size 4 eg (.bool false) 1 underlying79 dv dw dx .i64 .i64 _ _ s.rg.length rfl rfl aa aa (by rw[dy];omega) (by unfold maxLen;omega) bY ?_;intro cD dA ei)
  have cX:Below bl.heap.size bl cD:=(aE _ bl).grown ei bY (fun _ h=>by cases h)
  have dB:o<bl.heap.size:=(cg aV.o.2.2.1 o rfl).2;have ej:ay (cD.ownsRow w.heap.size 4 1 (.slice B s.T.length c) s.T.length ((s.c0 g d).map Value.bool)/\Below w.heap.size w cD/\cD.ownsRow w.heap.size 4 1 (.slice (an o) s.rg.length s.rg.length) s.rg.length ((((s.rg.take 0).map (fun e=>!cG (s.c0 g d) e.2))++List.replicate (s.rg.length-0) false).map Value.bool)/\cD.ownsRow w.heap.size 4 1 (.slice (an bl.heap.size) s.rg.length s.rg.length) s.rg.length ((List.replicate s.rg.length false).map Value.bool)):=⟨cy aV.o.1 (fun k e=>cX.block k (cg aV.o.1 k e).2),aV.o.2.1.trans (cX.mono aV.o.2.1.size),by
   have:=cy aV.o.2.2.1 (fun k e=>cX.block k (cg aV.o.2.2.1 k e).2)
   simpa using this,ec (oH dA) (fun k e=>aS aV.o.2.1.size (cg (oH dA) k e).1)⟩
  have bs:ay ((∀k,some k=(Value.slice B s.T.length c).ownBlock->k<o)/\o<bl.heap.size/\w.heap.size<=o):=⟨aV.o.2.2.2.1,dB,aV.o.2.2.2.2⟩
  clear dA ei cX aV fg dB dv dw dx dy;generalize bl.heap.size=mb at*;go_wp2_with fail
  go_loopw [10] (fun iv wr=>∃i:Nat,i<=s.rg.length/\iv=ak i/\ay (wr.ownsRow w.heap.size 4 1 (.slice B s.T.length c) s.T.length ((s.c0 g d).map Value.bool)/\Below w.heap.size w wr/\wr.ownsRow w.heap.size 4 1 (.slice (an o) s.rg.length s.rg.length) s.rg.length ((((s.rg.take i).map (fun e=>!cG (s.c0 g d) e.2))++List.replicate (s.rg.length-i) false).map Value.bool)/\wr.ownsRow w.heap.size 4 1 (.slice (an mb) s.rg.length s.rg.length) s.rg.length ((List.replicate s.rg.length false).map Value.bool))) (fun iv _=>s.rg.length-(intOf iv).toNat)
  case atStart=>exact⟨0,aX _,rfl,ej⟩
  case round=>
   clear ej;obtain⟨i,hi,rfl,H⟩:=hrel;obtain⟨v2,cb,cs,ct,bi,r3⟩:=du.o wr H.o.2.1;obtain⟨ai,al,cu⟩:=dU bi;subst cu;by_cases ap:i<s.rg.length
   ·obtain⟨fb,dl,rfl,fh,cE⟩:=gn bi aa;obtain⟨cv,y1⟩:=cE i ap;have cx:s.rg.getD i (0,0)∈s.rg:=getD_in ap;obtain⟨_,n0,n1⟩:=ag.o.gv _ cx;have dD:=Dq (fun e:b9=>!cG (s.c0 g d) e.2) s.rg i ap (0,0)
    have fZ:=d5.o.len;obtain⟨n,cY⟩:=Int.eq_ofNat_of_zero_le n0;rw[cY] at y1;have n1:n<s.T.length:=by have:=n1.1;rw[cY] at this;simpa using this
    have ek:(!cG (s.c0 g d) (s.rg.getD i (0,0)).2)=!(s.c0 g d).getD n false:=by rw[cY];rfl
    rw[ek] at dD;obtain⟨dE,el,cZ⟩:=d4 H.o.1 aa;obtain⟨rfl,rfl⟩:B=an dE/\c=el:=by simpa using cZ
    have u0:=(fe H.o.1 (jA (L:=s.c0 g d) (i:=n) aa)).1;have em:=jA (L:=((s.rg.take i).map (fun e:b9=>!cG (s.c0 g d) e.2))++List.replicate (s.rg.length-i) false) (i:=i) (by rw[Dr _ _ _ hi];exact ap)
    obtain⟨c6,f0⟩:=fe H.o.2.2.1 em;have HQ:ay ((wr.setCell ⟨o,i,none⟩ (.bool (!(s.c0 g d).getD n false))).ownsRow w.heap.size 4 1 (.slice (an dE) s.T.length c) s.T.length ((s.c0 g d).map Value.bool)/\Below w.heap.size w (wr.setCell ⟨o,i,none⟩ (.bool (!(s.c0 g d).getD n false)))/\(wr.setCell ⟨o,i,none⟩ (.bool (!(s.c0 g d).getD n false))).ownsRow w.heap.size 4 1 (.slice (an o) s.rg.length s.rg.length) s.rg.length ((((s.rg.take (i+1)).map (fun e=>!cG (s.c0 g d) e.2))++List.replicate (s.rg.length-(i+1)) false).map Value.bool)/\(wr.setCell ⟨o,i,none⟩ (.bool (!(s.c0 g d).getD n false))).ownsRow w.heap.size 4 1 (.slice (an mb) s.rg.length s.rg.length) s.rg.length ((List.replicate s.rg.length false).map Value.bool)):=by
     have cF:∀k,k≠o->(wr.setCell ⟨o,i,none⟩ (.bool (!(s.c0 g d).getD n false))).heap[k]?=wr.heap[k]?:=fun k hk=>aP _ _ _ _ hk;refine⟨cy H.o.1 (fun k e=>cF k (fun en=>by have:=bs.o.1 k e;omega)),H.o.2.1.trans (((Fr.refl (fun k=>k=o) wr).set o i _ rfl).below H.o.2.1.size (fun k e=>by have e:k=o:=e;have:=bs.o.2.2;omega)),?_,cy H.o.2.2.2 (fun k e=>cF k (fun en=>by have e:some k=some mb:=e;cases e;have:=bs.o.2.1;omega))⟩
     rw[<-dD,List.map_set];exact jp H.o.2.2.1 i _
    have q0:(0:Int)<=(i:Int):=aa;have q1:(i:Int)<(s.rg.length:Int):=aa;have b2:(0:Int)<=(n:Int):=aa;have q3:(n:Int)<(s.T.length:Int):=aa;clear cE cx n0 dD cY ek cZ em H bi r3 ct;generalize (s.c0 g d).getD n false=f1 at*
    as_aux_lemma=>
    go_wp2_with fail;go_roundw
    case rel=>exact⟨i+1,aa,aj,HQ⟩
    case measure=>simp[intOf];omega
   ·obtain rfl:i=s.rg.length:=aa;have ax:ay (wr.ownsRow w.heap.size 4 1 (.slice B s.T.length c) s.T.length ((s.c0 g d).map Value.bool)/\Below w.heap.size w wr/\wr.ownsRow w.heap.size 4 1 (.slice (an o) s.rg.length s.rg.length) s.rg.length ((s.rg.map (fun e=>!cG (s.c0 g d) e.2)).map Value.bool)/\wr.ownsRow w.heap.size 4 1 (.slice (an mb) s.rg.length s.rg.length) s.rg.length ((List.replicate s.rg.length false).map Value.bool)):=⟨H.o.1,H.o.2.1,by
     have:=H.o.2.2.1;rw[ba,Nat.sub_self] at this
     simpa using this,H.o.2.2.2⟩
    clear H bi;have ep:=(cq rp rb ca b8).below co.o ax.o.2.1;obtain⟨W,cT,cJ,eq⟩:=(ss co.o).th;have c0:=(ax.o.2.1.cell (p:=ao rp 0) (aM w _ cJ)).trans cJ;have fi:ay (∀w',Below w.heap.size w w'->w'.cell? (ao rp 0)=some (.slice W s.T.length cT)):=fun w' hb=>(hb.cell (p:=ao rp 0) (aM w _ cJ)).trans cJ;have er:ay (∀w',Below w.heap.size w w'->∀(i:Nat)(x:cH),s.T[i]?=some x->∃b B cp,W=an b/\w'.cell? (ao b (i*4))=some (ak x.1)/\w'.cell? (ao b (i*4+1))=some (.slice B x.2.1.length cp)/\w'.cell? (ao b (i*4+2))=some (.bool x.2.2.1)/\w'.cell? (ao b (i*4+3))=some (.bool x.2.2.2)/\c8 w' B x.2.1):=fun w' hb i x b3=>by obtain⟨b,B,cp,e,cv,y1,es,et,fj⟩:=eq i x b3;have k:∀{a:Addr}{v:Value},w.cell? a=some v->w'.cell? a=some v:=fun {a v} e=>(hb.cell (p:=a) (aM w _ e)).trans e;exact⟨b,B,cp,e,k cv,k y1,k es,k et,fj.below hb⟩
    clear cJ eq;obtain⟨c1,c4,c5,_⟩:=e8 ep;obtain⟨bt,c3,dF⟩:=dU r3;subst dF;have eu:=gn r3;have ew:bt=none->s.wt.length=0/\c3=0:=sy r3;obtain⟨ex,ey,ez,eA,eB⟩:=info_parts w_;have f2:=ag.o.wl;have c7:=aq wr (.cells #[.slice W s.T.length cT,.slice (some ⟨rb,0,none⟩) 12 12,.slice ai s.rg.length al,.slice bt s.wt.length c3,.int .i64 ca,.int .i64 b8] 111)
    have dG:=aN wr (.cells #[.slice W s.T.length cT,.slice (some ⟨rb,0,none⟩) 12 12,.slice ai s.rg.length al,.slice bt s.wt.length c3,.int .i64 ca,.int .i64 b8] 111)
    clear ep r3
    go_upto_region 12 with fail
    generalize wr.alloc (.cells #[.slice W s.T.length cT,.slice (some ⟨rb,0,none⟩) 12 12,.slice ai s.rg.length al,.slice bt s.wt.length c3,.int .i64 ca,.int .i64 b8] 111)=aF at*;have cz:ay (aF.heap[wr.heap.size]?=some (.cells #[.slice W s.T.length cT,.slice (some ⟨rb,0,none⟩) 12 12,.slice ai s.rg.length al,.slice bt s.wt.length c3,.int .i64 ca,.int .i64 b8] 111 (0,0))/\Below wr.heap.size wr aF):=⟨dG,c7⟩
    have eC:=(c7.cell (p:=ao rp 3) (aM wr _ ct)).trans ct;have fk:rp<aF.heap.size:=aM aF _ eC;have eE:=Ds aF;have cA:=aq aF (.cells #[] 116)
    have dH:ay (c8 (aF.alloc (.cells #[] 116)) bt s.wt/\(bt=none->s.wt.length=0/\c3=0)):=⟨(eu.below c7).below cA,ew⟩
    have eF:=lt_of_some dG;clear dG c7 eu ew ct c0 c1 c4 c5 cs
    go_upto_region 13 with(at_builtin;refine je _ rfl _ _ 109 rfl aF.heap.size 116 ex (.agg #[ak 0,ak 0]) 2 16 underlying109 ey ez eA eB rfl ae (.slice (an aF.heap.size) 0 0) 0 [] rfl eE bt s.wt.length c3 (ev s.wt) rfl (jO s.wt) dH.o.2 dH.o.1.cells (i0 s.wt) (by unfold maxLen;omega) aa ac ?_;intro N S bx cK eG _;rw[Nat.zero_add,List.nil_append] at cK;have cL:Below aF.heap.size aF bx:=(cA.trans ((aE aF.heap.size (aF.alloc (.cells #[] 116))).grown eG ac (fun k e=>by simp[Value.ownBlock] at e;omega)));have c9:=(cL.block wr.heap.size eF).trans cz.o.1;have u0:bx.cell? (ao wr.heap.size 3)=some (.slice bt s.wt.length c3):=aA c9;have c6:bx.frozen? (ao wr.heap.size 3)=false:=(by simp[World.frozen?,c9]))
    have eH:ay (fw w s o mb wr.heap.size (.slice W s.T.length cT) (.slice (an rb) 12 12) (.slice ai s.rg.length al) ca b8 (s.rg.map (fun e=>!cG (s.c0 g d) e.2)) (bx.setCell ⟨wr.heap.size,3,none⟩ (.slice N s.wt.length S)) B c (s.c0 g d) (List.replicate s.rg.length false) []):=by
     have cF:∀k,k≠wr.heap.size->(bx.setCell ⟨wr.heap.size,3,none⟩ (.slice N s.wt.length S)).heap[k]?=bx.heap[k]?:=fun k hk=>aP _ _ _ _ hk;have dI:∀k,k<wr.heap.size->(bx.setCell ⟨wr.heap.size,3,none⟩ (.slice N s.wt.length S)).heap[k]?=wr.heap[k]?:=fun k hk=>(cF k aa).trans ((cL.block k (by have:=cz.o.2.size;omega)).trans (cz.o.2.block k hk))
     have fl:=cz.o.2.size;refine⟨cy ax.o.1 (fun k e=>dI k (cg ax.o.1 k e).2),?_,cy ax.o.2.2.1 (fun k e=>dI k (cg ax.o.2.2.1 k e).2),cy ax.o.2.2.2 (fun k e=>dI k (cg ax.o.2.2.2 k e).2),⟨N,S,?_,?_⟩,fun k e=>⟨by have:=bs.o.1 k e;omega,by have:=bs.o.1 k e;have:=bs.o.2.1;omega⟩⟩
     ·refine(ax.o.2.1.trans ((cz.o.2.trans (cL.mono fl)).mono ax.o.2.1.size)).trans (((Fr.refl (fun k=>k=wr.heap.size) bx).set wr.heap.size 3 _ rfl).below ?_ (fun k e=>by have e:k=wr.heap.size:=e;have:=ax.o.2.1.size;omega))
      have:=ax.o.2.1.size;have:=cL.size;omega
     ·rw[List.append_nil];simp only [World.setCell,Array.getElem?_modify,if_true,c9,Option.map_some];simp
     ·rw[List.append_nil];refine cy (ec cK (fun k e=>?_)) (fun k e=>cF k (fun en=>?_))
      ·have:=(cg cK k e).1;have:=ax.o.2.1.size;omega
      ·have:=(cg cK k e).1;omega
    have eI:ay (mb<wr.heap.size/\w.heap.size<=o/\o<mb):=⟨(cg ax.o.2.2.2 mb rfl).2,bs.o.2.2,bs.o.2.1⟩
    clear ax c9 u0 c6 cK eG cL cz eC fk eE cA dH eF bs;generalize bx.setCell ⟨wr.heap.size,3,none⟩ (.slice N s.wt.length S)=f3 at*;generalize wr.heap.size=q at*;have eJ:ay (rem s.rg (s.rg.map (fun e=>!cG (s.c0 g d) e.2)) (List.replicate s.rg.length false)=s.rg.filter (fun e=>!cG (s.c0 g d) e.2)):=uT (fun e=>cG (s.c0 g d) e.2) s.rg;have eK:ay (turns cG (d8 g) (s.rg.length+1) (rem s.rg (s.rg.map (fun e=>!cG (s.c0 g d) e.2)) (List.replicate s.rg.length false)) (s.c0 g d) []=s.cR g d):=by show _=_;rw[eJ.o];rfl
    generalize hD:s.rg.map (fun e=>!cG (s.c0 g d) e.2)=D at*;have eL:ay (D.length=s.rg.length):=by show _=_;rw[<-hD,aU]
    go_wp2_with fail
    go_loopg [7,12] (s.rg.length+1) (fun m iv mv wr=>∃(a3:Option Addr)(ci:Nat)(L M:List Bool)(C:List b9)(more:Bool),iv=.slice a3 s.T.length ci/\mv=.bool more/\ay (fw w s o mb q (.slice W s.T.length cT) (.slice (an rb) 12 12) (.slice ai s.rg.length al) ca b8 D wr a3 ci L M C)/\ay (M.length=s.rg.length/\fV s.T L/\(∀e∈C,e∈s.rg/\cw L e.2.toNat)/\C.length+(rem s.rg D M).length<=s.rg.length)/\ay ((more=true->turns cG (d8 g) m (rem s.rg D M) L C=s.cR g d/\(rem s.rg D M).length+1<=m)/\(more=false->(L,C,rem s.rg D M)=s.cR g d)))
    case atStart=>exact⟨B,c,s.c0 g d,List.replicate s.rg.length false,[],true,rfl,rfl,eH,⟨ac,d5.o,fun e he=>(by cases he),by have:=rD s.rg D (List.replicate s.rg.length false);simpa using this⟩,⟨fun _=>⟨eK.o,by have:=rD s.rg D (List.replicate s.rg.length false);omega⟩,fun h=>by cases h⟩⟩
    case round=>
     clear eH eJ eK;obtain⟨a3,ci,L,M,C,more,rfl,rfl,ad,br,da⟩:=hrel;cases more
     ·have cd:ay ((L,C,rem s.rg D M)=s.cR g d):=da.o.2 rfl;have f4:L.length=s.T.length:=br.o.2.1.len;have fm:ay (∀j,0<=gY s.T L j/\gY s.T L j<=13*j):=wT s.T L ag.o.iv.tl;clear da;go_wp2_with fail
      go_loopw [15,16] (fun nv iv fn=>∃j:Nat,j<=s.T.length/\nv=ak (gY s.T L j)/\iv=ak j/\ay (Below wr.heap.size wr fn)) (fun _ iv _=>s.T.length-(intOf iv).toNat)
      case atStart=>exact⟨0,aX _,rfl,rfl,aE _ _⟩
      case round=>
       obtain⟨j,f5,rfl,rfl,fH⟩:=hrel;have cf:=ad.o.below fH.o;have fp:=fi.o _ cf.bl;have bd:=fm.o j;obtain⟨f6,f7⟩:=bd;generalize db:gY s.T L j=aR at*;by_cases ap:j<s.T.length
       ·obtain⟨t,ht⟩:∃t,s.T[j]?=some t:=⟨_,aI ap⟩
        obtain⟨dE,f8,f9,dc,cv,y1,es,et,_⟩:=er.o _ cf.bl j t ht;rw[dc] at fp;have eM:s.T.getD j t0=t:=by rw[aG,ht];rfl
        have cQ:t.2.1.length<=12:=by have:=ag.o.iv.tl j;rw[eM] at this;exact this
        obtain⟨bn,dJ,fq⟩:=d4 ad.o.ri aa;obtain⟨rfl,rfl⟩:a3=an bn/\ci=dJ:=by simpa using fq
        have cM:=(fe cf.ri (jA (L:=L) (i:=j) aa)).1;have sB:ay (gY s.T L (j+1)=if L.getD j false=true then aR+(1+t.2.1.length) else aR):=by show _=_;rw[gY,eM,db]
        have j0:(0:Int)<=(j:Int):=aa;have ga:(j:Int)<(s.T.length:Int):=aa;clear cf db;cases hg:L.getD j false
        ·rw[hg] at cM;have xk:ay (gY s.T L (j+1)=aR):=by show _=_;have:=sB.o;rw[hg] at this;simpa using this
         exact xj
        ·rw[hg] at cM;have xk:ay (gY s.T L (j+1)=aR+(1+t.2.1.length)):=by show _=_;have:=sB.o;rw[hg] at this;simpa using this
         exact xj
       ·obtain rfl:j=s.T.length:=aa;have c5:=(e8 ((cq rp rb ca b8).below co.o cf.bl)).2.2.1;have dK:ay (fw w s o mb q (.slice W s.T.length cT) (.slice (an rb) 12 12) (.slice ai s.rg.length al) ca b8 D _ a3 ci L M C):=cf;have eN:ay (gY s.T L s.T.length=aR):=db;clear cf db ad;by_cases eO:b8<aR
        ·have fr:ay (s.cF g b8 d=true):=by show _=_;unfold cn.cF;rw[<-cd.o,eN.o,bq eO,Bool.or_true]
         have cN:ay (cc=3/\dn=s):=by have be:=cR.o.1;have aT:=cR.o.2;unfold cn.gE at be;unfold cn.cut at aT;rw[aJ fr.o] at be aT;exact⟨be.symm,aT.symm⟩
         go_wp2_with fail;go_ret;exact⟨F,by rw[cN.o.1];rfl,by rw[cN.o.2];exact(cq rp rb ca b8).below co.o dK.o.bl,ce.of dK.o.bl⟩
        ·have cN:ay (cc=0/\dn=⟨eD L s.T s.T.length,s.rs,s.rg.filter (fun e=>cG (s.c0 g d) e.2&&cG L e.1),(s.wt++C).filter (fun e=>cG L e.1)⟩):=by
          have fs:s.cF g b8 d=false:=by rw[fc.o,<-cd.o,eN.o,bA eO]
          have be:=cR.o.1;have aT:=cR.o.2;unfold cn.gE at be;unfold cn.cut at aT;rw[fs,aH ac] at be aT;rw[<-cd.o] at aT;exact⟨be.symm,aT.symm⟩
         have eP:ay ((∀e∈C,e∈s.rg)/\C.length<=1000):=⟨fun e he=>(br.o.2.2.1 e he).1,by have be:=br.o.2.2.2;have aT:=ag.o.gl;omega⟩
         have ft:ay (fV s.T L):=br.o.2.1;have fu:ay (D=s.rg.map (fun e=>!cG (s.c0 g d) e.2)):=hD.symm
         iterate 62 go_step
         refine mD.Dy co.o ag.o dK.o fu.o ft.o eP.o.1 eP.o.2 ?_;intro gb w' fv ha hd fx fy;simp only [Array.getD_eq_getD_getElem?] at ha;refine bz (v:=ak 0) (by simp[results,results51,ha]) hd ⟨fv,by rw[cN.o.1],by rw[cN.o.2];exact fx,fy⟩
     ·obtain⟨eQ,fz⟩:=da.o.1 rfl;obtain⟨b4,eR⟩:∃b4,gk=b4+1:=⟨gk-1,aa⟩
      have ch:ay (turns cG (d8 g) gk (rem s.rg D M) L C=s.cR g d/\gk=b4+1/\(rem s.rg D M).length<=b4):=⟨eQ,eR,aa⟩
      obtain⟨P,eS⟩:∃P,ay (pass cG (d8 g) (rem s.rg D M) L C []=P):=⟨_,rfl⟩
      have eT:ay (gU cG (d8 g) s.rg D P 0 L C M):=by rw[<-eS.o];exact gU.start eL.o br.o.1
      clear da eQ fz eR;go_wp2_with fail
      go_loopw [7,12,13] (fun iv mv kv wr=>∃(i:Nat)(a3:Option Addr)(ci:Nat)(L' M':List Bool)(C':List b9)(more:Bool),i<=s.rg.length/\iv=.slice a3 s.T.length ci/\mv=.bool more/\kv=ak i/\ay (fw w s o mb q (.slice W s.T.length cT) (.slice (an rb) 12 12) (.slice ai s.rg.length al) ca b8 D wr a3 ci L' M' C')/\ay (M'.length=s.rg.length/\fV s.T L'/\(∀e∈C',e∈s.rg/\cw L' e.2.toNat)/\C'.length<=C.length+i)/\ay (gU cG (d8 g) s.rg D P i L' C' M'/\C.length<=C'.length/\(more=false->C'.length=C.length)/\(more=true->C.length<C'.length))) (fun _ _ kv _=>s.rg.length-(intOf kv).toNat)
      case atStart=>exact⟨0,a3,ci,L,M,C,false,aX _,rfl,rfl,rfl,ad,⟨br.o.1,br.o.2.1,br.o.2.2.1,aD _⟩,⟨eT.o,aD _,fun _=>rfl,fun h=>by cases h⟩⟩
      case round=>
       clear ad eT;obtain⟨i,a3,ci,L',M',C',more,hi,rfl,rfl,rfl,ad,HQ,ar⟩:=hrel;obtain⟨v2,cb,cs,_,bi,_⟩:=du.o wr ad.o.bl;obtain⟨gc,el,cZ⟩:=dU bi;subst cZ;by_cases ap:i<s.rg.length
       ·obtain⟨gd,ge,rfl,fh,cE⟩:=gn bi aa;obtain⟨cv,y1⟩:=cE i ap;have cx:s.rg.getD i (0,0)∈s.rg:=getD_in ap;obtain⟨⟨g0,g1⟩,n0,n1⟩:=ag.o.gv _ cx;obtain⟨l,f,dL⟩:∃l fA:Nat,s.rg.getD i (0,0)=((l:Int),(fA:Int)):=⟨(s.rg.getD i (0,0)).1.toNat,(s.rg.getD i (0,0)).2.toNat,by rw[show(((s.rg.getD i (0,0)).1.toNat:Nat):Int)=(s.rg.getD i (0,0)).1 by omega,show(((s.rg.getD i (0,0)).2.toNat:Nat):Int)=(s.rg.getD i (0,0)).2 by omega]⟩
        have dM:ay (s.rg.getD i (0,0)=((l:Int),(f:Int))):=dL;rw[dL] at cv y1 g1 n1 cx;dsimp only at cv y1 g1 n1;have g1:l<s.T.length:=by simpa using g1.1
        have dN:cI s.T f:=by simpa using n1
        have gf:f<s.T.length:=dN.1;have gg:=HQ.o.2.1.len;obtain⟨bn,dJ,dc⟩:=d4 ad.o.ri aa;obtain⟨rfl,rfl⟩:a3=an bn/\ci=dJ:=by simpa using dc
        have eU:=(fe ad.o.rd (jA (L:=D) (i:=i) (by rw[eL.o];exact ap))).1;have b5:=fe ad.o.rm (jA (L:=M') (i:=i) (by rw[HQ.o.1];exact ap))
        have cM:=(fe ad.o.ri (jA (L:=L') (i:=l) aa)).1;have q0:(0:Int)<=(i:Int):=aa;have q1:(i:Int)<(s.rg.length:Int):=aa;have b2:(0:Int)<=(l:Int):=aa;have q3:(l:Int)<(s.T.length:Int):=aa;have ef:(0:Int)<=(f:Int):=aa;have gh:(f:Int)<(s.T.length:Int):=aa;have dB:=(cg ad.o.rd o rfl).2;have gi:=(cg ad.o.rm mb rfl).2;have gj:=(cg ad.o.ri bn rfl).2;have cA:=aq wr (.cells #[.int .i64 (l:Int),.int .i64 (f:Int)] 116)
        have oL:ay (fw w s o mb q (.slice W s.T.length cT) (.slice (an rb) 12 12) (.slice ai s.rg.length al) ca b8 D (wr.alloc (.cells #[.int .i64 (l:Int),.int .i64 (f:Int)] 116)) (an bn) ci L' M' C'):=ad.o.below cA;have eV:ay ((wr.alloc (.cells #[.int .i64 (l:Int),.int .i64 (f:Int)] 116)).heap[wr.heap.size]?=some (.cells #[ak (l:Int),ak (f:Int)] 116 (0,0))):=aN _ _;clear dL g0 n0 cE dc bi;cases hd:D.getD i false
        ·rw[hd] at eU;have bb:=ar.o.1.skip ap (by rw[hd];rfl)
         have mF:ay (gU cG (d8 g) s.rg D P (i+1) L' C' M'/\C.length<=C'.length/\(more=false->C'.length=C.length)/\(more=true->C.length<C'.length)):=⟨bb,ar.o.2⟩
         clear ar bb hd;exact sA
        ·rw[hd] at eU;cases hmv:M'.getD i false
         ·rw[hmv] at b5;cases hgi:L'.getD l false
          ·rw[hgi] at cM;have bb:=ar.o.1.left ap (by rw[hd,hmv];rfl) (by rw[dM.o];exact hgi)
           have mF:ay (gU cG (d8 g) s.rg D P (i+1) L' C' M'/\C.length<=C'.length/\(more=false->C'.length=C.length)/\(more=true->C.length<C'.length)):=⟨bb,ar.o.2⟩
           obtain⟨b5,_⟩:=b5;clear ar bb hd hmv hgi;exact sA
          ·rw[hgi] at cM;have bb:=ar.o.1.come ap (by rw[hd,hmv];rfl) (by rw[dM.o];exact hgi)
           rw[dM.o] at bb;dsimp only at bb;obtain⟨k1,eW,eX⟩:=fV.d8 d0.o ag.o.iv HQ.o.2.1 (x:=(f:Int)) (by simpa using dN)
           have mF:ay (gU cG (d8 g) s.rg D P (i+1) (d8 g L' (f:Int)) (C'++[((l:Int),(f:Int))]) (M'.set i true)/\C.length<=(C'++[((l:Int),(f:Int))]).length/\C.length<(C'++[((l:Int),(f:Int))]).length):=⟨bb,by rw[aZ];have:=ar.o.2.1;simp;omega,by rw[aZ];have:=ar.o.2.1;simp;omega⟩
           have dO:ay ((M'.set i true).length=s.rg.length/\fV s.T (d8 g L' (f:Int))/\(∀e∈C'++[((l:Int),(f:Int))],e∈s.rg/\cw (d8 g L' (f:Int)) e.2.toNat)/\(C'++[((l:Int),(f:Int))]).length<=C.length+(i+1)):=⟨by rw[bf];exact HQ.o.1,k1,fun e he=>by
            rcases List.mem_append.1 he with bo|bo
            ·exact⟨(HQ.o.2.2.1 e bo).1,eX _ (HQ.o.2.2.1 e bo).2⟩
            ·rw[List.mem_singleton.1 bo];exact⟨cx,by simpa using eW⟩,by rw[aZ];have:=HQ.o.2.2.2;simp;omega⟩
           have gl:C'.length<=2000:=by have:=HQ.o.2.2.2;have:=br.o.2.2.2;omega
           have fB:ay (∀w',fw w s o mb q (.slice W s.T.length cT) (.slice (an rb) 12 12) (.slice ai s.rg.length al) ca b8 D w' (an bn) ci (L'.set f true) M' (C'++[((l:Int),(f:Int))])->Calls prog 116 #[am q,.slice (an bn) s.T.length ci] w' fun e bp=>∃cj aR,e=.returned (.slice cj s.T.length aR)/\bp.ownsRow w'.heap.size 4 1 (.slice cj s.T.length aR) s.T.length ((d8 g L' (f:Int)).map Value.bool)/\Below w'.heap.size w' bp):=fun w' dP=>by
            obtain⟨N,S,eY,fC⟩:=dP.kW;obtain⟨ck,fD,fE⟩:=HQ.o.2.1.put dN;have fF:Wg w' q s.T (s.wt++(C'++[((l:Int),(f:Int))])):=⟨⟨W,cT,by simp[World.cell?,eY],fun i x b3=>er.o w' dP.bl i x b3⟩,⟨N,S,by simp[World.cell?,eY],gn fC⟩⟩
            have fG:gD s.T (s.wt++(C'++[((l:Int),(f:Int))])):=⟨ag.o.iv.fl,ag.o.iv.fv,fun e he=>by
             rcases List.mem_append.1 he with bo|bo
             ·exact ag.o.iv.wv e bo
             ·have hm:e∈s.rg:=(dO.o.2.2.1 e bo).1;exact(ag.o.gv e hm).2,ag.o.iv.tl⟩
            have cC:=dP.ri;rw[<-ck.len] at cC;have fI:(s.wt++(C'++[((l:Int),(f:Int))])).length<=10000:=by rw[aZ,aZ];have:=ag.o.wl;simp;omega
            have cO:=w8 fF fG (an bn) ci (oG cC) (fun e=>by cases e) ck.len ht fI ck.al;rw[ck.len] at cO;refine cO.mono ?_;rintro e bp ⟨cj,aR,cr,rfl,o1,dd,fJ⟩
            have fK:jy s.T s.wt (L'.set f true) cr:=dd.less (fun e he=>by
             rcases List.mem_append.1 he with bo|bo
             ·exact fE _ (HQ.o.2.2.1 e bo).2
             ·rw[List.mem_singleton.1 bo];simpa using fD)
            have eo:cr=d8 g L' (f:Int):=by unfold d8;rw[Int.toNat_natCast];exact fK.uniq (d0.o _ ck.len ck.al)
            have dm:cr.length=s.T.length:=dd.len.trans ck.len;rw[dm] at o1⊢;rw[eo] at o1;exact⟨cj,aR,rfl,o1,fJ⟩
           obtain⟨b5,gm⟩:=b5;clear ar bb k1 eW eX hd hmv hgi HQ;have eZ:ay (q<wr.heap.size/\∀N S,(wr.alloc (.cells #[.int .i64 (l:Int),.int .i64 (f:Int)] 116)).heap[q]?=some (.cells #[.slice W s.T.length cT,.slice (an rb) 12 12,.slice ai s.rg.length al,.slice N (s.wt++C').length S,ak ca,ak b8] 111 (0,0))->∀k,some k=(Value.slice N (s.wt++C').length S).ownBlock->k<wr.heap.size):=by
            obtain⟨fL,fM,aT,di⟩:=ad.o.kW;refine⟨lt_of_some aT,fun N S e0 k hk=>?_⟩
            rw[cA.block q (lt_of_some aT),aT] at e0;have fN:fL=N/\fM=S:=by simpa using e0
            obtain⟨rfl,rfl⟩:=fN;exact(cg di k hk).2
           go_upto_region 21 with fail
           generalize wr.alloc (.cells #[.int .i64 (l:Int),.int .i64 (f:Int)] 116)=ab at*;have de:ab.heap[wr.heap.size]?=some (.cells #[.int .i64 (l:Int),.int .i64 (f:Int)] 116 (0,0)):=eV.o;generalize wr.heap.size=b6 at*;have z0:ab.cell? ⟨b6,0,none⟩=some (.int .i64 (l:Int)):=by simp[World.cell?,de]
           have fO:ab.cell? (ao b6 1)=some (ak (f:Int)):=by simp[World.cell?,de]
           obtain⟨N,S,b3,df⟩:=oL.o.kW;have e1:ab.cell? (ao q 3)=some (.slice N (s.wt++C').length S):=aA b3
           have fP:=lt_of_some b3;have fQ:=lt_of_some de;have dQ:=aq ab (.cells #[.int .i64 (l:Int),.int .i64 (f:Int)] 116)
           have dR:=aN ab (.cells #[.int .i64 (l:Int),.int .i64 (f:Int)] 116)
           have cl:ay (ab.heap[q]?=some (.cells #[.slice W s.T.length cT,.slice (an rb) 12 12,.slice ai s.rg.length al,.slice N (s.wt++C').length S,ak ca,ak b8] 111 (0,0))/\ab.ownsRow w.heap.size 116 2 (.slice N (s.wt++C').length S) (s.wt++C').length (ev (s.wt++C'))/\Below ab.heap.size ab (ab.alloc (.cells #[.int .i64 (l:Int),.int .i64 (f:Int)] 116))/\w.heap.size<=ab.heap.size):=⟨b3,df,dQ,oL.o.bl.size⟩
           have dS:=cy df (fun k e=>dQ.block k (cg df k e).2)
           have fR:(s.wt++C').length<=3000:=by rw[aZ];have:=ag.o.wl;omega
           have fS:ay (∀a,(an ab.heap.size:Option Addr)=some a->∀k u,(ev [((l:Int),(f:Int))])[k]?=some u->(ab.alloc (.cells #[.int .i64 (l:Int),.int .i64 (f:Int)] 116)).cell? (a.add k)=some u):=fun a e k u hk=>by
            cases e;have go:k<2:=by have:=(List.getElem?_eq_some_iff.1 hk).1;simpa[ev] using this
            rcases(show k=0\/k=1 by omega) with rfl|rfl
            ·simp[ev] at hk;subst hk;show World.cell? _ ⟨ab.heap.size,0,none⟩=_;unfold World.cell?;rw[dR];rfl
            ·simp[ev] at hk;subst hk;show World.cell? _ ⟨ab.heap.size,1,none⟩=_;unfold World.cell?;rw[dR];rfl
           have dT:ay ((s.wt++(C'++[((l:Int),(f:Int))])).length=(s.wt++C').length+1/\ev (s.wt++(C'++[((l:Int),(f:Int))]))=ev (s.wt++C')++ev [((l:Int),(f:Int))]):=⟨by simp;omega,by rw[<-bj];simp[ev]⟩
           obtain⟨b7,dg⟩:∃b7,(s.wt++C').length=b7:=⟨_,rfl⟩
           rw[dg] at e1 dS fR;clear df b3 dR dQ de
           go_upto_region 22 with(at_builtin;refine je _ rfl _ _ 109 rfl w.heap.size 116 ex (.agg #[ak 0,ak 0]) 2 16 underlying109 ey ez eA eB rfl ae (.slice N b7 S) b7 (ev (s.wt++C')) rfl dS (an ab.heap.size) 1 1 (ev [((l:Int),(f:Int))]) rfl rfl (fun e=>by cases e) fS.o (i0 _) (by unfold maxLen;omega) aa (by have:=cl.o.2.2.2;simp;omega) ?_;intro ks kt cB e2 e3 _;have dh:Fr (fun k=>some k=(Value.slice N b7 S).ownBlock) ab cB:=(Fr.of cl.o.2.2.1).grown e3 (fun k e=>aL (by simpa using e.symm));have dV:=(dh.block q fP (fun cm=>oL.o.world cl.o.2.1 ae q (by rw[dg];exact cm) rfl)).trans cl.o.1;have u0:cB.cell? (ao q 3)=some (.slice N (s.wt++C').length S):=aA dV;have c6:cB.frozen? (ao q 3)=false:=(by simp[World.frozen?,dV]))
           have dW:fw w s o mb q (.slice W s.T.length cT) (.slice (an rb) 12 12) (.slice ai s.rg.length al) ca b8 D (cB.setCell ⟨q,3,none⟩ (.slice ks (b7+1) kt)) (an bn) ci L' M' (C'++[((l:Int),(f:Int))]):=by
            subst dg;have h:=oL.o.push (by have:=eI.o;omega) cl.o.1 cl.o.2.1 (e:=((l:Int),(f:Int))) (ks:=ks) (kt:=kt) dh (by rw[dT.o.1,dT.o.2];exact e2)
            rw[dT.o.1] at h;exact h
           have e4:(cB.setCell ⟨q,3,none⟩ (.slice ks (b7+1) kt)).heap[b6]?=some (.cells #[ak (l:Int),ak (f:Int)] 116 (0,0)):=(aP _ _ _ _ (show b6≠q from fun e=>by have h:=eZ.o.1;rw[e] at h;exact Nat.lt_irrefl _ h)).trans ((dh.block b6 fQ (fun cm=>Nat.lt_irrefl b6 (eZ.o.2 N S cl.o.1 b6 (by rw[dg];exact cm)))).trans eV.o)
           clear dh dV u0 c6 e2 e3 e1 z0 fO dS;generalize cB.setCell ⟨q,3,none⟩ (.slice ks (b7+1) kt)=dX at*;have gp:dX.cell? (ao b6 1)=some (ak (f:Int)):=by simp[World.cell?,e4]
           obtain⟨gq,gr⟩:=fe dW.ri (jA (L:=L') (i:=f) aa)
           have e5:=dW.mark f;have e6:ay (fw w s o mb q (.slice W s.T.length cT) (.slice (an rb) 12 12) (.slice ai s.rg.length al) ca b8 D (dX.setCell ⟨bn,f,none⟩ (.bool true)) (an bn) ci (L'.set f true) M' (C'++[((l:Int),(f:Int))])):=e5;clear dW e5 e4
           go_upto_region 23 with fail
           generalize dX.setCell ⟨bn,f,none⟩ (.bool true)=fT at*;have cO:=fB.o fT e6.o
           go_upto_region 24 with(go_at_call 116;refine cO.mono ?_;clear cO;rintro e e7 ⟨cj,aR,rfl,o1,dd⟩;have bg:ay (fw w s o mb q (.slice W s.T.length cT) (.slice (an rb) 12 12) (.slice ai s.rg.length al) ca b8 D e7 cj aR (d8 g L' (f:Int)) M' (C'++[((l:Int),(f:Int))])):=(e6.o.is dd o1))
           obtain⟨gs,gt⟩:=fe bg.o.rm (jA (L:=M') (i:=i) (by have:=dO.o.1;rw[bf] at this;rw[this];exact ap))
           have aV:ay (fw w s o mb q (.slice W s.T.length cT) (.slice (an rb) 12 12) (.slice ai s.rg.length al) ca b8 D (e7.setCell ⟨mb,i,none⟩ (.bool true)) cj aR (d8 g L' (f:Int)) (M'.set i true) (C'++[((l:Int),(f:Int))])):=bg.o.mv (fun e=>by have h:=eI.o.2.2;rw[e] at h;exact Nat.lt_irrefl _ h) i;go_wp2_with fail;go_roundw
           case rel=>exact⟨i+1,_,_,d8 g L' (f:Int),M'.set i true,C'++[((l:Int),(f:Int))],true,aa,rfl,rfl,aj,aV,dO,⟨mF.o.1,mF.o.2.1,fun h=>(by cases h),fun _=>mF.o.2.2⟩⟩
           case measure=>simp[intOf];omega
         ·rw[hmv] at b5;have bb:=ar.o.1.skip ap (by rw[hd,hmv];rfl)
          have mF:ay (gU cG (d8 g) s.rg D P (i+1) L' C' M'/\C.length<=C'.length/\(more=false->C'.length=C.length)/\(more=true->C.length<C'.length)):=⟨bb,ar.o.2⟩
          obtain⟨b5,_⟩:=b5;clear ar bb hd hmv;exact sA
       ·obtain rfl:i=s.rg.length:=aa;have b0:=ar.o.1.stop;rw[<-eS.o] at b0;have cP:=pJ (is:=cG) (kp:=d8 g) (rem s.rg D M) L C [];have e9:ay (C'.length+(rem s.rg D M').length<=s.rg.length):=by have be:=cP.1;rw[<-b0] at be;simp only [List.length_nil,Nat.add_zero] at be;have aT:=br.o.2.2.2;show _<=_;omega
        clear bi;cases more
        ·have fa:=ar.o.2.2.1 rfl;have cd:ay ((L',C',rem s.rg D M')=s.cR g d):=by show _=_;rw[<-ch.o.1,ch.o.2.1,uQ (by rw[<-b0];exact fa)];exact b0
         clear b0 cP
         as_aux_lemma=>
         go_wp2_with fail
         go_roundg b4
         case measure=>have:=ch.o.2.1;omega
         case rel=>exact⟨a3,ci,L',M',C',false,rfl,rfl,ad,⟨HQ.o.1,HQ.o.2.1,HQ.o.2.2.1,e9.o⟩,⟨fun h=>(by cases h),fun _=>cd.o⟩⟩
        ·have fa:=ar.o.2.2.2 rfl;have cd:ay (turns cG (d8 g) b4 (rem s.rg D M') L' C'=s.cR g d/\(rem s.rg D M').length+1<=b4):=by
          have cm:(pass cG (d8 g) (rem s.rg D M) L C []).2.1=C':=by rw[<-b0]
          have cu:(pass cG (d8 g) (rem s.rg D M) L C []).2.2=rem s.rg D M':=by rw[<-b0]
          have dF:(pass cG (d8 g) (rem s.rg D M) L C []).1=L':=by rw[<-b0]
          rw[cm,cu] at cP;simp only [List.length_nil,Nat.add_zero] at cP;refine⟨?_,by have:=ch.o.2.2;omega⟩
          rw[<-ch.o.1,ch.o.2.1,uP (by rw[cm];omega),cm,cu,dF]
         clear b0 cP
         as_aux_lemma=>
         go_wp2_with fail
         go_roundg b4
         case measure=>have:=ch.o.2.1;omega
         case rel=>exact⟨a3,ci,L',M',C',true,rfl,rfl,ad,⟨HQ.o.1,HQ.o.2.1,HQ.o.2.2.1,e9.o⟩,⟨fun _=>cd.o,fun h=>(by cases h)⟩⟩
end
abbrev gZ:=List cH->List b9->List Bool->List Bool
def jR (T:List cH)(v:Int×Int):Bool:=v.1==3&&(T.getD v.2.toNat t0).1==5
def iF (T:List cH)(v:Int×Int):Bool:=v.1==3&&!((T.getD v.2.toNat t0).1==5)
theorem mG {T:List cH}{v:Int×Int}:jR T v=true↔v.1=3/\(T.getD v.2.toNat t0).1=5:=by unfold jR;simp
theorem ky {T:List cH}{v:Int×Int}:iF T v=true↔v.1=3/\(T.getD v.2.toNat t0).1≠5:=by unfold iF;simp
abbrev mH (T:List cH)(j i:Nat)(y:Int×Int):List cH:=T.set j ((T.getD j t0).1,(T.getD j t0).2.1.set i y,(T.getD j t0).2.2)
def cn.room (g:gZ)(ca b8:Int)(s:cn)(m:Int):Int×cn:=
 if m<=ca-(dC s.T).1 then(0,s) else(s.gE (g s.T s.wt) b8 (decide (b8-(dC s.T).2<(dC s.T).1)),s.cut (g s.T s.wt) b8 (decide (b8-(dC s.T).2<(dC s.T).1)))
def cn.put (s:cn)(kd:Int)(l:List (Int×Int)):cn:={s with T:=s.T++[(kd,l,false,false)]}
def cn.b8 (g:gZ)(ca b8:Int)(s:cn)(kd:Int)(l:List (Int×Int)):(Int×Int)×Int×cn:=
 if(s.room g ca b8 (1+l.length)).1=0 then((3,((s.room g ca b8 (1+l.length)).2.T.length:Int)),0,(s.room g ca b8 (1+l.length)).2.put kd l)
 else((0,0),(s.room g ca b8 (1+l.length)).1,(s.room g ca b8 (1+l.length)).2)
def cn.pop (s:cn)(v:Int×Int):(Int×Int)×Int×cn:=
 if jR s.T v=true then(if dV v.2 s.wt<s.wt.length then((3,(s.wt.getD (dV v.2 s.wt) (0,0)).2),0,{s with wt:=s.wt.take (dV v.2 s.wt)++s.wt.drop (dV v.2 s.wt+1)}) else((0,0),4,s)) else((0,0),2,s)
def cn.fc (s:cn)(v:Int×Int)(I:Int):Int:=if iF s.T v=true then(if I<0\/((s.T.getD v.2.toNat t0).2.1.length:Int)<=I then 1 else 0) else 2
def cn.rt (g:gZ)(ca b8:Int)(s:cn)(k:Int)(A B:Nat)(I n:Int):(Int×Int)×Int×cn:=
 if k=1 then((1,n),0,s) else if k=3 then(s.rs.getD A (0,0),0,s) else if k=4 then s.b8 g ca b8 1 [s.rs.getD A (0,0),s.rs.getD B (0,0)] else if k=5 then s.b8 g ca b8 2 (List.replicate n.toNat (s.rs.getD A (0,0)))
 else if k=6 then s.b8 g ca b8 3 [s.rs.getD A (0,0),s.rs.getD B (0,0)] else if k=7 then s.b8 g ca b8 4 [s.rs.getD A (0,0),s.rs.getD B (0,0)] else if k=8 then s.b8 g ca b8 5 [] else if k=10 then s.pop (s.rs.getD A (0,0))
 else if k=11 then((if s.fc (s.rs.getD A (0,0)) I=0 then(s.T.getD (s.rs.getD A (0,0)).2.toNat t0).2.1.getD I.toNat (0,0) else(0,0)),s.fc (s.rs.getD A (0,0)) I,s)
 else if k=13 then(if iF s.T (s.rs.getD A (0,0))=true then((1,((s.T.getD (s.rs.getD A (0,0)).2.toNat t0).2.1.length:Int)),0,s) else((0,0),2,s))
 else if k=14 then((1,if s.rs.getD A (0,0)=s.rs.getD B (0,0) then 1 else 0),0,s) else((0,0),0,s)
def cn.reg (s:cn)(t b:Int×Int):Int×cn:=
 if t.1=3/\jR s.T b=true then(if 24<=s.rg.length+s.wt.length then(3,s) else(0,{s with rg:=s.rg++[(b.2,t.2)]})) else(2,s)
def cn.set (s:cn)(v:Int×Int)(I:Int)(y:Int×Int):Int×cn:=(s.fc v I,if s.fc v I=0 then {s with T:=mH s.T v.2.toNat I.toNat y} else s)
def cn.eB (g:gZ)(ca b8:Int)(s:cn)(k R A B I n:Int):Int×cn:=
 if dP k R A B n=0 then(if k=9 then s.reg (s.rs.getD A.toNat (0,0)) (s.rs.getD B.toNat (0,0)) else if k=12 then s.set (s.rs.getD A.toNat (0,0)) I (s.rs.getD B.toNat (0,0))
  else if k=15 then(s.gE (g s.T s.wt) b8 false,s.cut (g s.T s.wt) b8 false) else if k=16 then(s.gE (g s.T s.wt) b8 true,s.cut (g s.T s.wt) b8 true)
  else if(s.rt g ca b8 k A.toNat B.toNat I n).2.1=0 then(0,{(s.rt g ca b8 k A.toNat B.toNat I n).2.2 with rs:=(s.rt g ca b8 k A.toNat B.toNat I n).2.2.rs.set R.toNat (s.rt g ca b8 k A.toNat B.toNat I n).1})
  else((s.rt g ca b8 k A.toNat B.toNat I n).2.1,(s.rt g ca b8 k A.toNat B.toNat I n).2.2))
 else(dP k R A B n,s)
abbrev fz (k R A B I n:Int):Value:=.agg #[ak k,ak R,ak A,ak B,ak I,ak n]
abbrev cO (k R A B I n:Int):Obj:=.cells #[ak k,ak R,ak A,ak B,ak I,ak n] 44 (0,0)
theorem fX {w:aw}{b:Nat}{k R A B I n:Int}(h:w.heap[b]?=some (cO k R A B I n)):w.cell? (ao b 0)=some (ak k)/\w.cell? (ao b 1)=some (ak R)/\w.cell? (ao b 2)=some (ak A)/\w.cell? (ao b 3)=some (ak B)/\w.cell? (ao b 4)=some (ak I)/\w.cell? (ao b 5)=some (ak n):=by refine⟨?_,?_,?_,?_,?_,?_⟩<;>simp[World.cell?,h]
theorem sC {k R A B n:Int}(h:dP k R A B n=0):¬((decide (cU k=1\/cU k=3\/cU k=7)&&!dv R)||(decide (cU k=3\/cU k=6\/cU k=7)&&!dv A)||(decide (cU k=6\/cU k=7)&&!dv B))=true:=fun c=>by unfold dP at h;split at h<;>omega
theorem sD {r:Int}(h:dv r=true):0<=r/\r<12:=by unfold dv at h;simpa using h
theorem xl {k R A B n:Int}(h:dP k R A B n=0)(b:cU k=1\/cU k=3\/cU k=7):0<=R/\R<12:=by
 refine sD ?_;cases c:dv R
 ·exact absurd (by rw[c,bq b];rfl) (sC h)
 ·rfl
theorem nz {k R A B n:Int}(h:dP k R A B n=0)(b:cU k=3\/cU k=6\/cU k=7):0<=A/\A<12:=by
 refine sD ?_;cases c:dv A
 ·exact absurd (by rw[c,bq b];simp) (sC h)
 ·rfl
theorem nA {k R A B n:Int}(h:dP k R A B n=0)(b:cU k=6\/cU k=7):0<=B/\B<12:=by
 refine sD ?_;cases c:dv B
 ·exact absurd (by rw[c,bq b];simp) (sC h)
 ·rfl
def iM (k R A B I n:Int):Prop:=∀w,Calls prog 58 #[gt k R A B I n] w fun e w'=>e=.returned (ak 0)/\Below w.heap.size w w'
theorem DA {k R A B n:Int}(I:Int)(h:dP k R A B n=0):iM k R A B I n:=fun w=>by have P:=wN k R A B I n w;rw[h] at P;exact P
section
variable {rp rb:Nat}{ca b8:Int}{F:Nat->Prop}{s:cn}{w:aw}
theorem DB (h:(cq rp rb ca b8).J F s w)(k R A B I n:Int)(hc:dP k R A B n≠0):
 Calls prog 21 #[am rp,gt k R A B I n] w fun e w'=>e=.returned (ak (dP k R A B n))/\(cq rp rb ca b8).J F s w'/\ce F w F w':=by
 have b:=wN k R A B I n;have o:(dP k R A B n !=0)=true:=by simpa using hc
 generalize dP k R A B n=z at*;clear hc;have c:=aq w (dr k R A B I n)
 have P:=b (w.alloc (dr k R A B I n))
 have d:ay ((cq rp rb ca b8).J F s w/\Below w.heap.size w (w.alloc (dr k R A B I n))):=⟨h,c⟩
 clear h c b;go_enter func21,ntmps21;go_wp2_with fail;refine P.mono ?_;clear P;rintro e w1 ⟨rfl,f⟩
 have hb:=d.o.2.trans (f.mono ac)
 have i:=(cq rp rb ca b8).below d.o.1 hb;have g:w1.heap[w.heap.size]?=some (dr k R A B I n):=(f.block _ ac).trans (aN _ _)
 obtain⟨q0,q1,j,q3,l,m⟩:=fX g;clear q0 q1 j q3 l m g;go_wp2_with fail;go_ret;exact⟨rfl,i,ce.of hb⟩
theorem DC (h:(cq rp rb ca b8).J F s w)(R:Nat)(p:R<12)(A B I n:Int)(f:iM 1 R A B I n):
 Calls prog 21 #[am rp,gt 1 R A B I n] w fun e w'=>e=.returned (ak 0)/\(cq rp rb ca b8).J F {s with rs:=s.rs.set R (1,n)} w'/\ce F w F w':=by
 have g:=aq w (dr 1 R A B I n)
 have P:=f (w.alloc (dr 1 R A B I n))
 have b:ay ((cq rp rb ca b8).J F s w/\Below w.heap.size w (w.alloc (dr 1 R A B I n))):=⟨h,g⟩
 clear h g f;go_enter func21,ntmps21;go_wp2_with fail;refine P.mono ?_;clear P;rintro e w1 ⟨rfl,d⟩
 have hb:=b.o.2.trans (d.mono ac)
 have c:=(cq rp rb ca b8).below b.o.1 hb;have i:w1.heap[w.heap.size]?=some (dr 1 R A B I n):=(d.block _ ac).trans (aN _ _)
 obtain⟨q0,q1,v,q3,x,N⟩:=fX i;obtain⟨c1,_,_,S,W,q,ab,j⟩:=e8 c;obtain⟨ad,ag,ai,y1⟩:=j R p;obtain⟨al,t,u⟩:=lH c;have lb:=(cq rp rb ca b8).lt b.o.1 rb t;have lp:=(cq rp rb ca b8).lt b.o.1 rp u;have gG:rb≠w.heap.size:=aa;have ap:rp≠w.heap.size:=aa;have k:ay ((cq rp rb ca b8).J F s w1/\ce F w F w1):=⟨c,ce.of hb⟩
 have r0:(0:Int)<=(R:Int):=aa;have r1:(R:Int)<12:=aa;clear c hb d i j q b;go_wp2_with fail
 go_region_held3 (fun w'=>w'.cell? (ao rp 1)=some (.slice (an rb) 12 12)/\w'.cell? (ao w.heap.size 1)=some (ak R)/\w'.cell? (ao w.heap.size 5)=some (ak n)) (go_keep) (fail)
 obtain⟨l,m⟩:=kP k.o.1 R (1,n)
 have o:ay (_/\_):=⟨(cq rp rb ca b8).below l bZ.drew,(k.o.2.trans m).below bZ.drew⟩
 clear l m;go_wp2_with fail;go_ret;exact⟨rfl,o.o.1,o.o.2⟩
theorem DD (h:(cq rp rb ca b8).J F s w)(R:Nat)(p:R<12)(A B I n:Int)(f:iM 2 R A B I n):
 Calls prog 21 #[am rp,gt 2 R A B I n] w fun e w'=>e=.returned (ak 0)/\(cq rp rb ca b8).J F {s with rs:=s.rs.set R (0,0)} w'/\ce F w F w':=by
 have g:=aq w (dr 2 R A B I n)
 have P:=f (w.alloc (dr 2 R A B I n))
 have b:ay ((cq rp rb ca b8).J F s w/\Below w.heap.size w (w.alloc (dr 2 R A B I n))):=⟨h,g⟩
 clear h g f;go_enter func21,ntmps21;go_wp2_with fail;refine P.mono ?_;clear P;rintro e w1 ⟨rfl,d⟩
 have hb:=b.o.2.trans (d.mono ac)
 have c:=(cq rp rb ca b8).below b.o.1 hb;have i:w1.heap[w.heap.size]?=some (dr 2 R A B I n):=(d.block _ ac).trans (aN _ _)
 obtain⟨q0,q1,v,q3,x,N⟩:=fX i;obtain⟨c1,_,_,S,W,q,ab,j⟩:=e8 c;obtain⟨ad,ag,ai,y1⟩:=j R p;obtain⟨al,t,u⟩:=lH c;have lb:=(cq rp rb ca b8).lt b.o.1 rb t;have lp:=(cq rp rb ca b8).lt b.o.1 rp u;have gG:rb≠w.heap.size:=aa;have ap:rp≠w.heap.size:=aa;have k:ay ((cq rp rb ca b8).J F s w1/\ce F w F w1):=⟨c,ce.of hb⟩
 have r0:(0:Int)<=(R:Int):=aa;have r1:(R:Int)<12:=aa;clear c hb d i j q b;go_wp2_with fail
 go_region_held3 (fun w'=>w'.cell? (ao rp 1)=some (.slice (an rb) 12 12)/\w'.cell? (ao w.heap.size 1)=some (ak R)) (go_keep) (fail)
 obtain⟨l,m⟩:=kP k.o.1 R (0,0)
 have o:ay (_/\_):=⟨(cq rp rb ca b8).below l bZ.drew,(k.o.2.trans m).below bZ.drew⟩
 clear l m;go_wp2_with fail;go_ret;exact⟨rfl,o.o.1,o.o.2⟩
theorem xm (h:(cq rp rb ca b8).J F s w)(f:gF s)(h0:0<=b8)(i:b8<=100000)(b:Bool)(g:List Bool->List Bool)(hg:ed s.T s.wt g):
 Calls prog 51 #[am rp,.bool b] w fun e w'=>∃j,e=.returned (ak (s.gE g b8 b))/\(cq rp rb ca b8).J j (s.cut g b8 b) w'/\ce F w j w':=by
 by_cases d:b=false/\b8-(dC s.T).2<(dC s.T).1
 ·obtain⟨rfl,d⟩:=d;have k:s.cF g b8 false=true:=by unfold cn.cF;rw[bq d];rfl
  have l:s.gE g b8 false=3:=by unfold cn.gE;rw[aJ k]
  have m:s.cut g b8 false=s:=by unfold cn.cut;rw[aJ k]
  rw[l,m];refine(Dt h f h0 i d).mono ?_;rintro e w' ⟨rfl,hb⟩
  exact⟨F,rfl,(cq rp rb ca b8).below h hb,ce.of hb⟩
 ·exact Dz h f h0 i b (fun e c=>d ⟨e,c⟩) g hg
theorem xn (h:(cq rp rb ca b8).J F s w)(i:gF s)(h0:0<=b8)(j:b8<=100000)(b:Bool)(g:List Bool->List Bool)(hg:ed s.T s.wt g)(k R A B I n:Int)(hk:k=if b then 16 else 15)(f:iM k R A B I n):
 Calls prog 21 #[am rp,gt k R A B I n] w fun e w'=>∃c,e=.returned (ak (s.gE g b8 b))/\(cq rp rb ca b8).J c (s.cut g b8 b) w'/\ce F w c w':=by
 have HC:ay (∀w',(cq rp rb ca b8).J F s w'->Calls prog 51 #[am rp,.bool b] w' fun e l=>∃c,e=.returned (ak (s.gE g b8 b))/\(cq rp rb ca b8).J c (s.cut g b8 b) l/\ce F w' c l):=fun w' m=>xm m i h0 j b g hg;clear i h0 j hg;generalize s.gE g b8 b=cd at*;generalize s.cut g b8 b=s2 at*;cases b
 ·obtain rfl:k=15:=by simpa using hk
  clear hk;have d:=aq w (dr 15 R A B I n)
  have P:=f (w.alloc (dr 15 R A B I n))
  have HJ:ay ((cq rp rb ca b8).J F s w/\Below w.heap.size w (w.alloc (dr 15 R A B I n))):=⟨h,d⟩
  clear h d f;go_enter func21,ntmps21;go_wp2_with fail;refine P.mono ?_;clear P;rintro e w1 ⟨rfl,hb1⟩
  have hb:=HJ.o.2.trans (hb1.mono ac)
  have iL:=(cq rp rb ca b8).below HJ.o.1 hb;have hx:w1.heap[w.heap.size]?=some (dr 15 R A B I n):=(hb1.block _ ac).trans (aN _ _)
  exact xi
 ·obtain rfl:k=16:=by simpa using hk
  clear hk;have d:=aq w (dr 16 R A B I n)
  have P:=f (w.alloc (dr 16 R A B I n))
  have HJ:ay ((cq rp rb ca b8).J F s w/\Below w.heap.size w (w.alloc (dr 16 R A B I n))):=⟨h,d⟩
  clear h d f;go_enter func21,ntmps21;go_wp2_with fail;refine P.mono ?_;clear P;rintro e w1 ⟨rfl,hb1⟩
  have hb:=HJ.o.2.trans (hb1.mono ac)
  have iL:=(cq rp rb ca b8).below HJ.o.1 hb;have hx:w1.heap[w.heap.size]?=some (dr 16 R A B I n):=(hb1.block _ ac).trans (aN _ _)
  exact xi
end
section
variable {rp rb:Nat}{ca b8:Int}{F:Nat->Prop}{s:cn}{w:aw}
theorem DE (h:(cq rp rb ca b8).J F s w)(R A:Nat)(q:R<12)(t:A<12)(B I n:Int)(g:iM 3 R A B I n):
 Calls prog 21 #[am rp,gt 3 R A B I n] w fun e w'=>e=.returned (ak 0)/\(cq rp rb ca b8).J F {s with rs:=s.rs.set R (s.rs.getD A (0,0))} w'/\ce F w F w':=by
 obtain⟨g1,g2,hg⟩:∃g1 g2,s.rs.getD A (0,0)=(g1,g2):=⟨_,_,rfl⟩
 rw[hg];have i:=aq w (dr 3 R A B I n)
 have P:=g (w.alloc (dr 3 R A B I n))
 have b:ay ((cq rp rb ca b8).J F s w/\Below w.heap.size w (w.alloc (dr 3 R A B I n))):=⟨h,i⟩
 clear h i g;go_enter func21,ntmps21;go_wp2_with fail;refine P.mono ?_;clear P;rintro e w1 ⟨rfl,d⟩
 have hb:=b.o.2.trans (d.mono ac)
 have c:=(cq rp rb ca b8).below b.o.1 hb;have j:w1.heap[w.heap.size]?=some (dr 3 R A B I n):=(d.block _ ac).trans (aN _ _)
 obtain⟨q0,q1,W,q3,ab,ad⟩:=fX j;obtain⟨c1,_,_,ag,ai,u,al,f⟩:=e8 c;obtain⟨v,x,ap,y1⟩:=f R q;obtain⟨ar,N,S⟩:=lH c;have lb:=(cq rp rb ca b8).lt b.o.1 rb N;have lp:=(cq rp rb ca b8).lt b.o.1 rp S;have gG:rb≠w.heap.size:=aa;have ax:rp≠w.heap.size:=aa;have k:ay ((cq rp rb ca b8).J F s w1/\ce F w F w1):=⟨c,ce.of hb⟩
 have r0:(0:Int)<=(R:Int):=aa;have r1:(R:Int)<12:=aa;obtain⟨u0,l,_,_⟩:=f A t;rw[hg] at u0 l;dsimp only at u0 l;have a0:(0:Int)<=(A:Int):=aa;have a1:(A:Int)<12:=aa;generalize (s.rs.getD R (0,0)).1=o1 at v;generalize (s.rs.getD R (0,0)).2=aB at x;clear c hb d j f u b hg;go_wp2_with fail
 go_region_law (fail)
 all_goals
  obtain⟨m,o⟩:=kP k.o.1 R (g1,g2)
  have p:ay (_/\_):=⟨(cq rp rb ca b8).below m bZ.drew,(k.o.2.trans o).below bZ.drew⟩
  clear m o;go_wp2_with fail;go_ret;exact⟨rfl,p.o.1,p.o.2⟩
end
theorem DF:(prog.info? 118).map (fun i=>(i.zero,i.size,i.bytes))=some (some (.agg #[ak 0,.slice none 0 0,.bool false,.bool false]),4,40):=ah
section
variable {rp rb:Nat}{ca b8:Int}{F:Nat->Prop}{s:cn}{w:aw}
end
end Go.Proofs.YtpkjkjhanlbcoaaGreat
