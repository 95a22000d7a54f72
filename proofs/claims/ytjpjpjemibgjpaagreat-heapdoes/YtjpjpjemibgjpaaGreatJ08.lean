import Derived.Test.YtjpjpjemibgjpaaGreatJ07
namespace Go.Proofs.YtjpjpjemibgjpaaGreat
set_option maxRecDepth 100000
set_option maxHeartbeats 8000000
open Tryz
open Go.RowKit W Kp cg
theorem sI {P:Prop}(h:P:=by
 as_aux_lemma=>
 go_wp2_with fail;go_roundw
 case rel=>exact⟨i+1,_,_,L',M',C',more,V,rfl,rfl,af,oN,⟨HQ.o.1,HQ.o.2.1,HQ.o.2.2.1,by have:=HQ.o.2.2.2;omega⟩,mH⟩
 case measure=>simp[intOf];omega):P:=h
theorem xy {P:Prop}(h:P:=by
 obtain⟨q0,q1,q2,q3,q4,q5⟩:=fT hx;have PC:=HC.o w1 iI;have HT:av (b_ F w F w1):=b_.of hb;clear iI hb hb1 hx HJ HC;go_wp2_with fail;refine PC.mono ?_;clear PC;rintro e w2 ⟨F2,rfl,j2,t2⟩
 have HR:av ((cn rp rb b9 bY).J F2 s2 w2/\b_ F w F2 w2):=⟨j2,HT.o.trans t2⟩
 clear j2 t2 q0 q1 q2 q3 q4 q5;go_wp2_with fail;go_ret;exact⟨F2,rfl,HR.o.1,HR.o.2⟩):P:=h
theorem xz {P:Prop}(h:P:=by
 clear sJ hg
 as_aux_lemma=>
 go_wp2_with fail;go_roundw
 case rel=>exact⟨j+1,V,by rw[xA.o],af,fC⟩
 case measure=>simp[intOf];omega):P:=h
section
variable {rp rb:Nat}{b9 bY:Int}{F:Nat->Prop}{s:cj}{w:au}
theorem DO (h:(cn rp rb b9 bY).J F s w)(U:gA s)(h0:0<=bY)(ai:bY<=100000)(d:Bool)(cz:d=false->¬bY-(dy s.T).2<(dy s.T).1)(g:List Bool->List Bool)(hg:d9 s.T s.wt g):
 Calls prog 34 #[aj rp,.bool d] w fun e w'=>∃dJ,e=.returned (ah (s.gz g bY d))/\(cn rp rb b9 bY).J dJ (s.cut g bY d) w'/\b_ F w dJ w':=by
 have dK:=pW h U.t12 U.tl;have bd:=pV s.T U.t12;have ht:=U.tl;have b5:av ((cn rp rb b9 bY).J F s w):=h;have K:av (gA s):=U;have dL:av (d9 s.T s.wt g):=hg;have eW:av (s.cF g bY d=decide (bY<gR s.T (s.cR g d).1 s.T.length)):=by
  show _=_;unfold cj.cF;cases d
  ·rw[bz (cz rfl)];rfl
  ·rfl
 have dM:av (d=false->¬bY-(dy s.T).2<(dy s.T).1):=cz;obtain⟨_,_,c5,_⟩:=e5 h;have dN:av (∀w',Below w.heap.size w w'->w'.cell? (am rp 5)=some (ah bY)):=fun w' al=>(al.cell (p:=am rp 5) (aK w _ c5)).trans c5;have dO:av (∀w',Below w.heap.size w w'->Calls prog 92 #[aj rp,.bool d] w' fun e aR=>∃b,e=.returned (.slice (ak b) s.T.length s.T.length)/\(aR.ownsRow w'.heap.size 4 1 (.slice (ak b) s.T.length s.T.length) s.T.length ((jA s.T s.rs d).map Value.bool))/\Below w'.heap.size w' aR):=fun w' al=>DE ((cn rp rb b9 bY).below h al) d U.tl (fun v eX cX=>by obtain⟨q1,bg⟩:=U.rv v eX cX;have:=bg.1;exact⟨q1,V⟩)
 have cZ:av (∀w' b,Below w.heap.size w w'->w'.ownsRow w.heap.size 4 1 (.slice (ak b) s.T.length s.T.length) s.T.length ((jA s.T s.rs d).map Value.bool)->Calls prog 91 #[aj rp,.slice (ak b) s.T.length s.T.length] w' fun e aR=>∃A c,e=.returned (.slice A s.T.length c)/\aR.ownsRow w'.heap.size 4 1 (.slice A s.T.length c) s.T.length ((s.c0 g d).map Value.bool)/\Below w'.heap.size w' aR):=fun w' b al ck=>by
  have c6:=U.first d;have hl:=p8 s.T s.rs d;rw[<-hl] at ck;have P:=xm ((sC h).below al) U.iv (ak b) s.T.length (oI ck) (fun e=>by cases e) hl U.tl (aP U.wl V) c6.al;rw[hl] at P;refine P.mono ?_;rintro e aR ⟨A,c,b6,rfl,q1,bg,q3⟩
  have eo:b6=s.c0 g d:=bg.uniq (hg _ c6.len c6.al)
  have c7:b6.length=s.T.length:=bg.len.trans hl;rw[c7] at q1⊢;rw[eo] at q1;exact⟨A,c,rfl,q1,q3⟩
 have dP:av (fR s.T (s.c0 g d)):=(hg.ok U.iv (U.first d)).1;have fG:av (s.gz g bY d=if s.cF g bY d=true then 3 else 0):=rfl;generalize dR:s.gz g bY d=cc at*;generalize dS:s.cut g bY d=c8 at*;have cA:av (s.gz g bY d=cc/\s.cut g bY d=c8):=⟨dR,dS⟩
 generalize (dy s.T).1=a at*;generalize (dy s.T).2=b at*;have a1:a<=130000:=V;have b1:b<=130000:=V;obtain⟨a0,_,fH,_⟩:=bd;clear h U hg cz c5 dR dS;go_enter func34,ntmps34;go_wp2_with fail;refine dK.mono ?_;clear dK;rintro e w1 ⟨rfl,cB⟩
 have c5:=dN.o w1 cB;have c9:=dO.o w1 cB;have cC:av (Below w.heap.size w w1):=cB;clear cB dO;have dT:d=true\/(d=false/\a<=bY-b):=by
  cases d
  ·exact aI ⟨rfl,by have:=dM.o rfl;omega⟩
  ·exact aJ rfl
 clear dM
 go_upto_region 2 with fail
 go_cut [39] (fun eY wc=>eY=.bool false/\wc=w1)
 case first=>
  clear c9 dN cZ;rcases dT with rfl|⟨rfl,fI⟩
  ·go_wp2_with fail
   go_meet
   case rel=>exact⟨rfl,rfl⟩
  ·go_wp2_with fail
   go_meet
   case rel=>exact⟨by rw[bz V],rfl⟩
 case rest=>
  obtain⟨rfl,rfl⟩:=hcut;clear dT c5;go_wp2_with fail;refine c9.mono ?_;clear c9;rintro e da ⟨fb,rfl,db,dU⟩
  have dc:Below w.heap.size w da:=cC.o.trans (dU.mono cC.o.size)
  have dV:=cZ.o da fb dc (d7 db (fun k e=>aP cC.o.size (ce db k e).1))
  have cE:av (Below w.heap.size w da):=dc;clear db dU dc cZ cC;go_wp2_with fail;refine dV.mono ?_;clear dV;rintro e w3 ⟨A,c,rfl,dd,dX⟩
  have ap:av (w3.ownsRow w.heap.size 4 1 (.slice A s.T.length c) s.T.length ((s.c0 g d).map Value.bool)/\Below w.heap.size w w3):=⟨d7 dd (fun k e=>aP cE.o.size (ce dd k e).1),cE.o.trans (dX.mono cE.o.size)⟩
  clear dd dX cE;have de:av (∀w',Below w.heap.size w w'->∃v2 br,w'.cell? (am rp 2)=some v2/\w'.cell? (am rp 3)=some br/\w'.ownsRow 0 97 2 v2 s.rg.length (ev s.rg)/\w'.ownsRow 0 97 2 br s.wt.length (ev s.wt)):=fun w' al=>by
   obtain⟨v2,br,q1,bg,q3,dY,_⟩:=pU ((cn rp rb b9 bY).below b5.o al)
   exact⟨v2,br,q1,bg,q3,dY⟩
  obtain⟨v2,br,b7,b8,ar,r3⟩:=de.o w3 ap.o.2;obtain⟨a2,c2,ca⟩:=dQ ar;subst ca;obtain⟨dZ,df,dg,di,dj⟩:=info_parts sv;have fJ:=K.o.gl;clear ar r3 b8
  go_upto_region 6 with(at_make;refine wpList_make_full _ rfl _ _ 145 rfl w3.heap.size 4 dZ (.bool false) 1 underlying145 df dg di .i64 .i64 _ _ s.rg.length rfl rfl V V (by rw[dj];omega) (by unfold maxLen;omega) bW ?_;intro ax dk d0)
  have cF:Below w3.heap.size w3 ax:=(aD _ w3).grown d0 bW (fun _ h=>by cases h)
  have ab:av (ax.ownsRow w.heap.size 4 1 (.slice A s.T.length c) s.T.length ((s.c0 g d).map Value.bool)/\Below w.heap.size w ax/\ax.ownsRow w.heap.size 4 1 (.slice (ak w3.heap.size) s.rg.length s.rg.length) s.rg.length ((List.replicate s.rg.length false).map Value.bool)/\(∀k,some k=(Value.slice A s.T.length c).ownBlock->k<w3.heap.size)/\w.heap.size<=w3.heap.size):=⟨cv ap.o.1 (fun k e=>cF.block k (ce ap.o.1 k e).2),ap.o.2.trans (cF.mono ap.o.2.size),d7 (oJ dk) (fun k e=>aP ap.o.2.size (ce (oJ dk) k e).1),fun k e=>(ce ap.o.1 k e).2,ap.o.2.size⟩
  have eZ:=(cF.cell (p:=am rp 2) (aK w3 _ b7)).trans b7;clear dk d0 cF ap b7;generalize w3.heap.size=o at*
  go_upto_region 7 with(at_make;refine wpList_make_full _ rfl _ _ 145 rfl ax.heap.size 4 dZ (.bool false) 1 underlying145 df dg di .i64 .i64 _ _ s.rg.length rfl rfl V V (by rw[dj];omega) (by unfold maxLen;omega) bW ?_;intro cl dl d1)
  have cI:Below ax.heap.size ax cl:=(aD _ ax).grown d1 bW (fun _ h=>by cases h)
  have dm:o<ax.heap.size:=(ce ab.o.2.2.1 o rfl).2;have d2:av (cl.ownsRow w.heap.size 4 1 (.slice A s.T.length c) s.T.length ((s.c0 g d).map Value.bool)/\Below w.heap.size w cl/\cl.ownsRow w.heap.size 4 1 (.slice (ak o) s.rg.length s.rg.length) s.rg.length ((((s.rg.take 0).map (fun e=>!cD (s.c0 g d) e.2))++List.replicate (s.rg.length-0) false).map Value.bool)/\cl.ownsRow w.heap.size 4 1 (.slice (ak ax.heap.size) s.rg.length s.rg.length) s.rg.length ((List.replicate s.rg.length false).map Value.bool)):=⟨cv ab.o.1 (fun k e=>cI.block k (ce ab.o.1 k e).2),ab.o.2.1.trans (cI.mono ab.o.2.1.size),by
   have:=cv ab.o.2.2.1 (fun k e=>cI.block k (ce ab.o.2.2.1 k e).2)
   simpa using this,d7 (oJ dl) (fun k e=>aP ab.o.2.1.size (ce (oJ dl) k e).1)⟩
  have aV:av ((∀k,some k=(Value.slice A s.T.length c).ownBlock->k<o)/\o<ax.heap.size/\w.heap.size<=o):=⟨ab.o.2.2.2.1,dm,ab.o.2.2.2.2⟩
  clear dl d1 cI ab eZ dm df dg di dj;generalize ax.heap.size=mb at*;go_wp2_with fail
  go_loopw [10] (fun iv wr=>∃i:Nat,i<=s.rg.length/\iv=ah i/\av (wr.ownsRow w.heap.size 4 1 (.slice A s.T.length c) s.T.length ((s.c0 g d).map Value.bool)/\Below w.heap.size w wr/\wr.ownsRow w.heap.size 4 1 (.slice (ak o) s.rg.length s.rg.length) s.rg.length ((((s.rg.take i).map (fun e=>!cD (s.c0 g d) e.2))++List.replicate (s.rg.length-i) false).map Value.bool)/\wr.ownsRow w.heap.size 4 1 (.slice (ak mb) s.rg.length s.rg.length) s.rg.length ((List.replicate s.rg.length false).map Value.bool))) (fun iv _=>s.rg.length-(intOf iv).toNat)
  case atStart=>exact⟨0,aS _,rfl,d2⟩
  case round=>
   clear d2;obtain⟨i,hi,rfl,H⟩:=hrel;obtain⟨v2,br,b7,b8,ar,r3⟩:=de.o wr H.o.2.1;obtain⟨N,O,ca⟩:=dQ ar;subst ca;by_cases Q:i<s.rg.length
   ·obtain⟨fb,dh,rfl,e0,cm⟩:=gh ar V;obtain⟨cb,y1⟩:=cm i Q;have cd:s.rg.getD i (0,0)∈s.rg:=getD_in Q;obtain⟨_,n0,n1⟩:=K.o.gv _ cd;have dn:=DF (fun e:bZ=>!cD (s.c0 g d) e.2) s.rg i Q (0,0)
    have fK:=dP.o.len;obtain⟨n,cJ⟩:=Int.eq_ofNat_of_zero_le n0;rw[cJ] at y1;have n1:n<s.T.length:=by have:=n1.1;rw[cJ] at this;simpa using this
    have d3:(!cD (s.c0 g d) (s.rg.getD i (0,0)).2)=!(s.c0 g d).getD n false:=by rw[cJ];rfl
    rw[d3] at dn;obtain⟨dp,d5,cK⟩:=dW H.o.1 V;obtain⟨rfl,rfl⟩:A=ak dp/\c=d5:=by simpa using cK
    have u0:=(e8 H.o.1 (jB (L:=s.c0 g d) (i:=n) V)).1;have d6:=jB (L:=((s.rg.take i).map (fun e:bZ=>!cD (s.c0 g d) e.2))++List.replicate (s.rg.length-i) false) (i:=i) (by rw[DG _ _ _ hi];exact Q)
    obtain⟨cL,fL⟩:=e8 H.o.2.2.1 d6;have HQ:av ((wr.setCell ⟨o,i,none⟩ (.bool (!(s.c0 g d).getD n false))).ownsRow w.heap.size 4 1 (.slice (ak dp) s.T.length c) s.T.length ((s.c0 g d).map Value.bool)/\Below w.heap.size w (wr.setCell ⟨o,i,none⟩ (.bool (!(s.c0 g d).getD n false)))/\(wr.setCell ⟨o,i,none⟩ (.bool (!(s.c0 g d).getD n false))).ownsRow w.heap.size 4 1 (.slice (ak o) s.rg.length s.rg.length) s.rg.length ((((s.rg.take (i+1)).map (fun e=>!cD (s.c0 g d) e.2))++List.replicate (s.rg.length-(i+1)) false).map Value.bool)/\(wr.setCell ⟨o,i,none⟩ (.bool (!(s.c0 g d).getD n false))).ownsRow w.heap.size 4 1 (.slice (ak mb) s.rg.length s.rg.length) s.rg.length ((List.replicate s.rg.length false).map Value.bool)):=by
     have co:∀k,k≠o->(wr.setCell ⟨o,i,none⟩ (.bool (!(s.c0 g d).getD n false))).heap[k]?=wr.heap[k]?:=fun k hk=>aN _ _ _ _ hk;refine⟨cv H.o.1 (fun k e=>co k (fun d8=>by have:=aV.o.1 k e;omega)),H.o.2.1.trans (((Fr.refl (fun k=>k=o) wr).set o i _ rfl).below H.o.2.1.size (fun k e=>by have e:k=o:=e;have:=aV.o.2.2;omega)),?_,cv H.o.2.2.2 (fun k e=>co k (fun d8=>by have e:some k=some mb:=e;cases e;have:=aV.o.2.1;omega))⟩
     rw[<-dn,List.map_set];exact jq H.o.2.2.1 i _
    have q0:(0:Int)<=(i:Int):=V;have q1:(i:Int)<(s.rg.length:Int):=V;have bg:(0:Int)<=(n:Int):=V;have q3:(n:Int)<(s.T.length:Int):=V;clear cm cd n0 dn cJ d3 cK d6 H ar r3 b8;generalize (s.c0 g d).getD n false=fM at*
    as_aux_lemma=>
    go_wp2_with fail;go_roundw
    case rel=>exact⟨i+1,V,af,HQ⟩
    case measure=>simp[intOf];omega
   ·obtain rfl:i=s.rg.length:=V;have S:av (wr.ownsRow w.heap.size 4 1 (.slice A s.T.length c) s.T.length ((s.c0 g d).map Value.bool)/\Below w.heap.size w wr/\wr.ownsRow w.heap.size 4 1 (.slice (ak o) s.rg.length s.rg.length) s.rg.length ((s.rg.map (fun e=>!cD (s.c0 g d) e.2)).map Value.bool)/\wr.ownsRow w.heap.size 4 1 (.slice (ak mb) s.rg.length s.rg.length) s.rg.length ((List.replicate s.rg.length false).map Value.bool)):=⟨H.o.1,H.o.2.1,by
     have:=H.o.2.2.1;rw[a_,Nat.sub_self] at this
     simpa using this,H.o.2.2.2⟩
    clear H ar;have ea:=(cn rp rb b9 bY).below b5.o S.o.2.1;obtain⟨G,cT,cq,eb⟩:=(sC b5.o).th;have c0:=(S.o.2.1.cell (p:=am rp 0) (aK w _ cq)).trans cq;have e1:av (∀w',Below w.heap.size w w'->w'.cell? (am rp 0)=some (.slice G s.T.length cT)):=fun w' al=>(al.cell (p:=am rp 0) (aK w _ cq)).trans cq;have ec:av (∀w',Below w.heap.size w w'->∀(i:Nat)(x:cG),s.T[i]?=some x->∃b A cp,G=ak b/\w'.cell? (am b (i*4))=some (ah x.1)/\w'.cell? (am b (i*4+1))=some (.slice A x.2.1.length cp)/\w'.cell? (am b (i*4+2))=some (.bool x.2.2.1)/\w'.cell? (am b (i*4+3))=some (.bool x.2.2.2)/\cY w' A x.2.1):=fun w' al i x bi=>by obtain⟨b,A,cp,e,cb,y1,ed,ee,e2⟩:=eb i x bi;have k:∀{a:Addr}{v:Value},w.cell? a=some v->w'.cell? a=some v:=fun {a v} e=>(al.cell (p:=a) (aK w _ e)).trans e;exact⟨b,A,cp,e,k cb,k y1,k ed,k ee,e2.below al⟩
    clear cq eb;obtain⟨c1,c4,c5,_⟩:=e5 ea;obtain⟨a3,c3,dq⟩:=dQ r3;subst dq;have ef:=gh r3;have eg:a3=none->s.wt.length=0/\c3=0:=sH r3;obtain⟨eh,ei,ej,ek,el⟩:=info_parts xo;have fN:=K.o.wl;have cM:=an wr (.cells #[.slice G s.T.length cT,.slice (some ⟨rb,0,none⟩) 12 12,.slice N s.rg.length O,.slice a3 s.wt.length c3,.int .i64 b9,.int .i64 bY] 91)
    have dr:=aL wr (.cells #[.slice G s.T.length cT,.slice (some ⟨rb,0,none⟩) 12 12,.slice N s.rg.length O,.slice a3 s.wt.length c3,.int .i64 b9,.int .i64 bY] 91)
    clear ea r3
    go_upto_region 12 with fail
    generalize wr.alloc (.cells #[.slice G s.T.length cT,.slice (some ⟨rb,0,none⟩) 12 12,.slice N s.rg.length O,.slice a3 s.wt.length c3,.int .i64 b9,.int .i64 bY] 91)=W at*;have cf:av (W.heap[wr.heap.size]?=some (.cells #[.slice G s.T.length cT,.slice (some ⟨rb,0,none⟩) 12 12,.slice N s.rg.length O,.slice a3 s.wt.length c3,.int .i64 b9,.int .i64 bY] 91 (0,0))/\Below wr.heap.size wr W):=⟨dr,cM⟩
    have em:=(cM.cell (p:=am rp 3) (aK wr _ b8)).trans b8;have e3:rp<W.heap.size:=aK W _ em;have en:=DH W;have cg:=an W (.cells #[] 97)
    have ds:av (cY (W.alloc (.cells #[] 97)) a3 s.wt/\(a3=none->s.wt.length=0/\c3=0)):=⟨(ef.below cM).below cg,eg⟩
    have ep:=lt_of_some dr;clear dr cM ef eg b8 c0 c1 c4 c5 b7
    go_upto_region 13 with(at_builtin;refine je _ rfl _ _ 89 rfl W.heap.size 97 eh (.agg #[ah 0,ah 0]) 2 16 underlying89 ei ej ek el rfl aa (.slice (ak W.heap.size) 0 0) 0 [] rfl en a3 s.wt.length c3 (ev s.wt) rfl (jP s.wt) ds.o.2 ds.o.1.cells (iX s.wt) (by unfold maxLen;omega) V Z ?_;intro B E bb cr eq _;rw[bF,List.nil_append] at cr;have cs:Below W.heap.size W bb:=(cg.trans ((aD W.heap.size (W.alloc (.cells #[] 97))).grown eq Z (fun k e=>by simp[Value.ownBlock] at e;omega)));have cN:=(cs.block wr.heap.size ep).trans cf.o.1;have u0:bb.cell? (am wr.heap.size 3)=some (.slice a3 s.wt.length c3):=ay cN;have cL:bb.frozen? (am wr.heap.size 3)=false:=(by simp[World.frozen?,cN]))
    have er:av (fj w s o mb wr.heap.size (.slice G s.T.length cT) (.slice (ak rb) 12 12) (.slice N s.rg.length O) b9 bY (s.rg.map (fun e=>!cD (s.c0 g d) e.2)) (bb.setCell ⟨wr.heap.size,3,none⟩ (.slice B s.wt.length E)) A c (s.c0 g d) (List.replicate s.rg.length false) []):=by
     have co:∀k,k≠wr.heap.size->(bb.setCell ⟨wr.heap.size,3,none⟩ (.slice B s.wt.length E)).heap[k]?=bb.heap[k]?:=fun k hk=>aN _ _ _ _ hk;have dt:∀k,k<wr.heap.size->(bb.setCell ⟨wr.heap.size,3,none⟩ (.slice B s.wt.length E)).heap[k]?=wr.heap[k]?:=fun k hk=>(co k V).trans ((cs.block k (by have:=cf.o.2.size;omega)).trans (cf.o.2.block k hk))
     have e4:=cf.o.2.size;refine⟨cv S.o.1 (fun k e=>dt k (ce S.o.1 k e).2),?_,cv S.o.2.2.1 (fun k e=>dt k (ce S.o.2.2.1 k e).2),cv S.o.2.2.2 (fun k e=>dt k (ce S.o.2.2.2 k e).2),⟨B,E,?_,?_⟩,fun k e=>⟨by have:=aV.o.1 k e;omega,by have:=aV.o.1 k e;have:=aV.o.2.1;omega⟩⟩
     ·refine(S.o.2.1.trans ((cf.o.2.trans (cs.mono e4)).mono S.o.2.1.size)).trans (((Fr.refl (fun k=>k=wr.heap.size) bb).set wr.heap.size 3 _ rfl).below ?_ (fun k e=>by have e:k=wr.heap.size:=e;have:=S.o.2.1.size;omega))
      have:=S.o.2.1.size;have:=cs.size;omega
     ·rw[List.append_nil];simp only [World.setCell,Array.getElem?_modify,if_true,cN,Option.map_some];simp
     ·rw[List.append_nil];refine cv (d7 cr (fun k e=>?_)) (fun k e=>co k (fun d8=>?_))
      ·have:=(ce cr k e).1;have:=S.o.2.1.size;omega
      ·have:=(ce cr k e).1;omega
    have es:av (mb<wr.heap.size/\w.heap.size<=o/\o<mb):=⟨(ce S.o.2.2.2 mb rfl).2,aV.o.2.2,aV.o.2.1⟩
    clear S cN u0 cL cr eq cs cf em e3 en cg ds ep aV;generalize bb.setCell ⟨wr.heap.size,3,none⟩ (.slice B s.wt.length E)=fO at*;generalize wr.heap.size=q at*;have et:av (rem s.rg (s.rg.map (fun e=>!cD (s.c0 g d) e.2)) (List.replicate s.rg.length false)=s.rg.filter (fun e=>!cD (s.c0 g d) e.2)):=vf (fun e=>cD (s.c0 g d) e.2) s.rg;have ew:av (turns cD (d4 g) (s.rg.length+1) (rem s.rg (s.rg.map (fun e=>!cD (s.c0 g d) e.2)) (List.replicate s.rg.length false)) (s.c0 g d) []=s.cR g d):=by show _=_;rw[et.o];rfl
    generalize hD:s.rg.map (fun e=>!cD (s.c0 g d) e.2)=D at*;have ex:av (D.length=s.rg.length):=by show _=_;rw[<-hD,aQ]
    go_wp2_with fail
    go_loopg [7,12] (s.rg.length+1) (fun m iv mv wr=>∃(ad:Option Addr)(ci:Nat)(L M:List Bool)(C:List bZ)(more:Bool),iv=.slice ad s.T.length ci/\mv=.bool more/\av (fj w s o mb q (.slice G s.T.length cT) (.slice (ak rb) 12 12) (.slice N s.rg.length O) b9 bY D wr ad ci L M C)/\av (M.length=s.rg.length/\fR s.T L/\(∀e∈C,e∈s.rg/\cu L e.2.toNat)/\C.length+(rem s.rg D M).length<=s.rg.length)/\av ((more=true->turns cD (d4 g) m (rem s.rg D M) L C=s.cR g d/\(rem s.rg D M).length+1<=m)/\(more=false->(L,C,rem s.rg D M)=s.cR g d)))
    case atStart=>exact⟨A,c,s.c0 g d,List.replicate s.rg.length false,[],true,rfl,rfl,er,⟨Z,dP.o,fun e he=>(by cases he),by have:=rL s.rg D (List.replicate s.rg.length false);simpa using this⟩,⟨fun _=>⟨ew.o,by have:=rL s.rg D (List.replicate s.rg.length false);omega⟩,fun h=>by cases h⟩⟩
    case round=>
     clear er et ew;obtain⟨ad,ci,L,M,C,more,rfl,rfl,J,aT,cO⟩:=hrel;cases more
     ·have bs:av ((L,C,rem s.rg D M)=s.cR g d):=cO.o.2 rfl;have fP:L.length=s.T.length:=aT.o.2.1.len;have e6:av (∀j,0<=gR s.T L j/\gR s.T L j<=13*j):=xe s.T L K.o.iv.tl;clear cO;go_wp2_with fail
      go_loopw [15,16] (fun nv iv e7=>∃j:Nat,j<=s.T.length/\nv=ah (gR s.T L j)/\iv=ah j/\av (Below wr.heap.size wr e7)) (fun _ iv _=>s.T.length-(intOf iv).toNat)
      case atStart=>exact⟨0,aS _,rfl,rfl,aD _ _⟩
      case round=>
       obtain⟨j,fQ,rfl,rfl,fC⟩:=hrel;have bt:=J.o.below fC.o;have e9:=e1.o _ bt.bl;have bd:=e6.o j;obtain⟨fS,fT⟩:=bd;generalize cP:gR s.T L j=X at*;by_cases Q:j<s.T.length
       ·obtain⟨t,ht⟩:∃t,s.T[j]?=some t:=⟨_,aG Q⟩
        obtain⟨dp,fU,fV,cQ,cb,y1,ed,ee,_⟩:=ec.o _ bt.bl j t ht;rw[cQ] at e9;have ey:s.T.getD j t0=t:=by rw[aC,ht];rfl
        have cz:t.2.1.length<=12:=by have:=K.o.iv.tl j;rw[ey] at this;exact this
        obtain⟨aB,du,fa⟩:=dW J.o.ri V;obtain⟨rfl,rfl⟩:ad=ak aB/\ci=du:=by simpa using fa
        have ct:=(e8 bt.ri (jB (L:=L) (i:=j) V)).1;have sJ:av (gR s.T L (j+1)=if L.getD j false=true then X+(1+t.2.1.length) else X):=by show _=_;rw[gR,ey,cP]
        have j0:(0:Int)<=(j:Int):=V;have fW:(j:Int)<(s.T.length:Int):=V;clear bt cP;cases hg:L.getD j false
        ·rw[hg] at ct;have xA:av (gR s.T L (j+1)=X):=by show _=_;have:=sJ.o;rw[hg] at this;simpa using this
         exact xz
        ·rw[hg] at ct;have xA:av (gR s.T L (j+1)=X+(1+t.2.1.length)):=by show _=_;have:=sJ.o;rw[hg] at this;simpa using this
         exact xz
       ·obtain rfl:j=s.T.length:=V;have c5:=(e5 ((cn rp rb b9 bY).below b5.o bt.bl)).2.2.1;have dv:av (fj w s o mb q (.slice G s.T.length cT) (.slice (ak rb) 12 12) (.slice N s.rg.length O) b9 bY D _ ad ci L M C):=bt;have ez:av (gR s.T L s.T.length=X):=cP;clear bt cP J;by_cases eA:bY<X
        ·have fc:av (s.cF g bY d=true):=by show _=_;unfold cj.cF;rw[<-bs.o,ez.o,bm eA,Bool.or_true]
         have cw:av (cc=3/\c8=s):=by have ai:=cA.o.1;have Y:=cA.o.2;unfold cj.gz at ai;unfold cj.cut at Y;rw[aH fc.o] at ai Y;exact⟨ai.symm,Y.symm⟩
         go_wp2_with fail;go_ret;exact⟨F,by rw[cw.o.1];rfl,by rw[cw.o.2];exact(cn rp rb b9 bY).below b5.o dv.o.bl,b_.of dv.o.bl⟩
        ·have cw:av (cc=0/\c8=⟨eu L s.T s.T.length,s.rs,s.rg.filter (fun e=>cD (s.c0 g d) e.2&&cD L e.1),(s.wt++C).filter (fun e=>cD L e.1)⟩):=by
          have fd:s.cF g bY d=false:=by rw[eW.o,<-bs.o,ez.o,bz eA]
          have ai:=cA.o.1;have Y:=cA.o.2;unfold cj.gz at ai;unfold cj.cut at Y;rw[fd,aE Z] at ai Y;rw[<-bs.o] at Y;exact⟨ai.symm,Y.symm⟩
         have eB:av ((∀e∈C,e∈s.rg)/\C.length<=1000):=⟨fun e he=>(aT.o.2.2.1 e he).1,by have ai:=aT.o.2.2.2;have Y:=K.o.gl;omega⟩
         have fe:av (fR s.T L):=aT.o.2.1;have ff:av (D=s.rg.map (fun e=>!cD (s.c0 g d) e.2)):=hD.symm
         iterate 62 go_step
         refine mG.DN b5.o K.o dv.o ff.o fe.o eB.o.1 eB.o.2 ?_;intro fX w' fg ha hd fh fi;simp only [Array.getD_eq_getD_getElem?] at ha;refine bv (v:=ah 0) (by simp[results,results34,ha]) hd ⟨fg,by rw[cw.o.1],by rw[cw.o.2];exact fh,fi⟩
     ·obtain⟨eC,fk⟩:=cO.o.1 rfl;obtain⟨bl,eD⟩:∃bl,gk=bl+1:=⟨gk-1,V⟩
      have bx:av (turns cD (d4 g) gk (rem s.rg D M) L C=s.cR g d/\gk=bl+1/\(rem s.rg D M).length<=bl):=⟨eC,eD,V⟩
      obtain⟨P,eE⟩:∃P,av (pass cD (d4 g) (rem s.rg D M) L C []=P):=⟨_,rfl⟩
      have eF:av (gN cD (d4 g) s.rg D P 0 L C M):=by rw[<-eE.o];exact gN.start ex.o aT.o.1
      clear cO eC fk eD;go_wp2_with fail
      go_loopw [7,12,13] (fun iv mv kv wr=>∃(i:Nat)(ad:Option Addr)(ci:Nat)(L' M':List Bool)(C':List bZ)(more:Bool),i<=s.rg.length/\iv=.slice ad s.T.length ci/\mv=.bool more/\kv=ah i/\av (fj w s o mb q (.slice G s.T.length cT) (.slice (ak rb) 12 12) (.slice N s.rg.length O) b9 bY D wr ad ci L' M' C')/\av (M'.length=s.rg.length/\fR s.T L'/\(∀e∈C',e∈s.rg/\cu L' e.2.toNat)/\C'.length<=C.length+i)/\av (gN cD (d4 g) s.rg D P i L' C' M'/\C.length<=C'.length/\(more=false->C'.length=C.length)/\(more=true->C.length<C'.length))) (fun _ _ kv _=>s.rg.length-(intOf kv).toNat)
      case atStart=>exact⟨0,ad,ci,L,M,C,false,aS _,rfl,rfl,rfl,J,⟨aT.o.1,aT.o.2.1,aT.o.2.2.1,aA _⟩,⟨eF.o,aA _,fun _=>rfl,fun h=>by cases h⟩⟩
      case round=>
       clear J eF;obtain⟨i,ad,ci,L',M',C',more,hi,rfl,rfl,rfl,J,HQ,R⟩:=hrel;obtain⟨v2,br,b7,_,ar,_⟩:=de.o wr J.o.bl;obtain⟨fY,d5,cK⟩:=dQ ar;subst cK;by_cases Q:i<s.rg.length
       ·obtain⟨fZ,f0,rfl,e0,cm⟩:=gh ar V;obtain⟨cb,y1⟩:=cm i Q;have cd:s.rg.getD i (0,0)∈s.rg:=getD_in Q;obtain⟨⟨g0,g1⟩,n0,n1⟩:=K.o.gv _ cd;obtain⟨l,f,dw⟩:∃l fl:Nat,s.rg.getD i (0,0)=((l:Int),(fl:Int)):=⟨(s.rg.getD i (0,0)).1.toNat,(s.rg.getD i (0,0)).2.toNat,by rw[show(((s.rg.getD i (0,0)).1.toNat:Nat):Int)=(s.rg.getD i (0,0)).1 by omega,show(((s.rg.getD i (0,0)).2.toNat:Nat):Int)=(s.rg.getD i (0,0)).2 by omega]⟩
        have dx:av (s.rg.getD i (0,0)=((l:Int),(f:Int))):=dw;rw[dw] at cb y1 g1 n1 cd;dsimp only at cb y1 g1 n1;have g1:l<s.T.length:=by simpa using g1.1
        have dz:cH s.T f:=by simpa using n1
        have f1:f<s.T.length:=dz.1;have f2:=HQ.o.2.1.len;obtain⟨aB,du,cQ⟩:=dW J.o.ri V;obtain⟨rfl,rfl⟩:ad=ak aB/\ci=du:=by simpa using cQ
        have eG:=(e8 J.o.rd (jB (L:=D) (i:=i) (by rw[ex.o];exact Q))).1;have bn:=e8 J.o.rm (jB (L:=M') (i:=i) (by rw[HQ.o.1];exact Q))
        have ct:=(e8 J.o.ri (jB (L:=L') (i:=l) V)).1;have q0:(0:Int)<=(i:Int):=V;have q1:(i:Int)<(s.rg.length:Int):=V;have bg:(0:Int)<=(l:Int):=V;have q3:(l:Int)<(s.T.length:Int):=V;have dY:(0:Int)<=(f:Int):=V;have f3:(f:Int)<(s.T.length:Int):=V;have dm:=(ce J.o.rd o rfl).2;have f4:=(ce J.o.rm mb rfl).2;have f5:=(ce J.o.ri aB rfl).2;have cg:=an wr (.cells #[.int .i64 (l:Int),.int .i64 (f:Int)] 97)
        have oN:av (fj w s o mb q (.slice G s.T.length cT) (.slice (ak rb) 12 12) (.slice N s.rg.length O) b9 bY D (wr.alloc (.cells #[.int .i64 (l:Int),.int .i64 (f:Int)] 97)) (ak aB) ci L' M' C'):=J.o.below cg;have eH:av ((wr.alloc (.cells #[.int .i64 (l:Int),.int .i64 (f:Int)] 97)).heap[wr.heap.size]?=some (.cells #[ah (l:Int),ah (f:Int)] 97 (0,0))):=aL _ _;clear dw g0 n0 cm cQ ar;cases hd:D.getD i false
        ·rw[hd] at eG;have ag:=R.o.1.skip Q (by rw[hd];rfl)
         have mH:av (gN cD (d4 g) s.rg D P (i+1) L' C' M'/\C.length<=C'.length/\(more=false->C'.length=C.length)/\(more=true->C.length<C'.length)):=⟨ag,R.o.2⟩
         clear R ag hd;exact sI
        ·rw[hd] at eG;cases hmv:M'.getD i false
         ·rw[hmv] at bn;cases hgi:L'.getD l false
          ·rw[hgi] at ct;have ag:=R.o.1.left Q (by rw[hd,hmv];rfl) (by rw[dx.o];exact hgi)
           have mH:av (gN cD (d4 g) s.rg D P (i+1) L' C' M'/\C.length<=C'.length/\(more=false->C'.length=C.length)/\(more=true->C.length<C'.length)):=⟨ag,R.o.2⟩
           obtain⟨bn,_⟩:=bn;clear R ag hd hmv hgi;exact sI
          ·rw[hgi] at ct;have ag:=R.o.1.come Q (by rw[hd,hmv];rfl) (by rw[dx.o];exact hgi)
           rw[dx.o] at ag;dsimp only at ag;obtain⟨k1,eI,eJ⟩:=fR.d4 dL.o K.o.iv HQ.o.2.1 (x:=(f:Int)) (by simpa using dz)
           have mH:av (gN cD (d4 g) s.rg D P (i+1) (d4 g L' (f:Int)) (C'++[((l:Int),(f:Int))]) (M'.set i true)/\C.length<=(C'++[((l:Int),(f:Int))]).length/\C.length<(C'++[((l:Int),(f:Int))]).length):=⟨ag,by rw[aW];have:=R.o.2.1;simp;omega,by rw[aW];have:=R.o.2.1;simp;omega⟩
           have dA:av ((M'.set i true).length=s.rg.length/\fR s.T (d4 g L' (f:Int))/\(∀e∈C'++[((l:Int),(f:Int))],e∈s.rg/\cu (d4 g L' (f:Int)) e.2.toNat)/\(C'++[((l:Int),(f:Int))]).length<=C.length+(i+1)):=⟨by rw[aX];exact HQ.o.1,k1,fun e he=>by
            rcases List.mem_append.1 he with aF|aF
            ·exact⟨(HQ.o.2.2.1 e aF).1,eJ _ (HQ.o.2.2.1 e aF).2⟩
            ·rw[List.mem_singleton.1 aF];exact⟨cd,by simpa using eI⟩,by rw[aW];have:=HQ.o.2.2.2;simp;omega⟩
           have f6:C'.length<=2000:=by have:=HQ.o.2.2.2;have:=aT.o.2.2.2;omega
           have fm:av (∀w',fj w s o mb q (.slice G s.T.length cT) (.slice (ak rb) 12 12) (.slice N s.rg.length O) b9 bY D w' (ak aB) ci (L'.set f true) M' (C'++[((l:Int),(f:Int))])->Calls prog 91 #[aj q,.slice (ak aB) s.T.length ci] w' fun e aR=>∃b0 X,e=.returned (.slice b0 s.T.length X)/\aR.ownsRow w'.heap.size 4 1 (.slice b0 s.T.length X) s.T.length ((d4 g L' (f:Int)).map Value.bool)/\Below w'.heap.size w' aR):=fun w' dB=>by
            obtain⟨B,E,eK,fn⟩:=dB.kX;obtain⟨b2,fp,fq⟩:=HQ.o.2.1.put dz;have fr:Wg w' q s.T (s.wt++(C'++[((l:Int),(f:Int))])):=⟨⟨G,cT,by simp[World.cell?,eK],fun i x bi=>ec.o w' dB.bl i x bi⟩,⟨B,E,by simp[World.cell?,eK],gh fn⟩⟩
            have fs:gy s.T (s.wt++(C'++[((l:Int),(f:Int))])):=⟨K.o.iv.fl,K.o.iv.fv,fun e he=>by
             rcases List.mem_append.1 he with aF|aF
             ·exact K.o.iv.wv e aF
             ·have hm:e∈s.rg:=(dA.o.2.2.1 e aF).1;exact(K.o.gv e hm).2,K.o.iv.tl⟩
            have ck:=dB.ri;rw[<-b2.len] at ck;have ft:(s.wt++(C'++[((l:Int),(f:Int))])).length<=10000:=by rw[aW,aW];have:=K.o.wl;simp;omega
            have cx:=xm fr fs (ak aB) ci (oI ck) (fun e=>by cases e) b2.len ht ft b2.al;rw[b2.len] at cx;refine cx.mono ?_;rintro e aR ⟨b0,X,b6,rfl,o1,cR,fu⟩
            have fv:jz s.T s.wt (L'.set f true) b6:=cR.less (fun e he=>by
             rcases List.mem_append.1 he with aF|aF
             ·exact fq _ (HQ.o.2.2.1 e aF).2
             ·rw[List.mem_singleton.1 aF];simpa using fp)
            have eo:b6=d4 g L' (f:Int):=by unfold d4;rw[Int.toNat_natCast];exact fv.uniq (dL.o _ b2.len b2.al)
            have c7:b6.length=s.T.length:=cR.len.trans b2.len;rw[c7] at o1⊢;rw[eo] at o1;exact⟨b0,X,rfl,o1,fu⟩
           obtain⟨bn,f7⟩:=bn;clear R ag k1 eI eJ hd hmv hgi HQ;have eL:av (q<wr.heap.size/\∀B E,(wr.alloc (.cells #[.int .i64 (l:Int),.int .i64 (f:Int)] 97)).heap[q]?=some (.cells #[.slice G s.T.length cT,.slice (ak rb) 12 12,.slice N s.rg.length O,.slice B (s.wt++C').length E,ah b9,ah bY] 91 (0,0))->∀k,some k=(Value.slice B (s.wt++C').length E).ownBlock->k<wr.heap.size):=by
            obtain⟨fw,fx,Y,cX⟩:=J.o.kX;refine⟨lt_of_some Y,fun B E eM k hk=>?_⟩
            rw[cg.block q (lt_of_some Y),Y] at eM;have fy:fw=B/\fx=E:=by simpa using eM
            obtain⟨rfl,rfl⟩:=fy;exact(ce cX k hk).2
           go_upto_region 21 with fail
           generalize wr.alloc (.cells #[.int .i64 (l:Int),.int .i64 (f:Int)] 97)=I at*;have cS:I.heap[wr.heap.size]?=some (.cells #[.int .i64 (l:Int),.int .i64 (f:Int)] 97 (0,0)):=eH.o;generalize wr.heap.size=bo at*;have z0:I.cell? ⟨bo,0,none⟩=some (.int .i64 (l:Int)):=by simp[World.cell?,cS]
           have fz:I.cell? (am bo 1)=some (ah (f:Int)):=by simp[World.cell?,cS]
           obtain⟨B,E,bi,cU⟩:=oN.o.kX;have eN:I.cell? (am q 3)=some (.slice B (s.wt++C').length E):=ay bi
           have fA:=lt_of_some bi;have fB:=lt_of_some cS;have dC:=an I (.cells #[.int .i64 (l:Int),.int .i64 (f:Int)] 97)
           have dD:=aL I (.cells #[.int .i64 (l:Int),.int .i64 (f:Int)] 97)
           have b3:av (I.heap[q]?=some (.cells #[.slice G s.T.length cT,.slice (ak rb) 12 12,.slice N s.rg.length O,.slice B (s.wt++C').length E,ah b9,ah bY] 91 (0,0))/\I.ownsRow w.heap.size 97 2 (.slice B (s.wt++C').length E) (s.wt++C').length (ev (s.wt++C'))/\Below I.heap.size I (I.alloc (.cells #[.int .i64 (l:Int),.int .i64 (f:Int)] 97))/\w.heap.size<=I.heap.size):=⟨bi,cU,dC,oN.o.bl.size⟩
           have dE:=cv cU (fun k e=>dC.block k (ce cU k e).2)
           have fD:(s.wt++C').length<=3000:=by rw[aW];have:=K.o.wl;omega
           have fE:av (∀a,(ak I.heap.size:Option Addr)=some a->∀k u,(ev [((l:Int),(f:Int))])[k]?=some u->(I.alloc (.cells #[.int .i64 (l:Int),.int .i64 (f:Int)] 97)).cell? (a.add k)=some u):=fun a e k u hk=>by
            cases e;have f8:k<2:=by have:=(List.getElem?_eq_some_iff.1 hk).1;simpa[ev] using this
            rcases(show k=0\/k=1 by omega) with rfl|rfl
            ·simp[ev] at hk;subst hk;show World.cell? _ ⟨I.heap.size,0,none⟩=_;unfold World.cell?;rw[dD];rfl
            ·simp[ev] at hk;subst hk;show World.cell? _ ⟨I.heap.size,1,none⟩=_;unfold World.cell?;rw[dD];rfl
           have dF:av ((s.wt++(C'++[((l:Int),(f:Int))])).length=(s.wt++C').length+1/\ev (s.wt++(C'++[((l:Int),(f:Int))]))=ev (s.wt++C')++ev [((l:Int),(f:Int))]):=⟨by simp;omega,by rw[<-bj];simp[ev]⟩
           obtain⟨bp,cV⟩:∃bp,(s.wt++C').length=bp:=⟨_,rfl⟩
           rw[cV] at eN dE fD;clear cU bi dD dC cS
           go_upto_region 22 with(at_builtin;refine je _ rfl _ _ 89 rfl w.heap.size 97 eh (.agg #[ah 0,ah 0]) 2 16 underlying89 ei ej ek el rfl aa (.slice B bp E) bp (ev (s.wt++C')) rfl dE (ak I.heap.size) 1 1 (ev [((l:Int),(f:Int))]) rfl rfl (fun e=>by cases e) fE.o (iX _) (by unfold maxLen;omega) V (by have:=b3.o.2.2.2;simp;omega) ?_;intro ku ky ch eO eP _;have cW:Fr (fun k=>some k=(Value.slice B bp E).ownBlock) I ch:=(Fr.of b3.o.2.2.1).grown eP (fun k e=>aJ (by simpa using e.symm));have dG:=(cW.block q fA (fun b4=>oN.o.world b3.o.2.1 aa q (by rw[cV];exact b4) rfl)).trans b3.o.1;have u0:ch.cell? (am q 3)=some (.slice B (s.wt++C').length E):=ay dG;have cL:ch.frozen? (am q 3)=false:=(by simp[World.frozen?,dG]))
           have dH:fj w s o mb q (.slice G s.T.length cT) (.slice (ak rb) 12 12) (.slice N s.rg.length O) b9 bY D (ch.setCell ⟨q,3,none⟩ (.slice ku (bp+1) ky)) (ak aB) ci L' M' (C'++[((l:Int),(f:Int))]):=by
            subst cV;have h:=oN.o.push (by have:=es.o;omega) b3.o.1 b3.o.2.1 (e:=((l:Int),(f:Int))) (ku:=ku) (ky:=ky) cW (by rw[dF.o.1,dF.o.2];exact eO)
            rw[dF.o.1] at h;exact h
           have eQ:(ch.setCell ⟨q,3,none⟩ (.slice ku (bp+1) ky)).heap[bo]?=some (.cells #[ah (l:Int),ah (f:Int)] 97 (0,0)):=(aN _ _ _ _ (show bo≠q from fun e=>by have h:=eL.o.1;rw[e] at h;exact Nat.lt_irrefl _ h)).trans ((cW.block bo fB (fun b4=>Nat.lt_irrefl bo (eL.o.2 B E b3.o.1 bo (by rw[cV];exact b4)))).trans eH.o)
           clear cW dG u0 cL eO eP eN z0 fz dE;generalize ch.setCell ⟨q,3,none⟩ (.slice ku (bp+1) ky)=dI at*;have f9:dI.cell? (am bo 1)=some (ah (f:Int)):=by simp[World.cell?,eQ]
           obtain⟨ga,gb⟩:=e8 dH.ri (jB (L:=L') (i:=f) V)
           have eR:=dH.mark f;have eS:av (fj w s o mb q (.slice G s.T.length cT) (.slice (ak rb) 12 12) (.slice N s.rg.length O) b9 bY D (dI.setCell ⟨aB,f,none⟩ (.bool true)) (ak aB) ci (L'.set f true) M' (C'++[((l:Int),(f:Int))])):=eR;clear dH eR eQ
           go_upto_region 23 with fail
           generalize dI.setCell ⟨aB,f,none⟩ (.bool true)=fF at*;have cx:=fm.o fF eS.o
           go_upto_region 24 with(go_at_call 91;refine cx.mono ?_;clear cx;rintro e eT ⟨b0,X,rfl,o1,cR⟩;have ap:av (fj w s o mb q (.slice G s.T.length cT) (.slice (ak rb) 12 12) (.slice N s.rg.length O) b9 bY D eT b0 X (d4 g L' (f:Int)) M' (C'++[((l:Int),(f:Int))])):=(eS.o.is cR o1))
           obtain⟨gc,gd⟩:=e8 ap.o.rm (jB (L:=M') (i:=i) (by have:=dA.o.1;rw[aX] at this;rw[this];exact Q))
           have ab:av (fj w s o mb q (.slice G s.T.length cT) (.slice (ak rb) 12 12) (.slice N s.rg.length O) b9 bY D (eT.setCell ⟨mb,i,none⟩ (.bool true)) b0 X (d4 g L' (f:Int)) (M'.set i true) (C'++[((l:Int),(f:Int))])):=ap.o.mv (fun e=>by have h:=es.o.2.2;rw[e] at h;exact Nat.lt_irrefl _ h) i;go_wp2_with fail;go_roundw
           case rel=>exact⟨i+1,_,_,d4 g L' (f:Int),M'.set i true,C'++[((l:Int),(f:Int))],true,V,rfl,rfl,af,ab,dA,⟨mH.o.1,mH.o.2.1,fun h=>(by cases h),fun _=>mH.o.2.2⟩⟩
           case measure=>simp[intOf];omega
         ·rw[hmv] at bn;have ag:=R.o.1.skip Q (by rw[hd,hmv];rfl)
          have mH:av (gN cD (d4 g) s.rg D P (i+1) L' C' M'/\C.length<=C'.length/\(more=false->C'.length=C.length)/\(more=true->C.length<C'.length)):=⟨ag,R.o.2⟩
          obtain⟨bn,_⟩:=bn;clear R ag hd hmv;exact sI
       ·obtain rfl:i=s.rg.length:=V;have be:=R.o.1.stop;rw[<-eE.o] at be;have cy:=pL (is:=cD) (kp:=d4 g) (rem s.rg D M) L C [];have eU:av (C'.length+(rem s.rg D M').length<=s.rg.length):=by have ai:=cy.1;rw[<-be] at ai;simp only [List.length_nil,Nat.add_zero] at ai;have Y:=aT.o.2.2.2;show _<=_;omega
        clear ar;cases more
        ·have eV:=R.o.2.2.1 rfl;have bs:av ((L',C',rem s.rg D M')=s.cR g d):=by show _=_;rw[<-bx.o.1,bx.o.2.1,uZ (by rw[<-be];exact eV)];exact be
         clear be cy
         as_aux_lemma=>
         go_wp2_with fail
         go_roundg bl
         case measure=>have:=bx.o.2.1;omega
         case rel=>exact⟨ad,ci,L',M',C',false,rfl,rfl,J,⟨HQ.o.1,HQ.o.2.1,HQ.o.2.2.1,eU.o⟩,⟨fun h=>(by cases h),fun _=>bs.o⟩⟩
        ·have eV:=R.o.2.2.2 rfl;have bs:av (turns cD (d4 g) bl (rem s.rg D M') L' C'=s.cR g d/\(rem s.rg D M').length+1<=bl):=by
          have b4:(pass cD (d4 g) (rem s.rg D M) L C []).2.1=C':=by rw[<-be]
          have ca:(pass cD (d4 g) (rem s.rg D M) L C []).2.2=rem s.rg D M':=by rw[<-be]
          have dq:(pass cD (d4 g) (rem s.rg D M) L C []).1=L':=by rw[<-be]
          rw[b4,ca] at cy;simp only [List.length_nil,Nat.add_zero] at cy;refine⟨?_,by have:=bx.o.2.2;omega⟩
          rw[<-bx.o.1,bx.o.2.1,uY (by rw[b4];omega),b4,ca,dq]
         clear be cy
         as_aux_lemma=>
         go_wp2_with fail
         go_roundg bl
         case measure=>have:=bx.o.2.1;omega
         case rel=>exact⟨ad,ci,L',M',C',true,rfl,rfl,J,⟨HQ.o.1,HQ.o.2.1,HQ.o.2.2.1,eU.o⟩,⟨fun _=>bs.o,fun h=>(by cases h)⟩⟩
end
abbrev gS:=List cG->List bZ->List Bool->List Bool
def jT (T:List cG)(v:Int×Int):Bool:=v.1==3&&(T.getD v.2.toNat t0).1==5
def ig (T:List cG)(v:Int×Int):Bool:=v.1==3&&!((T.getD v.2.toNat t0).1==5)
theorem mI {T:List cG}{v:Int×Int}:jT T v=true↔v.1=3/\(T.getD v.2.toNat t0).1=5:=by unfold jT;simp
theorem kA {T:List cG}{v:Int×Int}:ig T v=true↔v.1=3/\(T.getD v.2.toNat t0).1≠5:=by unfold ig;simp
abbrev mJ (T:List cG)(j i:Nat)(y:Int×Int):List cG:=T.set j ((T.getD j t0).1,(T.getD j t0).2.1.set i y,(T.getD j t0).2.2)
def cj.room (g:gS)(b9 bY:Int)(s:cj)(m:Int):Int×cj:=
 if m<=b9-(dy s.T).1 then(0,s) else(s.gz (g s.T s.wt) bY (decide (bY-(dy s.T).2<(dy s.T).1)),s.cut (g s.T s.wt) bY (decide (bY-(dy s.T).2<(dy s.T).1)))
def cj.put (s:cj)(kd:Int)(l:List (Int×Int)):cj:={s with T:=s.T++[(kd,l,false,false)]}
def cj.bY (g:gS)(b9 bY:Int)(s:cj)(kd:Int)(l:List (Int×Int)):(Int×Int)×Int×cj:=
 if(s.room g b9 bY (1+l.length)).1=0 then((3,((s.room g b9 bY (1+l.length)).2.T.length:Int)),0,(s.room g b9 bY (1+l.length)).2.put kd l)
 else((0,0),(s.room g b9 bY (1+l.length)).1,(s.room g b9 bY (1+l.length)).2)
def cj.pop (s:cj)(v:Int×Int):(Int×Int)×Int×cj:=
 if jT s.T v=true then(if dR v.2 s.wt<s.wt.length then((3,(s.wt.getD (dR v.2 s.wt) (0,0)).2),0,{s with wt:=s.wt.take (dR v.2 s.wt)++s.wt.drop (dR v.2 s.wt+1)}) else((0,0),4,s)) else((0,0),2,s)
def cj.fc (s:cj)(v:Int×Int)(I:Int):Int:=if ig s.T v=true then(if I<0\/((s.T.getD v.2.toNat t0).2.1.length:Int)<=I then 1 else 0) else 2
def cj.rt (g:gS)(b9 bY:Int)(s:cj)(k:Int)(A B:Nat)(I n:Int):(Int×Int)×Int×cj:=
 if k=1 then((1,n),0,s) else if k=3 then(s.rs.getD A (0,0),0,s) else if k=4 then s.bY g b9 bY 1 [s.rs.getD A (0,0),s.rs.getD B (0,0)] else if k=5 then s.bY g b9 bY 2 (List.replicate n.toNat (s.rs.getD A (0,0)))
 else if k=6 then s.bY g b9 bY 3 [s.rs.getD A (0,0),s.rs.getD B (0,0)] else if k=7 then s.bY g b9 bY 4 [s.rs.getD A (0,0),s.rs.getD B (0,0)] else if k=8 then s.bY g b9 bY 5 [] else if k=10 then s.pop (s.rs.getD A (0,0))
 else if k=11 then((if s.fc (s.rs.getD A (0,0)) I=0 then(s.T.getD (s.rs.getD A (0,0)).2.toNat t0).2.1.getD I.toNat (0,0) else(0,0)),s.fc (s.rs.getD A (0,0)) I,s)
 else if k=13 then(if ig s.T (s.rs.getD A (0,0))=true then((1,((s.T.getD (s.rs.getD A (0,0)).2.toNat t0).2.1.length:Int)),0,s) else((0,0),2,s))
 else if k=14 then((1,if s.rs.getD A (0,0)=s.rs.getD B (0,0) then 1 else 0),0,s) else((0,0),0,s)
def cj.reg (s:cj)(t b:Int×Int):Int×cj:=
 if t.1=3/\jT s.T b=true then(if 24<=s.rg.length+s.wt.length then(3,s) else(0,{s with rg:=s.rg++[(b.2,t.2)]})) else(2,s)
def cj.set (s:cj)(v:Int×Int)(I:Int)(y:Int×Int):Int×cj:=(s.fc v I,if s.fc v I=0 then {s with T:=mJ s.T v.2.toNat I.toNat y} else s)
def cj.es (g:gS)(b9 bY:Int)(s:cj)(k R A B I n:Int):Int×cj:=
 if dF k R A B n=0 then(if k=9 then s.reg (s.rs.getD A.toNat (0,0)) (s.rs.getD B.toNat (0,0)) else if k=12 then s.set (s.rs.getD A.toNat (0,0)) I (s.rs.getD B.toNat (0,0))
  else if k=15 then(s.gz (g s.T s.wt) bY false,s.cut (g s.T s.wt) bY false) else if k=16 then(s.gz (g s.T s.wt) bY true,s.cut (g s.T s.wt) bY true)
  else if(s.rt g b9 bY k A.toNat B.toNat I n).2.1=0 then(0,{(s.rt g b9 bY k A.toNat B.toNat I n).2.2 with rs:=(s.rt g b9 bY k A.toNat B.toNat I n).2.2.rs.set R.toNat (s.rt g b9 bY k A.toNat B.toNat I n).1})
  else((s.rt g b9 bY k A.toNat B.toNat I n).2.1,(s.rt g b9 bY k A.toNat B.toNat I n).2.2))
 else(dF k R A B n,s)
abbrev eU (k R A B I n:Int):Value:=.agg #[ah k,ah R,ah A,ah B,ah I,ah n]
abbrev cE (k R A B I n:Int):Obj:=.cells #[ah k,ah R,ah A,ah B,ah I,ah n] 44 (0,0)
theorem fT {w:au}{b:Nat}{k R A B I n:Int}(h:w.heap[b]?=some (cE k R A B I n)):w.cell? (am b 0)=some (ah k)/\w.cell? (am b 1)=some (ah R)/\w.cell? (am b 2)=some (ah A)/\w.cell? (am b 3)=some (ah B)/\w.cell? (am b 4)=some (ah I)/\w.cell? (am b 5)=some (ah n):=by refine⟨?_,?_,?_,?_,?_,?_⟩<;>simp[World.cell?,h]
theorem sK {k R A B n:Int}(h:dF k R A B n=0):¬((decide (cP k=1\/cP k=3\/cP k=7)&&!dp R)||(decide (cP k=3\/cP k=6\/cP k=7)&&!dp A)||(decide (cP k=6\/cP k=7)&&!dp B))=true:=fun c=>by unfold dF at h;split at h<;>omega
theorem sL {r:Int}(h:dp r=true):0<=r/\r<12:=by unfold dp at h;simpa using h
theorem xB {k R A B n:Int}(h:dF k R A B n=0)(b:cP k=1\/cP k=3\/cP k=7):0<=R/\R<12:=by
 refine sL ?_;cases c:dp R
 ·exact absurd (by rw[c,bm b];rfl) (sK h)
 ·rfl
theorem nD {k R A B n:Int}(h:dF k R A B n=0)(b:cP k=3\/cP k=6\/cP k=7):0<=A/\A<12:=by
 refine sL ?_;cases c:dp A
 ·exact absurd (by rw[c,bm b];simp) (sK h)
 ·rfl
theorem nE {k R A B n:Int}(h:dF k R A B n=0)(b:cP k=6\/cP k=7):0<=B/\B<12:=by
 refine sL ?_;cases c:dp B
 ·exact absurd (by rw[c,bm b];simp) (sK h)
 ·rfl
def iJ (k R A B I n:Int):Prop:=∀w,Calls prog 41 #[gm k R A B I n] w fun e w'=>e=.returned (ah 0)/\Below w.heap.size w w'
theorem DP {k R A B n:Int}(I:Int)(h:dF k R A B n=0):iJ k R A B I n:=fun w=>by have P:=wZ k R A B I n w;rw[h] at P;exact P
section
variable {rp rb:Nat}{b9 bY:Int}{F:Nat->Prop}{s:cj}{w:au}
theorem DQ (h:(cn rp rb b9 bY).J F s w)(k R A B I n:Int)(hc:dF k R A B n≠0):
 Calls prog 14 #[aj rp,gm k R A B I n] w fun e w'=>e=.returned (ah (dF k R A B n))/\(cn rp rb b9 bY).J F s w'/\b_ F w F w':=by
 have b:=wZ k R A B I n;have p:(dF k R A B n !=0)=true:=by simpa using hc
 generalize dF k R A B n=z at*;clear hc;have c:=an w (dj k R A B I n)
 have P:=b (w.alloc (dj k R A B I n))
 have d:av ((cn rp rb b9 bY).J F s w/\Below w.heap.size w (w.alloc (dj k R A B I n))):=⟨h,c⟩
 clear h c b;go_enter func14,ntmps14;go_wp2_with fail;refine P.mono ?_;clear P;rintro e w1 ⟨rfl,f⟩
 have g:=d.o.2.trans (f.mono Z)
 have j:=(cn rp rb b9 bY).below d.o.1 g;have i:w1.heap[w.heap.size]?=some (dj k R A B I n):=(f.block _ Z).trans (aL _ _)
 obtain⟨q0,q1,l,q3,m,o⟩:=fT i;clear q0 q1 l q3 m o i;go_wp2_with fail;go_ret;exact⟨rfl,j,b_.of g⟩
theorem DR (h:(cn rp rb b9 bY).J F s w)(R:Nat)(q:R<12)(A B I n:Int)(g:iJ 1 R A B I n):
 Calls prog 14 #[aj rp,gm 1 R A B I n] w fun e w'=>e=.returned (ah 0)/\(cn rp rb b9 bY).J F {s with rs:=s.rs.set R (1,n)} w'/\b_ F w F w':=by
 have i:=an w (dj 1 R A B I n)
 have P:=g (w.alloc (dj 1 R A B I n))
 have b:av ((cn rp rb b9 bY).J F s w/\Below w.heap.size w (w.alloc (dj 1 R A B I n))):=⟨h,i⟩
 clear h i g;go_enter func14,ntmps14;go_wp2_with fail;refine P.mono ?_;clear P;rintro e w1 ⟨rfl,d⟩
 have f:=b.o.2.trans (d.mono Z)
 have c:=(cn rp rb b9 bY).below b.o.1 f;have j:w1.heap[w.heap.size]?=some (dj 1 R A B I n):=(d.block _ Z).trans (aL _ _)
 obtain⟨q0,q1,x,q3,C,D⟩:=fT j;obtain⟨c1,_,_,E,G,t,H,k⟩:=e5 c;obtain⟨J,K,L,y1⟩:=k R q;obtain⟨M,u,v⟩:=lJ c;have lb:=(cn rp rb b9 bY).lt b.o.1 rb u;have lp:=(cn rp rb b9 bY).lt b.o.1 rp v;have gB:rb≠w.heap.size:=V;have N:rp≠w.heap.size:=V;have l:av ((cn rp rb b9 bY).J F s w1/\b_ F w F w1):=⟨c,b_.of f⟩
 have r0:(0:Int)<=(R:Int):=V;have r1:(R:Int)<12:=V;clear c f d j k t b;go_wp2_with fail
 go_region_held3 (fun w'=>w'.cell? (am rp 1)=some (.slice (ak rb) 12 12)/\w'.cell? (am w.heap.size 1)=some (ah R)/\w'.cell? (am w.heap.size 5)=some (ah n)) (go_keep) (fail)
 obtain⟨m,o⟩:=kR l.o.1 R (1,n)
 have p:av (_/\_):=⟨(cn rp rb b9 bY).below m bX.drew,(l.o.2.trans o).below bX.drew⟩
 clear m o;go_wp2_with fail;go_ret;exact⟨rfl,p.o.1,p.o.2⟩
theorem DS (h:(cn rp rb b9 bY).J F s w)(R:Nat)(q:R<12)(A B I n:Int)(g:iJ 2 R A B I n):
 Calls prog 14 #[aj rp,gm 2 R A B I n] w fun e w'=>e=.returned (ah 0)/\(cn rp rb b9 bY).J F {s with rs:=s.rs.set R (0,0)} w'/\b_ F w F w':=by
 have i:=an w (dj 2 R A B I n)
 have P:=g (w.alloc (dj 2 R A B I n))
 have b:av ((cn rp rb b9 bY).J F s w/\Below w.heap.size w (w.alloc (dj 2 R A B I n))):=⟨h,i⟩
 clear h i g;go_enter func14,ntmps14;go_wp2_with fail;refine P.mono ?_;clear P;rintro e w1 ⟨rfl,d⟩
 have f:=b.o.2.trans (d.mono Z)
 have c:=(cn rp rb b9 bY).below b.o.1 f;have j:w1.heap[w.heap.size]?=some (dj 2 R A B I n):=(d.block _ Z).trans (aL _ _)
 obtain⟨q0,q1,x,q3,C,D⟩:=fT j;obtain⟨c1,_,_,E,G,t,H,k⟩:=e5 c;obtain⟨J,K,L,y1⟩:=k R q;obtain⟨M,u,v⟩:=lJ c;have lb:=(cn rp rb b9 bY).lt b.o.1 rb u;have lp:=(cn rp rb b9 bY).lt b.o.1 rp v;have gB:rb≠w.heap.size:=V;have N:rp≠w.heap.size:=V;have l:av ((cn rp rb b9 bY).J F s w1/\b_ F w F w1):=⟨c,b_.of f⟩
 have r0:(0:Int)<=(R:Int):=V;have r1:(R:Int)<12:=V;clear c f d j k t b;go_wp2_with fail
 go_region_held3 (fun w'=>w'.cell? (am rp 1)=some (.slice (ak rb) 12 12)/\w'.cell? (am w.heap.size 1)=some (ah R)) (go_keep) (fail)
 obtain⟨m,o⟩:=kR l.o.1 R (0,0)
 have p:av (_/\_):=⟨(cn rp rb b9 bY).below m bX.drew,(l.o.2.trans o).below bX.drew⟩
 clear m o;go_wp2_with fail;go_ret;exact⟨rfl,p.o.1,p.o.2⟩
theorem xC (h:(cn rp rb b9 bY).J F s w)(f:gA s)(h0:0<=bY)(i:bY<=100000)(b:Bool)(g:List Bool->List Bool)(hg:d9 s.T s.wt g):
 Calls prog 34 #[aj rp,.bool b] w fun e w'=>∃j,e=.returned (ah (s.gz g bY b))/\(cn rp rb b9 bY).J j (s.cut g bY b) w'/\b_ F w j w':=by
 by_cases d:b=false/\bY-(dy s.T).2<(dy s.T).1
 ·obtain⟨rfl,d⟩:=d;have k:s.cF g bY false=true:=by unfold cj.cF;rw[bm d];rfl
  have m:s.gz g bY false=3:=by unfold cj.gz;rw[aH k]
  have n:s.cut g bY false=s:=by unfold cj.cut;rw[aH k]
  rw[m,n];refine(DI h f h0 i d).mono ?_;rintro e w' ⟨rfl,l⟩
  exact⟨F,rfl,(cn rp rb b9 bY).below h l,b_.of l⟩
 ·exact DO h f h0 i b (fun e c=>d ⟨e,c⟩) g hg
theorem xD (h:(cn rp rb b9 bY).J F s w)(i:gA s)(h0:0<=bY)(j:bY<=100000)(b:Bool)(g:List Bool->List Bool)(hg:d9 s.T s.wt g)(k R A B I n:Int)(hk:k=if b then 16 else 15)(f:iJ k R A B I n):
 Calls prog 14 #[aj rp,gm k R A B I n] w fun e w'=>∃c,e=.returned (ah (s.gz g bY b))/\(cn rp rb b9 bY).J c (s.cut g bY b) w'/\b_ F w c w':=by
 have HC:av (∀w',(cn rp rb b9 bY).J F s w'->Calls prog 34 #[aj rp,.bool b] w' fun e l=>∃c,e=.returned (ah (s.gz g bY b))/\(cn rp rb b9 bY).J c (s.cut g bY b) l/\b_ F w' c l):=fun w' m=>xC m i h0 j b g hg;clear i h0 j hg;generalize s.gz g bY b=cd at*;generalize s.cut g bY b=s2 at*;cases b
 ·obtain rfl:k=15:=by simpa using hk
  clear hk;have d:=an w (dj 15 R A B I n)
  have P:=f (w.alloc (dj 15 R A B I n))
  have HJ:av ((cn rp rb b9 bY).J F s w/\Below w.heap.size w (w.alloc (dj 15 R A B I n))):=⟨h,d⟩
  clear h d f;go_enter func14,ntmps14;go_wp2_with fail;refine P.mono ?_;clear P;rintro e w1 ⟨rfl,hb1⟩
  have hb:=HJ.o.2.trans (hb1.mono Z)
  have iI:=(cn rp rb b9 bY).below HJ.o.1 hb;have hx:w1.heap[w.heap.size]?=some (dj 15 R A B I n):=(hb1.block _ Z).trans (aL _ _)
  exact xy
 ·obtain rfl:k=16:=by simpa using hk
  clear hk;have d:=an w (dj 16 R A B I n)
  have P:=f (w.alloc (dj 16 R A B I n))
  have HJ:av ((cn rp rb b9 bY).J F s w/\Below w.heap.size w (w.alloc (dj 16 R A B I n))):=⟨h,d⟩
  clear h d f;go_enter func14,ntmps14;go_wp2_with fail;refine P.mono ?_;clear P;rintro e w1 ⟨rfl,hb1⟩
  have hb:=HJ.o.2.trans (hb1.mono Z)
  have iI:=(cn rp rb b9 bY).below HJ.o.1 hb;have hx:w1.heap[w.heap.size]?=some (dj 16 R A B I n):=(hb1.block _ Z).trans (aL _ _)
  exact xy
end
section
variable {rp rb:Nat}{b9 bY:Int}{F:Nat->Prop}{s:cj}{w:au}
theorem DT (h:(cn rp rb b9 bY).J F s w)(R A:Nat)(t:R<12)(u:A<12)(B I n:Int)(i:iJ 3 R A B I n):
 Calls prog 14 #[aj rp,gm 3 R A B I n] w fun e w'=>e=.returned (ah 0)/\(cn rp rb b9 bY).J F {s with rs:=s.rs.set R (s.rs.getD A (0,0))} w'/\b_ F w F w':=by
 obtain⟨g1,g2,hg⟩:∃g1 g2,s.rs.getD A (0,0)=(g1,g2):=⟨_,_,rfl⟩
 rw[hg];have j:=an w (dj 3 R A B I n)
 have P:=i (w.alloc (dj 3 R A B I n))
 have b:av ((cn rp rb b9 bY).J F s w/\Below w.heap.size w (w.alloc (dj 3 R A B I n))):=⟨h,j⟩
 clear h j i;go_enter func14,ntmps14;go_wp2_with fail;refine P.mono ?_;clear P;rintro e w1 ⟨rfl,d⟩
 have f:=b.o.2.trans (d.mono Z)
 have c:=(cn rp rb b9 bY).below b.o.1 f;have k:w1.heap[w.heap.size]?=some (dj 3 R A B I n):=(d.block _ Z).trans (aL _ _)
 obtain⟨q0,q1,G,q3,H,J⟩:=fT k;obtain⟨c1,_,_,K,L,v,M,g⟩:=e5 c;obtain⟨x,C,N,y1⟩:=g R t;obtain⟨O,D,E⟩:=lJ c;have lb:=(cn rp rb b9 bY).lt b.o.1 rb D;have lp:=(cn rp rb b9 bY).lt b.o.1 rp E;have gB:rb≠w.heap.size:=V;have Q:rp≠w.heap.size:=V;have l:av ((cn rp rb b9 bY).J F s w1/\b_ F w F w1):=⟨c,b_.of f⟩
 have r0:(0:Int)<=(R:Int):=V;have r1:(R:Int)<12:=V;obtain⟨u0,m,_,_⟩:=g A u;rw[hg] at u0 m;dsimp only at u0 m;have a0:(0:Int)<=(A:Int):=V;have a1:(A:Int)<12:=V;generalize (s.rs.getD R (0,0)).1=o1 at x;generalize (s.rs.getD R (0,0)).2=S at C;clear c f d k g v b hg;go_wp2_with fail
 go_region_law (fail)
 all_goals
  obtain⟨o,p⟩:=kR l.o.1 R (g1,g2)
  have q:av (_/\_):=⟨(cn rp rb b9 bY).below o bX.drew,(l.o.2.trans p).below bX.drew⟩
  clear o p;go_wp2_with fail;go_ret;exact⟨rfl,q.o.1,q.o.2⟩
end
theorem DU:(prog.info? 99).map (fun i=>(i.zero,i.size,i.bytes))=some (some (.agg #[ah 0,.slice none 0 0,.bool false,.bool false]),4,40):=ae
section
variable {rp rb:Nat}{b9 bY:Int}{F:Nat->Prop}{s:cj}{w:au}
end
end Go.Proofs.YtjpjpjemibgjpaaGreat
