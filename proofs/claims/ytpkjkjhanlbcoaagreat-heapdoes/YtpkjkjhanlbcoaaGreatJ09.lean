import Derived.Test.YtpkjkjhanlbcoaaGreatJ08
import Derived.OrdersHeld
namespace Go.Proofs.YtpkjkjhanlbcoaaGreat
set_option maxRecDepth 100000
set_option maxHeartbeats 16000000
open Tryz
open Go.RowKit W Kp ch
theorem sE {P:Prop}(h:P:=by
 obtain⟨q0,q1,q2,q3,q4,q5⟩:=fX hx;have hb2:=aq w1 (.cells #[.int .i64 (A:Int),.int .i64 (B:Int)] 3)
 have hc2:=aN w1 (.cells #[.int .i64 (A:Int),.int .i64 (B:Int)] 3)
 have xo:w1.heap.size<(w1.alloc (.cells #[.int .i64 (A:Int),.int .i64 (B:Int)] 3)).heap.size:=ac;have PC:=HN.o _ w1.heap.size ((cq rp rb ca b8).below iL hb2) (fun _=>⟨w1.heap.size,0,rfl,xo,fun hF=>by have:=(cq rp rb ca b8).lt iL _ hF;omega,fun i hi=>by
  have hi:i<2:=hi;unfold World.cell?;rw[hc2]
  match i,hi with
  |0,_=>rfl
  |1,_=>rfl⟩)
 have HT:ay (ce F w F (w1.alloc (.cells #[.int .i64 (A:Int),.int .i64 (B:Int)] 3))):=(ce.of hb).below hb2;clear iL hb hb1 hx HJ HN hb2 hc2 xo;go_wp2_with fail;refine PC.mono ?_;clear PC;rintro e w2 ⟨F2,rfl,j2,t2⟩
 have HR:ay ((cq rp rb ca b8).J F2 sF w2/\ce F w F2 w2):=⟨j2,HT.o.trans t2⟩
 clear j2 t2 HT q0 q1 q2 q3 q4 q5;go_wp2_with fail;go_ret;exact⟨F2,rfl,HR.o.1,HR.o.2⟩):P:=h
theorem nB {P:Prop}(h:P:=by go_wp2_with fail;go_ret;exact⟨rfl,F,gh.o.1,gh.o.2⟩):P:=h
theorem qd {P:Prop}(h:P:=by go_wp2_with fail;go_ret;exact⟨rfl,gh.o.1,gh.o.2⟩):P:=h
def nD (F:Nat->Prop)(w:aw)(c:Option Addr)(L:List Nat):Prop:=0<L.length->∃b o,c=some ⟨b,o,none⟩/\b<w.heap.size/\¬F b/\∀i,i<L.length->w.cell? (ao b (o+i))=some (ak (L.getD i 0:Nat))
structure nE (wc w:aw)(kd:Int)(ad:Option Addr)(cp:Nat)(P:List (Int×Int)):Prop where
 be:Below wc.heap.size wc w
 nc:w.heap[wc.heap.size]?=some (.cells #[ak kd,.slice ad P.length cp,.bool false,.bool false] 118 (0,0))
 row:w.ownsRow (wc.heap.size+1) 97 2 (.slice ad P.length cp) P.length (ev P)
theorem nE.push {wc w wq b:aw}{kd:Int}{c:Option Addr}{cp:Nat}{P:List _}(h:nE wc w kd c cp P)(hq:Below w.heap.size w wq){v:Int×Int}{b4 c4:Nat}(hg:wq.grownBy b (Value.slice c P.length cp).ownBlock)(d:b.ownsRow (wc.heap.size+1) 97 2 (.slice (an b4) (P.length+1) c4) (P.length+1) (ev P++ev [v])):
 nE wc (b.setCell ⟨wc.heap.size,1,none⟩ (.slice (some ⟨b4,0,none⟩) (P.length+1) c4)) kd (an b4) c4 (P++[v])/\b.heap[wc.heap.size]?=some (.cells #[ak kd,.slice c P.length cp,.bool false,.bool false] 118 (0,0)):=by
 have fr:=(Fr.of hq).grown hg (fun k e=>aL (by simpa using e.symm))
 have hk:=(fr.block wc.heap.size (lt_of_some h.nc) (fun e=>by obtain⟨g,hc⟩:=d6 h.row wc.heap.size e;rw[h.nc] at hc;simp at hc)).trans h.nc;have f:(P++[v]).length=P.length+1:=ac;have i:ev (P++[v])=ev P++ev [v]:=by simp[ev]
 refine⟨⟨h.be.trans (((fr.mono (fun _ j=>aL j)).set wc.heap.size _ _ (aK rfl)).below h.be.size (fun k e=>by
  rcases e with e|e
  ·have:=(cg h.row k e).1;omega
  ·omega)),?_,?_⟩,hk⟩
 ·rw[f];simp only [World.setCell,Array.getElem?_modify,if_true,hk,Option.map_some];simp
 ·rw[f,i];refine cy d (fun k e=>aP _ _ _ _ (fun l=>?_))
  obtain⟨g,hc⟩:=d6 d k e;rw[l,hk] at hc;simp at hc
def cn.nw (s:cn)(g:gZ)(ca b8:Int)(r:Nat)(kd:Int)(l:List (Int×Int)):Int×cn:=
 if(s.b8 g ca b8 kd l).2.1=0 then(0,{(s.b8 g ca b8 kd l).2.2 with rs:=(s.b8 g ca b8 kd l).2.2.rs.set r (s.b8 g ca b8 kd l).1}) else((s.b8 g ca b8 kd l).2.1,(s.b8 g ca b8 kd l).2.2)
theorem DG {s s1:cn}{g:gZ}{ca b8 c:Int}{l:List _}(h:s.room g ca b8 (1+l.length)=(c,s1))(hc:c≠0)(r:Nat)(kd:Int):s.nw g ca b8 r kd l=(c,s1):=by
 have e:s.b8 g ca b8 kd l=((0,0),c,s1):=by unfold cn.b8;rw[h,aH hc]
 unfold cn.nw;rw[e,aH hc]
theorem DH {s s1:cn}{g:gZ}{ca b8:Int}{l:List _}(h:s.room g ca b8 (1+l.length)=(0,s1))(r:Nat)(kd:Int):s.nw g ca b8 r kd l=(0,{s1 with T:=s1.T++[(kd,l,false,false)],rs:=s1.rs.set r (3,(s1.T.length:Int))}):=by
 have e:s.b8 g ca b8 kd l=((3,(s1.T.length:Int)),0,s1.put kd l):=by unfold cn.b8;rw[h,aJ rfl]
 unfold cn.nw;rw[e,aJ rfl];rfl
section
variable {rp rb:Nat}{ca b8:Int}{F:Nat->Prop}{s:cn}{w:aw}
theorem oM (h:(cq rp rb ca b8).J F s w)(aV:gF s)(h0:0<=b8)(ap:b8<=100000)(dZ:0<=ca)(m1:ca<=100000)(g:gZ)(hg:ed s.T s.wt (g s.T s.wt))(r:Nat)(dg:r<12)(kd:Int)(L:List Nat)(cE:∀q∈L,q<12)(d0:L.length<=12)(b2:Option Addr)(fc:Nat)(cF:nD F w b2 L):
 Calls prog 60 #[am rp,ak r,ak kd,.slice b2 L.length fc] w fun e w'=>∃a2,e=.returned (ak (s.nw g ca b8 r kd (L.map (fun q=>s.rs.getD q (0,0)))).1)/\(cq rp rb ca b8).J a2 (s.nw g ca b8 r kd (L.map (fun q=>s.rs.getD q (0,0)))).2 w'/\ce F w a2 w':=by
 have cd:(L.map (fun q=>s.rs.getD q (0,0))).length=L.length:=aU ..;have cG:ay (∀c s1,s.room g ca b8 (1+L.length)=(c,s1)->c≠0->s.nw g ca b8 r kd (L.map (fun q=>s.rs.getD q (0,0)))=(c,s1)):=fun c s1 e hc=>DG (by rw[cd];exact e) hc r kd;have cH:ay (∀s1,s.room g ca b8 (1+L.length)=(0,s1)->s.nw g ca b8 r kd (L.map (fun q=>s.rs.getD q (0,0)))=(0,{s1 with T:=s1.T++[(kd,L.map (fun q=>s.rs.getD q (0,0)),false,false)],rs:=s1.rs.set r (3,(s1.T.length:Int))})):=fun s1 e=>DH (by rw[cd];exact e) r kd;generalize s.nw g ca b8 r kd (L.map (fun q=>s.rs.getD q (0,0)))=N at*;obtain⟨cN,a3⟩:=N;have cI:=pT h aV.t12 aV.tl;have bd:=pS s.T aV.t12;have dh:=aV.tl;have bb:ay (s.room g ca b8 (1+L.length)=if(1+L.length:Int)<=ca-(dC s.T).1 then(0,s) else(s.gE (g s.T s.wt) b8 (decide (b8-(dC s.T).2<(dC s.T).1)),s.cut (g s.T s.wt) b8 (decide (b8-(dC s.T).2<(dC s.T).1)))):=rfl;have b3:ay (∀w',(cq rp rb ca b8).J F s w'->Calls prog 51 #[am rp,.bool (decide (b8-(dC s.T).2<(dC s.T).1))] w' fun e cJ=>∃a2,e=.returned (ak (s.gE (g s.T s.wt) b8 (decide (b8-(dC s.T).2<(dC s.T).1))))/\(cq rp rb ca b8).J a2 (s.cut (g s.T s.wt) b8 (decide (b8-(dC s.T).2<(dC s.T).1))) cJ/\ce F w' a2 cJ):=fun w' di=>xm di aV h0 ap _ _ hg;have cf:ay ((s.cut (g s.T s.wt) b8 (decide (b8-(dC s.T).2<(dC s.T).1))).rs=s.rs/\(s.cut (g s.T s.wt) b8 (decide (b8-(dC s.T).2<(dC s.T).1))).T.length=s.T.length):=by
  unfold cn.cut;split
  ·exact⟨rfl,rfl⟩
  ·exact⟨rfl,i3 _ _ _⟩
 generalize s.room g ca b8 (1+L.length)=ch at*;generalize dj:(dC s.T).1=x at*;generalize dk:(dC s.T).2=y at*;obtain⟨d1,d2,d3,d5⟩:=bd;generalize s.gE (g s.T s.wt) b8 (decide (b8-y<x))=cc at*;generalize s.cut (g s.T s.wt) b8 (decide (b8-y<x))=a0 at*;have cK:ay ((cq rp rb ca b8).J F s w):=h;have cL:ay (nD F w b2 L):=cF;have dl:ay (∀q∈L,q<12):=cE;have d6:(L.length:Int)<=12:=aa;obtain⟨dm,dn,dp,dq,dr⟩:=info_parts my;obtain⟨j0,ds,dt,du,dv⟩:=info_parts DF;clear h aV hg cF cE dj dk cd;go_enter func60,ntmps60;go_wp2_with fail;refine cI.mono ?_;clear cI;rintro e w1 ⟨rfl,ci⟩
 have cj:=(cq rp rb ca b8).below cK.o ci;obtain⟨_,c4,c5,_⟩:=e8 cj;have n:ay ((cq rp rb ca b8).J F s w1/\ce F w F w1):=⟨cj,ce.of ci⟩
 clear cj ci cK
 go_upto_if 30 with fail
 go_cut [] (fun wc=>∃(t:Nat->Prop)(s1:cn),ay ((cq rp rb ca b8).J t s1 wc/\ce F w t wc)/\ay (ch=(0,s1)/\s1.rs=s.rs/\s1.T.length=s.T.length))
 case first=>
  by_cases hm:(1+L.length:Int)<=ca-x
  ·have ai:ay (ch=(0,s)):=by show _=_;rw[bb.o,aJ hm]
   have dw:¬ca-x<1+(L.length:Int):=aa;clear hm bb b3 cf;go_wp2_with fail
   go_meet
   case rel=>exact⟨F,s,n,⟨ai.o,rfl,rfl⟩⟩
  ·have ai:ay (ch=(cc,a0)):=by show _=_;rw[bb.o,aH hm]
   have dw:ca-x<1+(L.length:Int):=aa;have cM:=b3.o w1 n.o.1;clear hm bb b3;go_wp2_with fail;refine cM.mono ?_;clear cM;rintro e cO ⟨b5,rfl,j2,ck⟩
   have cl:ay ((cq rp rb ca b8).J b5 a0 cO/\ce F w b5 cO):=⟨j2,n.o.2.trans ck⟩
   clear j2 ck n c4 c5;by_cases hc:cc=0
   ·subst hc;go_wp2_with fail
    go_meet
    case rel=>exact⟨b5,a0,cl,⟨ai.o,cf.o⟩⟩
   ·have d7:(cc !=0)=true:=by simpa using hc
    have cP:ay ((cN,a3)=(cc,a0)):=cG.o cc a0 ai.o hc;obtain⟨rfl,rfl⟩:cN=cc/\a3=a0:=by simpa using cP.o
    clear hc cP;go_wp2_with fail;go_ret;exact⟨b5,rfl,cl.o.1,cl.o.2⟩
 case rest=>
  obtain⟨t,s1,n,ai⟩:=hcut;have d8:s1.T.length<=10000:=by rw[ai.o.2.2];exact dh
  have cm:=cH.o s1 ai.o.1;have be:ay (∀b,t b->b<wc.heap.size):=(cq rp rb ca b8).lt n.o.1;have dx:w.heap.size<=wc.heap.size:=n.o.2.fr.size;obtain rfl:cN=0:=congrArg Prod.fst cm;have bg:a3=_:=congrArg Prod.snd cm;dsimp only at bg;have cQ:ay (s1.rs=s.rs):=ai.o.2.1;rw[<-cQ.o] at bg;obtain⟨l,co⟩:∃l,ay (L.map (fun q=>s1.rs.getD q (0,0))=l):=⟨_,rfl⟩
  rw[co.o] at bg;have dy:ay (a3=_):=bg;have cR:ay (∀w',Below wc.heap.size wc w'->0<L.length->∃b o,b2=some ⟨b,o,none⟩/\b<w'.heap.size/\∀i,i<L.length->w'.cell? (ao b (o+i))=some (ak (L.getD i 0:Nat))):=fun w' hb hp=>by obtain⟨b,o,e,lb,dz,hc⟩:=cL.o hp;have cS:=aO lb n.o.2.fr.size;exact⟨b,o,e,aO cS hb.size,fun i hi=>(hb.cell (p:=ao b (o+i)) cS).trans ((aW (a:=⟨b,o+i,none⟩) (n.o.2.fr.block b lb dz)).trans (hc i hi))⟩
  have cU:ay (nE wc (wc.alloc (.cells #[.int .i64 kd,.slice none 0 0,.bool false,.bool false] 118)) kd none 0 []):=⟨(aE _ wc).alloc bY _,aN _ _,a6 _ _ _ _⟩
  clear cm bg ai cH cG c4 c5 bb b3 cf cL;go_wp2_with fail;generalize wc.alloc (.cells #[.int .i64 kd,.slice none 0 0,.bool false,.bool false] 118)=wd at*
  go_loopw [14] (fun iv wr=>∃(j:Nat)(P:List (Int×Int))(m:Option Addr)(cp:Nat),j<=L.length/\iv=ak j/\ay (P=(L.take j).map (fun q=>s1.rs.getD q (0,0)))/\ay (nE wc wr kd m cp P)) (fun iv _=>L.length-(intOf iv).toNat)
  case atStart=>exact⟨0,[],none,0,aX _,rfl,rfl,cU⟩
  case round=>
   clear cU;obtain⟨j,P,m,cp,d,rfl,bi,B⟩:=hrel;have dA:wc.heap.size<wr.heap.size:=lt_of_some B.o.nc;by_cases cr:j<L.length
   ·obtain⟨d9,ea,dB,eb,cV⟩:=cR.o wr B.o.be aa;subst dB;have ec:=cV j cr;have dD:L.getD j 0<12:=dl.o _ (getD_in cr)
    have ar:=(cq rp rb ca b8).below n.o.1 B.o.be;obtain⟨c1,_,_,cW,dE,_,_,bl⟩:=e8 ar;obtain⟨b6,b7,_⟩:=bl (L.getD j 0) dD;have cX:ay (P++[s1.rs.getD (L.getD j 0) (0,0)]=(L.take (j+1)).map (fun q=>s1.rs.getD q (0,0))):=by show _=_;rw[fE L j cr 0,bC,bi.o];rfl
    obtain⟨v1,v2,cY⟩:∃v1 v2,s1.rs.getD (L.getD j 0) (0,0)=(v1,v2):=⟨_,_,rfl⟩
    rw[cY] at b6 b7 cX;dsimp only at b6 b7;generalize L.getD j 0=q at*;have ee:wr.cell? (ao wc.heap.size 1)=some (.slice m P.length cp):=aA B.o.nc
    have ef:P.length<=12:=by rw[bi.o,aU,bu];omega
    have k0:(0:Int)<=(j:Int):=aa;have k1:(j:Int)<(L.length:Int):=aa;have q0:(0:Int)<=(q:Int):=aa;have q1:(q:Int)<12:=aa;have dF:ay (Below wr.heap.size wr (wr.alloc (.cells #[.int .i64 v1,.int .i64 v2] 97)).drew):=(aq wr _).drew;have cs:ay ((wr.alloc (.cells #[.int .i64 v1,.int .i64 v2] 97)).drew.ownsRow (wc.heap.size+1) 97 2 (.slice m P.length cp) P.length (ev P)):=cy (gb B.o.row _) (fun _ _=>rfl)
    clear cV ar bl cY bi;go_wp2_with fail
    go_region_law (refine step_append_lies _ rfl (.tmp 53) (.tmp 64) 57 rfl (wc.heap.size+1) 97 dm (.agg #[ak 0,ak 0]) 2 16 underlying57 dn dp dq dr rfl ae (.slice m P.length cp) P.length (ev P) (by simp[Act.eval]) cs.o ⟨wr.heap.size,0,none⟩ 1 1 [ak v1,ak v2] (by simp[Act.eval]) rfl ?_ ?_ ae (by unfold maxLen;omega) aa (by simp;omega) _ rfl ?_;(intro j u d;match j,d with|0,d=>(simp at d;subst d;simp[Addr.add])|1,d=>(simp at d;subst d;simp[Addr.add]));(intro u S;simp at S;rcases S with S|S<;>(subst S;rfl));intro b4 aF ad bn ax _ _;have ct:ay (nE wc (ad.setCell ⟨wc.heap.size,1,none⟩ (.slice (some ⟨b4,0,none⟩) (P.length+1) aF)) kd (an b4) aF (P++[(v1,v2)])/\ad.heap[wc.heap.size]?=some (.cells #[ak kd,.slice m P.length cp,.bool false,.bool false] 118 (0,0))):=(B.o.push dF.o ax (by simpa[ev] using bn));have s0:ad.cell? (ao wc.heap.size 1)=some (.slice m P.length cp):=aA ct.o.2;have eg:ad.frozen? (ao wc.heap.size 1)=false:=(by simp[World.frozen?,ct.o.2]))
    all_goals
     clear bn ax;go_wp2_with fail;go_roundw
     case rel=>exact⟨j+1,P++[(v1,v2)],an b4,aF,aa,aj,cX,ct.o.1⟩
     case measure=>simp[intOf];omega
   ·obtain rfl:j=L.length:=aa;rw[ba,co.o] at bi;have dG:=bi.o;subst dG;obtain⟨hb,ht,cZ⟩:=B.o;have ar:=(cq rp rb ca b8).below n.o.1 hb;generalize P=l at*;clear co cR B cQ;obtain⟨c1,_,_,cW,dE,dH,eh,bl⟩:=e8 ar;obtain⟨b6,b7,dI,y1⟩:=bl r dg;obtain⟨al,c0,bo,cT,aR,⟨cu,dJ⟩,b9,_,_⟩:=pP ar;have bp:al.length=s1.T.length:=by rw[<-bo];simp
    obtain⟨W,ab,dK⟩:=dU aR;subst dK;rw[bp] at cT;have dL:rb≠rp:=fun e=>by obtain⟨own,c2,c3,c6,c7,hM,_⟩:=ar;have ap:=hM.r1;rw[e,hM.b1] at ap;omega
    have br:ay ((cq rp rb ca b8).J t s1 wr/\ce F w t wr):=⟨ar,n.o.2.below hb⟩
    have B:ay (wr.heap[wc.heap.size]?=some (.cells #[ak kd,.slice m l.length cp,.bool false,.bool false] 118 (0,0))/\wr.ownsRow (wc.heap.size+1) 97 2 (.slice m l.length cp) l.length (ev l)/\wc.heap.size<=wr.heap.size):=⟨ht,cZ,hb.size⟩
    have ei:(0:Int)<=(r:Int):=aa;have ej:(r:Int)<12:=aa;clear ar bl dH b9 aR ht cZ hb n bo;go_wp2_with fail
    go_region_held3 (fun w'=>w'.cell? (ao rp 1)=some (.slice (an rb) 12 12)/\w'.cell? (ao rp 0)=some (.slice W s1.T.length ab)) (go_keep) (fail)
    obtain⟨c9,da⟩:=kP br.o.1 r (3,(s1.T.length:Int))
    have dM:rb≠wc.heap.size:=fun e=>by
     have ap:=be.o rb (by obtain⟨own,c2,c3,c6,c7,hM,cv⟩:=br.o.1;exact(cv rb).2 (by rw[hM.r1];decide))
     omega
    have bs:Fr (fun b=>b=rb) wr ((wr.setCell ⟨rb,r*2,none⟩ (.int .i64 3)).setCell ⟨rb,r*2+1,none⟩ (.int .i64 s1.T.length)).drew:=(((Fr.refl (fun b=>b=rb) wr).set rb _ _ rfl).set rb _ _ rfl).drew;have bt:=(cq rp rb ca b8).below c9 bZ.drew;have cw:=(br.o.2.trans da).below bZ.drew;dsimp only at bt cw;have a1:=(bs.block wc.heap.size dA (fun e=>dM e.symm)).trans B.o.1;have dN:t rb:=by obtain⟨own,c2,c3,c6,c7,hM,cv⟩:=br.o.1;exact(cv rb).2 (by rw[hM.r1];decide)
    have db:=gN B.o.2.1 bs (fun b e aT=>by
     have ap:=(cg B.o.2.1 b e).1;have cx:=be.o b (by rw[aT];exact dN)
     omega)
    have ek:=bs.size;have dO:=(aW (a:=⟨rp,0,none⟩) (bs.block rp cW (fun e=>dL e.symm))).trans cT;generalize ((wr.setCell ⟨rb,r*2,none⟩ (.int .i64 3)).setCell ⟨rb,r*2+1,none⟩ (.int .i64 s1.T.length)).drew=k at*;clear c9 da b6 b7 dI y1 cT c1;obtain⟨al,c0,bo,cT,aR,⟨cu,dJ⟩,b9,cz,_⟩:=pP bt;have bp:al.length=s1.T.length:=by rw[<-aU (f:=fun x=>x.1),bo]
    obtain rfl:c0=.slice W s1.T.length ab:=by have:=cT.symm.trans dO;simpa using this
    rw[bp] at aR;have dP:ay (al.length=s1.T.length):=bp;clear bp;obtain⟨_,_,_,cA,_,dc,_⟩:=e8 bt;have z0:=dc 0;have t0:k.cell? (ao wc.heap.size 0)=some (ak kd):=aA a1
    have el:k.cell? (ao wc.heap.size 1)=some (.slice m l.length cp):=aA a1
    have ck:k.cell? (ao wc.heap.size 2)=some (.bool false):=aA a1
    have t3:k.cell? (ao wc.heap.size 3)=some (.bool false):=aA a1
    have em:=lt_of_some a1;have cB:=(aq k (.cells #[.int .i64 kd,.slice m l.length cp,.bool false,.bool false] 118)).drew;have cs:ay ((k.alloc (.cells #[.int .i64 kd,.slice m l.length cp,.bool false,.bool false] 118)).drew.ownsRow 0 118 4 (.slice W s1.T.length ab) s1.T.length (tv al)):=cy (gb aR _) (fun _ _=>rfl)
    have bx:ay ((cq rp rb ca b8).J t {s1 with rs:=s1.rs.set r (3,(s1.T.length:Int))} k/\ce F w t k):=⟨bt,cw⟩
    have cC:=cz;have ag:ay (k.ownsRow (wc.heap.size+1) 97 2 (.slice m l.length cp) l.length (ev l)/\k.ownsRow 0 118 4 (.slice W s1.T.length ab) s1.T.length (tv al)/\∀b,some b=(Value.slice W s1.T.length ab).ownBlock->t b):=⟨db,aR,b9⟩
    have cC:ay (∀(x:iA)(v1:Value)(b0:aw),Fr (fun b=>some b=(Value.slice W s1.T.length ab).ownBlock) k b0->b0.ownsRow 0 118 4 v1 (al++[x]).length (tv (al++[x]))->(∀b,some b=v1.ownBlock->some b=(Value.slice W s1.T.length ab).ownBlock\/k.heap.size<=b)->c8 b0 x.2.1 x.1.2.1->(∀b o,0<x.1.2.1.length->x.2.1=some ⟨b,o,none⟩->¬t b/\some b≠v1.ownBlock)->
     (cq rp rb ca b8).J (fun b=>t b\/some b=v1.ownBlock\/(0<x.1.2.1.length/\∃o,x.2.1=some ⟨b,o,none⟩)) {s1 with rs:=s1.rs.set r (3,(s1.T.length:Int)),T:=s1.T++[x.1]} (b0.setCell ⟨rp,0,none⟩ v1)/\Fr t k (b0.setCell ⟨rp,0,none⟩ v1)):=cz
    clear cz aR b9 bt cw a1 db dc bo B bs br;go_wp2_with fail
    go_region_law (refine step_append_lies _ rfl (.tmp 83) (.tmp 85) 108 rfl 0 118 j0 (.agg #[ak 0,.slice none 0 0,.bool false,.bool false]) 4 40 underlying108 ds dt du dv rfl ae (.slice W s1.T.length ab) s1.T.length (tv al) (by simp[Act.eval]) cs.o ⟨k.heap.size,0,none⟩ 1 1 [ak kd,.slice m l.length cp,.bool false,.bool false] (by simp[Act.eval]) rfl ?_ ?_ ae (by unfold maxLen;omega) aa ac _ rfl ?_;(intro j u d;match j,d with|0,d=>(simp at d;subst d;simp[Addr.add])|1,d=>(simp at d;subst d;simp[Addr.add])|2,d=>(simp at d;subst d;simp[Addr.add])|3,d=>(simp at d;subst d;simp[Addr.add]));(intro u S;simp at S;rcases S with S|S|S<;>(subst S;rfl));intro b4 aF ad bn ax dd en;have eo:=ax.cell (a:=⟨rp,0,none⟩) (v:=.slice W s1.T.length ab) ((cB.cell (p:=ao rp 0) cA).trans cT) cu;have ep:ad.frozen? (ao rp 0)=false:=(World.frozen?_of_block (a:=⟨rp,0,none⟩) (ax.block _ (aO cA cB.size) cu)).trans ((cB.frozen (p:=ao rp 0) cA).trans z0))
    all_goals
     have dQ:ay (∃cb,(cq rp rb ca b8).J cb a3 (ad.setCell ⟨rp,0,none⟩ (.slice (some ⟨b4,0,none⟩) (s1.T.length+1) aF))/\ce F w cb (ad.setCell ⟨rp,0,none⟩ (.slice (some ⟨b4,0,none⟩) (s1.T.length+1) aF))):=by
      have dR:=ax.size;simp at dR;have cD:some b4=(Value.slice W s1.T.length ab).ownBlock\/b4=k.heap.size+1:=dd.imp Eq.symm (fun e=>by simpa using e)
      have de:Fr (fun b=>some b=(Value.slice W s1.T.length ab).ownBlock) k ad:=(((Fr.refl _ k).alloc _).drew).grown ax (fun b e=>aL e.symm)
      have dS:=gN ag.o.1 de (fun b e aT=>by
       have ap:=(cg ag.o.1 b e).1;have cx:=be.o b (ag.o.2.2 b aT)
       omega)
      obtain⟨ap,cx⟩:=cC.o ((kd,l,false,false),m,cp) (.slice (an b4) (s1.T.length+1) aF) ad de (by
       rw[BE,aZ,dP.o];simpa[tv] using bn) (fun b e=>by
       simp[Value.ownBlock] at e;subst e;exact cD.imp id (fun e=>by omega)) (gn (by simpa using dS)) (fun b o hp e=>by
       dsimp only at hp e;have dT:some b=(Value.slice m l.length cp).ownBlock:=by obtain⟨dV,dW,aT⟩:=d4 ag.o.1 hp;cases aT;cases e;rfl
       have dX:=cg ag.o.1 b dT;refine⟨fun aB=>by have:=be.o b aB;omega,fun df=>?_⟩
       simp[Value.ownBlock] at df;subst df;rcases cD with b1|b1
       ·have:=be.o _ (ag.o.2.2 _ b1)
        omega
       ·omega)
      rw[dy.o];refine⟨_,ap,⟨bx.o.2.fr.trans cx bx.o.2.sub,fun b aB=>?_⟩⟩
      rcases aB with aB|aB|⟨hp,o,e⟩
      ·exact bx.o.2.sub b aB
      ·simp[Value.ownBlock] at aB;subst aB;rcases cD with b1|b1
       ·exact bx.o.2.sub _ (ag.o.2.2 _ b1)
       ·exact aK (by have:=bx.o.2.fr.size;omega)
      ·dsimp only at hp e;obtain⟨dV,dW,aT⟩:=d4 ag.o.1 hp;cases aT;cases e;have dX:=(cg ag.o.1 b rfl).1;have eq:=dx;exact aK aa
     clear bn ax dd cC ag;go_wp2_with fail;go_ret;obtain⟨cb,dY,j2⟩:=dQ.o;exact⟨cb,rfl,dY,j2⟩
end
section
variable {rp rb:Nat}{ca b8:Int}{F:Nat->Prop}{s:cn}{w:aw}
theorem DI (h:(cq rp rb ca b8).J F s w)(d:gF s)(h0:0<=b8)(f:b8<=100000)(j:0<=ca)(m1:ca<=100000)(g:gZ)(hg:ed s.T s.wt (g s.T s.wt))(R A B:Nat)(m:R<12)(t:A<12)(hB:B<12)(I n:Int)(k:iM 4 R A B I n):
 Calls prog 21 #[am rp,gt 4 R A B I n] w fun e w'=>∃c,e=.returned (ak (s.nw g ca b8 R 1 [s.rs.getD A (0,0),s.rs.getD B (0,0)]).1)/\(cq rp rb ca b8).J c (s.nw g ca b8 R 1 [s.rs.getD A (0,0),s.rs.getD B (0,0)]).2 w'/\ce F w c w':=by
 have HN:ay (∀(W:aw)(b:Nat),(cq rp rb ca b8).J F s W->nD F W (an b) [A,B]->Calls prog 60 #[am rp,ak R,ak 1,.slice (an b) 2 2] W fun e w'=>∃c,e=.returned (ak (s.nw g ca b8 R 1 [s.rs.getD A (0,0),s.rs.getD B (0,0)]).1)/\(cq rp rb ca b8).J c (s.nw g ca b8 R 1 [s.rs.getD A (0,0),s.rs.getD B (0,0)]).2 w'/\ce F W c w'):=fun W b o p=>oM o d h0 f j m1 g hg R m 1 [A,B] (fun q hq=>by simp at hq;omega) ac (an b) 2 p;clear d h0 f j m1 hg;generalize (s.nw g ca b8 R 1 [s.rs.getD A (0,0),s.rs.getD B (0,0)])=N at*;obtain⟨cN,sF⟩:=N;dsimp only at HN⊢;have l:=aq w (dr 4 R A B I n)
 have P:=k (w.alloc (dr 4 R A B I n))
 have HJ:ay ((cq rp rb ca b8).J F s w/\Below w.heap.size w (w.alloc (dr 4 R A B I n))):=⟨h,l⟩
 clear h l k;go_enter func21,ntmps21;go_wp2_with fail;refine P.mono ?_;clear P;rintro e w1 ⟨rfl,hb1⟩
 have hb:=HJ.o.2.trans (hb1.mono ac)
 have iL:=(cq rp rb ca b8).below HJ.o.1 hb;have hx:w1.heap[w.heap.size]?=some (dr 4 R A B I n):=(hb1.block _ ac).trans (aN _ _)
 exact sE
theorem DJ (h:(cq rp rb ca b8).J F s w)(d:gF s)(h0:0<=b8)(f:b8<=100000)(j:0<=ca)(m1:ca<=100000)(g:gZ)(hg:ed s.T s.wt (g s.T s.wt))(R A B:Nat)(m:R<12)(t:A<12)(hB:B<12)(I n:Int)(k:iM 6 R A B I n):
 Calls prog 21 #[am rp,gt 6 R A B I n] w fun e w'=>∃c,e=.returned (ak (s.nw g ca b8 R 3 [s.rs.getD A (0,0),s.rs.getD B (0,0)]).1)/\(cq rp rb ca b8).J c (s.nw g ca b8 R 3 [s.rs.getD A (0,0),s.rs.getD B (0,0)]).2 w'/\ce F w c w':=by
 have HN:ay (∀(W:aw)(b:Nat),(cq rp rb ca b8).J F s W->nD F W (an b) [A,B]->Calls prog 60 #[am rp,ak R,ak 3,.slice (an b) 2 2] W fun e w'=>∃c,e=.returned (ak (s.nw g ca b8 R 3 [s.rs.getD A (0,0),s.rs.getD B (0,0)]).1)/\(cq rp rb ca b8).J c (s.nw g ca b8 R 3 [s.rs.getD A (0,0),s.rs.getD B (0,0)]).2 w'/\ce F W c w'):=fun W b o p=>oM o d h0 f j m1 g hg R m 3 [A,B] (fun q hq=>by simp at hq;omega) ac (an b) 2 p;clear d h0 f j m1 hg;generalize (s.nw g ca b8 R 3 [s.rs.getD A (0,0),s.rs.getD B (0,0)])=N at*;obtain⟨cN,sF⟩:=N;dsimp only at HN⊢;have l:=aq w (dr 6 R A B I n)
 have P:=k (w.alloc (dr 6 R A B I n))
 have HJ:ay ((cq rp rb ca b8).J F s w/\Below w.heap.size w (w.alloc (dr 6 R A B I n))):=⟨h,l⟩
 clear h l k;go_enter func21,ntmps21;go_wp2_with fail;refine P.mono ?_;clear P;rintro e w1 ⟨rfl,hb1⟩
 have hb:=HJ.o.2.trans (hb1.mono ac)
 have iL:=(cq rp rb ca b8).below HJ.o.1 hb;have hx:w1.heap[w.heap.size]?=some (dr 6 R A B I n):=(hb1.block _ ac).trans (aN _ _)
 exact sE
theorem DK (h:(cq rp rb ca b8).J F s w)(d:gF s)(h0:0<=b8)(f:b8<=100000)(j:0<=ca)(m1:ca<=100000)(g:gZ)(hg:ed s.T s.wt (g s.T s.wt))(R A B:Nat)(m:R<12)(t:A<12)(hB:B<12)(I n:Int)(k:iM 7 R A B I n):
 Calls prog 21 #[am rp,gt 7 R A B I n] w fun e w'=>∃c,e=.returned (ak (s.nw g ca b8 R 4 [s.rs.getD A (0,0),s.rs.getD B (0,0)]).1)/\(cq rp rb ca b8).J c (s.nw g ca b8 R 4 [s.rs.getD A (0,0),s.rs.getD B (0,0)]).2 w'/\ce F w c w':=by
 have HN:ay (∀(W:aw)(b:Nat),(cq rp rb ca b8).J F s W->nD F W (an b) [A,B]->Calls prog 60 #[am rp,ak R,ak 4,.slice (an b) 2 2] W fun e w'=>∃c,e=.returned (ak (s.nw g ca b8 R 4 [s.rs.getD A (0,0),s.rs.getD B (0,0)]).1)/\(cq rp rb ca b8).J c (s.nw g ca b8 R 4 [s.rs.getD A (0,0),s.rs.getD B (0,0)]).2 w'/\ce F W c w'):=fun W b o p=>oM o d h0 f j m1 g hg R m 4 [A,B] (fun q hq=>by simp at hq;omega) ac (an b) 2 p;clear d h0 f j m1 hg;generalize (s.nw g ca b8 R 4 [s.rs.getD A (0,0),s.rs.getD B (0,0)])=N at*;obtain⟨cN,sF⟩:=N;dsimp only at HN⊢;have l:=aq w (dr 7 R A B I n)
 have P:=k (w.alloc (dr 7 R A B I n))
 have HJ:ay ((cq rp rb ca b8).J F s w/\Below w.heap.size w (w.alloc (dr 7 R A B I n))):=⟨h,l⟩
 clear h l k;go_enter func21,ntmps21;go_wp2_with fail;refine P.mono ?_;clear P;rintro e w1 ⟨rfl,hb1⟩
 have hb:=HJ.o.2.trans (hb1.mono ac)
 have iL:=(cq rp rb ca b8).below HJ.o.1 hb;have hx:w1.heap[w.heap.size]?=some (dr 7 R A B I n):=(hb1.block _ ac).trans (aN _ _)
 exact sE
theorem DL (h:(cq rp rb ca b8).J F s w)(j:gF s)(h0:0<=b8)(k:b8<=100000)(l:0<=ca)(m1:ca<=100000)(g:gZ)(hg:ed s.T s.wt (g s.T s.wt))(R:Nat)(ad:R<12)(A B I n:Int)(m:iM 8 R A B I n):
 Calls prog 21 #[am rp,gt 8 R A B I n] w fun e w'=>∃b,e=.returned (ak (s.nw g ca b8 R 5 []).1)/\(cq rp rb ca b8).J b (s.nw g ca b8 R 5 []).2 w'/\ce F w b w':=by
 have c:ay (∀(W:aw),(cq rp rb ca b8).J F s W->Calls prog 60 #[am rp,ak R,ak 5,.slice none 0 0] W fun e w'=>∃b,e=.returned (ak (s.nw g ca b8 R 5 []).1)/\(cq rp rb ca b8).J b (s.nw g ca b8 R 5 []).2 w'/\ce F W b w'):=fun W ag=>oM ag j h0 k l m1 g hg R ad 5 [] (fun q hq=>by cases hq) ac none 0 (fun h=>absurd h ac)
 clear j h0 k l m1 hg;generalize (s.nw g ca b8 R 5 [])=N at*;obtain⟨cN,ai⟩:=N;dsimp only at c⊢;have o:=aq w (dr 8 R A B I n)
 have P:=m (w.alloc (dr 8 R A B I n))
 have d:ay ((cq rp rb ca b8).J F s w/\Below w.heap.size w (w.alloc (dr 8 R A B I n))):=⟨h,o⟩
 clear h o m;go_enter func21,ntmps21;go_wp2_with fail;refine P.mono ?_;clear P;rintro e w1 ⟨rfl,f⟩
 have hb:=d.o.2.trans (f.mono ac)
 have p:=(cq rp rb ca b8).below d.o.1 hb;have t:w1.heap[w.heap.size]?=some (dr 8 R A B I n):=(f.block _ ac).trans (aN _ _)
 obtain⟨q0,q1,al,q3,ap,ar⟩:=fX t;have u:=c.o w1 p;have v:ay (ce F w F w1):=ce.of hb;clear p hb f t d c;go_wp2_with fail;refine u.mono ?_;clear u;rintro e x ⟨i,rfl,j2,S⟩
 have ab:ay ((cq rp rb ca b8).J i ai x/\ce F w i x):=⟨j2,v.o.trans S⟩
 clear j2 S v q0 q1 al q3 ap ar;go_wp2_with fail;go_ret;exact⟨i,rfl,ab.o.1,ab.o.2⟩
end
theorem DM:(prog.info? 3).map (fun i=>(i.zero,i.size,i.bytes))=some (some (ak 0),1,8):=ah
section
variable {rp rb:Nat}{ca b8:Int}{F:Nat->Prop}{s:cn}{w:aw}
theorem bB {α:Type _}{n:Nat}{a:α}:(List.replicate n a).length = n:=List.length_replicate ..
theorem DN (h:(cq rp rb ca b8).J F s w)(aB:gF s)(h0:0<=b8)(aF:b8<=100000)(aR:0<=ca)(m1:ca<=100000)(g:gZ)(hg:ed s.T s.wt (g s.T s.wt))(R A m:Nat)(aT:R<12)(aV:A<12)(hm:m<=12)(B I:Int)(a0:iM 5 R A B I m):
 Calls prog 21 #[am rp,gt 5 R A B I m] w fun e w'=>∃f,e=.returned (ak (s.nw g ca b8 R 2 (List.replicate m (s.rs.getD A (0,0)))).1)/\(cq rp rb ca b8).J f (s.nw g ca b8 R 2 (List.replicate m (s.rs.getD A (0,0)))).2 w'/\ce F w f w':=by
 have a1:ay (∀(W:aw)(n:Option Addr)(fc:Nat),(cq rp rb ca b8).J F s W->nD F W n (List.replicate m A)->Calls prog 60 #[am rp,ak R,ak 2,.slice n m fc] W fun e w'=>∃f,e=.returned (ak (s.nw g ca b8 R 2 (List.replicate m (s.rs.getD A (0,0)))).1)/\(cq rp rb ca b8).J f (s.nw g ca b8 R 2 (List.replicate m (s.rs.getD A (0,0)))).2 w'/\ce F W f w'):=fun W n fc a2 a3=>by have P:=oM a2 aB h0 aF aR m1 g hg R aT 2 (List.replicate m A) (fun q hq=>by rw[List.eq_of_mem_replicate hq];exact aV) (by simpa using hm) n fc a3;rw[bB,List.map_replicate] at P;exact P
 generalize (s.nw g ca b8 R 2 (List.replicate m (s.rs.getD A (0,0))))=N at*;obtain⟨cN,cb⟩:=N;obtain⟨bb,bd,be,bg,bi⟩:=info_parts DM;have bl:=aq w (dr 5 R A B I m)
 have P:=a0 (w.alloc (dr 5 R A B I m))
 have S:=dq h bl;go_enter func21,ntmps21;go_wp2_with fail;refine P.mono ?_;rintro e w1 ⟨rfl,ab⟩
 have hb:=S.o.2.trans (ab.mono ac)
 have ad:=(cq rp rb ca b8).below S.o.1 hb;have ag:w1.heap[w.heap.size]?=some (dr 5 R A B I m):=(ab.block _ ac).trans (aN _ _)
 obtain⟨q0,q1,ai,q3,cc,bn⟩:=fX ag;have v:w.heap.size<w1.heap.size:=lt_of_some ag;have x:ay ((cq rp rb ca b8).J F s w1/\ce F w F w1/\∀b,F b->b<w1.heap.size):=⟨ad,ce.of hb,(cq rp rb ca b8).lt ad⟩
 go_wp2_with fail
 go_loopw [7,8] (fun bo iv wr=>∃(j:Nat)(c:Option Addr)(d:Nat),j<=m/\iv=ak j/\bo=.slice c j d/\wr.ownsRow w1.heap.size 3 1 (.slice c j d) j ((List.replicate j (A:Int)).map (Value.int .i64))/\Below w1.heap.size w1 wr) (fun _ iv _=>m-(intOf iv).toNat)
 exact⟨0,none,0,aX _,rfl,rfl,a6 _ _ _ _,aE _ _⟩
 ·
   obtain⟨j,c,d,l,rfl,rfl,t,hb⟩:=hrel;have g1:=(hb.cell (p:=ao w.heap.size 1) v).trans q1;have g2:=(hb.cell (p:=ao w.heap.size 2) v).trans ai;have g5:=(hb.cell (p:=ao w.heap.size 5) v).trans bn;have bp:=hb.size;by_cases cd:j<m
   ·have br:ay ((List.replicate (j+1) (A:Int)).map (Value.int .i64)=((List.replicate j (A:Int)).map (Value.int .i64))++[ak (A:Int)]):=by show _=_;rw[List.replicate_succ',bC];rfl
    generalize ((List.replicate j (A:Int)).map (Value.int .i64))=L at*;go_wp2_with (at_builtin;refine wpList_append_own_at _ rfl _ _ 74 rfl w1.heap.size 3 bb (.int .i64 0) 1 8 underlying74 bd be bg bi rfl ae (.slice c j d) j L rfl (gb t _) ⟨wr.heap.size,0,none⟩ 1 1 [.int .i64 (A:Int)] rfl rfl ?_ ?_ ?_ ?_ ?_ ?_;(intro j u l;match j,l with|0,l=>(simp at l;subst l;simp[Addr.add]));(intro u al;simp at al;subst al;rfl);(unfold maxLen;omega);omega;(simp;omega);intro cf bs ap bt _ ch;obtain⟨b4,ar,bx⟩:=d4 ap (Nat.succ_pos _);subst bx)
    have b0:bs.ownsRow w1.heap.size 3 1 (.slice (an b4) (j+1) ar) (j+1) ((List.replicate (j+1) (A:Int)).map (Value.int .i64)):=by rw[br.o];exact ap
    have b1:=(hb.alloc bp _).grown bt (by simp;omega) (fun k e=>(cg t k e.symm).1)
    go_wp2_with fail;go_roundw;exact⟨j+1,an b4,ar,aa,aj,rfl,b0,b1⟩
    simp[intOf];omega
   ·obtain rfl:j=m:=aa;have b2:wr.ownsRow w1.heap.size 3 1 (.slice c (List.replicate j (A:Int)).length d) (List.replicate j (A:Int)).length ((List.replicate j (A:Int)).map (Value.int .i64)):=by rw[bB];exact t
    have b3:=a1.o wr c d ((cq rp rb ca b8).below x.o.1 hb) (fun hp=>by
     rw[bB] at hp;obtain⟨b,o,e,hl,hc⟩:=gV b2 (by rw[bB];exact hp)
     subst e;refine⟨b,o,rfl,hl,fun b5=>?_,fun i hi=>?_⟩
     ·have q1:=x.o.2.2 b b5;have ai:=(cg t b rfl).1;omega
     ·rw[bB] at hi;have:=hc i (by rw[bB];exact hi)
      rw[aG,List.getElem?_replicate,aJ hi] at this
      rw[aG,List.getElem?_replicate,aJ hi];exact this)
    have b6:=hide (x.o.2.1.below hb)
    go_wp2_with fail;refine b3.mono ?_;rintro e ci ⟨b7,rfl,j2,b9⟩
    have ax:=dq j2 (b6.o.trans b9)
    go_wp2_with fail;go_ret;exact⟨b7,rfl,ax.o.1,ax.o.2⟩
end
open Go
section
variable {P:Program}{ops:Array Oper}{Q:Exit->Act->aw->Prop}{md:Region.Mode}{T S:aw->Prop}{St:List Nat}
def came (St:List Nat)(b:Array Bool):Prop:=∃s∈St,b.getD s false=true
def jf (P:Program)(md:Region.Mode)(ops:Array Oper)(Q:Exit->Act->aw->Prop)(T S:aw->Prop)(St:List Nat):Nat->Array Bool->Act->aw->Prop
 |0,b,a,w=>Region.ready md ops b=[]/\Q .normal a w
 |c+1,b,a,w=>(Region.ready md ops b=[]->Q .normal a w)/\
  ∀i∈Region.ready md ops b,wpOp P ops Q i (fun d w'=>(T w'/\(came St (b.setIfInBounds i true)\/S w'))/\jf P md ops Q T S St c (b.setIfInBounds i true) d w') a w
theorem qe:∀(b:Nat)(c:Array Bool)(a:Act)(w:aw),jf P md ops Q T S St b c a w->wpAny P md ops Q b c a w
 |0,_,_,_,h=>h
 |b+1,_,_,_,h=>⟨h.1,fun i hi=>wpOp_mono (fun d w' e=>qe b _ d w' e.2) (h.2 i hi)⟩
def waits (md:Region.Mode)(ops:Array Oper)(St:List Nat)(i:Nat):Bool:=
 St.all fun s=>match ops[s]? with
  |some o=>o.after.any fun e=>Region.binds md e&&e.on==i
  |none=>false
theorem DO {i j:Nat}{b:Array Bool}(hw:waits md ops St i=true)(hi:i∈Region.ready md ops b)(c:j∈Region.ready md ops b):j∉St:=by
 intro hs;have d:=List.all_eq_true.1 hw j hs
 grind [mem_ready]
theorem xp {i:Nat}{b:Array Bool}(c:¬came St b)(hi:i∉St):¬came St (b.setIfInBounds i true):=by
 rintro⟨s,hs,h⟩
 have d:i≠s:=fun e=>(by grind)
 exact c ⟨s,hs,by simp_all⟩
theorem DP {i:Nat}{g:Oper}{v:Value}(hi:ops[i]?=some g)(ax:i∉St)(x:waits md ops St i=true)(aB:∀(j:Nat)(o:Oper) B b,ops[j]?=some o->o.op≠.select B b)
 (F:∀c a w,Q (.panic c) (a.put g.dst v) w->Q (.panic c) a w):
 ∀(l:Nat)(d:Array Bool)(a:Act)(w:aw),
  (∀j m,ops[j]?=some m->j≠i->d.getD j true=false->(∀e∈m.after,Region.binds md e=true->e.on≠i)->g.apart ops m=true)->
  i∈Region.ready md ops d->¬came St d->YieldsIf P ops (fun w=>T w/\S w) g v a->T w/\S w->
  jf P md ops Q T S St l (d.setIfInBounds i true) (a.put g.dst v) w->jf P md ops Q T S St (l+1) d a w:=by
 intro l
 induction l with
 |zero=>
  intro d a w _ p _ hy q H;refine⟨fun h=>(by grind),fun j n=>?_⟩
  by_cases f:j=i
  ·rw[f];exact hy.wpOp hi q (by grind)
  ·have hm:=ready_mono n f;rw[H.1] at hm;simp at hm
 |succ l N=>
  intro d a w t p W hy q H;refine⟨fun h=>(by grind),fun j n=>?_⟩
  by_cases f:j=i
  ·rw[f];exact hy.wpOp hi q (by grind)
  ·have ab:=DO x p n;obtain⟨ad,m,u,aF⟩:=mem_ready.1 n;have ag:=t j m u f ad (by grind [mem_ready])
   refine wpOp_mono (fun ai w' h=>?_) (wpOp_putIf u ag (by grind) (by grind) F hy (H.2 j (ready_mono n f)))
   obtain⟨al,aR,aT⟩:=h;have s:T w'/\S w':=(by grind [xp])
   refine⟨⟨s.1,aK s.2⟩,N _ ai w' (fun k ok hk ap aV ar=>t k ok hk ap ?_ ar) (ready_mono p aa) (xp W ab) al s ?_⟩
   ·by_cases a0:j=k
    ·grind
    ·simp_all
   grind [Array.setIfInBounds_comm]
theorem DQ {i:Nat}{g:Oper}{v:Value}(hi:ops[i]?=some g)(ax:i∉St)(aB:∀(j:Nat)(o:Oper) F b,ops[j]?=some o->o.op≠.select F b)
 (N:∀c a w,Q (.panic c) (a.put g.dst v) w->Q (.panic c) a w):
 ∀(l:Nat)(d:Array Bool)(a:Act)(w:aw),
  (∀j m,ops[j]?=some m->j≠i->d.getD j true=false->(∀e∈m.after,Region.binds md e=true->e.on≠i)->g.apart ops m=true)->
  i∈Region.ready md ops d->YieldsIf P ops T g v a->T w->(came St d\/S w)->
  jf P md ops Q T S St l (d.setIfInBounds i true) (a.put g.dst v) w->jf P md ops Q T S St (l+1) d a w:=by
 have up:∀{d:Array Bool}{k:Nat},came St d->came St (d.setIfInBounds k true):=fun⟨s,hs,h⟩=>⟨s,hs,getD_set_true h⟩
 intro l
 induction l with
 |zero=>
  intro d a w _ t hy p hc H;refine⟨fun h=>(by grind),fun j n=>?_⟩
  by_cases f:j=i
  ·rw[f];exact hy.wpOp hi p (by grind)
  ·have hm:=ready_mono n f;rw[H.1] at hm;simp at hm
 |succ l W=>
  intro d a w u t hy p hc H;refine⟨fun h=>(by grind),fun j n=>?_⟩
  by_cases f:j=i
  ·rw[f];exact hy.wpOp hi p (by grind)
  ·obtain⟨ab,m,x,aF⟩:=mem_ready.1 n;have ad:=u j m x f ab (by grind [mem_ready])
   refine wpOp_mono (fun ag w' h=>?_) (wpOp_putIf x ad (by grind) (by grind) N hy (H.2 j (ready_mono n f)))
   obtain⟨ai,q,aR⟩:=h;have B:came St (d.setIfInBounds j true)\/S w':=q.2.imp (fun⟨s,hs,h⟩=>by
    have al:i≠s:=fun e=>(by grind)
    refine⟨s,hs,?_⟩
    rw[Array.setIfInBounds_comm _ _ aa,getD_set_ne false al] at h;omega) id
   refine⟨⟨q.1,B⟩,W _ ag w' (fun k ok hk ap aT ar=>u k ok hk ap ?_ ar) (ready_mono t aa) ai q.1 B ?_⟩
   ·by_cases aV:j=k
    ·grind
    ·simp_all
   grind [Array.setIfInBounds_comm]
theorem DR {i:Nat}{d:Oper}{v:Value}{e:Nat}{b:Array Bool}{a:Act}{w:aw}(hi:ops[i]?=some d)
 (hs:Region.noSelect ops=true)(f:Region.free md ops b i=true)(l:(Region.ready md ops b).contains i=true)(m:St.contains i=false)(g:waits md ops St i=true)(n:(St.all fun s=>!b.getD s false)=true)
 (j:∀c a w,Q (.panic c) (a.put d.dst v) w->Q (.panic c) a w)(hy:YieldsIf P ops (fun w=>T w/\S w) d v a)(k:T w/\S w)
 (h:jf P md ops Q T S St e (b.setIfInBounds i true) (a.put d.dst v) w):jf P md ops Q T S St (e+1) b a w:=
 DP hi (by grind) g (Region.noSelect_spec hs) j e b a w (Region.free_spec hi f) (by grind) (fun⟨s,hs,hc⟩=>by simp_all) hy k h
theorem eC {i:Nat}{d:Oper}{v:Value}{e:Nat}{b:Array Bool}{a:Act}{w:aw}(hi:ops[i]?=some d)
 (hs:Region.noSelect ops=true)(f:Region.free md ops b i=true)(g:(Region.ready md ops b).contains i=true)(j:St.contains i=false)
 (k:∀c a w,Q (.panic c) (a.put d.dst v) w->Q (.panic c) a w)(hy:YieldsIf P ops T d v a)(l:T w)(hc:came St b\/S w)
 (h:jf P md ops Q T S St e (b.setIfInBounds i true) (a.put d.dst v) w):jf P md ops Q T S St (e+1) b a w:=
 (by grind [DQ,Region.noSelect_spec,Region.free_spec])
theorem oN {i:Nat}{o:Oper}{K:Act->aw->Prop}{a:Act}{w:aw}(hi:ops[i]?=some o)(hg:o.guard=none)(h:o.wp P a w K Q):wpOp P ops Q i K a w:=by
 unfold wpOp;rw[hi];dsimp only;rw[aJ (by simp[Region.wanted,hg])]
 grind
theorem xq {i:Nat}{o:Oper}{K:Act->aw->Prop}{a:Act}{w:aw}(hi:ops[i]?=some o)(hg:Region.wanted o (yielded ops a.tmps)=true)(h:o.wp P a w K Q):wpOp P ops Q i K a w:=by
 unfold wpOp;rw[hi];dsimp only
 grind
theorem mI {i:Nat}{c:Nat}{b:Array Bool}{a:Act}{w:aw}(e:Region.ready md ops b=[i])
 (h:wpOp P ops Q i (fun d w'=>(T w'/\(came St (b.setIfInBounds i true)\/S w'))/\jf P md ops Q T S St c (b.setIfInBounds i true) d w') a w):jf P md ops Q T S St (c+1) b a w:=
 ⟨fun h0=>(by simp_all),fun j f=>(by simp_all)⟩
theorem sG {b:Array Bool}{a:Act}{w:aw}(c:Region.ready md ops b=[])(h:Q .normal a w):∀d,jf P md ops Q T S St d b a w
 |0=>⟨c,h⟩
 |_+1=>⟨fun _=>h,by rw[c];simp⟩
end
theorem xr:(prog.info? 116).map (fun i=>(i.zero,i.size,i.bytes))=some (some (.agg #[ak 0,ak 0]),2,16):=ah
def cn.jB (s:cn)(A B:Nat):Int:=if s.th A<0\/s.gd B<0 then 2 else if 24<=s.rg.length+s.wt.length then 3 else 0
section
variable {rp rb:Nat}{ca b8:Int}{F:Nat->Prop}{s:cn}{w:aw}
theorem DS (h:(cq rp rb ca b8).J F s w)(A B:Nat)(cs:A<12)(hB:B<12)(bp:0<=s.th B->s.th B<s.T.length)(cM:s.rg.length<=10000)(cN:s.wt.length<=10000)(R I n:Int)(br:iM 9 R A B I n):
 Calls prog 21 #[am rp,gt 9 R A B I n] w fun e w'=>∃bs,e=.returned (ak (s.jB A B))/\(cq rp rb ca b8).J bs (if s.jB A B=0 then {s with rg:=s.rg++[(s.gd B,s.th A)]} else s) w'/\ce F w bs w':=by
 have bt:=aq w (dr 9 R A B I n)
 have P:=br (w.alloc (dr 9 R A B I n))
 have aV:ay ((cq rp rb ca b8).J F s w/\Below w.heap.size w (w.alloc (dr 9 R A B I n))):=⟨h,bt⟩
 have W:ay (s.jB A B=if s.th A<0\/s.gd B<0 then 2 else if 24<=s.rg.length+s.wt.length then 3 else 0):=rfl;have a0:ay (∀w',(cq rp rb ca b8).J F s w'->Calls prog 61 #[am rp,ak A] w' fun e a1=>e=.returned (ak (s.th A))/\a1=w'):=fun w' a3=>oz a3 A cs;have bb:ay (∀w',(cq rp rb ca b8).J F s w'->Calls prog 62 #[am rp,ak B] w' fun e a1=>e=.returned (ak (s.gd B))/\a1=w'):=fun w' a3=>wK a3 B hB bp;have cO:rp<w.heap.size:=(e8 h).2.2.2.1;have ct:ay (∀b,F b->b<w.heap.size):=(cq rp rb ca b8).lt h;clear h bt br bp;generalize s.jB A B=z at W⊢;generalize s.th A=a at*;generalize s.gd B=g at*;obtain⟨cu,cv,cw,cx,cz⟩:=info_parts xr;go_enter func21,ntmps21;go_wp2_with fail;refine P.mono ?_;clear P;rintro e w1 ⟨rfl,bd⟩
 have hb:=aV.o.2.trans (bd.mono ac)
 have ad:=(cq rp rb ca b8).below aV.o.1 hb;have ag:w1.heap[w.heap.size]?=some (dr 9 R A B I n):=(bd.block _ ac).trans (aN _ _)
 have q0:w1.cell? (ao w.heap.size 0)=some (ak 9):=aA ag
 have bx:w1.cell? (ao w.heap.size 2)=some (ak A):=aA ag
 have q3:w1.cell? (ao w.heap.size 3)=some (ak B):=aA ag
 have b0:=lt_of_some ag;obtain⟨_,_,_,b1,_,b2,_,_⟩:=e8 ad;have b3:=b2 2;obtain⟨v2,cP,be,cA,bg,b5,b6,b7⟩:=pQ ad;obtain⟨a2,k,ai⟩:=dU bg;obtain⟨cQ,cR,cB⟩:=dU b5;subst ai cB;have gh:ay ((cq rp rb ca b8).J F s w1/\ce F w F w1):=⟨ad,ce.of hb⟩
 have m:ay (w1.ownsRow 0 116 2 (.slice a2 s.rg.length k) s.rg.length (ev s.rg)/\(∀(l:List b9)(v1:Value)(w':aw),Fr (fun b=>some b=(Value.slice a2 s.rg.length k).ownBlock) w1 w'->w'.ownsRow 0 116 2 v1 l.length (ev l)->(∀b,some b=v1.ownBlock->some b=(Value.slice a2 s.rg.length k).ownBlock\/w1.heap.size<=b)->
  (cq rp rb ca b8).J (fun b=>F b\/some b=v1.ownBlock) {s with rg:=l} (w'.setCell ⟨rp,2,none⟩ v1)/\Fr F w1 (w'.setCell ⟨rp,2,none⟩ v1))/\∀b,some b=(Value.slice a2 s.rg.length k).ownBlock->F b):=⟨bg,b7,fun b e=>by
  obtain⟨own,cS,cT,cC,cU,hM,cD⟩:=ad;have ax:=hM.blk;have aB:cC=.slice a2 s.rg.length k:=by simpa[World.cell?,ax] using be
  exact(cD b).2 (by rw[hM.fQ b (by rw[aB];exact e)];decide)⟩
 clear ad hb bd ag b2 aV bg b5 b7;go_wp2_with fail;refine(a0.o w1 gh.o.1).mono ?_;rintro e d ⟨rfl,o⟩
 have o:=o.symm;subst o;by_cases ha:a<0
 ·have hz:z=2:=by rw[W.o,aJ (aL ha)]
  exact nB
 ·go_wp2_with fail;refine(bb.o w1 gh.o.1).mono ?_;rintro e d ⟨rfl,o⟩
  have o:=o.symm;subst o;by_cases hg:g<0
  ·have hz:z=2:=by rw[W.o,aJ (aK hg)]
   exact nB
  ·have cV:∃n:Nat,n=s.rg.length+s.wt.length:=⟨_,rfl⟩
   by_cases cb:24<=s.rg.length+s.wt.length
   ·have hz:z=3:=by rw[W.o,aH aa,aJ cb]
    have cE:(24:Int)<=(s.rg.length:Int)+(s.wt.length:Int):=aa
    go_upto_region 30 with fail
    go_quiet (fail)
    go_wp2_with fail;go_ret;have hb:=below_drewN (au w1) nq;exact⟨rfl,F,(cq rp rb ca b8).below gh.o.1 hb,gh.o.2.below hb⟩
   ·have hz:z=0:=by rw[W.o,aH aa,aH cb]
    have cE:¬(24:Int)<=(s.rg.length:Int)+(s.wt.length:Int):=aa
    go_upto_region 30 with fail
    go_quiet (fail)
    have hb:=below_drewN (au w1) nq;generalize w1.drewN nq=d at*;have bi:=(cq rp rb ca b8).below gh.o.1 hb;have bl:=(hb.cell (p:=ao w.heap.size 2) b0).trans bx;have bn:=(hb.cell (p:=ao w.heap.size 3) b0).trans q3;have ai:=(hb.cell (p:=ao rp 2) b1).trans be;have cc:=(hb.frozen (p:=ao rp 2) b1).trans b3;have bo:rp<d.heap.size:=by have:=hb.size;omega
    have cd:w.heap.size<d.heap.size:=by have:=hb.size;omega
    have cf:=(au d).drew;have al:=(aq d (.cells #[.int .i64 g,.int .i64 a] 116)).drew;have ch:ay ((d.alloc (.cells #[.int .i64 g,.int .i64 a] 116)).drew.ownsRow 0 116 2 (.slice a2 s.rg.length k) s.rg.length (ev s.rg)):=cy (gb (cy m.o.1 (fun b e=>hb.block b (cg m.o.1 b e).2)) _) (fun _ _=>rfl)
    have cF:=((au d).drew).alloc bY (.cells #[.int .i64 g,.int .i64 a] 116)
    have cG:ay ((d.drew.alloc (.cells #[.int .i64 g,.int .i64 a] 116)).ownsRow 0 116 2 (.slice a2 s.rg.length k) s.rg.length (ev s.rg)):=cy (w:=d) (cy m.o.1 (fun b e=>hb.block b (cg m.o.1 b e).2)) (fun b e=>cF.block b (by have ax:=(cg m.o.1 b e).2;have:=hb.size;omega))
    have ci:=a0.o d.drew ((cq rp rb ca b8).below bi cf)
    have cj:=bb.o d.drew ((cq rp rb ca b8).below bi cf)
    have ck:ay (Below w1.heap.size w1 d):=hb;clear bx q3 be cA b3 bi hb a0 bb q0 W;go_wp2_with fail;have gG:rp≠w.heap.size:=aa;have cl:some w.heap.size≠(Value.slice a2 s.rg.length k).ownBlock:=fun e=>by have:=ct.o _ (m.o.2.2 _ e);omega
    refine wp_region_noPanic ?_;refine wp_region_any ah ?_;have c:(d.drew.cell? (ao w.heap.size 2)=some (ak A)/\d.drew.cell? (ao w.heap.size 3)=some (ak B))/\d.drew.cell? (ao rp 2)=some (.slice a2 s.rg.length k):=⟨⟨bl,bn⟩,ai⟩
    refine qe (T:=fun w'=>w'.cell? (ao w.heap.size 2)=some (ak A)/\w'.cell? (ao w.heap.size 3)=some (ak B)) (S:=fun w'=>w'.cell? (ao rp 2)=some (.slice a2 s.rg.length k)) (St:=[18]) _ _ _ _ ?_;refine eC (i:=0) (v:=?_) rfl ah ah ah ah (fun _ _ _ h=>h) (aL ⟨af,?_⟩) c.1 (aK c.2) ?_
    rotate_left
    ·intro w f;go_simp
     try rfl
    try simp only [Act.put,List.getElem_toArray,List.getElem_cons_zero,List.setIfInBounds_toArray,List.set_cons_zero,List.set_cons_succ]
    refine eC (i:=1) (v:=?_) rfl ah ah ah ah (fun _ _ _ h=>h) (aL ⟨af,?_⟩) c.1 (aK c.2) ?_
    rotate_left
    ·intro w f;go_simp
     try rfl
    try simp only [Act.put,List.getElem_toArray,List.getElem_cons_succ,List.getElem_cons_zero,List.setIfInBounds_toArray,List.set_cons_zero,List.set_cons_succ]
    refine eC (i:=2) (v:=?_) rfl ah ah ah ah (fun _ _ _ h=>h) (aL ⟨af,?_⟩) c.1 (aK c.2) ?_
    rotate_left
    ·intro w f;go_simp
     try rfl
    try simp only [Act.put,List.getElem_toArray,List.getElem_cons_succ,List.getElem_cons_zero,List.setIfInBounds_toArray,List.set_cons_zero,List.set_cons_succ]
    refine eC (i:=3) (v:=?_) rfl ah ah ah ah (fun _ _ _ h=>h) (aL ⟨af,?_⟩) c.1 (aK c.2) ?_
    rotate_left
    ·intro w f;go_simp
     try rfl
    try simp only [Act.put,List.getElem_toArray,List.getElem_cons_succ,List.getElem_cons_zero,List.setIfInBounds_toArray,List.set_cons_zero,List.set_cons_succ]
    refine DR (i:=4) (v:=?_) rfl ah ah ah ah ah ah (fun _ _ _ h=>h) (aL ⟨af,?_⟩) c ?_
    rotate_left
    ·intro w f;have cm:=f.2;go_simp
     try rfl
    try simp only [Act.put,List.getElem_toArray,List.getElem_cons_succ,List.getElem_cons_zero,List.setIfInBounds_toArray,List.set_cons_zero,List.set_cons_succ]
    refine eC (i:=5) (v:=?_) rfl ah ah ah ah (fun _ _ _ h=>h) (aL ⟨af,?_⟩) c.1 (aK c.2) ?_
    rotate_left
    ·intro w f;go_simp
     try rfl
    try simp only [Act.put,List.getElem_toArray,List.getElem_cons_succ,List.getElem_cons_zero,List.setIfInBounds_toArray,List.set_cons_zero,List.set_cons_succ]
    refine eC (i:=6) (v:=?_) rfl ah ah ah ah (fun _ _ _ h=>h) (aL ⟨af,?_⟩) c.1 (aK c.2) ?_
    rotate_left
    ·intro w f;go_simp
     try rfl
    try simp only [Act.put,List.getElem_toArray,List.getElem_cons_succ,List.getElem_cons_zero,List.setIfInBounds_toArray,List.set_cons_zero,List.set_cons_succ]
    refine eC (i:=7) (v:=?_) rfl ah ah ah ah (fun _ _ _ h=>h) (aL ⟨af,?_⟩) c.1 (aK c.2) ?_
    rotate_left
    ·intro w f;have cm:=f.1;have cH:=f.2;go_simp
     try rfl
    try simp only [Act.put,List.getElem_toArray,List.getElem_cons_succ,List.getElem_cons_zero,List.setIfInBounds_toArray,List.set_cons_zero,List.set_cons_succ]
    refine eC (i:=9) (v:=?_) rfl ah ah ah ah (fun _ _ _ h=>h) (aL ⟨af,?_⟩) c.1 (aK c.2) ?_
    rotate_left
    ·intro w f;go_simp
     try rfl
    try simp only [Act.put,List.getElem_toArray,List.getElem_cons_succ,List.getElem_cons_zero,List.setIfInBounds_toArray,List.set_cons_zero,List.set_cons_succ]
    refine eC (i:=10) (v:=?_) rfl ah ah ah ah (fun _ _ _ h=>h) (aL ⟨af,?_⟩) c.1 (aK c.2) ?_
    rotate_left
    ·intro w f;go_simp
     try rfl
    try simp only [Act.put,List.getElem_toArray,List.getElem_cons_succ,List.getElem_cons_zero,List.setIfInBounds_toArray,List.set_cons_zero,List.set_cons_succ]
    refine eC (i:=11) (v:=?_) rfl ah ah ah ah (fun _ _ _ h=>h) (aL ⟨af,?_⟩) c.1 (aK c.2) ?_
    rotate_left
    ·intro w f;have cm:=f.1;have cH:=f.2;go_simp
     try rfl
    try simp only [Act.put,List.getElem_toArray,List.getElem_cons_succ,List.getElem_cons_zero,List.setIfInBounds_toArray,List.set_cons_zero,List.set_cons_succ]
    refine mI (i:=8) ah ?_;refine oN rfl rfl ?_;simp only [List.getElem_toArray,List.getElem_cons_succ,List.getElem_cons_zero];go_simp;refine cj.mono ?_;rintro e q ⟨rfl,t⟩
    have t:=t.symm;subst t;dsimp only;refine⟨⟨c.1,aK c.2⟩,?_⟩
    try simp only [Act.put,List.getElem_toArray,List.getElem_cons_succ,List.getElem_cons_zero,List.setIfInBounds_toArray,List.set_cons_zero,List.set_cons_succ]
    refine mI (i:=12) ah ?_;refine oN rfl rfl ?_;simp only [List.getElem_toArray,List.getElem_cons_succ,List.getElem_cons_zero];go_simp;refine ci.mono ?_;rintro e q ⟨rfl,t⟩
    have t:=t.symm;subst t;dsimp only;refine⟨⟨c.1,aK c.2⟩,?_⟩
    try simp only [Act.put,List.getElem_toArray,List.getElem_cons_succ,List.getElem_cons_zero,List.setIfInBounds_toArray,List.set_cons_zero,List.set_cons_succ]
    refine eC (i:=13) (v:=?_) rfl ah ah ah ah (fun _ _ _ h=>h) (aL ⟨af,?_⟩) c.1 (aK c.2) ?_
    rotate_left
    ·intro w f;go_simp
     try rfl
    try simp only [Act.put,List.getElem_toArray,List.getElem_cons_succ,List.getElem_cons_zero,List.setIfInBounds_toArray,List.set_cons_zero,List.set_cons_succ]
    refine mI (i:=14) ah ?_;refine oN rfl rfl ?_;simp only [List.getElem_toArray,List.getElem_cons_succ,List.getElem_cons_zero];go_simp;refine mI (i:=15) ah ?_;refine oN rfl rfl ?_;refine wp_append_lies _ (.tmp 149) (.tmp 159) 109 rfl 0 116 cu (.agg #[ak 0,ak 0]) 2 16 underlying109 cv cw cx cz rfl ae (.slice a2 s.rg.length k) s.rg.length (ev s.rg) (by simp[Act.eval]) ch.o ⟨d.heap.size,0,none⟩ 1 1 [ak g,ak a] (by simp[Act.eval]) rfl ?_ ?_ ae (by unfold maxLen;omega) aa ac _ rfl ?_
    ·(intro j u x;match j,x with|0,x=>(simp at x;subst x;simp[Addr.add])|1,x=>(simp at x;subst x;simp[Addr.add]))
    ·(intro u ap;simp at ap;rcases ap with ap|ap<;>(subst ap;rfl))
    intro b4 ar q cn N co cW;have aF:=N.cell (a:=⟨rp,2,none⟩) (v:=.slice a2 s.rg.length k) ((al.cell (p:=ao rp 2) bo).trans ai) b6;have cI:q.frozen? (ao rp 2)=false:=(World.frozen?_of_block (a:=⟨rp,2,none⟩) (N.block _ (aO bo al.size) b6)).trans ((al.frozen (p:=ao rp 2) bo).trans cc)
    have aR:=N.cell (a:=⟨w.heap.size,2,none⟩) ((al.cell (p:=ao w.heap.size 2) cd).trans bl) cl;have aT:=N.cell (a:=⟨w.heap.size,3,none⟩) ((al.cell (p:=ao w.heap.size 3) cd).trans bn) cl;refine⟨⟨⟨aR,aT⟩,aK aF⟩,?_⟩
    try simp only [Act.put,List.getElem_toArray,List.getElem_cons_succ,List.getElem_cons_zero,List.setIfInBounds_toArray,List.set_cons_zero,List.set_cons_succ]
    have cp:ay ((cq rp rb ca b8).J (fun b=>F b\/some b=(Value.slice (an b4) (s.rg.length+1) ar).ownBlock) {s with rg:=s.rg++[(g,a)]} (q.setCell ⟨rp,2,none⟩ (.slice (some ⟨b4,0,none⟩) (s.rg.length+1) ar))/\ce F w (fun b=>F b\/some b=(Value.slice (an b4) (s.rg.length+1) ar).ownBlock) (q.setCell ⟨rp,2,none⟩ (.slice (some ⟨b4,0,none⟩) (s.rg.length+1) ar))):=by
     have cJ:=N.size;simp at cJ;have cX:=ck.o.size;have cr:some b4=(Value.slice a2 s.rg.length k).ownBlock\/w1.heap.size<=b4:=co.imp Eq.symm (fun e=>by
      have cY:b4=d.heap.size+1:=by simpa using e
      omega)
     have cK:Fr (fun b=>some b=(Value.slice a2 s.rg.length k).ownBlock) w1 q:=(((Fr.of (X:=fun b=>some b=(Value.slice a2 s.rg.length k).ownBlock) ck.o).alloc _).drew).grown N (fun b e=>aL e.symm)
     obtain⟨ax,cL⟩:=m.o.2.1 (s.rg++[(g,a)]) (.slice (an b4) (s.rg.length+1) ar) q cK (by
      rw[kO,aZ];simpa[ev] using cn) (fun b e=>by
      simp[Value.ownBlock] at e;subst e;exact cr)
     refine⟨ax,⟨gh.o.2.fr.trans cL gh.o.2.sub,fun b ab=>?_⟩⟩
     rcases ab with ab|ab
     ·exact aL ab
     ·simp[Value.ownBlock] at ab;subst ab;rcases cr with aB|aB
      ·exact aL (m.o.2.2 _ aB)
      ·exact aK aa
    clear cn N co m ch cG;refine eC (i:=16) (v:=?_) rfl ah ah ah ah (fun _ _ _ h=>h) (aL ⟨af,?_⟩) ⟨aR,aT⟩ (aK aF) ?_
    rotate_left
    ·intro w f;go_simp
     try rfl
    try simp only [Act.put,List.getElem_toArray,List.getElem_cons_succ,List.getElem_cons_zero,List.setIfInBounds_toArray,List.set_cons_zero,List.set_cons_succ]
    refine eC (i:=17) (v:=?_) rfl ah ah ah ah (fun _ _ _ h=>h) (aL ⟨af,?_⟩) ⟨aR,aT⟩ (aK aF) ?_
    rotate_left
    ·intro w f;go_simp
     try rfl
    try simp only [Act.put,List.getElem_toArray,List.getElem_cons_succ,List.getElem_cons_zero,List.setIfInBounds_toArray,List.set_cons_zero,List.set_cons_succ]
    refine mI (i:=18) ah ?_;refine oN rfl rfl ?_;simp only [List.getElem_toArray,List.getElem_cons_succ,List.getElem_cons_zero];go_simp;refine⟨⟨18,ac,ah⟩,?_⟩
    refine sG ah ?_ _;refine NoPanic.normal ?_;clear ci cj bl bn ai cc aF cI aR aT;go_wp2_with fail;go_ret;exact⟨rfl,_,cp.o.1,cp.o.2⟩
end
def cn.qf (s:cn)(A B:Nat)(I:Int):List cH:=s.T.set (s.th A).toNat ((s.T.getD (s.th A).toNat (0,[],false,false)).1,(s.T.getD (s.th A).toNat (0,[],false,false)).2.1.set I.toNat (s.rs.getD B (0,0)),(s.T.getD (s.th A).toNat (0,[],false,false)).2.2)
section
variable {rp rb:Nat}{ca b8:Int}{F:Nat->Prop}{s:cn}{w:aw}
theorem DT (h:(cq rp rb ca b8).J F s w)(R A:Nat)(aR:R<12)(aT:A<12)(I:Int)(N:0<=s.th A->s.th A<s.T.length)(S:∀t∈s.T,t.2.1.length<=12)(hl:s.T.length<=10000)(B n:Int)(W:iM 11 R A B I n):
 Calls prog 21 #[am rp,gt 11 R A B I n] w fun e w'=>e=.returned (ak (s.gc A I))/\(cq rp rb ca b8).J F (if s.gc A I=0 then {s with rs:=s.rs.set R (s.gf A I)} else s) w'/\ce F w F w':=by
 have ab:=aq w (dr 11 R A B I n)
 have P:=W (w.alloc (dr 11 R A B I n))
 have k:ay ((cq rp rb ca b8).J F s w/\Below w.heap.size w (w.alloc (dr 11 R A B I n))):=⟨h,ab⟩
 have d:ay (s.gc A I=if s.th A<0\/(s.T.getD (s.th A).toNat (0,[],false,false)).1=5 then 2 else if I<0\/((s.T.getD (s.th A).toNat (0,[],false,false)).2.1.length:Int)<=I then 1 else 0):=rfl;have f:ay (s.gf A I=(s.T.getD (s.th A).toNat (0,[],false,false)).2.1.getD I.toNat (0,0)):=rfl;clear h ab W;generalize s.gc A I=z at d⊢;generalize s.gf A I=fv at f⊢;have ad:=fun w' (aV:(cq rp rb ca b8).J F s w')=>oz aV A aT;generalize s.th A=a at*;go_enter func21,ntmps21;go_wp2_with fail;refine P.mono ?_;clear P;rintro e w1 ⟨rfl,p⟩
 have hb:=k.o.2.trans (p.mono ac)
 have g:=(cq rp rb ca b8).below k.o.1 hb;have m:w1.heap[w.heap.size]?=some (dr 11 R A B I n):=(p.block _ ac).trans (aN _ _)
 have q0:w1.cell? (ao w.heap.size 0)=some (ak 11):=aA m
 have q1:w1.cell? (ao w.heap.size 1)=some (ak R):=aA m
 have bl:w1.cell? (ao w.heap.size 2)=some (ak A):=aA m
 have bn:w1.cell? (ao w.heap.size 4)=some (ak I):=aA m
 obtain⟨c1,_,_,bo,bp,a0,br,ag⟩:=e8 g;obtain⟨bs,bt,bx,y1⟩:=ag R aR;obtain⟨b0,a1,a2⟩:=lH g;have lb:=(cq rp rb ca b8).lt k.o.1 rb a1;have lp:=(cq rp rb ca b8).lt k.o.1 rp a2;have gG:rb≠w.heap.size:=aa;have b1:rp≠w.heap.size:=aa;obtain⟨b2,cT,t0,ai,q⟩:=kh g;have gh:ay ((cq rp rb ca b8).J F s w1/\ce F w F w1):=⟨g,ce.of hb⟩
 have Q:=ad w1 g;have r0:(0:Int)<=(R:Int):=aa;have r1:(R:Int)<12:=aa;clear g hb p m ag a0 k ad;go_wp2_with fail;refine Q.mono ?_;clear Q;rintro e b3 ⟨rfl,u⟩
 have u:=u.symm;subst u;by_cases ha:a<0
 ·have hz:z=2:=by rw[d.o,aJ (aL ha)]
  clear q;exact qd
 ·obtain⟨j,rfl⟩:∃j:Nat,a=j:=⟨a.toNat,aa⟩
  have a3:j<s.T.length:=by have:=N aa;omega
  obtain⟨t,ht⟩:∃t,s.T[j]?=some t:=⟨_,aI a3⟩
  obtain⟨b,b4,cp,rfl,u0,bb,_,_,o,i⟩:=q j t ht;have bd:=S t (List.mem_of_getElem? ht)
  have al:s.T.getD (j:Int).toNat (0,[],false,false)=t:=by rw[Int.toNat_natCast,aG,ht];rfl
  rw[al] at d f;have b5:decide ((j:Int)<0)=false:=ac;have j0:(0:Int)<=(j:Int):=aa;have b6:(j:Int)<(s.T.length:Int):=aa;clear q ht al N S;obtain⟨kd,c,b7,b9⟩:=t;dsimp only at u0 bb o bd d f i;by_cases hk:kd=5
  ·subst hk;have hz:z=2:=by rw[d.o,aJ (aK rfl)]
   clear o i;exact qd
  ·have cb:(kd==5)=false:=by simpa using hk
   by_cases v:I<0\/(c.length:Int)<=I
   ·have hz:z=1:=by rw[d.o,aH aa,aJ v]
    by_cases cc:I<0
    ·clear o i;exact qd
    ·have cd:(c.length:Int)<=I:=aa;clear o i;exact qd
   ·have hz:z=0:=by rw[d.o,aH aa,aH v]
    obtain⟨l,rfl⟩:∃l:Nat,I=l:=⟨I.toNat,aa⟩
    rw[Int.toNat_natCast] at f;obtain⟨fb,dl,be,cf,hc⟩:=o aa;obtain⟨v0,v1⟩:=hc l aa;subst be;have bg:ay (z=0):=hz;have x:ay (fv=((c.getD l (0,0)).1,(c.getD l (0,0)).2)):=f.o;generalize (c.getD l (0,0)).1=g1 at v0 x;generalize (c.getD l (0,0)).2=g2 at v1 x;have l0:(0:Int)<=(l:Int):=aa;have l1:(l:Int)<(c.length:Int):=aa;have cg:¬(l:Int)<0:=aa;have ch:¬(c.length:Int)<=(l:Int):=aa;obtain⟨ci,bi,cj,ap⟩:=ai aa;cases bi;obtain⟨ar,ck,_⟩:=i fb dl aa rfl;have ar:=Ne.symm ar;have ap:=Ne.symm ap;clear hc ai hz d f v i;go_wp2_with fail
    go_region_held3 (fun w'=>w'.cell? (ao rp 1)=some (.slice (an rb) 12 12)/\w'.cell? (ao w.heap.size 1)=some (ak R)/\w'.cell? (ao rp 0)=some (.slice (an b) s.T.length cT)/\w'.cell? (ao b (j*4+1))=some (.slice (some ⟨fb,dl,none⟩) c.length cp)/\w'.cell? (ao w.heap.size 4)=some (ak l)/\w'.cell? (ao fb (dl+l*2))=some (ak g1)/\w'.cell? (ao fb (dl+l*2+1))=some (ak g2)) (go_keep) (fail)
    obtain⟨ax,aB⟩:=kP gh.o.1 R (g1,g2)
    have aF:ay (_/\_):=⟨(cq rp rb ca b8).below ax bZ.drew,(gh.o.2.trans aB).below bZ.drew⟩
    clear ax aB;go_wp2_with fail;go_ret
    try rw[bg.o]
    rw[x.o];exact⟨rfl,aF.o.1,aF.o.2⟩
theorem DU (h:(cq rp rb ca b8).J F s w)(A B:Nat)(cr:A<12)(hB:B<12)(I:Int)(bl:0<=s.th A->s.th A<s.T.length)(bn:∀t∈s.T,t.2.1.length<=12)(hl:s.T.length<=10000)(R n:Int)(bo:iM 12 R A B I n):
 Calls prog 21 #[am rp,gt 12 R A B I n] w fun e w'=>∃q,e=.returned (ak (s.gc A I))/\(cq rp rb ca b8).J q (if s.gc A I=0 then {s with T:=s.qf A B I} else s) w'/\ce F w q w':=by
 have bp:=aq w (dr 12 R A B I n)
 have P:=bo (w.alloc (dr 12 R A B I n))
 have ai:ay ((cq rp rb ca b8).J F s w/\Below w.heap.size w (w.alloc (dr 12 R A B I n))):=⟨h,bp⟩
 have g:ay (s.gc A I=if s.th A<0\/(s.T.getD (s.th A).toNat (0,[],false,false)).1=5 then 2 else if I<0\/((s.T.getD (s.th A).toNat (0,[],false,false)).2.1.length:Int)<=I then 1 else 0):=rfl;have ab:ay (s.qf A B I=s.T.set (s.th A).toNat ((s.T.getD (s.th A).toNat (0,[],false,false)).1,(s.T.getD (s.th A).toNat (0,[],false,false)).2.1.set I.toNat (s.rs.getD B (0,0)),(s.T.getD (s.th A).toNat (0,[],false,false)).2.2)):=rfl;clear h bp bo;generalize s.gc A I=z at g⊢;generalize s.qf A B I=fv at ab⊢;have br:=fun w' (cs:(cq rp rb ca b8).J F s w')=>oz cs A cr;generalize s.th A=a at*;go_enter func21,ntmps21;go_wp2_with fail;refine P.mono ?_;clear P;rintro e w1 ⟨rfl,aB⟩
 have hb:=ai.o.2.trans (aB.mono ac)
 have ad:=(cq rp rb ca b8).below ai.o.1 hb;have i:w1.heap[w.heap.size]?=some (dr 12 R A B I n):=(aB.block _ ac).trans (aN _ _)
 have q0:w1.cell? (ao w.heap.size 0)=some (ak 12):=aA i
 have q3:w1.cell? (ao w.heap.size 3)=some (ak B):=aA i
 have c5:w1.cell? (ao w.heap.size 2)=some (ak A):=aA i
 have ct:w1.cell? (ao w.heap.size 4)=some (ak I):=aA i
 obtain⟨c1,_,_,aF,bs,cu,c6,bt⟩:=e8 ad;obtain⟨bx,b0,c7,y1⟩:=bt B hB;obtain⟨c8,cv,cw⟩:=lH ad;have lb:=(cq rp rb ca b8).lt ai.o.1 rb cv;have lp:=(cq rp rb ca b8).lt ai.o.1 rp cw;have gG:rb≠w.heap.size:=aa;have c9:rp≠w.heap.size:=aa;obtain⟨da,cT,t0,b1,aR⟩:=kh ad;have gh:ay ((cq rp rb ca b8).J F s w1/\ce F w F w1):=⟨ad,ce.of hb⟩
 have Q:=br w1 ad;have r0:(0:Int)<=(B:Int):=aa;have r1:(B:Int)<12:=aa;clear ad hb aB i bt cu ai br;go_wp2_with fail;refine Q.mono ?_;clear Q;rintro e f ⟨rfl,aT⟩
 have aT:=aT.symm;subst aT;by_cases ha:a<0
 ·have hz:z=2:=by rw[g.o,aJ (aL ha)]
  clear aR;exact nB
 ·obtain⟨j,rfl⟩:∃j:Nat,a=j:=⟨a.toNat,aa⟩
  have cx:j<s.T.length:=by have:=bl aa;omega
  obtain⟨t,ht⟩:∃t,s.T[j]?=some t:=⟨_,aI cx⟩
  obtain⟨b,db,cp,rfl,u0,aV,_,_,ag,al⟩:=aR j t ht;have cz:=bn t (List.mem_of_getElem? ht)
  have b2:s.T.getD (j:Int).toNat (0,[],false,false)=t:=by rw[Int.toNat_natCast,aG,ht];rfl
  rw[b2] at g ab;have dc:decide ((j:Int)<0)=false:=ac;have j0:(0:Int)<=(j:Int):=aa;have dd:(j:Int)<(s.T.length:Int):=aa;clear aR b2 bl bn;obtain⟨kd,d,a0,a1⟩:=t;dsimp only at u0 aV ag cz g ab al;by_cases hk:kd=5
  ·subst hk;have hz:z=2:=by rw[g.o,aJ (aK rfl)]
   clear ag al ht;exact nB
  ·have de:(kd==5)=false:=by simpa using hk
   by_cases a2:I<0\/(d.length:Int)<=I
   ·have hz:z=1:=by rw[g.o,aH aa,aJ a2]
    by_cases df:I<0
    ·clear ag al ht;exact nB
    ·have dg:(d.length:Int)<=I:=aa;clear ag al ht;exact nB
   ·have hz:z=0:=by rw[g.o,aH aa,aH a2]
    obtain⟨l,rfl⟩:∃l:Nat,I=l:=⟨I.toNat,aa⟩
    rw[Int.toNat_natCast] at ab;have a3:0<d.length:=aa;obtain⟨fb,dl,cA,dh,hc⟩:=ag a3;subst cA;have cB:∀k u,(ev d)[k]?=some u->w1.cell? ((⟨fb,dl,none⟩:Addr).add k)=some u:=fun k u hk=>by
     have cC:k<(ev d).length:=(List.getElem?_eq_some_iff.1 hk).1;rw[jO] at cC;obtain⟨cD,cE⟩:=oi d (k/2) aa;obtain⟨cF,cG⟩:=hc (k/2) aa;rw[Addr.add_lit];rcases Nat.mod_two_eq_zero_or_one k with hm|hm
     ·have fg:k=k/2*2:=aa;rw[fg,cD] at hk;have bb:dl+k=dl+k/2*2:=aa;rw[bb,cF];exact hk
     ·have fg:k=k/2*2+1:=aa;rw[fg,cE] at hk;have bb:dl+k=dl+k/2*2+1:=aa;rw[bb,cG];exact hk
    have cH:∀u∈ev d,u.oneCell'=true:=fun u b3=>by simp[ev] at b3;obtain⟨a,b,_,h|h⟩:=b3<;>(rw[h];rfl)
    obtain⟨cI,cJ,cK,cL,cM⟩:=info_parts my;have cN:ay (z=0):=hz;generalize b4:(s.rs.getD B (0,0)).1=g1 at bx;generalize b5:(s.rs.getD B (0,0)).2=g2 at b0;have cO:ay (fv=s.T.set j (kd,d.set l (g1,g2),a0,a1)):=by show _=_;rw[ab.o,<-b4,<-b5,Int.toNat_natCast]
    have l0:(0:Int)<=(l:Int):=aa;have l1:(l:Int)<(d.length:Int):=aa;have di:¬(l:Int)<0:=aa;have dj:¬(d.length:Int)<=(l:Int):=aa;obtain⟨dk,cP,dm,dn⟩:=b1 aa;cases cP;have cQ:ay (s.T[j]?=some (kd,d,a0,a1)):=ht;have cR:=aM w1 _ aV;clear hc b1 hz g ab a2 al b4 b5 ag ht;have b6:w.heap.size<w1.heap.size:=aM w1 _ q0
    go_upto_region 63 with(at_builtin;refine je _ rfl _ _ 57 rfl w1.heap.size 97 cI (.agg #[ak 0,ak 0]) 2 16 underlying57 cJ cK cL cM rfl ae (.slice none 0 0) 0 [] rfl (a6 _ _ _ _) (some ⟨fb,dl,none⟩) d.length cp (ev d) rfl (jO d) (fun e=>by simp at e) (fun a e k u hk=>by cases e;exact cB k u hk) cH (by unfold maxLen;omega) aa bY ?_;intro dp ar f N b7 b9;rw[Nat.zero_add,List.nil_append] at N;obtain⟨nb,dq,cS⟩:=d4 N a3;cases cS;have ax:ay (nb=w1.heap.size):=(by show nb=w1.heap.size;rcases b9 with e|e<;>simp[Value.ownBlock] at e;exact e);have m:Below w1.heap.size w1 f:=bZ.grown b7 bY (fun _ h=>by cases h);have ds:=(m.cell (p:=ao w.heap.size 3) b6).trans q3;have dt:=(m.cell (p:=ao w.heap.size 4) b6).trans ct;have du:=(m.cell (p:=ao rp 1) aF).trans c1;have dv:=(m.cell (p:=ao rb (B*2)) bs).trans bx;have dw:=(m.cell (p:=ao rb (B*2+1)) bs).trans b0;have cb:=(m.cell (p:=ao rp 0) aF).trans t0;have dx:=(cg N nb rfl).2)
    have bd:=fun o=>show f.frozen? (ao nb o)=false from(by obtain⟨cU,be⟩:=d6 N nb rfl;simp[World.frozen?,be])
    have dy:=bd (l*2)
    have dz:=bd (l*2+1)
    have dA:nb≠w.heap.size:=by have:=ax.o;omega
    have dB:nb≠rp:=by have:=ax.o;omega
    have dC:nb≠rb:=by have:=ax.o;omega
    obtain⟨cc,cd,cV,_,cf⟩:=gn N a3;cases cV;obtain⟨ch,m1⟩:=cf l aa;rw[Nat.zero_add] at ch m1;generalize (d.getD l (0,0)).1=dD at ch;generalize (d.getD l (0,0)).2=dE at m1;have bg:ay (f.ownsRow w1.heap.size 97 2 (.slice (an nb) d.length ar) d.length (ev d)/\Below w1.heap.size w1 f):=⟨N,m⟩
    clear bd N b7 b9 m cf
    go_region_held3 (fun w'=>w'.cell? (ao w.heap.size 3)=some (ak B)/\w'.cell? (ao w.heap.size 4)=some (ak l)/\w'.cell? (ao rp 1)=some (.slice (an rb) 12 12)/\w'.cell? (ao rb (B*2))=some (ak g1)/\w'.cell? (ao rb (B*2+1))=some (ak g2)) (go_keep) (fail)
    have cW:=ax.o;have cX:∀u v,((f.setCell ⟨nb,l*2,none⟩ u).setCell ⟨nb,l*2+1,none⟩ v).heap.size=f.heap.size:=fun u v=>by simp[World.setCell]
    have cY:∀u v k,k≠nb->((f.setCell ⟨nb,l*2,none⟩ u).setCell ⟨nb,l*2+1,none⟩ v).heap[k]?=f.heap[k]?:=fun u v k hk=>(aP _ _ _ _ hk).trans (aP _ _ _ _ hk)
    have ap:=jp (jp bg.o.1 (l*2) (ak g1)) (l*2+1) (ak g2)
    rw[<-rR d l (g1,g2)] at ap;have S:Below w1.heap.size w1 ((f.setCell ⟨nb,l*2,none⟩ (.int .i64 g1)).setCell ⟨nb,l*2+1,none⟩ (.int .i64 g2)):=(bg.o.2.setCell (by show w1.heap.size<=nb;omega) _).setCell (by show w1.heap.size<=nb;omega) _;have ap:=cy (w':=((f.setCell ⟨nb,l*2,none⟩ (.int .i64 g1)).setCell ⟨nb,l*2+1,none⟩ (.int .i64 g2)).drew) ap (fun _ _=>rfl)
    have S:=S.drew;have cb:=(S.cell (p:=ao rp 0) aF).trans t0;have dF:=(S.cell (p:=ao b (j*4+1)) cR).trans aV;have ci:=(cq rp rb ca b8).below gh.o.1 S;have cj:=gh.o.2.below S;have dG:=S.size;have dH:=gh.o.2.fr.size;have cZ:=(cq rp rb ca b8).lt gh.o.1;generalize ((f.setCell ⟨nb,l*2,none⟩ (.int .i64 g1)).setCell ⟨nb,l*2+1,none⟩ (.int .i64 g2)).drew=w3 at*;obtain⟨c0,c2,ck,cl,cm,_,_,_,cn⟩:=pP ci;obtain rfl:c2=.slice (an b) s.T.length cT:=by have:=cl.symm.trans cb;simpa using this
    obtain⟨x,i,co⟩:∃x,c0[j]?=some x/\x.1=(kd,d,a0,a1):=by have bi:=cQ.o;rw[<-ck] at bi;simp at bi;obtain⟨a,b,c⟩:=bi;exact⟨_,c,rfl⟩
    obtain⟨s1,s2⟩:=cn j x (an nb) ar (d.set l (g1,g2)) b i rfl (gn (by simpa using ap)) (fun cc cd _ e=>by cases e;intro W;have:=cZ _ W;omega)
    rw[co,bf] at s1;rw[bf] at s2;have dI:w3.frozen? (ao b (j*4+1))=false:=by obtain⟨cU,be⟩:=d6 cm b rfl;simp[World.frozen?,be]
    have c3:ay (∃q,(cq rp rb ca b8).J q {s with T:=fv} (w3.setCell ⟨b,j*4+1,none⟩ (.slice (some ⟨nb,0,none⟩) d.length ar))/\ce F w q (w3.setCell ⟨b,j*4+1,none⟩ (.slice (some ⟨nb,0,none⟩) d.length ar))):=by
     rw[cO.o];refine⟨_,s1,⟨cj.fr.trans s2 (fun _ W=>aL W),fun cc W=>?_⟩⟩
     rcases W with W|⟨_,cd,e⟩
     ·exact aL W
     ·cases e;exact aK aa
    clear ap ci cj cn cm s1 s2 ck i co bg cY cX cl cW;go_wp2_with fail;go_ret;obtain⟨q,k1,c4⟩:=c3.o
    try rw[cN.o]
    exact⟨rfl,q,k1,c4⟩
end
end Go.Proofs.YtpkjkjhanlbcoaaGreat
