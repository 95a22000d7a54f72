import Derived.Test.YtjpjpjemibgjpaaGreatJ08
import Derived.OrdersHeld
namespace Go.Proofs.YtjpjpjemibgjpaaGreat
theorem ac{P:Prop}(h:P:=by rfl):P:=h
set_option maxRecDepth 100000
set_option maxHeartbeats 16000000
open Tryz
open Go.RowKit W Kp cg
theorem sM {P:Prop}(h:P:=by
 obtain⟨q0,q1,q2,q3,q4,q5⟩:=fT hx;have hb2:=an w1 (.cells #[.int .i64 (A:Int),.int .i64 (B:Int)] 3)
 have hc2:=aL w1 (.cells #[.int .i64 (A:Int),.int .i64 (B:Int)] 3)
 have xE:w1.heap.size<(w1.alloc (.cells #[.int .i64 (A:Int),.int .i64 (B:Int)] 3)).heap.size:=Z;have PC:=HN.o _ w1.heap.size ((cn rp rb b9 bY).below iI hb2) (fun _=>⟨w1.heap.size,0,rfl,xE,fun hF=>by have:=(cn rp rb b9 bY).lt iI _ hF;omega,fun i hi=>by
  have hi:i<2:=hi;unfold World.cell?;rw[hc2]
  match i,hi with
  |0,_=>rfl
  |1,_=>rfl⟩)
 have HT:av (b_ F w F (w1.alloc (.cells #[.int .i64 (A:Int),.int .i64 (B:Int)] 3))):=(b_.of hb).below hb2;clear iI hb hb1 hx HJ HN hb2 hc2 xE;go_wp2_with fail;refine PC.mono ?_;clear PC;rintro e w2 ⟨F2,rfl,j2,t2⟩
 have HR:av ((cn rp rb b9 bY).J F2 sO w2/\b_ F w F2 w2):=⟨j2,HT.o.trans t2⟩
 clear j2 t2 HT q0 q1 q2 q3 q4 q5;go_wp2_with fail;go_ret;exact⟨F2,rfl,HR.o.1,HR.o.2⟩):P:=h
theorem nF {P:Prop}(h:P:=by go_wp2_with fail;go_ret;exact⟨rfl,F,f9.o.1,f9.o.2⟩):P:=h
def nG (F:Nat->Prop)(w:au)(c:Option Addr)(L:List Nat):Prop:=0<L.length->∃b o,c=some ⟨b,o,none⟩/\b<w.heap.size/\¬F b/\∀i,i<L.length->w.cell? (am b (o+i))=some (ah (L.getD i 0:Nat))
structure nH (wc w:au)(kd:Int)(ad:Option Addr)(cp:Nat)(P:List (Int×Int)):Prop where
 be:Below wc.heap.size wc w
 nc:w.heap[wc.heap.size]?=some (.cells #[ah kd,.slice ad P.length cp,.bool false,.bool false] 99 (0,0))
 row:w.ownsRow (wc.heap.size+1) 77 2 (.slice ad P.length cp) P.length (ev P)
theorem nH.push {wc w wq b:au}{kd:Int}{c:Option Addr}{cp:Nat}{P:List _}(h:nH wc w kd c cp P)(hq:Below w.heap.size w wq){v:Int×Int}{b4 c4:Nat}(hg:wq.grownBy b (Value.slice c P.length cp).ownBlock)(d:b.ownsRow (wc.heap.size+1) 77 2 (.slice (ak b4) (P.length+1) c4) (P.length+1) (ev P++ev [v])):
 nH wc (b.setCell ⟨wc.heap.size,1,none⟩ (.slice (some ⟨b4,0,none⟩) (P.length+1) c4)) kd (ak b4) c4 (P++[v])/\b.heap[wc.heap.size]?=some (.cells #[ah kd,.slice c P.length cp,.bool false,.bool false] 99 (0,0)):=by
 have fr:=(Fr.of hq).grown hg (fun k e=>aJ (by simpa using e.symm))
 have hk:=(fr.block wc.heap.size (lt_of_some h.nc) (fun e=>by obtain⟨g,hc⟩:=dZ h.row wc.heap.size e;rw[h.nc] at hc;simp at hc)).trans h.nc;have f:(P++[v]).length=P.length+1:=Z;have i:ev (P++[v])=ev P++ev [v]:=by simp[ev]
 refine⟨⟨h.be.trans (((fr.mono (fun _ j=>aJ j)).set wc.heap.size _ _ (aI rfl)).below h.be.size (fun k e=>by
  rcases e with e|e
  ·have:=(ce h.row k e).1;omega
  ·omega)),?_,?_⟩,hk⟩
 ·rw[f];simp only [World.setCell,Array.getElem?_modify,if_true,hk,Option.map_some];simp
 ·rw[f,i];refine cv d (fun k e=>aN _ _ _ _ (fun l=>?_))
  obtain⟨g,hc⟩:=dZ d k e;rw[l,hk] at hc;simp at hc
def cj.nw (s:cj)(g:gS)(b9 bY:Int)(r:Nat)(kd:Int)(l:List (Int×Int)):Int×cj:=
 if(s.bY g b9 bY kd l).2.1=0 then(0,{(s.bY g b9 bY kd l).2.2 with rs:=(s.bY g b9 bY kd l).2.2.rs.set r (s.bY g b9 bY kd l).1}) else((s.bY g b9 bY kd l).2.1,(s.bY g b9 bY kd l).2.2)
theorem DV {s s1:cj}{g:gS}{b9 bY c:Int}{l:List _}(h:s.room g b9 bY (1+l.length)=(c,s1))(hc:c≠0)(r:Nat)(kd:Int):s.nw g b9 bY r kd l=(c,s1):=by
 have e:s.bY g b9 bY kd l=((0,0),c,s1):=by unfold cj.bY;rw[h,aE hc]
 unfold cj.nw;rw[e,aE hc]
theorem DW {s s1:cj}{g:gS}{b9 bY:Int}{l:List _}(h:s.room g b9 bY (1+l.length)=(0,s1))(r:Nat)(kd:Int):s.nw g b9 bY r kd l=(0,{s1 with T:=s1.T++[(kd,l,false,false)],rs:=s1.rs.set r (3,(s1.T.length:Int))}):=by
 have e:s.bY g b9 bY kd l=((3,(s1.T.length:Int)),0,s1.put kd l):=by unfold cj.bY;rw[h,aH rfl]
 unfold cj.nw;rw[e,aH rfl];rfl
section
variable {rp rb:Nat}{b9 bY:Int}{F:Nat->Prop}{s:cj}{w:au}
theorem oO (h:(cn rp rb b9 bY).J F s w)(W:gA s)(h0:0<=bY)(J:bY<=100000)(dG:0<=b9)(m1:b9<=100000)(g:gS)(hg:d9 s.T s.wt (g s.T s.wt))(r:Nat)(cU:r<12)(kd:Int)(L:List Nat)(ci:∀q∈L,q<12)(dH:L.length<=12)(a3:Option Addr)(fc:Nat)(ck:nG F w a3 L):
 Calls prog 43 #[aj rp,ah r,ah kd,.slice a3 L.length fc] w fun e w'=>∃ab,e=.returned (ah (s.nw g b9 bY r kd (L.map (fun q=>s.rs.getD q (0,0)))).1)/\(cn rp rb b9 bY).J ab (s.nw g b9 bY r kd (L.map (fun q=>s.rs.getD q (0,0)))).2 w'/\b_ F w ab w':=by
 have bo:(L.map (fun q=>s.rs.getD q (0,0))).length=L.length:=aQ ..;have cl:av (∀c s1,s.room g b9 bY (1+L.length)=(c,s1)->c≠0->s.nw g b9 bY r kd (L.map (fun q=>s.rs.getD q (0,0)))=(c,s1)):=fun c s1 e hc=>DV (by rw[bo];exact e) hc r kd;have cm:av (∀s1,s.room g b9 bY (1+L.length)=(0,s1)->s.nw g b9 bY r kd (L.map (fun q=>s.rs.getD q (0,0)))=(0,{s1 with T:=s1.T++[(kd,L.map (fun q=>s.rs.getD q (0,0)),false,false)],rs:=s1.rs.set r (3,(s1.T.length:Int))})):=fun s1 e=>DW (by rw[bo];exact e) r kd;generalize s.nw g b9 bY r kd (L.map (fun q=>s.rs.getD q (0,0)))=N at*;obtain⟨cN,ad⟩:=N;have co:=pW h W.t12 W.tl;have bd:=pV s.T W.t12;have cV:=W.tl;have ag:av (s.room g b9 bY (1+L.length)=if(1+L.length:Int)<=b9-(dy s.T).1 then(0,s) else(s.gz (g s.T s.wt) bY (decide (bY-(dy s.T).2<(dy s.T).1)),s.cut (g s.T s.wt) bY (decide (bY-(dy s.T).2<(dy s.T).1)))):=rfl;have bb:av (∀w',(cn rp rb b9 bY).J F s w'->Calls prog 34 #[aj rp,.bool (decide (bY-(dy s.T).2<(dy s.T).1))] w' fun e cq=>∃ab,e=.returned (ah (s.gz (g s.T s.wt) bY (decide (bY-(dy s.T).2<(dy s.T).1))))/\(cn rp rb b9 bY).J ab (s.cut (g s.T s.wt) bY (decide (bY-(dy s.T).2<(dy s.T).1))) cq/\b_ F w' ab cq):=fun w' cW=>xC cW W h0 J _ _ hg;have bp:av ((s.cut (g s.T s.wt) bY (decide (bY-(dy s.T).2<(dy s.T).1))).rs=s.rs/\(s.cut (g s.T s.wt) bY (decide (bY-(dy s.T).2<(dy s.T).1))).T.length=s.T.length):=by
  unfold cj.cut;split
  ·exact⟨rfl,rfl⟩
  ·exact⟨rfl,i2 _ _ _⟩
 generalize s.room g b9 bY (1+L.length)=br at*;generalize cX:(dy s.T).1=x at*;generalize cZ:(dy s.T).2=y at*;obtain⟨dI,dJ,dK,dL⟩:=bd;generalize s.gz (g s.T s.wt) bY (decide (bY-y<x))=cc at*;generalize s.cut (g s.T s.wt) bY (decide (bY-y<x))=X at*;have cr:av ((cn rp rb b9 bY).J F s w):=h;have cs:av (nG F w a3 L):=ck;have c0:av (∀q∈L,q<12):=ci;have dM:(L.length:Int)<=12:=V;obtain⟨c2,c3,c6,c7,c8⟩:=info_parts mA;obtain⟨j0,c9,da,db,dc⟩:=info_parts DU;clear h W hg ck ci cX cZ bo;go_enter func43,ntmps43;go_wp2_with fail;refine co.mono ?_;clear co;rintro e w1 ⟨rfl,bs⟩
 have bt:=(cn rp rb b9 bY).below cr.o bs;obtain⟨_,c4,c5,_⟩:=e5 bt;have n:av ((cn rp rb b9 bY).J F s w1/\b_ F w F w1):=⟨bt,b_.of bs⟩
 clear bt bs cr
 go_upto_if 30 with fail
 go_cut [] (fun wc=>∃(t:Nat->Prop)(s1:cj),av ((cn rp rb b9 bY).J t s1 wc/\b_ F w t wc)/\av (br=(0,s1)/\s1.rs=s.rs/\s1.T.length=s.T.length))
 case first=>
  by_cases hm:(1+L.length:Int)<=b9-x
  ·have H:av (br=(0,s)):=by show _=_;rw[ag.o,aH hm]
   have dd:¬b9-x<1+(L.length:Int):=V;clear hm ag bb bp;go_wp2_with fail
   go_meet
   case rel=>exact⟨F,s,n,⟨H.o,rfl,rfl⟩⟩
  ·have H:av (br=(cc,X)):=by show _=_;rw[ag.o,aE hm]
   have dd:b9-x<1+(L.length:Int):=V;have ct:=bb.o w1 n.o.1;clear hm ag bb;go_wp2_with fail;refine ct.mono ?_;clear ct;rintro e cu ⟨be,rfl,j2,bx⟩
   have bZ:av ((cn rp rb b9 bY).J be X cu/\b_ F w be cu):=⟨j2,n.o.2.trans bx⟩
   clear j2 bx n c4 c5;by_cases hc:cc=0
   ·subst hc;go_wp2_with fail
    go_meet
    case rel=>exact⟨be,X,bZ,⟨H.o,bp.o⟩⟩
   ·have dN:(cc !=0)=true:=by simpa using hc
    have cw:av ((cN,ad)=(cc,X)):=cl.o cc X H.o hc;obtain⟨rfl,rfl⟩:cN=cc/\ad=X:=by simpa using cw.o
    clear hc cw;go_wp2_with fail;go_ret;exact⟨be,rfl,bZ.o.1,bZ.o.2⟩
 case rest=>
  obtain⟨t,s1,n,H⟩:=hcut;have dO:s1.T.length<=10000:=by rw[H.o.2.2];exact cV
  have b0:=cm.o s1 H.o.1;have ai:av (∀b,t b->b<wc.heap.size):=(cn rp rb b9 bY).lt n.o.1;have de:w.heap.size<=wc.heap.size:=n.o.2.fr.size;obtain rfl:cN=0:=congrArg Prod.fst b0;have al:ad=_:=congrArg Prod.snd b0;dsimp only at al;have cx:av (s1.rs=s.rs):=H.o.2.1;rw[<-cx.o] at al;obtain⟨l,b1⟩:∃l,av (L.map (fun q=>s1.rs.getD q (0,0))=l):=⟨_,rfl⟩
  rw[b1.o] at al;have df:av (ad=_):=al;have cy:av (∀w',Below wc.heap.size wc w'->0<L.length->∃b o,a3=some ⟨b,o,none⟩/\b<w'.heap.size/\∀i,i<L.length->w'.cell? (am b (o+i))=some (ah (L.getD i 0:Nat))):=fun w' Q hp=>by obtain⟨b,o,e,lb,dg,hc⟩:=cs.o hp;have cz:=aM lb n.o.2.fr.size;exact⟨b,o,e,aM cz Q.size,fun i hi=>(Q.cell (p:=am b (o+i)) cz).trans ((aU (a:=⟨b,o+i,none⟩) (n.o.2.fr.block b lb dg)).trans (hc i hi))⟩
  have cA:av (nH wc (wc.alloc (.cells #[.int .i64 kd,.slice none 0 0,.bool false,.bool false] 99)) kd none 0 []):=⟨(aD _ wc).alloc bW _,aL _ _,a7 _ _ _ _⟩
  clear b0 al H cm cl c4 c5 ag bb bp cs;go_wp2_with fail;generalize wc.alloc (.cells #[.int .i64 kd,.slice none 0 0,.bool false,.bool false] 99)=wd at*
  go_loopw [14] (fun iv wr=>∃(j:Nat)(P:List (Int×Int))(m:Option Addr)(cp:Nat),j<=L.length/\iv=ah j/\av (P=(L.take j).map (fun q=>s1.rs.getD q (0,0)))/\av (nH wc wr kd m cp P)) (fun iv _=>L.length-(intOf iv).toNat)
  case atStart=>exact⟨0,[],none,0,aS _,rfl,rfl,cA⟩
  case round=>
   clear cA;obtain⟨j,P,m,cp,d,rfl,ap,A⟩:=hrel;have dh:wc.heap.size<wr.heap.size:=lt_of_some A.o.nc;by_cases b2:j<L.length
   ·obtain⟨dP,dR,di,dS,cB⟩:=cy.o wr A.o.be V;subst di;have dT:=cB j b2;have dj:L.getD j 0<12:=c0.o _ (getD_in b2)
    have K:=(cn rp rb b9 bY).below n.o.1 A.o.be;obtain⟨c1,_,_,cC,dk,_,_,ar⟩:=e5 K;obtain⟨bg,bi,_⟩:=ar (L.getD j 0) dj;have cD:av (P++[s1.rs.getD (L.getD j 0) (0,0)]=(L.take (j+1)).map (fun q=>s1.rs.getD q (0,0))):=by show _=_;rw[fz L j b2 0,bA,ap.o];rfl
    obtain⟨v1,v2,cE⟩:∃v1 v2,s1.rs.getD (L.getD j 0) (0,0)=(v1,v2):=⟨_,_,rfl⟩
    rw[cE] at bg bi cD;dsimp only at bg bi;generalize L.getD j 0=q at*;have dU:wr.cell? (am wc.heap.size 1)=some (.slice m P.length cp):=ay A.o.nc
    have dV:P.length<=12:=by rw[ap.o,aQ,bf];omega
    have k0:(0:Int)<=(j:Int):=V;have k1:(j:Int)<(L.length:Int):=V;have q0:(0:Int)<=(q:Int):=V;have q1:(q:Int)<12:=V;have dl:av (Below wr.heap.size wr (wr.alloc (.cells #[.int .i64 v1,.int .i64 v2] 77)).drew):=(an wr _).drew;have b3:av ((wr.alloc (.cells #[.int .i64 v1,.int .i64 v2] 77)).drew.ownsRow (wc.heap.size+1) 77 2 (.slice m P.length cp) P.length (ev P)):=cv (f6 A.o.row _) (fun _ _=>rfl)
    clear cB K ar cE ap;go_wp2_with fail
    go_region_law (refine step_append_lies _ rfl (.tmp 53) (.tmp 64) 57 rfl (wc.heap.size+1) 77 c2 (.agg #[ah 0,ah 0]) 2 16 underlying57 c3 c6 c7 c8 rfl aa (.slice m P.length cp) P.length (ev P) (by simp[Act.eval]) b3.o ⟨wr.heap.size,0,none⟩ 1 1 [ah v1,ah v2] (by simp[Act.eval]) rfl ?_ ?_ aa (by unfold maxLen;omega) V (by simp;omega) _ rfl ?_;(intro j u d;match j,d with|0,d=>(simp at d;subst d;simp[Addr.add])|1,d=>(simp at d;subst d;simp[Addr.add]));(intro u B;simp at B;rcases B with B|B<;>(subst B;rfl));intro b4 R E ax M _ _;have b5:av (nH wc (E.setCell ⟨wc.heap.size,1,none⟩ (.slice (some ⟨b4,0,none⟩) (P.length+1) R)) kd (ak b4) R (P++[(v1,v2)])/\E.heap[wc.heap.size]?=some (.cells #[ah kd,.slice m P.length cp,.bool false,.bool false] 99 (0,0))):=(A.o.push dl.o M (by simpa[ev] using ax));have s0:E.cell? (am wc.heap.size 1)=some (.slice m P.length cp):=ay b5.o.2;have dX:E.frozen? (am wc.heap.size 1)=false:=(by simp[World.frozen?,b5.o.2]))
    all_goals
     clear ax M;go_wp2_with fail;go_roundw
     case rel=>exact⟨j+1,P++[(v1,v2)],ak b4,R,V,af,cD,b5.o.1⟩
     case measure=>simp[intOf];omega
   ·obtain rfl:j=L.length:=V;rw[a_,b1.o] at ap;have dm:=ap.o;subst dm;obtain⟨Q,ht,cF⟩:=A.o;have K:=(cn rp rb b9 bY).below n.o.1 Q;generalize P=l at*;clear b1 cy A cx;obtain⟨c1,_,_,cC,dk,dn,dY,ar⟩:=e5 K;obtain⟨bg,bi,dp,y1⟩:=ar r cU;obtain⟨I,cG,aB,cT,S,⟨b6,dq⟩,bl,_,_⟩:=pT K;have aF:I.length=s1.T.length:=by rw[<-aB];simp
    obtain⟨C,D,dr⟩:=dQ S;subst dr;rw[aF] at cT;have ds:rb≠rp:=fun e=>by obtain⟨own,cH,cI,cJ,cK,hM,_⟩:=K;have J:=hM.r1;rw[e,hM.b1] at J;omega
    have aR:av ((cn rp rb b9 bY).J t s1 wr/\b_ F w t wr):=⟨K,n.o.2.below Q⟩
    have A:av (wr.heap[wc.heap.size]?=some (.cells #[ah kd,.slice m l.length cp,.bool false,.bool false] 99 (0,0))/\wr.ownsRow (wc.heap.size+1) 77 2 (.slice m l.length cp) l.length (ev l)/\wc.heap.size<=wr.heap.size):=⟨ht,cF,Q.size⟩
    have dZ:(0:Int)<=(r:Int):=V;have d0:(r:Int)<12:=V;clear K ar dn bl S ht cF Q n aB;go_wp2_with fail
    go_region_held3 (fun w'=>w'.cell? (am rp 1)=some (.slice (ak rb) 12 12)/\w'.cell? (am rp 0)=some (.slice C s1.T.length D)) (go_keep) (fail)
    obtain⟨cL,cM⟩:=kR aR.o.1 r (3,(s1.T.length:Int))
    have dt:rb≠wc.heap.size:=fun e=>by
     have J:=ai.o rb (by obtain⟨own,cH,cI,cJ,cK,hM,b7⟩:=aR.o.1;exact(b7 rb).2 (by rw[hM.r1];decide))
     omega
    have aT:Fr (fun b=>b=rb) wr ((wr.setCell ⟨rb,r*2,none⟩ (.int .i64 3)).setCell ⟨rb,r*2+1,none⟩ (.int .i64 s1.T.length)).drew:=(((Fr.refl (fun b=>b=rb) wr).set rb _ _ rfl).set rb _ _ rfl).drew;have aV:=(cn rp rb b9 bY).below cL bX.drew;have b8:=(aR.o.2.trans cM).below bX.drew;dsimp only at aV b8;have Y:=(aT.block wc.heap.size dh (fun e=>dt e.symm)).trans A.o.1;have du:t rb:=by obtain⟨own,cH,cI,cJ,cK,hM,b7⟩:=aR.o.1;exact(b7 rb).2 (by rw[hM.r1];decide)
    have cO:=gH A.o.2.1 aT (fun b e U=>by
     have J:=(ce A.o.2.1 b e).1;have ca:=ai.o b (by rw[U];exact du)
     omega)
    have d1:=aT.size;have dv:=(aU (a:=⟨rp,0,none⟩) (aT.block rp cC (fun e=>ds e.symm))).trans cT;generalize ((wr.setCell ⟨rb,r*2,none⟩ (.int .i64 3)).setCell ⟨rb,r*2+1,none⟩ (.int .i64 s1.T.length)).drew=k at*;clear cL cM bg bi dp y1 cT c1;obtain⟨I,cG,aB,cT,S,⟨b6,dq⟩,bl,cb,_⟩:=pT aV;have aF:I.length=s1.T.length:=by rw[<-aQ (f:=fun x=>x.1),aB]
    obtain rfl:cG=.slice C s1.T.length D:=by have:=cT.symm.trans dv;simpa using this
    rw[aF] at S;have dw:av (I.length=s1.T.length):=aF;clear aF;obtain⟨_,_,_,cd,_,cP,_⟩:=e5 aV;have z0:=cP 0;have t0:k.cell? (am wc.heap.size 0)=some (ah kd):=ay Y
    have d2:k.cell? (am wc.heap.size 1)=some (.slice m l.length cp):=ay Y
    have bx:k.cell? (am wc.heap.size 2)=some (.bool false):=ay Y
    have t3:k.cell? (am wc.heap.size 3)=some (.bool false):=ay Y
    have d3:=lt_of_some Y;have cf:=(an k (.cells #[.int .i64 kd,.slice m l.length cp,.bool false,.bool false] 99)).drew;have b3:av ((k.alloc (.cells #[.int .i64 kd,.slice m l.length cp,.bool false,.bool false] 99)).drew.ownsRow 0 99 4 (.slice C s1.T.length D) s1.T.length (tv I)):=cv (f6 S _) (fun _ _=>rfl)
    have a0:av ((cn rp rb b9 bY).J t {s1 with rs:=s1.rs.set r (3,(s1.T.length:Int))} k/\b_ F w t k):=⟨aV,b8⟩
    have cg:=cb;have G:av (k.ownsRow (wc.heap.size+1) 77 2 (.slice m l.length cp) l.length (ev l)/\k.ownsRow 0 99 4 (.slice C s1.T.length D) s1.T.length (tv I)/\∀b,some b=(Value.slice C s1.T.length D).ownBlock->t b):=⟨cO,S,bl⟩
    have cg:av (∀(x:iw)(v1:Value)(a1:au),Fr (fun b=>some b=(Value.slice C s1.T.length D).ownBlock) k a1->a1.ownsRow 0 99 4 v1 (I++[x]).length (tv (I++[x]))->(∀b,some b=v1.ownBlock->some b=(Value.slice C s1.T.length D).ownBlock\/k.heap.size<=b)->cY a1 x.2.1 x.1.2.1->(∀b o,0<x.1.2.1.length->x.2.1=some ⟨b,o,none⟩->¬t b/\some b≠v1.ownBlock)->
     (cn rp rb b9 bY).J (fun b=>t b\/some b=v1.ownBlock\/(0<x.1.2.1.length/\∃o,x.2.1=some ⟨b,o,none⟩)) {s1 with rs:=s1.rs.set r (3,(s1.T.length:Int)),T:=s1.T++[x.1]} (a1.setCell ⟨rp,0,none⟩ v1)/\Fr t k (a1.setCell ⟨rp,0,none⟩ v1)):=cb
    clear cb S bl aV b8 Y cO cP aB A aT aR;go_wp2_with fail
    go_region_law (refine step_append_lies _ rfl (.tmp 83) (.tmp 85) 88 rfl 0 99 j0 (.agg #[ah 0,.slice none 0 0,.bool false,.bool false]) 4 40 underlying88 c9 da db dc rfl aa (.slice C s1.T.length D) s1.T.length (tv I) (by simp[Act.eval]) b3.o ⟨k.heap.size,0,none⟩ 1 1 [ah kd,.slice m l.length cp,.bool false,.bool false] (by simp[Act.eval]) rfl ?_ ?_ aa (by unfold maxLen;omega) V Z _ rfl ?_;(intro j u d;match j,d with|0,d=>(simp at d;subst d;simp[Addr.add])|1,d=>(simp at d;subst d;simp[Addr.add])|2,d=>(simp at d;subst d;simp[Addr.add])|3,d=>(simp at d;subst d;simp[Addr.add]));(intro u B;simp at B;rcases B with B|B|B<;>(subst B;rfl));intro b4 R E ax M cQ d4;have d5:=M.cell (a:=⟨rp,0,none⟩) (v:=.slice C s1.T.length D) ((cf.cell (p:=am rp 0) cd).trans cT) b6;have d6:E.frozen? (am rp 0)=false:=(World.frozen?_of_block (a:=⟨rp,0,none⟩) (M.block _ (aM cd cf.size) b6)).trans ((cf.frozen (p:=am rp 0) cd).trans z0))
    all_goals
     have dx:av (∃bn,(cn rp rb b9 bY).J bn ad (E.setCell ⟨rp,0,none⟩ (.slice (some ⟨b4,0,none⟩) (s1.T.length+1) R))/\b_ F w bn (E.setCell ⟨rp,0,none⟩ (.slice (some ⟨b4,0,none⟩) (s1.T.length+1) R))):=by
      have dz:=M.size;simp at dz;have ch:some b4=(Value.slice C s1.T.length D).ownBlock\/b4=k.heap.size+1:=cQ.imp Eq.symm (fun e=>by simpa using e)
      have cR:Fr (fun b=>some b=(Value.slice C s1.T.length D).ownBlock) k E:=(((Fr.refl _ k).alloc _).drew).grown M (fun b e=>aJ e.symm)
      have dA:=gH G.o.1 cR (fun b e U=>by
       have J:=(ce G.o.1 b e).1;have ca:=ai.o b (G.o.2.2 b U)
       omega)
      obtain⟨J,ca⟩:=cg.o ((kd,l,false,false),m,cp) (.slice (ak b4) (s1.T.length+1) R) E cR (by
       rw[BU,aW,dw.o];simpa[tv] using ax) (fun b e=>by
       simp[Value.ownBlock] at e;subst e;exact ch.imp id (fun e=>by omega)) (gh (by simpa using dA)) (fun b o hp e=>by
       dsimp only at hp e;have dB:some b=(Value.slice m l.length cp).ownBlock:=by obtain⟨dC,dD,U⟩:=dW G.o.1 hp;cases U;cases e;rfl
       have dE:=ce G.o.1 b dB;refine⟨fun O=>by have:=ai.o b O;omega,fun cS=>?_⟩
       simp[Value.ownBlock] at cS;subst cS;rcases ch with a2|a2
       ·have:=ai.o _ (G.o.2.2 _ a2)
        omega
       ·omega)
      rw[df.o];refine⟨_,J,⟨a0.o.2.fr.trans ca a0.o.2.sub,fun b O=>?_⟩⟩
      rcases O with O|O|⟨hp,o,e⟩
      ·exact a0.o.2.sub b O
      ·simp[Value.ownBlock] at O;subst O;rcases ch with a2|a2
       ·exact a0.o.2.sub _ (G.o.2.2 _ a2)
       ·exact aI (by have:=a0.o.2.fr.size;omega)
      ·dsimp only at hp e;obtain⟨dC,dD,U⟩:=dW G.o.1 hp;cases U;cases e;have dE:=(ce G.o.1 b rfl).1;have d7:=de;exact aI V
     clear ax M cQ cg G;go_wp2_with fail;go_ret;obtain⟨bn,dF,j2⟩:=dx.o;exact⟨bn,rfl,dF,j2⟩
end
section
variable {rp rb:Nat}{b9 bY:Int}{F:Nat->Prop}{s:cj}{w:au}
theorem DX (h:(cn rp rb b9 bY).J F s w)(d:gA s)(h0:0<=bY)(f:bY<=100000)(j:0<=b9)(m1:b9<=100000)(g:gS)(hg:d9 s.T s.wt (g s.T s.wt))(R A B:Nat)(m:R<12)(t:A<12)(hB:B<12)(I n:Int)(k:iJ 4 R A B I n):
 Calls prog 14 #[aj rp,gm 4 R A B I n] w fun e w'=>∃c,e=.returned (ah (s.nw g b9 bY R 1 [s.rs.getD A (0,0),s.rs.getD B (0,0)]).1)/\(cn rp rb b9 bY).J c (s.nw g b9 bY R 1 [s.rs.getD A (0,0),s.rs.getD B (0,0)]).2 w'/\b_ F w c w':=by
 have HN:av (∀(W:au)(b:Nat),(cn rp rb b9 bY).J F s W->nG F W (ak b) [A,B]->Calls prog 43 #[aj rp,ah R,ah 1,.slice (ak b) 2 2] W fun e w'=>∃c,e=.returned (ah (s.nw g b9 bY R 1 [s.rs.getD A (0,0),s.rs.getD B (0,0)]).1)/\(cn rp rb b9 bY).J c (s.nw g b9 bY R 1 [s.rs.getD A (0,0),s.rs.getD B (0,0)]).2 w'/\b_ F W c w'):=fun W b o p=>oO o d h0 f j m1 g hg R m 1 [A,B] (fun q hq=>by simp at hq;omega) Z (ak b) 2 p;clear d h0 f j m1 hg;generalize (s.nw g b9 bY R 1 [s.rs.getD A (0,0),s.rs.getD B (0,0)])=N at*;obtain⟨cN,sO⟩:=N;dsimp only at HN⊢;have l:=an w (dj 4 R A B I n)
 have P:=k (w.alloc (dj 4 R A B I n))
 have HJ:av ((cn rp rb b9 bY).J F s w/\Below w.heap.size w (w.alloc (dj 4 R A B I n))):=⟨h,l⟩
 clear h l k;go_enter func14,ntmps14;go_wp2_with fail;refine P.mono ?_;clear P;rintro e w1 ⟨rfl,hb1⟩
 have hb:=HJ.o.2.trans (hb1.mono Z)
 have iI:=(cn rp rb b9 bY).below HJ.o.1 hb;have hx:w1.heap[w.heap.size]?=some (dj 4 R A B I n):=(hb1.block _ Z).trans (aL _ _)
 exact sM
theorem DY (h:(cn rp rb b9 bY).J F s w)(d:gA s)(h0:0<=bY)(f:bY<=100000)(j:0<=b9)(m1:b9<=100000)(g:gS)(hg:d9 s.T s.wt (g s.T s.wt))(R A B:Nat)(m:R<12)(t:A<12)(hB:B<12)(I n:Int)(k:iJ 6 R A B I n):
 Calls prog 14 #[aj rp,gm 6 R A B I n] w fun e w'=>∃c,e=.returned (ah (s.nw g b9 bY R 3 [s.rs.getD A (0,0),s.rs.getD B (0,0)]).1)/\(cn rp rb b9 bY).J c (s.nw g b9 bY R 3 [s.rs.getD A (0,0),s.rs.getD B (0,0)]).2 w'/\b_ F w c w':=by
 have HN:av (∀(W:au)(b:Nat),(cn rp rb b9 bY).J F s W->nG F W (ak b) [A,B]->Calls prog 43 #[aj rp,ah R,ah 3,.slice (ak b) 2 2] W fun e w'=>∃c,e=.returned (ah (s.nw g b9 bY R 3 [s.rs.getD A (0,0),s.rs.getD B (0,0)]).1)/\(cn rp rb b9 bY).J c (s.nw g b9 bY R 3 [s.rs.getD A (0,0),s.rs.getD B (0,0)]).2 w'/\b_ F W c w'):=fun W b o p=>oO o d h0 f j m1 g hg R m 3 [A,B] (fun q hq=>by simp at hq;omega) Z (ak b) 2 p;clear d h0 f j m1 hg;generalize (s.nw g b9 bY R 3 [s.rs.getD A (0,0),s.rs.getD B (0,0)])=N at*;obtain⟨cN,sO⟩:=N;dsimp only at HN⊢;have l:=an w (dj 6 R A B I n)
 have P:=k (w.alloc (dj 6 R A B I n))
 have HJ:av ((cn rp rb b9 bY).J F s w/\Below w.heap.size w (w.alloc (dj 6 R A B I n))):=⟨h,l⟩
 clear h l k;go_enter func14,ntmps14;go_wp2_with fail;refine P.mono ?_;clear P;rintro e w1 ⟨rfl,hb1⟩
 have hb:=HJ.o.2.trans (hb1.mono Z)
 have iI:=(cn rp rb b9 bY).below HJ.o.1 hb;have hx:w1.heap[w.heap.size]?=some (dj 6 R A B I n):=(hb1.block _ Z).trans (aL _ _)
 exact sM
theorem DZ (h:(cn rp rb b9 bY).J F s w)(d:gA s)(h0:0<=bY)(f:bY<=100000)(j:0<=b9)(m1:b9<=100000)(g:gS)(hg:d9 s.T s.wt (g s.T s.wt))(R A B:Nat)(m:R<12)(t:A<12)(hB:B<12)(I n:Int)(k:iJ 7 R A B I n):
 Calls prog 14 #[aj rp,gm 7 R A B I n] w fun e w'=>∃c,e=.returned (ah (s.nw g b9 bY R 4 [s.rs.getD A (0,0),s.rs.getD B (0,0)]).1)/\(cn rp rb b9 bY).J c (s.nw g b9 bY R 4 [s.rs.getD A (0,0),s.rs.getD B (0,0)]).2 w'/\b_ F w c w':=by
 have HN:av (∀(W:au)(b:Nat),(cn rp rb b9 bY).J F s W->nG F W (ak b) [A,B]->Calls prog 43 #[aj rp,ah R,ah 4,.slice (ak b) 2 2] W fun e w'=>∃c,e=.returned (ah (s.nw g b9 bY R 4 [s.rs.getD A (0,0),s.rs.getD B (0,0)]).1)/\(cn rp rb b9 bY).J c (s.nw g b9 bY R 4 [s.rs.getD A (0,0),s.rs.getD B (0,0)]).2 w'/\b_ F W c w'):=fun W b o p=>oO o d h0 f j m1 g hg R m 4 [A,B] (fun q hq=>by simp at hq;omega) Z (ak b) 2 p;clear d h0 f j m1 hg;generalize (s.nw g b9 bY R 4 [s.rs.getD A (0,0),s.rs.getD B (0,0)])=N at*;obtain⟨cN,sO⟩:=N;dsimp only at HN⊢;have l:=an w (dj 7 R A B I n)
 have P:=k (w.alloc (dj 7 R A B I n))
 have HJ:av ((cn rp rb b9 bY).J F s w/\Below w.heap.size w (w.alloc (dj 7 R A B I n))):=⟨h,l⟩
 clear h l k;go_enter func14,ntmps14;go_wp2_with fail;refine P.mono ?_;clear P;rintro e w1 ⟨rfl,hb1⟩
 have hb:=HJ.o.2.trans (hb1.mono Z)
 have iI:=(cn rp rb b9 bY).below HJ.o.1 hb;have hx:w1.heap[w.heap.size]?=some (dj 7 R A B I n):=(hb1.block _ Z).trans (aL _ _)
 exact sM
theorem D0 (h:(cn rp rb b9 bY).J F s w)(k:gA s)(h0:0<=bY)(l:bY<=100000)(m:0<=b9)(m1:b9<=100000)(g:gS)(hg:d9 s.T s.wt (g s.T s.wt))(R:Nat)(G:R<12)(A B I n:Int)(o:iJ 8 R A B I n):
 Calls prog 14 #[aj rp,gm 8 R A B I n] w fun e w'=>∃b,e=.returned (ah (s.nw g b9 bY R 5 []).1)/\(cn rp rb b9 bY).J b (s.nw g b9 bY R 5 []).2 w'/\b_ F w b w':=by
 have c:av (∀(W:au),(cn rp rb b9 bY).J F s W->Calls prog 43 #[aj rp,ah R,ah 5,.slice none 0 0] W fun e w'=>∃b,e=.returned (ah (s.nw g b9 bY R 5 []).1)/\(cn rp rb b9 bY).J b (s.nw g b9 bY R 5 []).2 w'/\b_ F W b w'):=fun W H=>oO H k h0 l m m1 g hg R G 5 [] (fun q hq=>by cases hq) Z none 0 (fun h=>absurd h Z)
 clear k h0 l m m1 hg;generalize (s.nw g b9 bY R 5 [])=N at*;obtain⟨cN,J⟩:=N;dsimp only at c⊢;have p:=an w (dj 8 R A B I n)
 have P:=o (w.alloc (dj 8 R A B I n))
 have d:av ((cn rp rb b9 bY).J F s w/\Below w.heap.size w (w.alloc (dj 8 R A B I n))):=⟨h,p⟩
 clear h p o;go_enter func14,ntmps14;go_wp2_with fail;refine P.mono ?_;clear P;rintro e w1 ⟨rfl,f⟩
 have i:=d.o.2.trans (f.mono Z)
 have t:=(cn rp rb b9 bY).below d.o.1 i;have u:w1.heap[w.heap.size]?=some (dj 8 R A B I n):=(f.block _ Z).trans (aL _ _)
 obtain⟨q0,q1,K,q3,L,M⟩:=fT u;have v:=c.o w1 t;have x:av (b_ F w F w1):=b_.of i;clear t i f u d c;go_wp2_with fail;refine v.mono ?_;clear v;rintro e C ⟨j,rfl,j2,D⟩
 have E:av ((cn rp rb b9 bY).J j J C/\b_ F w j C):=⟨j2,x.o.trans D⟩
 clear j2 D x q0 q1 K q3 L M;go_wp2_with fail;go_ret;exact⟨j,rfl,E.o.1,E.o.2⟩
end
theorem D1:(prog.info? 3).map (fun i=>(i.zero,i.size,i.bytes))=some (some (ah 0),1,8):=ae
section
variable {rp rb:Nat}{b9 bY:Int}{F:Nat->Prop}{s:cj}{w:au}
theorem bw {α:Type _}{n:Nat}{a:α}:(List.replicate n a).length = n:=List.length_replicate ..
theorem D2 (h:(cn rp rb b9 bY).J F s w)(S:gA s)(h0:0<=bY)(U:bY<=100000)(X:0<=b9)(m1:b9<=100000)(g:gS)(hg:d9 s.T s.wt (g s.T s.wt))(R A m:Nat)(Y:R<12)(ab:A<12)(hm:m<=12)(B I:Int)(ad:iJ 5 R A B I m):
 Calls prog 14 #[aj rp,gm 5 R A B I m] w fun e w'=>∃l,e=.returned (ah (s.nw g b9 bY R 2 (List.replicate m (s.rs.getD A (0,0)))).1)/\(cn rp rb b9 bY).J l (s.nw g b9 bY R 2 (List.replicate m (s.rs.getD A (0,0)))).2 w'/\b_ F w l w':=by
 have ag:av (∀(W:au)(t:Option Addr)(fc:Nat),(cn rp rb b9 bY).J F s W->nG F W t (List.replicate m A)->Calls prog 43 #[aj rp,ah R,ah 2,.slice t m fc] W fun e w'=>∃l,e=.returned (ah (s.nw g b9 bY R 2 (List.replicate m (s.rs.getD A (0,0)))).1)/\(cn rp rb b9 bY).J l (s.nw g b9 bY R 2 (List.replicate m (s.rs.getD A (0,0)))).2 w'/\b_ F W l w'):=fun W t fc ai al=>by have P:=oO ai S h0 U X m1 g hg R Y 2 (List.replicate m A) (fun q hq=>by rw[List.eq_of_mem_replicate hq];exact ab) (by simpa using hm) t fc al;rw[bw,List.map_replicate] at P;exact P
 generalize (s.nw g b9 bY R 2 (List.replicate m (s.rs.getD A (0,0))))=N at*;obtain⟨cN,br⟩:=N;obtain⟨ap,ar,ax,aB,aF⟩:=info_parts D1;have aR:=an w (dj 5 R A B I m)
 have P:=ad (w.alloc (dj 5 R A B I m))
 have D:=dC h aR;go_enter func14,ntmps14;go_wp2_with fail;refine P.mono ?_;rintro e w1 ⟨rfl,E⟩
 have c:=D.o.2.trans (E.mono Z)
 have G:=(cn rp rb b9 bY).below D.o.1 c;have H:w1.heap[w.heap.size]?=some (dj 5 R A B I m):=(E.block _ Z).trans (aL _ _)
 obtain⟨q0,q1,J,q3,bs,aT⟩:=fT H;have x:w.heap.size<w1.heap.size:=lt_of_some H;have C:av ((cn rp rb b9 bY).J F s w1/\b_ F w F w1/\∀b,F b->b<w1.heap.size):=⟨G,b_.of c,(cn rp rb b9 bY).lt G⟩
 go_wp2_with fail
 go_loopw [7,8] (fun aV iv wr=>∃(j:Nat)(d:Option Addr)(f:Nat),j<=m/\iv=ah j/\aV=.slice d j f/\wr.ownsRow w1.heap.size 3 1 (.slice d j f) j ((List.replicate j (A:Int)).map (Value.int .i64))/\Below w1.heap.size w1 wr) (fun _ iv _=>m-(intOf iv).toNat)
 exact⟨0,none,0,aS _,rfl,rfl,a7 _ _ _ _,aD _ _⟩
 ·
   obtain⟨j,d,f,n,rfl,rfl,v,c⟩:=hrel;have g1:=(c.cell (p:=am w.heap.size 1) x).trans q1;have g2:=(c.cell (p:=am w.heap.size 2) x).trans J;have g5:=(c.cell (p:=am w.heap.size 5) x).trans aT;have a0:=c.size;by_cases bt:j<m
   ·have a1:av ((List.replicate (j+1) (A:Int)).map (Value.int .i64)=((List.replicate j (A:Int)).map (Value.int .i64))++[ah (A:Int)]):=by show _=_;rw[List.replicate_succ',bA];rfl
    generalize ((List.replicate j (A:Int)).map (Value.int .i64))=L at*;go_wp2_with (at_builtin;refine wpList_append_own_at _ rfl _ _ 96 rfl w1.heap.size 3 ap (.int .i64 0) 1 8 underlying96 ar ax aB aF rfl aa (.slice d j f) j L rfl (f6 v _) ⟨wr.heap.size,0,none⟩ 1 1 [.int .i64 (A:Int)] rfl rfl ?_ ?_ ?_ ?_ ?_ ?_;(intro j u n;match j,n with|0,n=>(simp at n;subst n;simp[Addr.add]));(intro u K;simp at K;subst K;rfl);(unfold maxLen;omega);omega;(simp;omega);intro bx a2 M a3 _ bZ;obtain⟨b4,O,bb⟩:=dW M (Nat.succ_pos _);subst bb)
    have bd:a2.ownsRow w1.heap.size 3 1 (.slice (ak b4) (j+1) O) (j+1) ((List.replicate (j+1) (A:Int)).map (Value.int .i64)):=by rw[a1.o];exact M
    have be:=(c.alloc a0 _).grown a3 (by simp;omega) (fun k e=>(ce v k e.symm).1)
    go_wp2_with fail;go_roundw;exact⟨j+1,ak b4,O,V,af,rfl,bd,be⟩
    simp[intOf];omega
   ·obtain rfl:j=m:=V;have bg:wr.ownsRow w1.heap.size 3 1 (.slice d (List.replicate j (A:Int)).length f) (List.replicate j (A:Int)).length ((List.replicate j (A:Int)).map (Value.int .i64)):=by rw[bw];exact v
    have bi:=ag.o wr d f ((cn rp rb b9 bY).below C.o.1 c) (fun hp=>by
     rw[bw] at hp;obtain⟨b,o,e,hl,hc⟩:=gO bg (by rw[bw];exact hp)
     subst e;refine⟨b,o,rfl,hl,fun bl=>?_,fun i hi=>?_⟩
     ·have q1:=C.o.2.2 b bl;have J:=(ce v b rfl).1;omega
     ·rw[bw] at hi;have:=hc i (by rw[bw];exact hi)
      rw[aC,List.getElem?_replicate,aH hi] at this
      rw[aC,List.getElem?_replicate,aH hi];exact this)
    have bn:=hide (C.o.2.1.below c)
    go_wp2_with fail;refine bi.mono ?_;rintro e b0 ⟨bo,rfl,j2,bp⟩
    have Q:=dC j2 (bn.o.trans bp)
    go_wp2_with fail;go_ret;exact⟨bo,rfl,Q.o.1,Q.o.2⟩
end
open Go
section
variable {P:Program}{ops:Array Oper}{Q:Exit->Act->au->Prop}{md:Region.Mode}{T S:au->Prop}{St:List Nat}
def came (St:List Nat)(b:Array Bool):Prop:=∃s∈St,b.getD s false=true
def jf (P:Program)(md:Region.Mode)(ops:Array Oper)(Q:Exit->Act->au->Prop)(T S:au->Prop)(St:List Nat):Nat->Array Bool->Act->au->Prop
 |0,b,a,w=>Region.ready md ops b=[]/\Q .normal a w
 |c+1,b,a,w=>(Region.ready md ops b=[]->Q .normal a w)/\
  ∀i∈Region.ready md ops b,wpOp P ops Q i (fun d w'=>(T w'/\(came St (b.setIfInBounds i true)\/S w'))/\jf P md ops Q T S St c (b.setIfInBounds i true) d w') a w
theorem qg:∀(b:Nat)(c:Array Bool)(a:Act)(w:au),jf P md ops Q T S St b c a w->wpAny P md ops Q b c a w
 |0,_,_,_,h=>h
 |b+1,_,_,_,h=>⟨h.1,fun i hi=>wpOp_mono (fun d w' e=>qg b _ d w' e.2) (h.2 i hi)⟩
def waits (md:Region.Mode)(ops:Array Oper)(St:List Nat)(i:Nat):Bool:=
 St.all fun s=>match ops[s]? with
  |some o=>o.after.any fun e=>Region.binds md e&&e.on==i
  |none=>false
theorem ba (a b:Bool):((a && b) = Bool.true) = (a = Bool.true /\ b = Bool.true):=Bool.and_eq_true ..
theorem D3 {i j:Nat}{c:Array Bool}(hw:waits md ops St i=true)(hi:i∈Region.ready md ops c)(l:j∈Region.ready md ops c):j∉St:=by
 intro hs;have g:=List.all_eq_true.1 hw j hs;obtain⟨h0,o,m,n⟩:=mem_ready.1 l;rw[m] at g;obtain⟨e,he,d⟩:=Array.any_eq_true'.1 g;rw[ba,beq_iff_eq] at d;have b:=n e he d.1;rw[d.2] at b;have k:=(mem_ready.1 hi).1;rcases Nat.lt_or_ge i c.size with f|f
 ·simp[f] at b k;rw[k] at b;cases b
 ·simp[Array.getElem?_eq_none f] at b
theorem sP {i:Nat}{b:Array Bool}(c:¬came St b)(hi:i∉St):¬came St (b.setIfInBounds i true):=by
 rintro⟨s,hs,h⟩
 have d:i≠s:=fun e=>hi (by rw[e];exact hs)
 exact c ⟨s,hs,by rw[getD_set_ne false d] at h;exact h⟩
theorem D4 {i:Nat}{l:Oper}{v:Value}(hi:ops[i]?=some l)(K:i∉St)(L:waits md ops St i=true)(B:∀(j:Nat)(o:Oper) p b,ops[j]?=some o->o.op≠.select p b)
 (M:∀c a w,Q (.panic c) (a.put l.dst v) w->Q (.panic c) a w):
 ∀(q:Nat)(d:Array Bool)(a:Act)(w:au),
  (∀j m,ops[j]?=some m->j≠i->d.getD j true=false->(∀e∈m.after,Region.binds md e=true->e.on≠i)->l.apart ops m=true)->
  i∈Region.ready md ops d->¬came St d->YieldsIf P ops (fun w=>T w/\S w) l v a->T w/\S w->
  jf P md ops Q T S St q (d.setIfInBounds i true) (a.put l.dst v) w->jf P md ops Q T S St (q+1) d a w:=by
 intro q
 induction q with
 |zero=>
  intro d a w _ n _ hy g H;refine⟨fun h=>absurd n (by rw[h];simp),fun j s=>?_⟩
  by_cases f:j=i
  ·rw[f];exact hy.wpOp hi g ⟨⟨g.1,aI g.2⟩,H⟩
  ·have hm:=ready_mono s f;rw[H.1] at hm;simp at hm
 |succ q N=>
  intro d a w C n D hy g H;refine⟨fun h=>absurd n (by rw[h];simp),fun j s=>?_⟩
  by_cases f:j=i
  ·rw[f];exact hy.wpOp hi g ⟨⟨g.1,aI g.2⟩,H⟩
  ·have E:=D3 L n s;obtain⟨F,m,u,O⟩:=mem_ready.1 s;have R:=C j m u f F (fun e he U W=>by
    have t:=O e he U;rw[W] at t;have G:=(mem_ready.1 n).1;rcases Nat.lt_or_ge i d.size with x|x
    ·simp[x] at t G;rw[G] at t;cases t
    ·simp[Array.getElem?_eq_none x] at t)
   refine wpOp_mono (fun X w' h=>?_) (wpOp_putIf u R (fun p b=>B i l p b hi) (fun p b=>B j m p b u) M hy (H.2 j (ready_mono s f)))
   obtain⟨Y,I,ai⟩:=h;have A:T w'/\S w':=⟨I.1,I.2.resolve_left (sP (sP D K) E)⟩
   refine⟨⟨A.1,aI A.2⟩,N _ X w' (fun k ok hk ab ad ag=>C k ok hk ab ?_ ag) (ready_mono n (Ne.symm f)) (sP D E) Y A ?_⟩
   ·by_cases J:j=k
    ·rw[<-J];exact F
    ·rwa [getD_set_ne true J] at ad
   ·rwa [Array.setIfInBounds_comm _ _ f]
theorem D5 {i:Nat}{g:Oper}{v:Value}(hi:ops[i]?=some g)(J:i∉St)(C:∀(j:Nat)(o:Oper) m b,ops[j]?=some o->o.op≠.select m b)
 (K:∀c a w,Q (.panic c) (a.put g.dst v) w->Q (.panic c) a w):
 ∀(n:Nat)(d:Array Bool)(a:Act)(w:au),
  (∀j l,ops[j]?=some l->j≠i->d.getD j true=false->(∀e∈l.after,Region.binds md e=true->e.on≠i)->g.apart ops l=true)->
  i∈Region.ready md ops d->YieldsIf P ops T g v a->T w->(came St d\/S w)->
  jf P md ops Q T S St n (d.setIfInBounds i true) (a.put g.dst v) w->jf P md ops Q T S St (n+1) d a w:=by
 have up:∀{d:Array Bool}{k:Nat},came St d->came St (d.setIfInBounds k true):=fun⟨s,hs,h⟩=>⟨s,hs,getD_set_true h⟩
 intro n
 induction n with
 |zero=>
  intro d a w _ p hy q hc H;refine⟨fun h=>absurd p (by rw[h];simp),fun j u=>?_⟩
  by_cases f:j=i
  ·rw[f];exact hy.wpOp hi q ⟨⟨q,hc.imp up id⟩,H⟩
  ·have hm:=ready_mono u f;rw[H.1] at hm;simp at hm
 |succ n L=>
  intro d a w D p hy q hc H;refine⟨fun h=>absurd p (by rw[h];simp),fun j u=>?_⟩
  by_cases f:j=i
  ·rw[f];exact hy.wpOp hi q ⟨⟨q,hc.imp up id⟩,H⟩
  ·obtain⟨E,l,x,M⟩:=mem_ready.1 u;have N:=D j l x f E (fun e he O R=>by
    have t:=M e he O;rw[R] at t;have F:=(mem_ready.1 p).1;rcases Nat.lt_or_ge i d.size with A|A
    ·simp[A] at t F;rw[F] at t;cases t
    ·simp[Array.getElem?_eq_none A] at t)
   refine wpOp_mono (fun U w' h=>?_) (wpOp_putIf x N (fun m b=>C i g m b hi) (fun m b=>C j l m b x) K hy (H.2 j (ready_mono u f)))
   obtain⟨W,B,ag⟩:=h;have G:came St (d.setIfInBounds j true)\/S w':=B.2.imp (fun⟨s,hs,h⟩=>by
    have X:i≠s:=fun e=>J (by rw[e];exact hs)
    refine⟨s,hs,?_⟩
    rw[Array.setIfInBounds_comm _ _ (Ne.symm f),getD_set_ne false X] at h;exact h) id
   refine⟨⟨B.1,G⟩,L _ U w' (fun k ok hk Y ab ad=>D k ok hk Y ?_ ad) (ready_mono p (Ne.symm f)) W B.1 G ?_⟩
   ·by_cases I:j=k
    ·rw[<-I];exact E
    ·rwa [getD_set_ne true I] at ab
   ·rwa [Array.setIfInBounds_comm _ _ f]
theorem D6 {i:Nat}{d:Oper}{v:Value}{e:Nat}{b:Array Bool}{a:Act}{w:au}(hi:ops[i]?=some d)
 (hs:Region.noSelect ops=true)(g:Region.free md ops b i=true)(j:(Region.ready md ops b).contains i=true)(f:St.contains i=false)(k:waits md ops St i=true)(l:(St.all fun s=>!b.getD s false)=true)
 (m:∀c a w,Q (.panic c) (a.put d.dst v) w->Q (.panic c) a w)(hy:YieldsIf P ops (fun w=>T w/\S w) d v a)(n:T w/\S w)
 (h:jf P md ops Q T S St e (b.setIfInBounds i true) (a.put d.dst v) w):jf P md ops Q T S St (e+1) b a w:=
 D4 hi (fun h=>by rw[List.contains_iff_mem.2 h] at f;cases f) k (Region.noSelect_spec hs) m e b a w (Region.free_spec hi g) (by simpa using j) (fun⟨s,hs,hc⟩=>by
  have:=List.all_eq_true.1 l s hs;rw[hc] at this
  cases this) hy n h
theorem et {i:Nat}{d:Oper}{v:Value}{e:Nat}{b:Array Bool}{a:Act}{w:au}(hi:ops[i]?=some d)
 (hs:Region.noSelect ops=true)(g:Region.free md ops b i=true)(j:(Region.ready md ops b).contains i=true)(f:St.contains i=false)
 (k:∀c a w,Q (.panic c) (a.put d.dst v) w->Q (.panic c) a w)(hy:YieldsIf P ops T d v a)(l:T w)(hc:came St b\/S w)
 (h:jf P md ops Q T S St e (b.setIfInBounds i true) (a.put d.dst v) w):jf P md ops Q T S St (e+1) b a w:=
 D5 hi (fun h=>by rw[List.contains_iff_mem.2 h] at f;cases f) (Region.noSelect_spec hs) k e b a w (Region.free_spec hi g) (by simpa using j) hy l hc h
theorem oP {i:Nat}{o:Oper}{K:Act->au->Prop}{a:Act}{w:au}(hi:ops[i]?=some o)(hg:o.guard=none)(h:o.wp P a w K Q):wpOp P ops Q i K a w:=by unfold wpOp;rw[hi];dsimp only;rw[aH (by simp[Region.wanted,hg])];exact aJ h
theorem xF {i:Nat}{o:Oper}{K:Act->au->Prop}{a:Act}{w:au}(hi:ops[i]?=some o)(hg:Region.wanted o (yielded ops a.tmps)=true)(h:o.wp P a w K Q):wpOp P ops Q i K a w:=by unfold wpOp;rw[hi];dsimp only;rw[aH hg];exact aJ h
theorem bD {α:Type _}{a b:α}:a ∈ [b] ↔ a = b:=List.mem_singleton ..
theorem mK {i:Nat}{d:Nat}{b:Array Bool}{a:Act}{w:au}(e:Region.ready md ops b=[i])
 (h:wpOp P ops Q i (fun f w'=>(T w'/\(came St (b.setIfInBounds i true)\/S w'))/\jf P md ops Q T S St d (b.setIfInBounds i true) f w') a w):jf P md ops Q T S St (d+1) b a w:=
 ⟨fun h0=>(by rw[e] at h0;cases h0),fun j c=>(by rw[e] at c;rw[bD] at c;rw[c];exact h)⟩
theorem sT {b:Array Bool}{a:Act}{w:au}(c:Region.ready md ops b=[])(h:Q .normal a w):∀d,jf P md ops Q T S St d b a w
 |0=>⟨c,h⟩
 |_+1=>⟨fun _=>h,by rw[c];simp⟩
end
theorem xG:(prog.info? 97).map (fun i=>(i.zero,i.size,i.bytes))=some (some (.agg #[ah 0,ah 0]),2,16):=ae
def cj.jC (s:cj)(A B:Nat):Int:=if s.th A<0\/s.gd B<0 then 2 else if 24<=s.rg.length+s.wt.length then 3 else 0
section
variable {rp rb:Nat}{b9 bY:Int}{F:Nat->Prop}{s:cj}{w:au}
theorem D7 (h:(cn rp rb b9 bY).J F s w)(A B:Nat)(cb:A<12)(hB:B<12)(aV:0<=s.th B->s.th B<s.T.length)(cx:s.rg.length<=10000)(cy:s.wt.length<=10000)(R I n:Int)(a0:iJ 9 R A B I n):
 Calls prog 14 #[aj rp,gm 9 R A B I n] w fun e w'=>∃a1,e=.returned (ah (s.jC A B))/\(cn rp rb b9 bY).J a1 (if s.jC A B=0 then {s with rg:=s.rg++[(s.gd B,s.th A)]} else s) w'/\b_ F w a1 w':=by
 have a3:=an w (dj 9 R A B I n)
 have P:=a0 (w.alloc (dj 9 R A B I n))
 have ab:av ((cn rp rb b9 bY).J F s w/\Below w.heap.size w (w.alloc (dj 9 R A B I n))):=⟨h,a3⟩
 have E:av (s.jC A B=if s.th A<0\/s.gd B<0 then 2 else if 24<=s.rg.length+s.wt.length then 3 else 0):=rfl;have ad:av (∀w',(cn rp rb b9 bY).J F s w'->Calls prog 44 #[aj rp,ah A] w' fun e ag=>e=.returned (ah (s.th A))/\ag=w'):=fun w' ai=>oC ai A cb;have al:av (∀w',(cn rp rb b9 bY).J F s w'->Calls prog 45 #[aj rp,ah B] w' fun e ag=>e=.returned (ah (s.gd B))/\ag=w'):=fun w' ai=>wW ai B hB aV;have cz:rp<w.heap.size:=(e5 h).2.2.2.1;have cc:av (∀b,F b->b<w.heap.size):=(cn rp rb b9 bY).lt h;clear h a3 a0 aV;generalize s.jC A B=z at E⊢;generalize s.th A=a at*;generalize s.gd B=g at*;obtain⟨cd,cf,cg,ch,ci⟩:=info_parts xG;go_enter func14,ntmps14;go_wp2_with fail;refine P.mono ?_;clear P;rintro e w1 ⟨rfl,ap⟩
 have f:=ab.o.2.trans (ap.mono Z)
 have H:=(cn rp rb b9 bY).below ab.o.1 f;have J:w1.heap[w.heap.size]?=some (dj 9 R A B I n):=(ap.block _ Z).trans (aL _ _)
 have q0:w1.cell? (am w.heap.size 0)=some (ah 9):=ay J
 have bb:w1.cell? (am w.heap.size 2)=some (ah A):=ay J
 have q3:w1.cell? (am w.heap.size 3)=some (ah B):=ay J
 have bd:=lt_of_some J;obtain⟨_,_,_,be,_,bg,_,_⟩:=e5 H;have bi:=bg 2;obtain⟨v2,cA,ar,cj,ax,bl,bn,bo⟩:=pU H;obtain⟨a2,m,K⟩:=dQ ax;obtain⟨cB,cC,ck⟩:=dQ bl;subst K ck;have f9:av ((cn rp rb b9 bY).J F s w1/\b_ F w F w1):=⟨H,b_.of f⟩
 have o:av (w1.ownsRow 0 97 2 (.slice a2 s.rg.length m) s.rg.length (ev s.rg)/\(∀(l:List bZ)(v1:Value)(w':au),Fr (fun b=>some b=(Value.slice a2 s.rg.length m).ownBlock) w1 w'->w'.ownsRow 0 97 2 v1 l.length (ev l)->(∀b,some b=v1.ownBlock->some b=(Value.slice a2 s.rg.length m).ownBlock\/w1.heap.size<=b)->
  (cn rp rb b9 bY).J (fun b=>F b\/some b=v1.ownBlock) {s with rg:=l} (w'.setCell ⟨rp,2,none⟩ v1)/\Fr F w1 (w'.setCell ⟨rp,2,none⟩ v1))/\∀b,some b=(Value.slice a2 s.rg.length m).ownBlock->F b):=⟨ax,bo,fun b e=>by
  obtain⟨own,cD,cE,cl,cF,hM,cm⟩:=H;have O:=hM.blk;have Q:cl=.slice a2 s.rg.length m:=by simpa[World.cell?,O] using ar
  exact(cm b).2 (by rw[hM.fN b (by rw[Q];exact e)];decide)⟩
 clear H f ap J bg ab ax bl bo;go_wp2_with fail;refine(ad.o w1 f9.o.1).mono ?_;rintro e d ⟨rfl,q⟩
 have q:=q.symm;subst q;by_cases ha:a<0
 ·have hz:z=2:=by rw[E.o,aH (aJ ha)]
  exact nF
 ·go_wp2_with fail;refine(al.o w1 f9.o.1).mono ?_;rintro e d ⟨rfl,q⟩
  have q:=q.symm;subst q;by_cases hg:g<0
  ·have hz:z=2:=by rw[E.o,aH (aI hg)]
   exact nF
  ·have cG:∃n:Nat,n=s.rg.length+s.wt.length:=⟨_,rfl⟩
   by_cases bp:24<=s.rg.length+s.wt.length
   ·have hz:z=3:=by rw[E.o,aE V,aH bp]
    have co:(24:Int)<=(s.rg.length:Int)+(s.wt.length:Int):=V
    go_upto_region 30 with fail
    go_quiet (fail)
    go_wp2_with fail;go_ret;have f:=below_drewN (ao w1) nq;exact⟨rfl,F,(cn rp rb b9 bY).below f9.o.1 f,f9.o.2.below f⟩
   ·have hz:z=0:=by rw[E.o,aE V,aE bp]
    have co:¬(24:Int)<=(s.rg.length:Int)+(s.wt.length:Int):=V
    go_upto_region 30 with fail
    go_quiet (fail)
    have f:=below_drewN (ao w1) nq;generalize w1.drewN nq=d at*;have aB:=(cn rp rb b9 bY).below f9.o.1 f;have aF:=(f.cell (p:=am w.heap.size 2) bd).trans bb;have aR:=(f.cell (p:=am w.heap.size 3) bd).trans q3;have K:=(f.cell (p:=am rp 2) be).trans ar;have br:=(f.frozen (p:=am rp 2) be).trans bi;have aT:rp<d.heap.size:=by have:=f.size;omega
    have bs:w.heap.size<d.heap.size:=by have:=f.size;omega
    have bt:=(ao d).drew;have L:=(an d (.cells #[.int .i64 g,.int .i64 a] 97)).drew;have bx:av ((d.alloc (.cells #[.int .i64 g,.int .i64 a] 97)).drew.ownsRow 0 97 2 (.slice a2 s.rg.length m) s.rg.length (ev s.rg)):=cv (f6 (cv o.o.1 (fun b e=>f.block b (ce o.o.1 b e).2)) _) (fun _ _=>rfl)
    have cp:=((ao d).drew).alloc bW (.cells #[.int .i64 g,.int .i64 a] 97)
    have cq:av ((d.drew.alloc (.cells #[.int .i64 g,.int .i64 a] 97)).ownsRow 0 97 2 (.slice a2 s.rg.length m) s.rg.length (ev s.rg)):=cv (w:=d) (cv o.o.1 (fun b e=>f.block b (ce o.o.1 b e).2)) (fun b e=>cp.block b (by have O:=(ce o.o.1 b e).2;have:=f.size;omega))
    have b0:=ad.o d.drew ((cn rp rb b9 bY).below aB bt)
    have b1:=al.o d.drew ((cn rp rb b9 bY).below aB bt)
    have b2:av (Below w1.heap.size w1 d):=f;clear bb q3 ar cj bi aB f ad al q0 E;go_wp2_with fail;have gB:rp≠w.heap.size:=V;have b3:some w.heap.size≠(Value.slice a2 s.rg.length m).ownBlock:=fun e=>by have:=cc.o _ (o.o.2.2 _ e);omega
    refine wp_region_noPanic ?_;refine wp_region_any ae ?_;have c:(d.drew.cell? (am w.heap.size 2)=some (ah A)/\d.drew.cell? (am w.heap.size 3)=some (ah B))/\d.drew.cell? (am rp 2)=some (.slice a2 s.rg.length m):=⟨⟨aF,aR⟩,K⟩
    refine qg (T:=fun w'=>w'.cell? (am w.heap.size 2)=some (ah A)/\w'.cell? (am w.heap.size 3)=some (ah B)) (S:=fun w'=>w'.cell? (am rp 2)=some (.slice a2 s.rg.length m)) (St:=[18]) _ _ _ _ ?_;refine et (i:=0) (v:=?_) rfl ae ae ae ae (fun _ _ _ h=>h) (aJ ⟨ac,?_⟩) c.1 (aI c.2) ?_
    rotate_left
    ·intro w k;go_simp
     try rfl
    try simp only [Act.put,List.getElem_toArray,List.getElem_cons_zero,List.setIfInBounds_toArray,List.set_cons_zero,List.set_cons_succ]
    refine et (i:=1) (v:=?_) rfl ae ae ae ae (fun _ _ _ h=>h) (aJ ⟨ac,?_⟩) c.1 (aI c.2) ?_
    rotate_left
    ·intro w k;go_simp
     try rfl
    try simp only [Act.put,List.getElem_toArray,List.getElem_cons_succ,List.getElem_cons_zero,List.setIfInBounds_toArray,List.set_cons_zero,List.set_cons_succ]
    refine et (i:=2) (v:=?_) rfl ae ae ae ae (fun _ _ _ h=>h) (aJ ⟨ac,?_⟩) c.1 (aI c.2) ?_
    rotate_left
    ·intro w k;go_simp
     try rfl
    try simp only [Act.put,List.getElem_toArray,List.getElem_cons_succ,List.getElem_cons_zero,List.setIfInBounds_toArray,List.set_cons_zero,List.set_cons_succ]
    refine et (i:=3) (v:=?_) rfl ae ae ae ae (fun _ _ _ h=>h) (aJ ⟨ac,?_⟩) c.1 (aI c.2) ?_
    rotate_left
    ·intro w k;go_simp
     try rfl
    try simp only [Act.put,List.getElem_toArray,List.getElem_cons_succ,List.getElem_cons_zero,List.setIfInBounds_toArray,List.set_cons_zero,List.set_cons_succ]
    refine D6 (i:=4) (v:=?_) rfl ae ae ae ae ae ae (fun _ _ _ h=>h) (aJ ⟨ac,?_⟩) c ?_
    rotate_left
    ·intro w k;have b5:=k.2;go_simp
     try rfl
    try simp only [Act.put,List.getElem_toArray,List.getElem_cons_succ,List.getElem_cons_zero,List.setIfInBounds_toArray,List.set_cons_zero,List.set_cons_succ]
    refine et (i:=5) (v:=?_) rfl ae ae ae ae (fun _ _ _ h=>h) (aJ ⟨ac,?_⟩) c.1 (aI c.2) ?_
    rotate_left
    ·intro w k;go_simp
     try rfl
    try simp only [Act.put,List.getElem_toArray,List.getElem_cons_succ,List.getElem_cons_zero,List.setIfInBounds_toArray,List.set_cons_zero,List.set_cons_succ]
    refine et (i:=6) (v:=?_) rfl ae ae ae ae (fun _ _ _ h=>h) (aJ ⟨ac,?_⟩) c.1 (aI c.2) ?_
    rotate_left
    ·intro w k;go_simp
     try rfl
    try simp only [Act.put,List.getElem_toArray,List.getElem_cons_succ,List.getElem_cons_zero,List.setIfInBounds_toArray,List.set_cons_zero,List.set_cons_succ]
    refine et (i:=7) (v:=?_) rfl ae ae ae ae (fun _ _ _ h=>h) (aJ ⟨ac,?_⟩) c.1 (aI c.2) ?_
    rotate_left
    ·intro w k;have b5:=k.1;have cr:=k.2;go_simp
     try rfl
    try simp only [Act.put,List.getElem_toArray,List.getElem_cons_succ,List.getElem_cons_zero,List.setIfInBounds_toArray,List.set_cons_zero,List.set_cons_succ]
    refine et (i:=9) (v:=?_) rfl ae ae ae ae (fun _ _ _ h=>h) (aJ ⟨ac,?_⟩) c.1 (aI c.2) ?_
    rotate_left
    ·intro w k;go_simp
     try rfl
    try simp only [Act.put,List.getElem_toArray,List.getElem_cons_succ,List.getElem_cons_zero,List.setIfInBounds_toArray,List.set_cons_zero,List.set_cons_succ]
    refine et (i:=10) (v:=?_) rfl ae ae ae ae (fun _ _ _ h=>h) (aJ ⟨ac,?_⟩) c.1 (aI c.2) ?_
    rotate_left
    ·intro w k;go_simp
     try rfl
    try simp only [Act.put,List.getElem_toArray,List.getElem_cons_succ,List.getElem_cons_zero,List.setIfInBounds_toArray,List.set_cons_zero,List.set_cons_succ]
    refine et (i:=11) (v:=?_) rfl ae ae ae ae (fun _ _ _ h=>h) (aJ ⟨ac,?_⟩) c.1 (aI c.2) ?_
    rotate_left
    ·intro w k;have b5:=k.1;have cr:=k.2;go_simp
     try rfl
    try simp only [Act.put,List.getElem_toArray,List.getElem_cons_succ,List.getElem_cons_zero,List.setIfInBounds_toArray,List.set_cons_zero,List.set_cons_succ]
    refine mK (i:=8) ae ?_;refine oP rfl rfl ?_;simp only [List.getElem_toArray,List.getElem_cons_succ,List.getElem_cons_zero];go_simp;refine b1.mono ?_;rintro e t ⟨rfl,x⟩
    have x:=x.symm;subst x;dsimp only;refine⟨⟨c.1,aI c.2⟩,?_⟩
    try simp only [Act.put,List.getElem_toArray,List.getElem_cons_succ,List.getElem_cons_zero,List.setIfInBounds_toArray,List.set_cons_zero,List.set_cons_succ]
    refine mK (i:=12) ae ?_;refine oP rfl rfl ?_;simp only [List.getElem_toArray,List.getElem_cons_succ,List.getElem_cons_zero];go_simp;refine b0.mono ?_;rintro e t ⟨rfl,x⟩
    have x:=x.symm;subst x;dsimp only;refine⟨⟨c.1,aI c.2⟩,?_⟩
    try simp only [Act.put,List.getElem_toArray,List.getElem_cons_succ,List.getElem_cons_zero,List.setIfInBounds_toArray,List.set_cons_zero,List.set_cons_succ]
    refine et (i:=13) (v:=?_) rfl ae ae ae ae (fun _ _ _ h=>h) (aJ ⟨ac,?_⟩) c.1 (aI c.2) ?_
    rotate_left
    ·intro w k;go_simp
     try rfl
    try simp only [Act.put,List.getElem_toArray,List.getElem_cons_succ,List.getElem_cons_zero,List.setIfInBounds_toArray,List.set_cons_zero,List.set_cons_succ]
    refine mK (i:=14) ae ?_;refine oP rfl rfl ?_;simp only [List.getElem_toArray,List.getElem_cons_succ,List.getElem_cons_zero];go_simp;refine mK (i:=15) ae ?_;refine oP rfl rfl ?_;refine wp_append_lies _ (.tmp 149) (.tmp 159) 89 rfl 0 97 cd (.agg #[ah 0,ah 0]) 2 16 underlying89 cf cg ch ci rfl aa (.slice a2 s.rg.length m) s.rg.length (ev s.rg) (by simp[Act.eval]) bx.o ⟨d.heap.size,0,none⟩ 1 1 [ah g,ah a] (by simp[Act.eval]) rfl ?_ ?_ aa (by unfold maxLen;omega) V Z _ rfl ?_
    ·(intro j u C;match j,C with|0,C=>(simp at C;subst C;simp[Addr.add])|1,C=>(simp at C;subst C;simp[Addr.add]))
    ·(intro u M;simp at M;rcases M with M|M<;>(subst M;rfl))
    intro b4 N t b6 D b7 cH;have U:=D.cell (a:=⟨rp,2,none⟩) (v:=.slice a2 s.rg.length m) ((L.cell (p:=am rp 2) aT).trans K) bn;have cs:t.frozen? (am rp 2)=false:=(World.frozen?_of_block (a:=⟨rp,2,none⟩) (D.block _ (aM aT L.size) bn)).trans ((L.frozen (p:=am rp 2) aT).trans br)
    have W:=D.cell (a:=⟨w.heap.size,2,none⟩) ((L.cell (p:=am w.heap.size 2) bs).trans aF) b3;have Y:=D.cell (a:=⟨w.heap.size,3,none⟩) ((L.cell (p:=am w.heap.size 3) bs).trans aR) b3;refine⟨⟨⟨W,Y⟩,aI U⟩,?_⟩
    try simp only [Act.put,List.getElem_toArray,List.getElem_cons_succ,List.getElem_cons_zero,List.setIfInBounds_toArray,List.set_cons_zero,List.set_cons_succ]
    have b8:av ((cn rp rb b9 bY).J (fun b=>F b\/some b=(Value.slice (ak b4) (s.rg.length+1) N).ownBlock) {s with rg:=s.rg++[(g,a)]} (t.setCell ⟨rp,2,none⟩ (.slice (some ⟨b4,0,none⟩) (s.rg.length+1) N))/\b_ F w (fun b=>F b\/some b=(Value.slice (ak b4) (s.rg.length+1) N).ownBlock) (t.setCell ⟨rp,2,none⟩ (.slice (some ⟨b4,0,none⟩) (s.rg.length+1) N))):=by
     have ct:=D.size;simp at ct;have cI:=b2.o.size;have ca:some b4=(Value.slice a2 s.rg.length m).ownBlock\/w1.heap.size<=b4:=b7.imp Eq.symm (fun e=>by
      have cJ:b4=d.heap.size+1:=by simpa using e
      omega)
     have cu:Fr (fun b=>some b=(Value.slice a2 s.rg.length m).ownBlock) w1 t:=(((Fr.of (X:=fun b=>some b=(Value.slice a2 s.rg.length m).ownBlock) b2.o).alloc _).drew).grown D (fun b e=>aJ e.symm)
     obtain⟨O,cw⟩:=o.o.2.1 (s.rg++[(g,a)]) (.slice (ak b4) (s.rg.length+1) N) t cu (by
      rw[kQ,aW];simpa[ev] using b6) (fun b e=>by
      simp[Value.ownBlock] at e;subst e;exact ca)
     refine⟨O,⟨f9.o.2.fr.trans cw f9.o.2.sub,fun b G=>?_⟩⟩
     rcases G with G|G
     ·exact aJ G
     ·simp[Value.ownBlock] at G;subst G;rcases ca with Q|Q
      ·exact aJ (o.o.2.2 _ Q)
      ·exact aI V
    clear b6 D b7 o bx cq;refine et (i:=16) (v:=?_) rfl ae ae ae ae (fun _ _ _ h=>h) (aJ ⟨ac,?_⟩) ⟨W,Y⟩ (aI U) ?_
    rotate_left
    ·intro w k;go_simp
     try rfl
    try simp only [Act.put,List.getElem_toArray,List.getElem_cons_succ,List.getElem_cons_zero,List.setIfInBounds_toArray,List.set_cons_zero,List.set_cons_succ]
    refine et (i:=17) (v:=?_) rfl ae ae ae ae (fun _ _ _ h=>h) (aJ ⟨ac,?_⟩) ⟨W,Y⟩ (aI U) ?_
    rotate_left
    ·intro w k;go_simp
     try rfl
    try simp only [Act.put,List.getElem_toArray,List.getElem_cons_succ,List.getElem_cons_zero,List.setIfInBounds_toArray,List.set_cons_zero,List.set_cons_succ]
    refine mK (i:=18) ae ?_;refine oP rfl rfl ?_;simp only [List.getElem_toArray,List.getElem_cons_succ,List.getElem_cons_zero];go_simp;refine⟨⟨18,Z,ae⟩,?_⟩
    refine sT ae ?_ _;refine NoPanic.normal ?_;clear b0 b1 aF aR K br U cs W Y;go_wp2_with fail;go_ret;exact⟨rfl,_,b8.o.1,b8.o.2⟩
end
end Go.Proofs.YtjpjpjemibgjpaaGreat
