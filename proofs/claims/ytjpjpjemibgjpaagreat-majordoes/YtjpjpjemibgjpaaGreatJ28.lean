import Derived.Test.YtjpjpjemibgjpaaGreatJ27
import Derived.Test.YtjpjpjemibgjpaaGreatJ00
import Derived.Test.YtjpjpjemibgjpaaGreatJ15
import Derived.Test.YtjpjpjemibgjpaaGreatJ17
import Derived.Test.YtjpjpjemibgjpaaGreatJ01
import Derived.Test.YtjpjpjemibgjpaaGreatJ02
import Derived.Test.YtjpjpjemibgjpaaGreatJ07
import Derived.Test.YtjpjpjemibgjpaaGreatJ19
import Derived.Test.YtjpjpjemibgjpaaGreatJ06
namespace Go.Proofs.YtjpjpjemibgjpaaGreat
set_option maxRecDepth 100000
set_option maxHeartbeats 4000000
open Tryz
open Go.RowKit W Kp bY
theorem zY {a:Wc}{aT:Nat->Prop}{S:bZ}{w:World}{bS a1:Option Addr}{k0 k1:Nat}(hw:(dD a).J aT S.s w)(hs:gS w a.sd bS k0 a1 k1 S.r S.q)(h0:S.r.length<=90000)(bT:S.q.length<=90000):
 Calls prog 50 #[af a.pw] w fun e w'=>∃(c:eB)(ar:Option Addr)(br:Nat)(m:Nat->Prop),e=.returned (af c.pk)/\(cA (cZ c (S.s.j0 a)) c.bs (.slice ar S.r.length br)).J m (dw,S.q) w'/\w'.ownsRow 0 83 2 (.slice ar S.r.length br) S.r.length (ev S.r)/\(∀b,some b=(Value.slice ar S.r.length br).ownBlock->¬m b/\w.heap.size<=b)/\(∀b,m b->aT b\/w.heap.size<=b)/\Below w.heap.size w w':=by
 have cJ:=@run_makeMap prog;obtain⟨c0,_,c2,_,W,_⟩:=hH hw;have P:=(hG hw).1;have n1:=P.hN';have cr:=P.hO;have cs:=P.hg;have n4:=P.hy;have bs:Hid (cu (S.s.j0 a) dw):=cu.start n1 cr n4 cs;have F:Hid ((dD a).J aT S.s w/\At w a.p a.q a.N a.O S.s.y S.s.g S.s.ws):=⟨hw,P⟩
 have bU:=lt_of_some hs.blk;have aV:Below w.heap.size w (w.alloc (.map #[] 0)):=(Below.refl _ w).alloc bJ _;have bV:=zX (w.alloc (.map #[] 0)) a.sd bS a1 k0 k1 S.r S.q ⟨(aV.block _ bU).trans hs.blk,ca hs.r0 (fun b e=>aV.block b (bR hs.r0 b e).2),ca hs.q0 (fun b e=>aV.block b (bR hs.q0 b e).2)⟩ h0 bT;have bW:Hid (Mp (w.alloc (.map #[] 0)) w.heap.size [] (fun _=>-1)):=⟨_,World.ownsMap_made w prog 3 (plainElem (H:=Unit) prog 3),fun _=>rfl,fun a ha=>by simp at ha⟩
 clear hw hs P aV bU h0 bT;go_enter func50,ntmps50;go_wp2_with fail;refine bV.mono ?_;clear bV;rintro e w1 ⟨ps,b0,l,b1,o,rfl,bX,t,g0,g1,bY,a0⟩
 have ct:=a0.size;simp only [World.size_alloc] at ct bX g0 g1;have X:Hid (eC a S w w1.heap.size w.heap.size ps b0 l b1 o (.slice none 0 0) (.slice none 0 0) [] (w1.alloc (.cells #[.pointer (some ⟨a.pw,0,none⟩),.slice none 0 0,.slice none 0 0,.map (some w.heap.size),.pointer (some ⟨ps,0,none⟩),.slice none 0 0,.slice none 0 0] 115))/\(w1.alloc (.cells #[.pointer (some ⟨a.pw,0,none⟩),.slice none 0 0,.slice none 0 0,.map (some w.heap.size),.pointer (some ⟨ps,0,none⟩),.slice none 0 0,.slice none 0 0] 115)).heap.size=w1.heap.size+1):=by
  have Y:=(Below.refl w1.heap.size w1).alloc bJ (.cells #[af a.pw,.slice none 0 0,.slice none 0 0,.map (some w.heap.size),af ps,.slice none 0 0,.slice none 0 0] 115)
  have cv:Below w.heap.size w w1:=((Below.refl _ w).alloc bJ (.map #[] 0)).trans (a0.mono V)
  refine⟨{bl:=cv.trans (Y.mono I),cb:=aw _ _,sd:=⟨(Y.block _ (lt_of_some t.blk)).trans t.blk,ca t.r0 (fun b e=>Y.block b (bR t.r0 b e).2),ca t.q0 (fun b e=>Y.block b (bR t.q0 b e).2)⟩,mp:=(bW.out.same (a0.block _ V)).same (Y.block _ I),iS:=rfl,hZ:=I,pp:=lt_of_some t.blk,l0:=fun k e=>⟨?_,(bR t.r0 k e).2⟩,l1:=fun k e=>⟨?_,(bR t.q0 k e).2⟩,ln:=bY},V⟩
  ·cases hb:b0 with
   |none=>rw[hb] at e;simp[Value.ownBlock] at e
   |some z=>
    rw[hb] at e;have cw:k=z.block:=by simpa[Value.ownBlock] using e
    have:=g0 z hb;omega
  ·cases hb:b1 with
   |none=>rw[hb] at e;simp[Value.ownBlock] at e
   |some z=>
    rw[hb] at e;have cw:k=z.block:=by simpa[Value.ownBlock] using e
    have:=g1 z hb;omega
 clear t g0 g1 bY a0 bW bX;have s:=(X.out.1.bl.cell (p:=ah a.pw 0) W).trans c0;have i:=jQ _ (F.out.2.below X.out.1.bl bJ)
 go_wp2_with fail;refine i.mono ?_;clear i s;rintro e b2 ⟨rfl,bx⟩
 have ad:Hid (eC a S w w1.heap.size w.heap.size ps b0 l b1 o (.slice none 0 0) (.slice none 0 0) [] b2/\w1.heap.size+1<=b2.heap.size):=⟨X.out.1.below bx,by have:=bx.size;have:=X.out.2;omega⟩
 clear bx X;have s:=(ad.out.1.bl.cell (p:=ah a.pw 0) W).trans c0;have i:=iZ _ (F.out.2.below ad.out.1.bl bJ)
 go_wp2_with fail;refine i.mono ?_;clear i s;rintro e w3 ⟨rfl,bM⟩
 have Q:Hid (eC a S w w1.heap.size w.heap.size ps b0 l b1 o (.slice none 0 0) (.slice none 0 0) [] w3/\w1.heap.size+1<=w3.heap.size):=⟨ad.out.1.below bM,by have:=bM.size;have:=ad.out.2;omega⟩
 clear bM ad;have s:=(Q.out.1.bl.cell (p:=ah a.pw 0) W).trans c0;have i:=zQ _ (F.out.2.below Q.out.1.bl bJ)
 go_wp2_with fail;refine i.mono ?_;clear i s;rintro e a2 ⟨v1,v2,rfl,a3,bb,b3,b4⟩
 obtain⟨y1,m1,rfl⟩:=dG a3;obtain⟨d,g,rfl⟩:=dG bb;have u:Hid (eC a S w w1.heap.size w.heap.size ps b0 l b1 o (.slice none 0 0) (.slice none 0 0) [] a2/\a2.ownsRow (w1.heap.size+1) 3 1 (.slice y1 (dv a.N S.s.y S.s.g S.s.ws).length m1) (dv a.N S.s.y S.s.g S.s.ws).length ((dv a.N S.s.y S.s.g S.s.ws).map (Value.int .i64))/\a2.ownsRow (w1.heap.size+1) 3 1 (.slice d (c8 a.N S.s.y S.s.g S.s.ws).length g) (c8 a.N S.s.y S.s.g S.s.ws).length ((c8 a.N S.s.y S.s.g S.s.ws).map (Value.int .i64))/\(∀b,some b=(Value.slice y1 (dv a.N S.s.y S.s.g S.s.ws).length m1).ownBlock->some b≠(Value.slice d (c8 a.N S.s.y S.s.g S.s.ws).length g).ownBlock)):=⟨Q.out.1.below b4,d5 a3 (fun b e=>az Q.out.2 (bR a3 b e).1),d5 bb (fun b e=>az Q.out.2 (bR bb b e).1),b3⟩
 clear b4 Q a3 bb b3;have bd:Hid ((dv a.N S.s.y S.s.g S.s.ws).length<=2000/\(c8 a.N S.s.y S.s.g S.s.ws).length<=2000/\(∀x∈dv a.N S.s.y S.s.g S.s.ws,0<=x/\x<=2000)/\∀x∈c8 a.N S.s.y S.s.g S.s.ws,0<=x/\x<=2000):=⟨gx _ _,gx _ _,fun x v=>by have:=lx x v;omega,fun x v=>by have:=ng x v;omega⟩
 have b5:w1.heap.size<w1.heap.size+1/\a.pw<w1.heap.size+1/\a.p<w1.heap.size+1/\a.q<w1.heap.size+1:=by have q1:=F.out.2.ee;have be:=F.out.2.ef;omega
 obtain⟨u0,ai,al,ax,G,aB⟩:=u.out.1.cells;have s:=(u.out.1.bl.cell (p:=ah a.pw 0) W).trans c0;have aF:=G 1;have i:=tY a2 (F.out.2.below u.out.1.bl bJ) u0 s (dv a.N S.s.y S.s.g S.s.ws) y1 m1 (w1.heap.size+1) (0+S.s.y) (by have:=bd.out.1;omega) (fun x v=>by have:=bd.out.2.2.1 x v;omega) u.out.2.1 b5;rw[Int.zero_add] at i;have cx:Hid (dA (fun x=>decide ((S.s.y:Int)<=x+pf (ld a.N S.s.y S.s.g S.s.ws x))) (dv a.N S.s.y S.s.g S.s.ws)=(S.s.j0 a).Y):=rfl;rw[cx.out] at i;clear al ax G s;go_wp2_with fail;refine i.mono ?_;clear i u0 ai aB aF;rintro r C ⟨rfl,b6,bN⟩
 have b7:∀b,some b=(Value.slice y1 (dv a.N S.s.y S.s.g S.s.ws).length m1).ownBlock->w1.heap.size<b:=fun b e=>(bR u.out.2.1 b e).1;have J:Hid (eC a S w w1.heap.size w.heap.size ps b0 l b1 o (.slice none 0 0) (.slice none 0 0) [] C/\C.ownsRow (w1.heap.size+1) 3 1 (.slice y1 (S.s.j0 a).Y.length m1) (S.s.j0 a).Y.length ((S.s.j0 a).Y.map (Value.int .i64))/\C.ownsRow (w1.heap.size+1) 3 1 (.slice d (c8 a.N S.s.y S.s.g S.s.ws).length g) (c8 a.N S.s.y S.s.g S.s.ws).length ((c8 a.N S.s.y S.s.g S.s.ws).map (Value.int .i64))/\(∀n n' b,some b=(Value.slice y1 n m1).ownBlock->some b≠(Value.slice d n' g).ownBlock)):=by
  refine⟨u.out.1.fr bN b7,b6,fQ u.out.2.2.1 bN (fun b e M=>u.out.2.2.2 b M e),fun n n' b e=>?_⟩
  have q:=u.out.2.2.2 b (by
   cases y1 with
   |none=>simp[Value.ownBlock] at e
   |some z=>simpa[Value.ownBlock] using e)
  cases d with
  |none=>simp[Value.ownBlock]
  |some z=>simpa[Value.ownBlock] using q
 clear b6 bN b7 u;obtain⟨u0,ai,al,ax,G,aB⟩:=J.out.1.cells;have aF:=G 1;have K:Hid (eC a S w w1.heap.size w.heap.size ps b0 l b1 o (.slice y1 (S.s.j0 a).Y.length m1) (.slice none 0 0) [] (C.setCell ⟨w1.heap.size,1,none⟩ (.slice y1 (S.s.j0 a).Y.length m1))/\(C.setCell ⟨w1.heap.size,1,none⟩ (.slice y1 (S.s.j0 a).Y.length m1)).ownsRow (w1.heap.size+1) 3 1 (.slice y1 (S.s.j0 a).Y.length m1) (S.s.j0 a).Y.length ((S.s.j0 a).Y.map (Value.int .i64))/\(C.setCell ⟨w1.heap.size,1,none⟩ (.slice y1 (S.s.j0 a).Y.length m1)).ownsRow (w1.heap.size+1) 3 1 (.slice d (c8 a.N S.s.y S.s.g S.s.ws).length g) (c8 a.N S.s.y S.s.g S.s.ws).length ((c8 a.N S.s.y S.s.g S.s.ws).map (Value.int .i64))):=by have f:Fr (fun b=>b=w1.heap.size) C (C.setCell ⟨w1.heap.size,1,none⟩ (.slice y1 (S.s.j0 a).Y.length m1)):=(Fr.refl _ C).set _ 1 _ rfl;exact⟨J.out.1.set1 _,fQ J.out.2.1 f (fun b e M=>by have:=(bR J.out.2.1 b e).1;omega),fQ J.out.2.2.1 f (fun b e M=>by have:=(bR J.out.2.2.1 b e).1;omega)⟩
 have b8:Hid (∀n n' b,some b=(Value.slice y1 n m1).ownBlock->some b≠(Value.slice d n' g).ownBlock):=J.out.2.2.2;clear J u0 al ax G;obtain⟨s0,s1,s2,aR,s4,s5⟩:=K.out.1.cells;have s:=(K.out.1.bl.cell (p:=ah a.pw 0) W).trans c0;have s6:=s4 2;have i:=tY _ (F.out.2.below K.out.1.bl bJ) s0 s (c8 a.N S.s.y S.s.g S.s.ws) d g (w1.heap.size+1) ((a.N:Int)+S.s.g) (by have:=bd.out.2.1;omega) (fun x v=>by have:=bd.out.2.2.2 x v;omega) K.out.2.2 b5;have cy:Hid (dA (fun x=>decide ((a.N:Int)+S.s.g<=x+pf (ld a.N S.s.y S.s.g S.s.ws x))) (c8 a.N S.s.y S.s.g S.s.ws)=(S.s.j0 a).G):=rfl;rw[cy.out] at i;clear s1 s2 aR s4 s;go_wp2_with fail;refine i.mono ?_;clear i s0 s5 s6 ai aB aF;rintro r E ⟨rfl,b9,bO⟩
 have cc:∀b,some b=(Value.slice d (c8 a.N S.s.y S.s.g S.s.ws).length g).ownBlock->w1.heap.size<b:=fun b e=>(bR K.out.2.2 b e).1;have N:Hid (eC a S w w1.heap.size w.heap.size ps b0 l b1 o (.slice y1 (S.s.j0 a).Y.length m1) (.slice none 0 0) [] E/\E.ownsRow (w1.heap.size+1) 3 1 (.slice y1 (S.s.j0 a).Y.length m1) (S.s.j0 a).Y.length ((S.s.j0 a).Y.map (Value.int .i64))/\E.ownsRow (w1.heap.size+1) 3 1 (.slice d (S.s.j0 a).G.length g) (S.s.j0 a).G.length ((S.s.j0 a).G.map (Value.int .i64))):=⟨K.out.1.fr bO cc,fQ K.out.2.1 bO (fun b e M=>b8.out _ _ b e M),b9⟩
 clear b9 bO cc K;obtain⟨u0,ai,al,ax,G,aB⟩:=N.out.1.cells;have aF:=G 2;have A:Hid (eC a S w w1.heap.size w.heap.size ps b0 l b1 o (.slice y1 (S.s.j0 a).Y.length m1) (.slice d (S.s.j0 a).G.length g) [] (E.setCell ⟨w1.heap.size,2,none⟩ (.slice d (S.s.j0 a).G.length g))/\(E.setCell ⟨w1.heap.size,2,none⟩ (.slice d (S.s.j0 a).G.length g)).ownsRow (w1.heap.size+1) 3 1 (.slice y1 (S.s.j0 a).Y.length m1) (S.s.j0 a).Y.length ((S.s.j0 a).Y.map (Value.int .i64))/\(E.setCell ⟨w1.heap.size,2,none⟩ (.slice d (S.s.j0 a).G.length g)).ownsRow (w1.heap.size+1) 3 1 (.slice d (S.s.j0 a).G.length g) (S.s.j0 a).G.length ((S.s.j0 a).G.map (Value.int .i64))):=by have f:Fr (fun b=>b=w1.heap.size) E (E.setCell ⟨w1.heap.size,2,none⟩ (.slice d (S.s.j0 a).G.length g)):=(Fr.refl _ E).set _ 2 _ rfl;exact⟨N.out.1.set2 _,fQ N.out.2.1 f (fun b e M=>by have:=(bR N.out.2.1 b e).1;omega),fQ N.out.2.2 f (fun b e M=>by have:=(bR N.out.2.2 b e).1;omega)⟩
 clear N u0 ai ax G;obtain⟨s0,s1,s2,aR,s4,s5⟩:=A.out.1.cells;have bg:Hid ((S.s.j0 a).T=(S.s.j0 a).G++(S.s.j0 a).Y/\(S.s.j0 a).T.length=(S.s.j0 a).G.length+(S.s.j0 a).Y.length/\(S.s.j0 a).T.length<=4000/\∀x∈(S.s.j0 a).T,0<=x/\x<=2000):=⟨rfl,by unfold bL.T;rw[aJ],bs.out.tl,bs.out.ps⟩
 have cd:=bg.out.2.1;have cK:=bg.out.2.2.1;have i:=zT _ w1.heap.size (S.s.j0 a).G (S.s.j0 a).Y d y1 g m1 s1 s2 (d5 A.out.2.1 (fun _ _=>aA _)) (d5 A.out.2.2 (fun _ _=>aA _)) I;rw[<-cd,<-bg.out.1] at i;clear s0 s1 s2 aR s4 cd;go_wp2_with fail;refine i.mono ?_;clear i s5 al aB aF;rintro e O ⟨cz,cB,rfl,bP,bi⟩
 have L:Hid (eC a S w w1.heap.size w.heap.size ps b0 l b1 o (.slice y1 (S.s.j0 a).Y.length m1) (.slice d (S.s.j0 a).G.length g) [] O/\O.ownsRow (w1.heap.size+1) 3 1 (.slice y1 (S.s.j0 a).Y.length m1) (S.s.j0 a).Y.length ((S.s.j0 a).Y.map (Value.int .i64))/\O.ownsRow (w1.heap.size+1) 3 1 (.slice d (S.s.j0 a).G.length g) (S.s.j0 a).G.length ((S.s.j0 a).G.map (Value.int .i64))/\O.ownsRow (w1.heap.size+1) 3 1 (.slice cz (S.s.j0 a).T.length cB) (S.s.j0 a).T.length ((S.s.j0 a).T.map (Value.int .i64))):=⟨A.out.1.below bi,ca A.out.2.1 (fun b e=>bi.block b (bR A.out.2.1 b e).2),ca A.out.2.2 (fun b e=>bi.block b (bR A.out.2.2 b e).2),d5 bP (fun b e=>by have:=(bR bP b e).1;have q:=A.out.1.cells.2.2.2.2.2;omega)⟩
 clear bP bi A;go_wp2_with fail
 go_loopw [66] (fun iv wr=>∃j:Nat,j<=(S.s.j0 a).T.length/\iv=ae j/\Hid (eC a S w w1.heap.size w.heap.size ps b0 l b1 o (.slice y1 (S.s.j0 a).Y.length m1) (.slice d (S.s.j0 a).G.length g) ((S.s.j0 a).T.take j) wr/\Fr (fun b=>b=w.heap.size) O wr)) (fun iv _=>(S.s.j0 a).T.length-(intOf iv).toNat)
 case atStart=>exact⟨0,aA _,rfl,L.out.1,Fr.refl _ _⟩
 case round=>
  obtain⟨j,cL,rfl,B⟩:=hrel;by_cases bn:j<(S.s.j0 a).T.length
  ·obtain⟨R,ce,cf,cC,hc⟩:=ga L.out.2.2.2 I;have cD:w1.heap.size<R/\R<O.heap.size:=by
    have:=bR L.out.2.2.2 R (by rw[cf];rfl)
    omega
   have cg:wr.cell? (ah R (ce+j))=some (ae ((S.s.j0 a).T.getD j 0)):=(aD (a:=⟨R,ce+j,none⟩) (B.out.2.block R cD.2 (fun e=>by have:=B.out.1.hZ;have:=B.out.1.pp;omega))).trans (hc j bn)
   have hm:(S.s.j0 a).T.getD j 0∈(S.s.j0 a).T:=by rw[aj,am bn];exact aK bn
   have v:=bg.out.2.2.2 _ hm;have ch:Hid ((S.s.j0 a).T.take (j+1)=(S.s.j0 a).T.take j++[(S.s.j0 a).T.getD j 0]):=eY _ j bn 0;generalize (S.s.j0 a).T.getD j 0=x at cg v ch;obtain⟨D,o1,ci,cj⟩:=B.out.1.mp;obtain⟨s0,s1,s2,aR,s4,s5⟩:=B.out.1.cells;have ck:=hF (a:=x) v.1 I;have cl:=kz (-1) Z;have ht:((S.s.j0 a).T.take j).length=j:=by rw[a5];omega
   have bo:Hid (wr.ownsMap prog 3 (plainElem prog 3) w.heap.size ((S.s.j0 a).T.take j).length D/\(∀bp:Int,Maps.has D (.int .i64 bp)=((S.s.j0 a).T.take j).contains bp)/\∀bp∈(S.s.j0 a).T.take j,D.atKey (.int .i64 bp) (.lit (.int .i64 0))=.lit (.int .i64 (-1))):=⟨o1,ci,cj⟩
   have j0:(0:Int)<=(j:Int):=I;have cM:(j:Int)<((S.s.j0 a).T.length:Int):=I;clear ci cj hc cC hm s0 s1 s2 s4;subst cf;go_wp2_with (first
    |(at_mapUpdate;refine wpList_mapUpdate_own _ rfl _ _ _ 108 rfl 3 3 gz Tryz.underlying108 (plainElem (H:=Unit) prog 3) w.heap.size ((S.s.j0 a).T.take j).length D rfl o1 (by unfold maxLen;omega) _ _ _ rfl rfl ck _ [] cl ?_;intro bQ cm cn)
    |go_in)
   have cE:Hid (eC a S w w1.heap.size w.heap.size ps b0 l b1 o (.slice y1 (S.s.j0 a).Y.length m1) (.slice d (S.s.j0 a).G.length g) ((S.s.j0 a).T.take (j+1)) bQ/\Fr (fun b=>b=w.heap.size) O bQ):=by
    have co:Fr (fun b=>b=w.heap.size) wr bQ:=(Fr.refl _ wr).grown cn (fun b e=>ap (by cases e;rfl))
    have cF:=Mp.add (f:=fun _=>-1) bo.out.1 bo.out.2.1 bo.out.2.2 rfl rfl cm;have cp:=B.out.1.add co cF;rw[<-ch.out] at cp;exact⟨cp,B.out.2.trans co (fun b e=>ap e)⟩
   clear B bo cm cn o1 cg aR s5 ck cl;go_roundw
   case rel=>exact⟨j+1,I,ac,cE⟩
   case measure=>simp[intOf];omega
  ·obtain rfl:j=(S.s.j0 a).T.length:=I;have cG:Hid (∃(m:Nat->Prop),(cA (cZ ⟨w1.heap.size,w.heap.size,ps,.slice y1 (S.s.j0 a).Y.length m1,.slice d (S.s.j0 a).G.length g⟩ (S.s.j0 a)) ps (.slice b0 S.r.length l)).J m (dw,S.q) wr/\wr.ownsRow 0 83 2 (.slice b0 S.r.length l) S.r.length (ev S.r)/\(∀b,some b=(Value.slice b0 S.r.length l).ownBlock->¬m b/\w.heap.size<=b)/\(∀b,m b->aT b\/w.heap.size<=b)/\Below w.heap.size w wr):=by
    obtain⟨U,cq⟩:=B.out;rw[aP] at U;have ne:∀b,w1.heap.size+1<=b->¬b=w.heap.size:=fun b hb e=>by have:=U.hZ;have:=U.pp;omega
    obtain⟨m,q1,be,q3⟩:=U.done F.out.1 bs.out (fQ L.out.2.1 cq (fun b e=>ne b (bR L.out.2.1 b e).1)) (fQ L.out.2.2.1 cq (fun b e=>ne b (bR L.out.2.2.1 b e).1)) (fun b e=>b8.out _ _ b e)
    exact⟨m,q1,U.sd.r0,be,q3,U.bl⟩
   clear B L;go_wp2_with fail;go_ret;obtain⟨m,q1,be,q3,cH,cI⟩:=cG.out;exact⟨⟨w1.heap.size,w.heap.size,ps,.slice y1 (S.s.j0 a).Y.length m1,.slice d (S.s.j0 a).G.length g⟩,b0,l,m,rfl,q1,be,q3,cH,cI⟩
def eD (g:Int->Nat)(l:List Int):Nat:=(l.map g).sum
theorem nW (g:Int->Nat)(a:Int)(l:List Int):eD g (a::l)=g a+eD g l:=by simp[eD]
theorem zZ (g:Int->Nat)(l m:List Int):eD g (l++m)=eD g l+eD g m:=by simp[eD]
def j9 (a:List (Int×List (Int×Int))):Nat:=(a.map (fun nd=>1+if nd.1=5 then 0 else nd.2.length)).sum
theorem t5 {kd:Int->Int}{z:Int->Nat}:∀(b:List (Int×List (Int×Int)))(l:List Int),b.length=l.length->(∀i,i<l.length->(1+if(b.getD i (0,[])).1=5 then 0 else(b.getD i (0,[])).2.length)=z (l.getD i 0))->j9 b=eD z l
 |[],[],_,_=>rfl
 |[],x::l,h,_=>by simp at h
 |x::b,[],h,_=>by simp at h
 |nd::b,a::l,h,e=>by
  have h0:=e 0 V;have c:=t5 (kd:=kd) b l (by simpa using h) (fun i hi=>by
   have:=e (i+1) (by simpa using hi)
   simpa using this)
  rw[nW,<-c];simp at h0;simp[j9,h0]
open Go.RowKit W
section
variable {N O y g:Nat}{ws:List Int}{Y G:List Int}
theorem lN {x i:Int}(h:dH N y g ws x i=0):tB N y g ws x=true/\pk (ld N y g ws (bQ x))≠5/\0<=i/\i<ge N y g (bQ x) (pf (ld N y g ws (bQ x))):=by
 unfold dH at h;by_cases ht:tB N y g ws x=true
 ·rw[aq ht] at h;by_cases a:pk (ld N y g ws (bQ x))=5
  ·rw[aq a] at h;omega
  ·rw[ao a] at h;by_cases hi:i<0\/ge N y g (bQ x) (pf (ld N y g ws (bQ x)))<=i
   ·rw[aq hi] at h;omega
   ·exact⟨ht,a,I,I⟩
 ·rw[ao ht] at h;omega
theorem pY {x:Int}(h:dS N y g ws Y G)(hN:N<=256)(hy:y<=N)(hO:O<=1024)(hg:g<=O)(ht:tB N y g ws x=true):cI x=true/\(bQ x∈Y\/bQ x∈G):=by obtain⟨a,b⟩:=h.lists (O:=O) hN hy hO hg;unfold tB at ht;rw[a,b] at ht;simpa using ht
theorem z1 (x i z c:Int)(M:List Int):(stM N y g ws x i z c M).length<=M.length+1:=by
 unfold stM;split
 ·unfold jk;split
  ·exact wP _ _
  ·omega
 ·omega
end
open Go.RowKit W mx
structure gm (N y g:Nat)(ws Y G rs:List Int):Prop where
 full:dS N y g ws Y G
 rt:∀x∈rs,cI x=true->bQ x∈Y\/bQ x∈G
 fd:∀v,(v∈Y\/v∈G)->∀i,0<=i->i<pf (ld N y g ws v)->cI (ld N y g ws (v+1+i))=true->bQ (ld N y g ws (v+1+i))∈Y\/bQ (ld N y g ws (v+1+i))∈G
section
variable {N O y g:Nat}{ws Y G rs:List Int}
theorem kR (n:Nat)(h:n<1000000):cI (ew 3 n)=true/\bQ (ew 3 n)=n:=by have h0:=lZ (n:Int) I I;have a:=kk 3 n h0;exact⟨a.1,a.2 rfl⟩
theorem gm.root (h:gm N y g ws Y G rs)(k:Nat)(x:Int)(a:cI x=true->bQ x∈Y\/bQ x∈G):gm N y g ws Y G (rs.set k x):=
 ⟨h.full,fun z hz=>by
  rcases List.mem_or_eq_of_mem_set hz with hz|hz
  ·exact h.rt z hz
  ·rw[hz];exact a,h.fd⟩
theorem gm.at (h:gm N y g ws Y G rs)(k:Nat)(hk:k<rs.length)(ha:cI (rs.getD k 0)=true):bQ (rs.getD k 0)∈Y\/bQ (rs.getD k 0)∈G:=
 h.rt _ (by rw[aj,am hk];exact aK hk) ha
theorem lO (h:dS N y g ws Y G){v i:Int}(a:v∈Y)(b:0<=i)(c:i<pf (ld N y g ws v)):0<=v+1+i/\v+1+i<y:=by have d:=h.ty.mem v a;have e:=h.f4 v a;omega
theorem kS (h:dS N y g ws Y G){v i:Int}(a:v∈G)(b:0<=i)(c:i<pf (ld N y g ws v)):(N:Int)<=v+1+i/\v+1+i<(N:Int)+g:=by have d:=h.dN.mem v a;have e:=h.io v a;omega
theorem i6 (h:dS N y g ws Y G){v i:Int}(a:v∈Y\/v∈G)(b:0<=i)(c:i<pf (ld N y g ws v)):cO N y g (v+1+i)=true:=by
 rcases a with a|a
 ·have:=lO h a b c;exact gM this.1 this.2
 ·have:=kS h a b c;exact eK this.1 this.2
theorem gm.make (h:gm N y g ws Y G rs)(hl:ws.length=N+O){k f:Int}(hm:gu N y k f=true):gm N (dU N y k f) g (dR N y k f ws) (Y++[(y:Int)]) G rs:=by
 have n:=h.full.make hl hm;obtain⟨o,u⟩:=jS hm;have w:=gK k f o;have p:dU N y k f=y+1+f.toNat:=by unfold dU;rw[aq hm]
 have q:dR N y k f ws=eA ws y (hw k f) f.toNat:=by unfold dR;rw[aq hm]
 have e:y+f.toNat<ws.length:=I;rw[p,q] at n⊢;have s:ld N (y+1+f.toNat) g (eA ws y (hw k f) f.toNat) y=hw k f:=o3 _ _ e;have hp:=m3 k f o;have mem:∀{z:Int},(z∈Y\/z∈G)->(z∈Y++[(y:Int)]\/z∈G):=fun hz=>hz.imp (fun c=>aL _ c) id;refine⟨n,fun x t ha=>mem (h.rt x t ha),fun v a i l d ha=>?_⟩
 rcases a with a|a
 ·rcases List.mem_append.1 a with a|a
  ·have hi:=h.full.f4 v a;have m:ld N (y+1+f.toNat) g (eA ws y (hw k f) f.toNat) v=ld N y g ws v:=by rw[dh (gM hi.1 I),dh (gM hi.1 hi.2),gW _ _ _ _ _ e,ao I,ao I]
   rw[m] at d;have b:=lO h.full a l d;have j:ld N (y+1+f.toNat) g (eA ws y (hw k f) f.toNat) (v+1+i)=ld N y g ws (v+1+i):=by rw[dh (gM b.1 I),dh (gM b.1 b.2),gW _ _ _ _ _ e,ao I,ao I]
   rw[j] at ha⊢;exact mem (h.fd v (ap a) i l d ha)
  ·simp at a;subst a;rw[s,hp.2.1] at d;have j:ld N (y+1+f.toNat) g (eA ws y (hw k f) f.toNat) ((y:Int)+1+i)=2:=by rw[dh (gM I I),gW _ _ _ _ _ e,ao I,aq I]
   rw[j] at ha;exact absurd ha Z
 ·have hi:=h.full.io v a;have m:ld N (y+1+f.toNat) g (eA ws y (hw k f) f.toNat) v=ld N y g ws v:=by rw[dh (eK hi.1 hi.2),dh (eK hi.1 hi.2),gW _ _ _ _ _ e,ao I,ao I]
  rw[m] at d;have b:=kS h.full a l d;have j:ld N (y+1+f.toNat) g (eA ws y (hw k f) f.toNat) (v+1+i)=ld N y g ws (v+1+i):=by rw[dh (eK b.1 b.2),dh (eK b.1 b.2),gW _ _ _ _ _ e,ao I,ao I]
  rw[j] at ha⊢;exact mem (h.fd v (an a) i l d ha)
theorem gm.set (h:gm N y g ws Y G rs)(hl:ws.length=N+O)(hy:y<=N)(hg:g<=O){v i z:Int}(c:v∈Y\/v∈G)(d:0<=i)(f:i<pf (ld N y g ws v))(hz:cI z=true->bQ z∈Y\/bQ z∈G):gm N y g (ws.set (v+1+i).toNat z) Y G rs:=by
 obtain⟨k,hk⟩:=h.full.set (z:=z) hl hy hg c d f;have m:=gV (O:=O) (i6 h.full c d f) hy hg;refine⟨k,h.rt,fun u a j j0 b ha=>?_⟩
 rw[hk u a] at b;have hi:=i6 h.full a j0 b;have n:=gV (O:=O) hi hy hg;have l:ld N y g (ws.set (v+1+i).toNat z) (u+1+j)=if(v+1+i).toNat=(u+1+j).toNat then z else ld N y g ws (u+1+j):=by rw[dh hi,dh hi,i1 _ _ _ _ I]
 rw[l] at ha⊢;split at ha
 ·rename_i e;rw[aq e];exact hz ha
 ·rename_i e;rw[ao e];exact h.fd u a j j0 b ha
theorem gm.tb (h:gm N y g ws Y G rs)(hN:N<=256)(hy:y<=N)(hO:O<=1024)(hg:g<=O)(k:Nat)(hk:k<rs.length):tB N y g ws (rs.getD k 0)=cI (rs.getD k 0):=by
 obtain⟨a,b⟩:=h.full.lists (O:=O) hN hy hO hg;unfold tB;rw[a,b];cases ha:cI (rs.getD k 0)
 ·rfl
 ·have:=h.at k hk ha;simpa using this
end
open Go.RowKit W Kp bY mx
structure C0 where
 g:Nat
 ws:List Int
 G:List Int
def bP.l0 (k:bP)(z:C0)(a:Int):Int:=Proofs.YtjpjpjemibgjpaaGreat.ld k.N k.y z.g z.ws a
def bP.or (k:bP)(z:C0)(s:bU)(a b:Int):Prop:=(a=b/\b∈z.G)\/(a∈k.T/\s.f a=b/\b≠-1)
def bP.ml (k:bP)(s:bU)(a x:Int):Prop:=x=a\/(k.cq a=true/\s.f (bQ a)≠-1/\x=ew 3 (s.f (bQ a)))
structure di (k:bP)(z:C0)(s:bU)(H:List Int):Prop where
 ci:CI k s
 nY:z.g<=s.g
 full:dS k.N k.y s.g s.ws k.T (z.G++H)
 i7:∀b∈z.G,b<(k.N:Int)+z.g
 kT:∀b,0<=b->b<(k.y:Int)->k.ld s b=k.l0 z b
 fh:∀a∈k.T,s.f a≠-1->s.f a∈H
 inj:∀a∈k.T,∀b∈k.T,s.f a≠-1->s.f a=s.f b->a=b
 e8:∀b∈H,∃a∈k.T,s.f a=b
 hlo:∀b∈H,(k.N:Int)+z.g<=b
 hd:∀a b,k.or z s a b->k.ld s b=k.l0 z a
 fd:∀a b,k.or z s a b->∀i,0<=i->i<pf (k.l0 z a)->k.ml s (k.l0 z (a+1+i)) (k.ld s (b+1+i))
structure c5 (k:bP)(s t:bU):Prop where
 f:∀a,s.f a≠-1->t.f a=s.f a
 g:s.g<=t.g
 cl:∀b,(k.N:Int)<=b->b<(k.N:Int)+s.g->k.cq (k.ld s b)=false->k.cq (k.ld t b)=false
section
variable {k:bP}{z:C0}{s t u:bU}{H:List Int}
theorem c5.refl (k:bP)(s:bU):c5 k s s:=⟨fun _ _=>rfl,ak _,fun _ _ _ h=>h⟩
theorem c5.trans (h:c5 k s t)(j:c5 k t u):c5 k s u:=
 ⟨fun a ha=>(j.f a (by rw[h.f a ha];exact ha)).trans (h.f a ha),az h.g j.g,fun b c d e=>j.cl b c (by have:=h.g;omega) (h.cl b c d e)⟩
theorem c5.or (h:c5 k s t){a b:Int}(c:k.or z s a b):k.or z t a b:=by
 rcases c with c|⟨f,d,e⟩
 ·exact ap c
 ·exact an ⟨f,(h.f a (by rw[d];exact e)).trans d,e⟩
theorem c5.ml (h:c5 k s t){c x:Int}(a:k.ml s c x):k.ml t c x:=by
 rcases a with a|⟨d,b,e⟩
 ·exact ap a
 ·exact an ⟨d,by rw[h.f _ b];exact b,by rw[h.f _ b];exact e⟩
theorem di.mem (h:di k z s H){a b:Int}(d:k.or z s a b):b∈z.G++H:=by
 rcases d with⟨_,e⟩|⟨f,c,g⟩
 ·exact aL _ e
 ·exact aS _ (c▸h.fh a f (by rw[c];exact g))
theorem di.from (h:di k z s H){b:Int}(c:b∈z.G++H):∃a,k.or z s a b:=by
 rcases List.mem_append.1 c with c|c
 ·exact⟨b,ap ⟨rfl,c⟩⟩
 ·obtain⟨a,ha,e⟩:=h.e8 b c;have:=h.hlo b c;exact⟨a,an ⟨ha,e,I⟩⟩
theorem di.bd (h:di k z s H){b:Int}(a:b∈z.G++H):(k.N:Int)<=b/\b+(1+pf (k.ld s b))<=(k.N:Int)+s.g/\pc (k.ld s b)=0:=h.full.dN.mem b a
theorem di.hu (h:di k z s H){b:Int}(a:b∈H):(k.N:Int)<=b/\b<(k.N:Int)+s.g:=by
 have c:=h.bd (aS _ a)
 have:=cU (k.ld s b)
 omega
theorem CI.t6 (h:CI k s){a:Int}(ha:(k.N:Int)<=a):a∉k.T:=fun c=>by have b:=h.pv c;have:=h.hy;omega
theorem kU (h:CI k s){n:Int}(h0:(k.N:Int)<=n)(a:n<1000000):k.cq (ew 3 n)=false:=by
 have e:=kk 3 n (lZ n I I)
 unfold bP.cq;rw[e.1,e.2 rfl];simp;exact h.t6 h0
theorem di.cp (h:di k z s H){a:Int}(ha:a∈k.T)(t:s.f a=-1):di k z (k.cp s a) (H++[((k.N+s.g:Nat):Int)])/\c5 k s (k.cp s a)/\(k.cp s a).f a=((k.N+s.g:Nat):Int):=by
 have ci:=h.ci;have hc:=ci.gw ha t;obtain⟨u,K,t3⟩:=ci.th a ha;have hp:=cU (k.ld s a)
 have hz:=h.nY;have hl:=bP.py ci.len ci.hy ci.hg u t3 hc;obtain⟨B,_⟩:=ci.cp ha t;obtain⟨C,D⟩:=h.full.copy ci.len ci.hy ci.hg hc (ap ha)
 have v:(k.cp s a).f=fe s.f a ((k.N+s.g:Nat):Int):=by rw[bP.lG hc]
 have w:(k.cp s a).g=s.g+(1+(pf (k.ld s a)).toNat):=by rw[bP.lG hc]
 have j:∀b,b≠a->(k.cp s a).f b=s.f b:=fun b d=>by rw[v];unfold fe;rw[ao d]
 have m:(k.cp s a).f a=((k.N+s.g:Nat):Int):=by rw[v];unfold fe;rw[aq rfl]
 have lo:∀b,b<(k.N:Int)+s.g->k.ld (k.cp s a) b=k.ld s b:=fun b d=>by rw[hl,ao I]
 have i8:c5 k s (k.cp s a):=⟨fun b d=>j b (fun e=>d (by rw[e];exact t)),by rw[w];omega,fun b g l E=>by rw[lo b l];exact E⟩
 have x:∀c b,k.or z (k.cp s a) c b->k.or z s c b\/(c=a/\b=((k.N+s.g:Nat):Int)):=fun c b f=>by
  rcases f with f|⟨o1,q,F⟩
  ·exact ap (ap f)
  ·by_cases e:c=a
   ·rw[e,m] at q;exact an ⟨e,q.symm⟩
   ·rw[j c e] at q;exact ap (an ⟨o1,q,F⟩)
 refine⟨⟨B,by rw[w];omega,by rw[<-aU];exact C,h.i7,fun b h0 g=>?_,fun c n g=>?_,fun c n b d g l=>?_,fun b d=>?_,fun b d=>?_,fun c b f=>?_,fun c b f i G A=>?_⟩,i8,m⟩
 ·rw[lo b (by have:=ci.hy;omega)];exact h.kT b h0 g
 ·by_cases e:c=a
  ·rw[e,m];simp
  ·rw[j c e] at g⊢;exact aL _ (h.fh c n g)
 ·by_cases o:c=a
  ·by_cases p:b=a
   ·rw[o,p]
   ·rw[o,m,j b p] at l;have:=h.hu (h.fh b d (by rw[<-l];omega))
    omega
  ·by_cases p:b=a
   ·rw[p,m,j c o] at l;rw[j c o] at g;have:=h.hu (h.fh c n g)
    omega
   ·rw[j c o,j b p] at l;rw[j c o] at g;exact h.inj c n b d g l
 ·rcases List.mem_append.1 d with d|d
  ·obtain⟨c,n,e⟩:=h.e8 b d;have J:s.f c≠-1:=by have:=h.hu d;omega
   exact⟨c,n,by rw[i8.f c J];exact e⟩
  ·simp at d;exact⟨a,ha,by rw[m,d];omega⟩
 ·rcases List.mem_append.1 d with d|d
  ·exact h.hlo b d
  ·simp at d;omega
 ·rcases x c b f with f|⟨rfl,rfl⟩
  ·have hm:=h.bd (h.mem f)
   rw[lo b (by have:=cU (k.ld s b);omega)];exact h.hd c b f
  ·have:=h.kT c u I;rw[<-this];exact D
 ·rcases x c b f with f|⟨rfl,rfl⟩
  ·have hm:=h.bd (h.mem f)
   have e:=h.hd c b f;rw[lo (b+1+i) (by rw[e] at hm;omega)];exact i8.ml (h.fd c b f i G A)
  ·have e:=h.kT c u I;rw[<-e] at A;refine ap ?_;rw[hl,aq I,<-h.kT (c+1+i) I I]
   congr 1
   omega
theorem di.st (h:di k z s H){a b i x:Int}(n:k.or z s a b)(p:0<=i)(q:i<pf (k.l0 z a))(w:k.ml s (k.l0 z (a+1+i)) x):di k z (k.st s (b+1+i) x) H/\k.ld (k.st s (b+1+i) x) (b+1+i)=x/\(∀c,c≠b+1+i->k.ld (k.st s (b+1+i) x) c=k.ld s c):=by
 have ci:=h.ci;have hm:=h.mem n;have A:=h.bd hm;have e:=h.hd a b n;rw[e] at A;have hi:cO k.N k.y s.g (b+1+i)=true:=eK I I;have hl:=bP.lF ci.len ci.hy ci.hg (b+1+i) x;have same:k.ld (k.st s (b+1+i) x) (b+1+i)=x:=by rw[hl,aq ⟨rfl,hi⟩]
 have eP:∀c,c≠b+1+i->k.ld (k.st s (b+1+i) x) c=k.ld s c:=fun c hc=>by rw[hl,ao (fun e=>hc e.1)]
 have ew:k.st s (b+1+i) x={s with ws:=s.ws.set (b+1+i).toNat x}:=by unfold bP.st;rw[aq hi]
 have B:∀c d,k.or z s c d->∀j,0<=j->j<pf (k.l0 z c)->d+1+j=b+1+i->c=a/\d=b/\j=i:=fun c d f j j0 o g=>by
  have hd:=h.mem f;have C:=h.hd c d f;have t:d=b:=by
   rcases Int.lt_trichotomy d b with l|l|l
   ·have:=h.full.dN.apart d hd b hm l;have this:d+(1+pf (k.ld s d))<=b:=this
    rw[C] at this
    omega
   ·exact l
   ·have:=h.full.dN.apart b hm d hd l;have this:b+(1+pf (k.ld s b))<=d:=this
    rw[e] at this
    omega
  refine⟨?_,t,I⟩
  rw[t] at f;rcases f with⟨c1,c2⟩|⟨c1,c2,u⟩<;>rcases n with⟨o1,m⟩|⟨o1,m,D⟩
  ·omega
  ·have E:=h.hlo b (m▸h.fh a o1 (by rw[m];exact D))
   have F:=h.i7 b c2;omega
  ·have E:=h.hlo b (c2▸h.fh c c1 (by rw[c2];exact u))
   have F:=h.i7 b m;omega
  ·exact h.inj c c1 a o1 (by rw[c2];exact u) (c2.trans m.symm)
 have fl:dS k.N k.y (k.st s (b+1+i) x).g (k.st s (b+1+i) x).ws k.T (z.G++H):=by rw[ew];exact(h.full.set ci.len ci.hy ci.hg (v:=b) (i:=i) (z:=x) (an hm) p (by show i<pf (k.ld s b);rw[e];exact q)).1
 refine⟨⟨ci.st I x,h.nY,fl,h.i7,fun c h0 G=>?_,h.fh,h.inj,h.e8,h.hlo,fun c d f=>?_,fun c d f j j0 o=>?_⟩,same,eP⟩
 ·rw[eP c (by have:=ci.hy;omega)];exact h.kT c h0 G
 ·have f:k.or z s c d:=f;rw[eP d (fun g=>?_)]
  ·exact h.hd c d f
  ·exact h.full.dN.field hm p (by show i<pf (k.ld s b);rw[e];exact q) (g▸h.mem f)
 ·have f:k.or z s c d:=f;by_cases g:d+1+j=b+1+i
  ·obtain⟨rfl,rfl,rfl⟩:=B c d f j j0 o g;rw[same];exact w
  ·rw[eP _ g];exact h.fd c d f j j0 o
theorem c5.st (ci:CI k s){a x:Int}(c:k.cq x=false):c5 k s (k.st s a x):=
 ⟨fun _ _=>rfl,ak _,fun b _ _ d=>by
  rw[bP.lF ci.len ci.hy ci.hg];split
  ·exact c
  ·exact d⟩
theorem di.br (h:di k z s H)(x:Int):∃i,di k z (k.br s x).2 i/\c5 k s (k.br s x).2/\k.cq (k.br s x).1=false/\(∃l,i=H++l)/\(∀b,k.ml s b x->k.ml (k.br s x).2 b (k.br s x).1)/\(k.cq x=true->(k.br s x).2.f (bQ x)≠-1)/\(k.br s x).1=k.nw (k.br s x).2 x:=by
 have ci:=h.ci;have n1:=ci.hN';have u:=ci.hO;have key:∀(t:bU)(j:List Int),di k z t j->c5 k s t->(k.cq x=true->t.f (bQ x)≠-1)->k.cq (k.nw t x)=false/\∀b,k.ml s b x->k.ml t b (k.nw t x):=fun t j ht i8 hy=>by
  by_cases c:k.cq x=true
  ·have a:=hy c;have m:bQ x∈k.T:=by unfold bP.cq at c;simp at c;exact c.2
   have e:k.nw t x=ew 3 (t.f (bQ x)):=by unfold bP.nw;rw[c,aq (by simp[a])]
   have n:=ht.hu (ht.fh _ m a)
   have hg:=ht.ci.hg;rw[e];refine⟨kU ht.ci n.1 I,fun b hm=>?_⟩
   rcases hm with rfl|⟨m1,d,f⟩
   ·exact an ⟨c,a,rfl⟩
   ·exfalso;have o:bQ b∈k.T:=by unfold bP.cq at m1;simp at m1;exact m1.2
    have p:=h.hu (h.fh _ o d)
    have v:=ci.hg;rw[f,kU ci p.1 I] at c;simp at c
  ·have c:k.cq x=false:=by simpa using c
   have e:k.nw t x=x:=by unfold bP.nw;rw[c];simp
   rw[e];exact⟨c,fun b hm=>i8.ml hm⟩
 unfold bP.br;by_cases c:k.ls s x=true
 ·obtain⟨c1,c2,q⟩:=bP.kI c;obtain⟨m1,d,f⟩:=h.cp c2 q;have a:(k.cp s (bQ x)).f (bQ x)≠-1:=by rw[f];omega
  obtain⟨k1,g⟩:=key _ _ m1 d (fun _=>a)
  rw[aq c];exact⟨_,m1,d,k1,⟨_,rfl⟩,g,fun _=>a,rfl⟩
 ·have a:k.cq x=true->s.f (bQ x)≠-1:=fun hy e=>c (by unfold bP.ls;rw[hy,e];rfl)
  obtain⟨k1,g⟩:=key s H h (c5.refl _ _) a;rw[ao c];exact⟨H,h,c5.refl _ _,k1,⟨[],V⟩,g,a,rfl⟩
theorem di.kf (h:di k z s H){a b i:Int}(d:k.or z s a b)(e:0<=i)(f:i<pf (k.l0 z a)):∃c,di k z (k.kf s (b+1+i)) c/\c5 k s (k.kf s (b+1+i))/\k.cq (k.ld (k.kf s (b+1+i)) (b+1+i))=false/\∃l,c=H++l:=by
 obtain⟨c,m1,g,j,m,n,_,_⟩:=h.br (k.ld s (b+1+i))
 obtain⟨s1,s2,o⟩:=m1.st (g.or d) e f (n _ (h.fd a b d i e f))
 refine⟨c,s1,g.trans (c5.st m1.ci j),?_,m⟩
 unfold bP.kf;rw[s2];exact j
theorem di.eW (h:di k z s H){a b:Int}(c:k.or z s a b):∀n:Nat,(n:Int)<=pf (k.l0 z a)->∃g,di k z (k.eW s b n) g/\c5 k s (k.eW s b n)/\(∀i:Nat,i<n->k.cq (k.ld (k.eW s b n) (b+1+i))=false)/\∃f,g=H++f
 |0,_=>⟨H,h,c5.refl _ _,fun i hi=>I,⟨[],V⟩⟩
 |n+1,u=>by
  obtain⟨v,m1,d,j,⟨f,l⟩⟩:=di.eW h c n I;obtain⟨m,o,j2,b7,⟨p,b9⟩⟩:=m1.kf (d.or c) (i:=n) I I;refine⟨m,o,d.trans j2,fun i hi=>?_,⟨f++p,by rw[b9,l,aU]⟩⟩
  by_cases e:i=n
  ·rw[e];exact b7
  ·have q:=m1.bd (m1.mem (d.or c))
   have t:=m1.hd _ _ (d.or c)
   rw[t] at q;exact j2.cl _ I I (j i I)
end
section
variable {k:bP}{z:C0}{s t u:bU}{H:List Int}
theorem fV {x:Int}(h:pc x=0)(b:pk x=1\/pk x=3\/pk x=4):pf x=2:=by
 unfold pc at h;unfold pk at b;unfold pf;split at h
 ·rename_i e;rw[aq e] at b⊢;generalize x%16=a at*;generalize x/16=f at*;unfold hc at e;rcases b with b|b|b
  ·rw[aq b] at e;split at e
   ·assumption
   ·omega
  ·rw[ao I,aq b] at e;split at e
   ·assumption
   ·omega
  ·rw[ao I,ao I,aq b] at e;split at e
   ·assumption
   ·omega
 ·omega
theorem pZ {x:Int}(h:pc x=0):(pk x=1\/pk x=2)\/pk x=3\/pk x=4\/(pk x=5/\pf x=0):=by
 unfold pc at h;unfold pk pf;split at h
 ·rename_i e;rw[aq e,aq e];have c:=gK _ _ e;generalize x%16=a at*;generalize x/16=f at*;by_cases b:a=5
  ·right;right;right;refine⟨b,?_⟩
   unfold hc at e;rw[ao I,ao I,ao I,ao I,aq b] at e;split at e
   ·assumption
   ·omega
  ·omega
 ·omega
theorem il (k:bP)(s:bU)(a:Int):(k.kf s a).wk=s.wk/\(k.kf s a).ep=s.ep/\(k.kf s a).nx=s.nx/\(k.kf s a).rs=s.rs:=by unfold bP.kf bP.st bP.br;dsimp only;split<;>exact⟨rfl,rfl,rfl,rfl⟩
theorem kV (k:bP)(s:bU)(a:Int):∀n,(k.eW s a n).wk=s.wk/\(k.eW s a n).ep=s.ep/\(k.eW s a n).nx=s.nx/\(k.eW s a n).rs=s.rs
 |0=>⟨rfl,rfl,rfl,rfl⟩
 |n+1=>by
  obtain⟨b,c,d,e⟩:=kV k s a n;obtain⟨f,j2,b7,b9⟩:=il k (k.eW s a n) (a+1+n)
  exact⟨f.trans b,j2.trans c,b7.trans d,b9.trans e⟩
theorem mP (k:bP)(s:bU)(a:Int):(k.lk s a).nx=s.nx/\(k.lk s a).rs=s.rs:=by
 unfold bP.lk;split
 ·exact⟨(kV _ _ _ _).2.2.1,(kV _ _ _ _).2.2.2⟩
 ·split
  ·exact⟨(il _ _ _).2.2.1,(il _ _ _).2.2.2⟩
  ·split<;>exact⟨rfl,rfl⟩
theorem di.turn (h:di k z s H)(wk ep rs:List Int)(nx:Int)(hw:∀a∈wk,(k.N:Int)<=a/\a<=2000)(he:∀a∈ep,(k.N:Int)<=a/\a<=2000)(h0:(k.N:Int)<=nx)(b:nx<=(k.N:Int)+k.O+13):di k z {s with wk:=wk,ep:=ep,rs:=rs,nx:=nx} H:=
 {
  ci:={hN:=h.ci.hN,hN':=h.ci.hN',hO:=h.ci.hO,hy:=h.ci.hy,hg:=h.ci.hg,len:=h.ci.len,th:=h.ci.th,nd:=h.ci.nd,room:=h.ci.room,f5:=h0,gC:=b,gN:=hw,gD:=he,tl:=h.ci.tl}
  nY:=h.nY,full:=h.full,i7:=h.i7,kT:=h.kT,fh:=h.fh,inj:=h.inj,e8:=h.e8,hlo:=h.hlo,hd:=h.hd,fd:=h.fd}
theorem c5.turn (k:bP)(s:bU)(wk ep rs:List Int)(nx:Int):c5 k s {s with wk:=wk,ep:=ep,rs:=rs,nx:=nx}:=⟨fun _ _=>rfl,ak _,fun _ _ _ h=>h⟩
def Lo (k:bP)(s:bU)(b:Int):Prop:=∀i,0<=i->i<pf (k.ld s b)->k.cq (k.ld s (b+1+i))=false\/(pk (k.ld s b)=3/\i=0/\b∈s.wk)\/(pk (k.ld s b)=4/\b∈s.ep)
theorem di.lk (h:di k z s H){a b:Int}(e:k.or z s a b):∃f,di k z (k.lk s b) f/\c5 k s (k.lk s b)/\(∃A,f=H++A)/\Lo k (k.lk s b) b/\(∀c∈s.wk,c∈(k.lk s b).wk)/\∀c∈s.ep,c∈(k.lk s b).ep:=by
 have v:=h.bd (h.mem e)
 have hg:=h.ci.hg;have hN:=h.ci.hN';have hO:=h.ci.hO;have j:=h.hd a b e;have F:=cU (k.ld s b)
 unfold bP.lk;by_cases c1:pk (k.ld s b)=1\/pk (k.ld s b)=2
 ·rw[aq c1];obtain⟨f,m1,g,m,q⟩:=h.eW e (pf (k.ld s b)).toNat (by rw[<-j];omega)
  have n:=m1.hd a b (g.or e)
  refine⟨f,m1,g,q,fun i o l=>ap ?_,fun c hc=>by rw[(kV _ _ _ _).1];exact hc,fun c hc=>by rw[(kV _ _ _ _).2.1];exact hc⟩
  rw[n,<-j] at l;have w:=m i.toNat I;rw[Int.toNat_of_nonneg o] at w;exact w
 ·rw[ao c1];by_cases p:pk (k.ld s b)=3
  ·rw[aq p];have B:=fV v.2.2 (an (ap p))
   have C:=h.turn (s.wk++[b]) s.ep s.rs s.nx (fun x t=>by
    rcases List.mem_append.1 t with d|d
    ·exact h.ci.gN x d
    ·rw[a7] at d;subst d;omega) h.ci.gD h.ci.f5 h.ci.gC
   obtain⟨f,m1,g,m,q⟩:=C.kf (a:=a) (b:=b) (i:=1) e I (by rw[<-j];omega)
   have ea:b+1+1=b+2:=I;rw[ea] at m1 g m;have n:=m1.hd a b (g.or e)
   refine⟨f,m1,(c5.turn k s (s.wk++[b]) s.ep s.rs s.nx).trans g,q,fun i o l=>?_,fun c hc=>by rw[(il _ _ _).1];exact aL _ hc,fun c hc=>by rw[(il _ _ _).2.1];exact hc⟩
   rw[n,<-j,B] at l;by_cases D:i=0
   ·refine an (ap ⟨by rw[n,<-j];exact p,D,?_⟩)
    rw[(il _ _ _).1];simp
   ·have E:i=1:=I;subst E;rw[ea];exact ap m
  ·rw[ao p];by_cases u:pk (k.ld s b)=4
   ·rw[aq u];refine⟨H,h.turn s.wk (s.ep++[b]) s.rs s.nx h.ci.gN (fun x t=>by
     rcases List.mem_append.1 t with d|d
     ·exact h.ci.gD x d
     ·rw[a7] at d;subst d;omega) h.ci.f5 h.ci.gC,c5.turn k s s.wk (s.ep++[b]) s.rs s.nx,⟨[],V⟩,fun i o l=>an (an ⟨u,V⟩),fun c hc=>hc,fun c hc=>aL _ hc⟩
   ·rw[ao u];refine⟨H,h,c5.refl _ _,⟨[],V⟩,fun i o l=>?_,fun c hc=>hc,fun c hc=>hc⟩
    have:=pZ v.2.2;omega
theorem Lo.go {b:Int}{K:List Int}(h:Lo k s b)(hs:di k z s H)(ht:di k z t K)(p:c5 k s t){a:Int}(c:k.or z s a b)(hw:b∈s.wk->b∈t.wk)(he:b∈s.ep->b∈t.ep):Lo k t b:=by
 have f:=hs.hd a b c;have g:=ht.hd a b (p.or c)
 have o:=hs.bd (hs.mem c)
 intro i l j;rw[g,<-f] at j;rw[g,<-f];rcases h i l j with m|⟨d,e,n⟩|⟨d,e⟩
 ·exact ap (p.cl _ I I m)
 ·exact an (ap ⟨d,e,hw n⟩)
 ·exact an (an ⟨d,he e⟩)
end
end Go.Proofs.YtjpjpjemibgjpaaGreat
