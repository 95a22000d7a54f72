import Derived.Test.YtjpjpjemibgjpaaGreatJ18
namespace Go.Proofs.YtjpjpjemibgjpaaGreat
set_option maxRecDepth 100000
set_option maxHeartbeats 4000000
open Tryz
open Go.RowKit W Kp cg
theorem zv {P:Prop}(h:P:=by rw[hW0];exact hB1.trans ((((Fr.refl (fun k=>k=w.heap.size) w1).set w.heap.size 0 _ rfl).set w.heap.size 1 _ rfl).below (Nat.le_of_lt l1) (fun x e=>by have e:x=w.heap.size:=e;omega))):P:=h
theorem zw {P:Prop}(h:P:=by rw[hW0];exact a9 _ _ _ ((a5 w2 ⟨w.heap.size,0,none⟩ ⟨w.heap.size,1,none⟩ _ Z).trans y1)):P:=h
theorem zx {P:Prop}(h:P:=by have h1:(dS N y g ws).length<=2000:=iz _ _;have h2:(dw N y g ws).length<=2000:=iz _ _;simp;omega):P:=h
theorem zy {P:Prop}(h:P:=by rw[dX (g9 hb.1 hb.2),dX (g9 hb.1 hb.2),kS _ _ _ _ _ hlt,aE V,aE V]):P:=h
theorem G2 {a:Wc}{Y:Nat->Prop}{S:ck}{w:au}{a0 a1:Option Addr}{k0 k1:Nat}(hw:(dY a).J Y S.s w)(hs:gn w a.sd a0 k0 a1 k1 S.r S.q)(h0:S.r.length<=90000)(br:S.q.length<=90000):
 Calls prog 50 #[aj a.pw] w fun e w'=>∃(c:e4)(ar:Option Addr)(aT:Nat)(o:Nat->Prop),e=.returned (aj c.pk)/\(c9 (dN c (S.s.j0 a)) c.bs (.slice ar S.r.length aT)).J o (gF,S.q) w'/\w'.ownsRow 0 83 2 (.slice ar S.r.length aT) S.r.length (ev S.r)/\(∀b,some b=(Value.slice ar S.r.length aT).ownBlock->¬o b/\w.heap.size<=b)/\(∀b,o b->Y b\/w.heap.size<=b)/\Below w.heap.size w w':=by
 have cP:=@run_makeMap prog;obtain⟨c0,_,c2,_,Q,_⟩:=jh hw;have L:=(jZ hw).1;have n1:=L.hN';have cm:=L.hO;have cn:=L.hg;have n4:=L.hy;have aV:=hide (cU.start n1 cm n4 cn)
 have C:av ((dY a).J Y S.s w/\At w a.p a.q a.N a.O S.s.y S.s.g S.s.ws):=⟨hw,L⟩
 have bs:=lt_of_some hs.blk;have ab:Below w.heap.size w (w.alloc (.map #[] 0)):=(aD _ w).alloc bW _;have co:=EZ (w.alloc (.map #[] 0)) a.sd a0 a1 k0 k1 S.r S.q ⟨(ab.block _ bs).trans hs.blk,cv hs.r0 (fun b e=>ab.block b (ce hs.r0 b e).2),cv hs.q0 (fun b e=>ab.block b (ce hs.q0 b e).2)⟩ h0 br;have cp:av (Mp (w.alloc (.map #[] 0)) w.heap.size [] (fun _=>-1)):=⟨_,World.ownsMap_made w prog 3 (plainElem (H:=Unit) prog 3),fun _=>rfl,fun a ha=>by simp at ha⟩
 clear hw hs L ab bs h0 br;go_enter func50,ntmps50;go_wp2_with fail;refine co.mono ?_;rintro e w1 ⟨ps,l,m,b1,E,rfl,cq,v,g0,g1,cr,a2⟩
 have cs:=a2.size;simp only [World.size_alloc] at cs cq g0 g1;have ad:av (fw a S w w1.heap.size w.heap.size ps l m b1 E (.slice none 0 0) (.slice none 0 0) [] (w1.alloc (.cells #[.pointer (some ⟨a.pw,0,none⟩),.slice none 0 0,.slice none 0 0,.map (some w.heap.size),.pointer (some ⟨ps,0,none⟩),.slice none 0 0,.slice none 0 0] 115))/\(w1.alloc (.cells #[.pointer (some ⟨a.pw,0,none⟩),.slice none 0 0,.slice none 0 0,.map (some w.heap.size),.pointer (some ⟨ps,0,none⟩),.slice none 0 0,.slice none 0 0] 115)).heap.size=w1.heap.size+1):=by
  have R:=an w1 (.cells #[.pointer (some ⟨a.pw,0,none⟩),.slice none 0 0,.slice none 0 0,.map (some w.heap.size),.pointer (some ⟨ps,0,none⟩),.slice none 0 0,.slice none 0 0] 115)
  have ct:=((aD _ w).alloc bW (.map #[] 0)).trans (a2.mono Z)
  refine⟨{bl:=ct.trans (R.mono V),cb:=aL _ _,sd:=⟨(R.block _ (lt_of_some v.blk)).trans v.blk,cv v.r0 (fun b e=>R.block b (ce v.r0 b e).2),cv v.q0 (fun b e=>R.block b (ce v.q0 b e).2)⟩,mp:=(cp.o.same (a2.block _ Z)).same (R.block _ V),j_:=rfl,jk:=V,pp:=lt_of_some v.blk,l0:=fun k e=>⟨?_,(ce v.r0 k e).2⟩,l1:=fun k e=>⟨?_,(ce v.q0 k e).2⟩,ln:=cr},Z⟩
  ·cases hb:l with
   |none=>rw[hb] at e;simp[Value.ownBlock] at e
   |some z=>
    rw[hb] at e;have cu:k=z.block:=by simpa[Value.ownBlock] using e
    have:=g0 z hb;omega
  ·cases hb:b1 with
   |none=>rw[hb] at e;simp[Value.ownBlock] at e
   |some z=>
    rw[hb] at e;have cu:k=z.block:=by simpa[Value.ownBlock] using e
    have:=g1 z hb;omega
 have M:=(ad.o.1.bl.cell (p:=am a.pw 0) Q).trans c0;have i:=mh _ (C.o.2.below ad.o.1.bl bW)
 go_wp2_with fail;refine i.mono ?_;rintro e bt ⟨rfl,bx⟩
 have ag:av (fw a S w w1.heap.size w.heap.size ps l m b1 E (.slice none 0 0) (.slice none 0 0) [] bt/\w1.heap.size+1<=bt.heap.size):=⟨ad.o.1.below bx,by have:=bx.size;have:=ad.o.2;omega⟩
 have M:=(ag.o.1.bl.cell (p:=am a.pw 0) Q).trans c0;have i:=kl _ (C.o.2.below ag.o.1.bl bW)
 go_wp2_with fail;refine i.mono ?_;rintro e w3 ⟨rfl,bY⟩
 have U:av (fw a S w w1.heap.size w.heap.size ps l m b1 E (.slice none 0 0) (.slice none 0 0) [] w3/\w1.heap.size+1<=w3.heap.size):=⟨ag.o.1.below bY,by have:=bY.size;have:=ag.o.2;omega⟩
 have M:=(U.o.1.bl.cell (p:=am a.pw 0) Q).trans c0;have i:=GY _ (C.o.2.below U.o.1.bl bW)
 go_wp2_with fail;refine i.mono ?_;rintro e cw ⟨v1,v2,rfl,a3,bb,cx,cy⟩
 obtain⟨y1,m1,rfl⟩:=dQ a3;obtain⟨d,g,rfl⟩:=dQ bb;have A:=jp (U.o.1.below cy) (d7 a3 (fun b e=>aP U.o.2 (ce a3 b e).1)) (d7 bb (fun b e=>aP U.o.2 (ce bb b e).1)) cx;have ai:av ((dS a.N S.s.y S.s.g S.s.ws).length<=2000/\(dw a.N S.s.y S.s.g S.s.ws).length<=2000/\(∀x∈dS a.N S.s.y S.s.g S.s.ws,0<=x/\x<=2000)/\∀x∈dw a.N S.s.y S.s.g S.s.ws,0<=x/\x<=2000):=⟨iz _ _,iz _ _,fun x s=>by have:=mz x s;omega,fun x s=>by have:=oA x s;omega⟩
 have bZ:w1.heap.size<w1.heap.size+1/\a.pw<w1.heap.size+1/\a.p<w1.heap.size+1/\a.q<w1.heap.size+1:=by have q1:=C.o.2.eJ;have al:=C.o.2.eK;omega
 obtain⟨u0,bd,be,bg,N,bi⟩:=A.o.1.cells;have M:=(A.o.1.bl.cell (p:=am a.pw 0) Q).trans c0;have bn:=N 1;have i:=zt cw (C.o.2.below A.o.1.bl bW) u0 M (dS a.N S.s.y S.s.g S.s.ws) y1 m1 (w1.heap.size+1) (0+S.s.y) (by have:=ai.o.1;omega) (fun x s=>by have:=ai.o.2.2.1 x s;omega) A.o.2.1 bZ;rw[Int.zero_add] at i;have cz:av (ed (fun x=>decide ((S.s.y:Int)<=x+pf (ld a.N S.s.y S.s.g S.s.ws x))) (dS a.N S.s.y S.s.g S.s.ws)=(S.s.j0 a).Y):=rfl;rw[cz.o] at i;go_wp2_with fail;refine i.mono ?_;rintro r B ⟨rfl,cA,b0⟩
 have cB:∀b,some b=(Value.slice y1 (dS a.N S.s.y S.s.g S.s.ws).length m1).ownBlock->w1.heap.size<b:=fun b e=>(ce A.o.2.1 b e).1;have G:av (fw a S w w1.heap.size w.heap.size ps l m b1 E (.slice none 0 0) (.slice none 0 0) [] B/\B.ownsRow (w1.heap.size+1) 3 1 (.slice y1 (S.s.j0 a).Y.length m1) (S.s.j0 a).Y.length ((S.s.j0 a).Y.map (Value.int .i64))/\B.ownsRow (w1.heap.size+1) 3 1 (.slice d (dw a.N S.s.y S.s.g S.s.ws).length g) (dw a.N S.s.y S.s.g S.s.ws).length ((dw a.N S.s.y S.s.g S.s.ws).map (Value.int .i64))/\(∀n b2 b,some b=(Value.slice y1 n m1).ownBlock->some b≠(Value.slice d b2 g).ownBlock)):=by
  refine⟨A.o.1.fr b0 cB,cA,gH A.o.2.2.1 b0 (fun b e I=>A.o.2.2.2 b I e),fun n b2 b e=>?_⟩
  have q:=A.o.2.2.2 b (by
   cases y1 with
   |none=>simp[Value.ownBlock] at e
   |some z=>simpa[Value.ownBlock] using e)
  cases d with
  |none=>simp[Value.ownBlock]
  |some z=>simpa[Value.ownBlock] using q
 obtain⟨u0,bd,be,bg,N,bi⟩:=G.o.1.cells;have bn:=N 1;have J:av (fw a S w w1.heap.size w.heap.size ps l m b1 E (.slice y1 (S.s.j0 a).Y.length m1) (.slice none 0 0) [] (B.setCell ⟨w1.heap.size,1,none⟩ (.slice y1 (S.s.j0 a).Y.length m1))/\(B.setCell ⟨w1.heap.size,1,none⟩ (.slice y1 (S.s.j0 a).Y.length m1)).ownsRow (w1.heap.size+1) 3 1 (.slice y1 (S.s.j0 a).Y.length m1) (S.s.j0 a).Y.length ((S.s.j0 a).Y.map (Value.int .i64))/\(B.setCell ⟨w1.heap.size,1,none⟩ (.slice y1 (S.s.j0 a).Y.length m1)).ownsRow (w1.heap.size+1) 3 1 (.slice d (dw a.N S.s.y S.s.g S.s.ws).length g) (dw a.N S.s.y S.s.g S.s.ws).length ((dw a.N S.s.y S.s.g S.s.ws).map (Value.int .i64))):=by have f:Fr (fun b=>b=w1.heap.size) B (B.setCell ⟨w1.heap.size,1,none⟩ (.slice y1 (S.s.j0 a).Y.length m1)):=(Fr.refl _ B).set _ 1 _ rfl;exact⟨G.o.1.set1 _,gH G.o.2.1 f (fun b e I=>by have:=(ce G.o.2.1 b e).1;omega),gH G.o.2.2.1 f (fun b e I=>by have:=(ce G.o.2.2.1 b e).1;omega)⟩
 have b3:=hide G.o.2.2.2;obtain⟨s0,s1,s2,ap,s4,s5⟩:=J.o.1.cells;have M:=(J.o.1.bl.cell (p:=am a.pw 0) Q).trans c0;have s6:=s4 2;have i:=zt _ (C.o.2.below J.o.1.bl bW) s0 M (dw a.N S.s.y S.s.g S.s.ws) d g (w1.heap.size+1) ((a.N:Int)+S.s.g) (by have:=ai.o.2.1;omega) (fun x s=>by have:=ai.o.2.2.2 x s;omega) J.o.2.2 bZ;have cC:av (ed (fun x=>decide ((a.N:Int)+S.s.g<=x+pf (ld a.N S.s.y S.s.g S.s.ws x))) (dw a.N S.s.y S.s.g S.s.ws)=(S.s.j0 a).G):=rfl;rw[cC.o] at i;go_wp2_with fail;refine i.mono ?_;rintro r O ⟨rfl,cD,b4⟩
 have cE:∀b,some b=(Value.slice d (dw a.N S.s.y S.s.g S.s.ws).length g).ownBlock->w1.heap.size<b:=fun b e=>(ce J.o.2.2 b e).1;have K:=ir (J.o.1.fr b4 cE) (gH J.o.2.1 b4 (fun b e I=>b3.o _ _ b e I)) cD;obtain⟨u0,bd,be,bg,N,bi⟩:=K.o.1.cells;have bn:=N 2;have t:av (fw a S w w1.heap.size w.heap.size ps l m b1 E (.slice y1 (S.s.j0 a).Y.length m1) (.slice d (S.s.j0 a).G.length g) [] (O.setCell ⟨w1.heap.size,2,none⟩ (.slice d (S.s.j0 a).G.length g))/\(O.setCell ⟨w1.heap.size,2,none⟩ (.slice d (S.s.j0 a).G.length g)).ownsRow (w1.heap.size+1) 3 1 (.slice y1 (S.s.j0 a).Y.length m1) (S.s.j0 a).Y.length ((S.s.j0 a).Y.map (Value.int .i64))/\(O.setCell ⟨w1.heap.size,2,none⟩ (.slice d (S.s.j0 a).G.length g)).ownsRow (w1.heap.size+1) 3 1 (.slice d (S.s.j0 a).G.length g) (S.s.j0 a).G.length ((S.s.j0 a).G.map (Value.int .i64))):=by have f:Fr (fun b=>b=w1.heap.size) O (O.setCell ⟨w1.heap.size,2,none⟩ (.slice d (S.s.j0 a).G.length g)):=(Fr.refl _ O).set _ 2 _ rfl;exact⟨K.o.1.set2 _,gH K.o.2.1 f (fun b e I=>by have:=(ce K.o.2.1 b e).1;omega),gH K.o.2.2 f (fun b e I=>by have:=(ce K.o.2.2 b e).1;omega)⟩
 clear K u0 bd bg N;obtain⟨s0,s1,s2,ap,s4,s5⟩:=t.o.1.cells;have ax:av ((S.s.j0 a).T=(S.s.j0 a).G++(S.s.j0 a).Y/\(S.s.j0 a).T.length=(S.s.j0 a).G.length+(S.s.j0 a).Y.length/\_/\_):=⟨rfl,by unfold b8.T;rw[aW],aV.o.tl,aV.o.ps⟩
 have b5:=ax.o.2.1;have cQ:=ax.o.2.2.1;have i:=G1 _ w1.heap.size (S.s.j0 a).G (S.s.j0 a).Y d y1 g m1 s1 s2 (d7 t.o.2.1 (fun _ _=>aS _)) (d7 t.o.2.2 (fun _ _=>aS _)) V;rw[<-b5,<-ax.o.1] at i;clear s0 s1 s2 ap s4 b5;go_wp2_with fail;refine i.mono ?_;clear i s5 be bi bn;rintro e W ⟨cF,cG,rfl,bo,aB⟩
 have F:av (_/\_/\W.ownsRow (w1.heap.size+1) 3 1 (.slice d (S.s.j0 a).G.length g) (S.s.j0 a).G.length ((S.s.j0 a).G.map (Value.int .i64))/\W.ownsRow (w1.heap.size+1) 3 1 (.slice cF (S.s.j0 a).T.length cG) (S.s.j0 a).T.length ((S.s.j0 a).T.map (Value.int .i64))):=⟨t.o.1.below aB,cv t.o.2.1 (fun b e=>aB.block b (ce t.o.2.1 b e).2),cv t.o.2.2 (fun b e=>aB.block b (ce t.o.2.2 b e).2),d7 bo (fun b e=>by have:=(ce bo b e).1;have q:=t.o.1.cells.2.2.2.2.2;omega)⟩
 clear bo aB t;go_wp2_with fail
 go_loopw [66] (fun iv wr=>∃j:Nat,j<=(S.s.j0 a).T.length/\iv=ah j/\av (fw a S w w1.heap.size w.heap.size ps l m b1 E (.slice y1 (S.s.j0 a).Y.length m1) (.slice d (S.s.j0 a).G.length g) ((S.s.j0 a).T.take j) wr/\Fr (fun b=>b=w.heap.size) W wr)) (fun iv _=>(S.s.j0 a).T.length-(intOf iv).toNat)
 case atStart=>exact⟨0,aS _,rfl,F.o.1,Fr.refl _ _⟩
 ·
   obtain⟨j,cR,rfl,u⟩:=hrel;by_cases aF:j<(S.s.j0 a).T.length
   ·obtain⟨X,cH,b6,cI,hc⟩:=gO F.o.2.2.2 V;have cJ:w1.heap.size<X/\X<W.heap.size:=by
     have:=ce F.o.2.2.2 X (by rw[b6];rfl)
     omega
    have b7:=(aU (a:=⟨X,cH+j,none⟩) (u.o.2.block X cJ.2 (fun e=>by have:=u.o.1.jk;have:=u.o.1.pp;omega))).trans (hc j aF)
    have hm:(S.s.j0 a).T.getD j 0∈(S.s.j0 a).T:=by rw[aC,aG aF];exact a6 aF
    have s:=ax.o.2.2.2 _ hm;have b9:=hide (fz _ j aF 0)
    generalize (S.s.j0 a).T.getD j 0=x at b7 s b9;obtain⟨D,o1,ca,cc⟩:=u.o.1.mp;obtain⟨s0,s1,s2,ap,s4,s5⟩:=u.o.1.cells;have cd:=iZ (a:=x) s.1 V;have cf:=my (-1) aa;have ht:((S.s.j0 a).T.take j).length=j:=by rw[bf];omega
    have aR:=ir o1 ca cc;have j0:(0:Int)<=(j:Int):=V;have cS:(j:Int)<((S.s.j0 a).T.length:Int):=V;clear ca cc hc cI hm s0 s1 s2 s4;subst b6;go_wp2_with (first
     |(at_mapUpdate;refine wpList_mapUpdate_own _ rfl _ _ _ 108 rfl 3 3 iA underlying108 (plainElem (H:=Unit) prog 3) w.heap.size ((S.s.j0 a).T.take j).length D rfl o1 (by unfold maxLen;omega) _ _ _ rfl rfl cd _ [] cf ?_;intro bp cg ch)
     |go_in)
    have cK:av (fw a S w w1.heap.size w.heap.size ps l m b1 E (.slice y1 (S.s.j0 a).Y.length m1) (.slice d (S.s.j0 a).G.length g) ((S.s.j0 a).T.take (j+1)) bp/\Fr (fun b=>b=w.heap.size) W bp):=by
     have ci:Fr (fun b=>b=w.heap.size) wr bp:=(Fr.refl _ wr).grown ch (fun b e=>aJ (by cases e;rfl))
     have cL:=Mp.add (f:=fun _=>-1) aR.o.1 aR.o.2.1 aR.o.2.2 rfl rfl cg;have cj:=u.o.1.add ci cL;rw[<-b9.o] at cj;exact⟨cj,u.o.2.trans ci (fun b e=>aJ e)⟩
    clear u aR cg ch o1 b7 ap s5 cd cf;go_roundw;exact⟨j+1,V,af,cK⟩
    simp[intOf];omega
   ·obtain rfl:j=(S.s.j0 a).T.length:=V;have cM:av (∃(o:Nat->Prop),(c9 (dN ⟨w1.heap.size,w.heap.size,ps,.slice y1 (S.s.j0 a).Y.length m1,.slice d (S.s.j0 a).G.length g⟩ (S.s.j0 a)) ps (.slice l S.r.length m)).J o (gF,S.q) wr/\wr.ownsRow 0 83 2 (.slice l S.r.length m) S.r.length (ev S.r)/\(∀b,some b=(Value.slice l S.r.length m).ownBlock->¬o b/\w.heap.size<=b)/\(∀b,o b->Y b\/w.heap.size<=b)/\Below w.heap.size w wr):=by
     obtain⟨P,cl⟩:=u.o;rw[a_] at P;have ne:∀b,w1.heap.size+1<=b->¬b=w.heap.size:=fun b hb e=>by have:=P.jk;have:=P.pp;omega
     obtain⟨o,q1,al,q3⟩:=P.done C.o.1 aV.o (gH F.o.2.1 cl (fun b e=>ne b (ce F.o.2.1 b e).1)) (gH F.o.2.2.1 cl (fun b e=>ne b (ce F.o.2.2.1 b e).1)) (fun b e=>b3.o _ _ b e)
     exact⟨o,q1,P.sd.r0,al,q3,P.bl⟩
    clear u F;go_wp2_with fail;go_ret;obtain⟨o,q1,al,q3,cN,cO⟩:=cM.o;exact⟨⟨w1.heap.size,w.heap.size,ps,.slice y1 (S.s.j0 a).Y.length m1,.slice d (S.s.j0 a).G.length g⟩,l,m,o,rfl,q1,al,q3,cN,cO⟩
def ge (g:Int->Nat)(l:List Int):Nat:=(l.map g).sum
theorem t_ (g:Int->Nat)(a:Int)(l:List Int):ge g (a::l)=g a+ge g l:=by simp[ge]
theorem G3 (g:Int->Nat)(l m:List Int):ge g (l++m)=ge g l+ge g m:=by simp[ge]
section
variable {w:au}{pw p q N O y g:Nat}{ws:List Int}{sd:Nat}{v0:Value}{a1:Option Addr}{k1:Nat}{Q:List bZ}{l:List Int}{ra:Option Addr}{rc:Nat}
def fe (N y g:Nat)(ws:List Int)(Q:List bZ)(l:List Int):List (Int×Int)×cL:=
 c_ (met (dS N y g ws++dw N y g ws) (fun a=>pk (ld N y g ws a)) (eN N y g ws Q) (dS N y g ws++dw N y g ws).length) (dS N y g ws++dw N y g ws) ([],[]) l
theorem G4 (hq:lD w pw p q N O y g ws sd v0 a1 k1 Q)(c3:w.cell? (am pw 3)=some (.slice ra l.length rc))(hl:Lq w ra l)(hm:l.length<=100000):
 Calls prog 18 #[aj pw] w fun e w'=>∃I ad f J nc,e=.returned (.agg #[.slice I l.length ad,.slice f J nc])/\cY w' I (fe N y g ws Q l).1/\Ln w' f (fe N y g ws Q l).2.2/\J=(fe N y g ws Q l).2.2.length/\Below w.heap.size w w':=by
 have j:=an w (.cells #[.slice none 0 0,.slice none 0 0] 60)
 have K:=aL w (.cells #[.slice none 0 0,.slice none 0 0] 60)
 have D:=hq.low j;have ag:=hl.kf (Kf.of (B:=0) j)
 have M:=aK w _ c3;have S:=(j.cell (p:=am pw 3) M).trans c3;have ai:=aM M j.size;have al:w.heap.size<(w.alloc (.cells #[.slice none 0 0,.slice none 0 0] 60)).heap.size:=Z;have P:=wU D.c0 D.ar;have bi:=hq.ar.hN';have bl:=hq.ar.hy;have bn:=hq.ar.hO;have bo:=hq.ar.hg;have ap:∀a∈dS N y g ws++dw N y g ws,0<=a/\a<2000:=fun a ha=>by
  rcases List.mem_append.1 ha with ha|ha
  ·have:=mz a ha;omega
  ·have:=oA a ha;omega
 have ar:(dS N y g ws++dw N y g ws).length<=100000:=by exact zx
 have ax:av (∀(o co:Nat)(w1:au),Wk (w.alloc (.cells #[.slice none 0 0,.slice none 0 0] 60)) w1 o co pw (dS N y g ws++dw N y g ws) ([],[]) (.slice none 0 0) []->Calls prog 48 #[aj o,.slice ra l.length rc] w1 fun e w'=>∃aB E a2 c2,e=.returned (.slice a2 l.length c2)/\w'.ownsRow w1.heap.size 77 2 (.slice a2 l.length c2) l.length (ev (fe N y g ws Q l).1)/\Wk (w.alloc (.cells #[.slice none 0 0,.slice none 0 0] 60)) w' o co pw (dS N y g ws++dw N y g ws) (fe N y g ws Q l).2 aB E/\e9 (w.alloc (.cells #[.slice none 0 0,.slice none 0 0] 60)) w1 [] w' E/\(∀k,fA E k->some k≠(Value.slice a2 l.length c2).ownBlock)):=
  fun o co w1 h1=>sw (sx D ap ar _) (jb _) h1 (eX.start _) Z l ra rc (ag.kf (Kf.of (B:=0) h1.dt)) hm
 have aF:av ((fe N y g ws Q l).1.length=l.length):=kh _ _ _ _;generalize fe N y g ws Q l=R at*;obtain⟨bp,s⟩:=R;generalize dS N y g ws++dw N y g ws=T at*;go_enter func18,ntmps18;go_wp2_with fail;refine P.mono ?_;rintro e w1 ⟨o,co,rfl,h1⟩
 have aR:=(h1.dt.cell (p:=am pw 3) ai).trans S;have U:=hide h1;go_wp2_with fail;refine(ax.o o co w1 U.o).mono ?_;rintro e w2 ⟨br,m,a2,c2,rfl,C,d,aT,_⟩
 obtain⟨f,nc,aV⟩:=dQ d.row;subst aV;have bs:=d.cells.2.2.1;have W:=j.trans (d.dt.mono j.size)
 have n:=(d.dt.block _ al).trans K;have y0:w2.cell? (am w.heap.size 0)=some (.slice none 0 0):=ay n
 have y1:w2.cell? (am w.heap.size 1)=some (.slice none 0 0):=ay n
 have bt:w2.frozen? (am w.heap.size 0)=false:=az n
 have bx:w2.frozen? (am w.heap.size 1)=false:=az n
 have l2:=lt_of_some n;have a0:=dC d C;have a3:=hide d.len;have bb:=hide W;have X:=hide n;clear d C aT W n j K aR S U;go_wp2_with fail;obtain⟨t,hW0⟩:∃t,t=(w2.setCell ⟨w.heap.size,0,none⟩ (.slice a2 l.length c2)).setCell ⟨w.heap.size,1,none⟩ (.slice f m.length nc):=⟨_,rfl⟩
 rw[<-hW0];have g0:t.cell? (am w.heap.size 0)=some (.slice a2 l.length c2):=by exact kV
 have g1:t.cell? (am w.heap.size 1)=some (.slice f m.length nc):=by exact zw
 have u:Fr (fun k=>k=w.heap.size) w2 t:=by rw[hW0];exact((Fr.refl (fun k=>k=w.heap.size) w2).set w.heap.size 0 _ rfl).set w.heap.size 1 _ rfl
 obtain⟨d,C⟩:=a0.o;have Y:∀{F:Option Addr}{L:List (Int×Int)},f7 w2 F L->cY t F L:=fun {F L} h=>h.1.keep u.size (fun hp b e=>by
  obtain⟨bd,bY,bZ,be,G⟩:=h.2 hp;rw[be] at e;cases e;refine u.block _ (lt_of_some G) (fun c=>?_)
  have c:bd=w.heap.size:=c;rw[c,X.o] at G;simp at G)
 refine bv (v:=.agg #[.slice a2 l.length c2,.slice f m.length nc]) (by simp[results,results18,go_sem,g0,g1]) rfl ⟨a2,c2,f,m.length,nc,rfl,Y (f7.of (by rw[aF.o];exact C)),⟨m,d.nd,fun x H=>Y (d.fl x H),fun hp=>?_⟩,a3.o,bb.o.trans (u.below (Nat.le_of_lt l2) (fun k e=>Nat.le_of_eq (Eq.symm e)))⟩
 obtain⟨b,b0,e⟩:=dW d.row hp;cases e;obtain⟨b1,A⟩:=dZ d.row b rfl;have ab:b≠w.heap.size:=fun c=>by rw[c,X.o] at A;simp at A
 refine⟨b,0,rfl,aM (lt_of_some A) u.size,fun i x H=>?_⟩
 obtain⟨n1,bg⟩:=ng m i x H;rw[bF];exact⟨(aU (a:=⟨b,i*2,none⟩) (u.block b (lt_of_some A) ab)).trans (e8 d.row n1).1,(aU (a:=⟨b,i*2+1,none⟩) (u.block b (lt_of_some A) ab)).trans (e8 d.row bg).1⟩
end
open Go.RowKit W
section
variable {N O y g:Nat}{ws:List Int}{Y G:List Int}
theorem mT {x i:Int}(h:dT N y g ws x i=0):tB N y g ws x=true/\pk (ld N y g ws (cf x))≠5/\0<=i/\i<ic N y g (cf x) (pf (ld N y g ws (cf x))):=by
 unfold dT at h;by_cases ht:tB N y g ws x=true
 ·rw[aH ht] at h;by_cases b:pk (ld N y g ws (cf x))=5
  ·rw[aH b] at h;omega
  ·rw[aE b] at h;by_cases hi:i<0\/ic N y g (cf x) (pf (ld N y g ws (cf x)))<=i
   ·rw[aH hi] at h;omega
   ·exact⟨ht,b,V,V⟩
 ·rw[aE ht] at h;omega
theorem zz {x:Int}(h:d6 N y g ws Y G)(hN:N<=256)(hy:y<=N)(hO:O<=1024)(hg:g<=O)(ht:tB N y g ws x=true):cX x=true/\(cf x∈Y\/cf x∈G):=by obtain⟨b,c⟩:=h.lists hN hy hO hg;unfold tB at ht;rw[b,c] at ht;simpa using ht
theorem d6.fZ (h:d6 N y g ws Y G)(hl:ws.length=N+O)(hN:N<=256)(hy:y<=N)(hO:O<=1024)(hg:g<=O)(x i z:Int):d6 N y g (Proofs.YtjpjpjemibgjpaaGreat.fZ N y g ws x i z) Y G:=by
 unfold Proofs.YtjpjpjemibgjpaaGreat.fZ;by_cases h0:dT N y g ws x i=0
 ·rw[aH h0];obtain⟨ht,_,d,b⟩:=mT h0;obtain⟨_,c⟩:=zz h hN hy hO hg ht;rw[h.stands hy c] at b;split
  ·exact(h.set hl hy hg c d b).1
  ·exact h
 ·rw[aE h0];exact h
theorem G5 (x i z c:Int)(M:List Int):(stM N y g ws x i z c M).length<=M.length+1:=by
 unfold stM;split
 ·unfold kU;split
  ·exact Cv _ _
  ·omega
 ·omega
end
open Go.RowKit W oX
structure hX (N y g:Nat)(ws Y G rs:List Int):Prop where
 full:d6 N y g ws Y G
 rt:∀x∈rs,cX x=true->cf x∈Y\/cf x∈G
 fd:∀v,(v∈Y\/v∈G)->∀i,0<=i->i<pf (ld N y g ws v)->cX (ld N y g ws (v+1+i))=true->cf (ld N y g ws (v+1+i))∈Y\/cf (ld N y g ws (v+1+i))∈G
section
variable {N O y g:Nat}{ws Y G rs:List Int}
theorem mU (n:Nat)(h:n<1000000):cX (ew 3 n)=true/\cf (ew 3 n)=n:=by
 have b:=m6 3 n (l_ (n:Int) V V)
 exact⟨b.1,b.2 rfl⟩
theorem hX.root (h:hX N y g ws Y G rs)(k:Nat)(x:Int)(b:cX x=true->cf x∈Y\/cf x∈G):hX N y g ws Y G (rs.set k x):=
 ⟨h.full,fun z hz=>by
  rcases bB hz with hz|hz
  ·exact h.rt z hz
  ·rw[hz];exact b,h.fd⟩
theorem hX.at (h:hX N y g ws Y G rs)(k:Nat)(hk:k<rs.length)(ha:cX (rs.getD k 0)=true):cf (rs.getD k 0)∈Y\/cf (rs.getD k 0)∈G:=
 h.rt _ (by rw[aC,aG hk];exact a6 hk) ha
theorem mV (h:d6 N y g ws Y G){v i:Int}(b:v∈Y)(c:0<=i)(d:i<pf (ld N y g ws v)):0<=v+1+i/\v+1+i<y:=by have e:=h.ty.mem v b;omega
theorem mW (h:d6 N y g ws Y G){v i:Int}(b:v∈G)(c:0<=i)(d:i<pf (ld N y g ws v)):(N:Int)<=v+1+i/\v+1+i<(N:Int)+g:=by have e:=h.ee.mem v b;omega
theorem jF (h:d6 N y g ws Y G){v i:Int}(b:v∈Y\/v∈G)(c:0<=i)(d:i<pf (ld N y g ws v)):da N y g (v+1+i)=true:=by
 rcases b with b|b
 ·have:=mV h b c d;exact ih this.1 this.2
 ·have:=mW h b c d;exact g9 this.1 this.2
theorem hX.make (h:hX N y g ws Y G rs)(hl:ws.length=N+O){k f:Int}(hm:gY N y k f=true):hX N (ix N y k f) g (eM N y k f ws) (Y++[(y:Int)]) G rs:=by
 have m:=h.full.make hl hm;obtain⟨n,s⟩:=ow hm;have t:=iE k f n;have o:ix N y k f=y+1+f.toNat:=by unfold ix;rw[aH hm]
 have p:eM N y k f ws=ff ws y (hw k f) f.toNat:=by unfold eM;rw[aH hm]
 have hlt:y+f.toNat<ws.length:=V;rw[o,p] at m⊢;have mem:∀{z:Int},(z∈Y\/z∈G)->(z∈Y++[(y:Int)]\/z∈G):=fun hz=>hz.imp (fun c=>aZ _ c) id;refine⟨m,fun x q ha=>mem (h.rt x q ha),fun v b i j d ha=>?_⟩
 rcases b with b|b
 ·rcases List.mem_append.1 b with b|b
  ·have hi:=h.full.ii v b;have l:ld N (y+1+f.toNat) g (ff ws y (hw k f) f.toNat) v=ld N y g ws v:=by exact tp
   rw[l] at d;have hb:=mV h.full b j d;have e:ld N (y+1+f.toNat) g (ff ws y (hw k f) f.toNat) (v+1+i)=ld N y g ws (v+1+i):=by rw[dX (ih hb.1 V),dX (ih hb.1 hb.2),kS _ _ _ _ _ hlt,aE V,aE V]
   rw[e] at ha⊢;exact mem (h.fd v (aJ b) i j d ha)
  ·simp at b;subst b;rw[(ww _ _ hlt),(pK k f n).2.1] at d;have e:ld N (y+1+f.toNat) g (ff ws y (hw k f) f.toNat) ((y:Int)+1+i)=2:=by rw[dX (ih V V),kS _ _ _ _ _ hlt,aE V,aH V]
   rw[e] at ha;exact absurd ha aa
 ·have hi:=h.full.io v b;have l:ld N (y+1+f.toNat) g (ff ws y (hw k f) f.toNat) v=ld N y g ws v:=by exact qr
  rw[l] at d;have hb:=mW h.full b j d;have e:ld N (y+1+f.toNat) g (ff ws y (hw k f) f.toNat) (v+1+i)=ld N y g ws (v+1+i):=by exact zy
  rw[e] at ha⊢;exact mem (h.fd v (aI b) i j d ha)
theorem hX.set (h:hX N y g ws Y G rs)(hl:ws.length=N+O)(hy:y<=N)(hg:g<=O){v i z:Int}(d:v∈Y\/v∈G)(f:0<=i)(k:i<pf (ld N y g ws v))(hz:cX z=true->cf z∈Y\/cf z∈G):hX N y g (ws.set (v+1+i).toNat z) Y G rs:=by
 obtain⟨l,hk⟩:=h.full.set hl hy hg d f k;have n:=jd (jF h.full d f k) hy hg;refine⟨l,h.rt,fun u b j j0 c ha=>?_⟩
 rw[hk u b] at c;have hi:=jF h.full b j0 c;have m:ld N y g (ws.set (v+1+i).toNat z) (u+1+j)=if(v+1+i).toNat=(u+1+j).toNat then z else ld N y g ws (u+1+j):=by rw[dX hi,dX hi,jS _ _ _ _ V]
 rw[m] at ha⊢;split at ha
 ·rename_i e;rw[aH e];exact hz ha
 ·rename_i e;rw[aE e];exact h.fd u b j j0 c ha
theorem hX.tb (h:hX N y g ws Y G rs)(hN:N<=256)(hy:y<=N)(hO:O<=1024)(hg:g<=O)(k:Nat)(hk:k<rs.length):tB N y g ws (rs.getD k 0)=cX (rs.getD k 0):=by
 obtain⟨b,c⟩:=h.full.lists hN hy hO hg;unfold tB;rw[b,c];cases ha:cX _
 ·rfl
 ·have:=h.at k hk ha;simpa using this
end
open Go.RowKit W Kp cg oX
structure C0 where
 g:Nat
 ws:List Int
 G:List Int
def ca.l0 (k:ca)(z:C0)(a:Int):Int:=Proofs.YtjpjpjemibgjpaaGreat.ld k.N k.y z.g z.ws a
def ca.or (k:ca)(z:C0)(s:ch)(a b:Int):Prop:=(a=b/\b∈z.G)\/(a∈k.T/\s.f a=b/\b≠-1)
def ca.ml (k:ca)(s:ch)(b x:Int):Prop:=x=b\/(k.cK b=true/\s.f (cf b)≠-1/\x=ew 3 (s.f (cf b)))
structure dE (k:ca)(z:C0)(s:ch)(H:List Int):Prop where
 ci:CI k s
 qO:z.g<=s.g
 full:d6 k.N k.y s.g s.ws k.T (z.G++H)
 kF:∀b∈z.G,b<(k.N:Int)+z.g
 mX:∀b,0<=b->b<(k.y:Int)->k.ld s b=k.l0 z b
 fh:∀a∈k.T,s.f a≠-1->s.f a∈H
 inj:∀a∈k.T,∀b∈k.T,s.f a≠-1->s.f a=s.f b->a=b
 fV:∀b∈H,∃a∈k.T,s.f a=b
 hlo:∀b∈H,(k.N:Int)+z.g<=b
 hd:∀a b,k.or z s a b->k.ld s b=k.l0 z a
 fd:∀a b,k.or z s a b->∀i,0<=i->i<pf (k.l0 z a)->k.ml s (k.l0 z (a+1+i)) (k.ld s (b+1+i))
structure df (k:ca)(s t:ch):Prop where
 f:∀a,s.f a≠-1->t.f a=s.f a
 g:s.g<=t.g
 cl:∀b,(k.N:Int)<=b->b<(k.N:Int)+s.g->k.cK (k.ld s b)=false->k.cK (k.ld t b)=false
section
variable {k:ca}{z:C0}{s t u:ch}{H:List Int}
theorem df.refl (k:ca)(s:ch):df k s s:=⟨fun _ _=>rfl,aA _,fun _ _ _ h=>h⟩
theorem df.trans (h:df k s t)(j:df k t u):df k s u:=
 ⟨fun a ha=>(j.f a (by rw[h.f a ha];exact ha)).trans (h.f a ha),aP h.g j.g,fun b c d e=>j.cl b c (by have:=h.g;omega) (h.cl b c d e)⟩
theorem df.or (h:df k s t){a b:Int}(c:k.or z s a b):k.or z t a b:=by
 rcases c with c|⟨f,d,e⟩
 ·exact aJ c
 ·exact aI ⟨f,(h.f a (by rw[d];exact e)).trans d,e⟩
theorem df.ml (h:df k s t){d x:Int}(b:k.ml s d x):k.ml t d x:=by
 rcases b with b|⟨e,c,f⟩
 ·exact aJ b
 ·exact aI ⟨e,by rw[h.f _ c];exact c,by rw[h.f _ c];exact f⟩
theorem dE.mem (h:dE k z s H){a b:Int}(d:k.or z s a b):b∈z.G++H:=by
 rcases d with⟨_,e⟩|⟨f,c,g⟩
 ·exact aZ _ e
 ·exact bc _ (c▸h.fh a f (by rw[c];exact g))
theorem dE.from (h:dE k z s H){b:Int}(c:b∈z.G++H):∃a,k.or z s a b:=by
 rcases List.mem_append.1 c with c|c
 ·exact⟨b,aJ ⟨rfl,c⟩⟩
 ·obtain⟨a,ha,e⟩:=h.fV b c;have:=h.hlo b c;exact⟨a,aI ⟨ha,e,V⟩⟩
theorem dE.bd (h:dE k z s H){b:Int}(c:b∈z.G++H):(k.N:Int)<=b/\b+(1+pf (k.ld s b))<=(k.N:Int)+s.g/\pc (k.ld s b)=0:=h.full.ee.mem b c
theorem dE.iV (h:dE k z s H){b:Int}(c:b∈H):(k.N:Int)<=b/\b<(k.N:Int)+s.g:=by
 have d:=h.bd (bc _ c)
 have:=di (k.ld s b)
 omega
theorem CI.zA (h:CI k s){a:Int}(ha:(k.N:Int)<=a):a∉k.T:=fun c=>by have b:=h.tu c;have:=h.hy;omega
theorem mY (h:CI k s){n:Int}(h0:(k.N:Int)<=n)(b:n<1000000):k.cK (ew 3 n)=false:=by
 have e:=m6 3 n (l_ n V V)
 unfold ca.cK;rw[e.1,e.2 rfl];simp;exact h.zA h0
theorem dE.cp (h:dE k z s H){a:Int}(ha:a∈k.T)(t:s.f a=-1):dE k z (k.cp s a) (H++[((k.N+s.g:Nat):Int)])/\df k s (k.cp s a)/\(k.cp s a).f a=((k.N+s.g:Nat):Int):=by
 have ci:=h.ci;have hc:=ci.ib ha t;obtain⟨u,J,t3⟩:=ci.th a ha;have hp:=di (k.ld s a)
 have hz:=h.qO;have hl:=ca.tz ci.len ci.hy ci.hg u t3 hc;obtain⟨B,_⟩:=ci.cp ha t;obtain⟨C,D⟩:=h.full.copy ci.len ci.hy ci.hg hc (aJ ha)
 have v:(k.cp s a).f=gq s.f a ((k.N+s.g:Nat):Int):=by rw[ca.nM hc]
 have w:(k.cp s a).g=s.g+(1+(pf (k.ld s a)).toNat):=by rw[ca.nM hc]
 have j:∀b,b≠a->(k.cp s a).f b=s.f b:=fun b d=>by rw[v];unfold gq;rw[aE d]
 have m:(k.cp s a).f a=((k.N+s.g:Nat):Int):=by rw[v];unfold gq;rw[aH rfl]
 have lo:∀b,b<(k.N:Int)+s.g->k.ld (k.cp s a) b=k.ld s b:=fun b d=>by rw[hl,aE V]
 have iL:df k s (k.cp s a):=⟨fun b d=>j b (fun e=>d (by rw[e];exact t)),by rw[w];omega,fun b g l E=>by rw[lo b l];exact E⟩
 have x:∀c b,k.or z (k.cp s a) c b->k.or z s c b\/(c=a/\b=((k.N+s.g:Nat):Int)):=fun c b f=>by
  rcases f with f|⟨o1,q,F⟩
  ·exact aJ (aJ f)
  ·by_cases e:c=a
   ·rw[e,m] at q;exact aI ⟨e,q.symm⟩
   ·rw[j c e] at q;exact aJ (aI ⟨o1,q,F⟩)
 refine⟨⟨B,by rw[w];omega,by rw[<-bj];exact C,h.kF,fun b h0 g=>?_,fun c n g=>?_,fun c n b d g l=>?_,fun b d=>?_,fun b d=>?_,fun c b f=>?_,fun c b f i G A=>?_⟩,iL,m⟩
 ·rw[lo b (by have:=ci.hy;omega)];exact h.mX b h0 g
 ·by_cases e:c=a
  ·rw[e,m];simp
  ·rw[j c e] at g⊢;exact aZ _ (h.fh c n g)
 ·by_cases o:c=a
  ·by_cases p:b=a
   ·rw[o,p]
   ·rw[o,m,j b p] at l;have:=h.iV (h.fh b d (by rw[<-l];omega))
    omega
  ·by_cases p:b=a
   ·rw[p,m,j c o] at l;rw[j c o] at g;have:=h.iV (h.fh c n g)
    omega
   ·rw[j c o,j b p] at l;rw[j c o] at g;exact h.inj c n b d g l
 ·rcases List.mem_append.1 d with d|d
  ·obtain⟨c,n,e⟩:=h.fV b d;have I:s.f c≠-1:=by have:=h.iV d;omega
   exact⟨c,n,by rw[iL.f c I];exact e⟩
  ·simp at d;exact⟨a,ha,by rw[m,d];omega⟩
 ·rcases List.mem_append.1 d with d|d
  ·exact h.hlo b d
  ·simp at d;omega
 ·rcases x c b f with f|⟨rfl,rfl⟩
  ·have hm:=h.bd (h.mem f)
   rw[lo b (by have:=di (k.ld s b);omega)];exact h.hd c b f
  ·have:=h.mX c u V;rw[<-this];exact D
 ·rcases x c b f with f|⟨rfl,rfl⟩
  ·have hm:=h.bd (h.mem f)
   rw[lo (b+1+i) (by rw[(h.hd c b f)] at hm;omega)];exact iL.ml (h.fd c b f i G A)
  ·rw[<-(h.mX c u V)] at A;refine aJ ?_;rw[hl,aH V,<-h.mX (c+1+i) V V]
   congr 1
   omega
theorem dE.st (h:dE k z s H){a b i x:Int}(n:k.or z s a b)(p:0<=i)(q:i<pf (k.l0 z a))(u:k.ml s (k.l0 z (a+1+i)) x):dE k z (k.st s (b+1+i) x) H/\k.ld (k.st s (b+1+i) x) (b+1+i)=x/\(∀c,c≠b+1+i->k.ld (k.st s (b+1+i) x) c=k.ld s c):=by
 have ci:=h.ci;have hm:=h.mem n;have v:=h.bd hm;have e:=h.hd a b n;rw[e] at v;have hi:da k.N k.y s.g (b+1+i)=true:=g9 V V;have hl:=ca.nL ci.len ci.hy ci.hg (b+1+i) x;have same:k.ld (k.st s (b+1+i) x) (b+1+i)=x:=by rw[hl,aH ⟨rfl,hi⟩]
 have fF:∀c,c≠b+1+i->k.ld (k.st s (b+1+i) x) c=k.ld s c:=fun c hc=>by rw[hl,aE (fun e=>hc e.1)]
 have ew:k.st s (b+1+i) x={s with ws:=s.ws.set (b+1+i).toNat x}:=by unfold ca.st;rw[aH hi]
 have ap:∀c d,k.or z s c d->∀j,0<=j->j<pf (k.l0 z c)->d+1+j=b+1+i->c=a/\d=b/\j=i:=fun c d f j j0 o g=>by
  have hd:=h.mem f;have t:d=b:=by
   rcases Int.lt_trichotomy d b with l|l|l
   ·have:=h.full.ee.apart d hd b hm l;have this:d+(1+pf (k.ld s d))<=b:=this
    rw[(h.hd c d f)] at this
    omega
   ·exact l
   ·have:=h.full.ee.apart b hm d hd l;have this:b+(1+pf (k.ld s b))<=d:=this
    rw[e] at this
    omega
  refine⟨?_,t,V⟩
  rw[t] at f;rcases f with⟨c1,c2⟩|⟨c1,c2,c3⟩<;>rcases n with⟨o1,m⟩|⟨o1,m,w⟩
  ·omega
  ·have A:=h.hlo b (m▸h.fh a o1 (by rw[m];exact w))
   have B:=h.kF b c2;omega
  ·have A:=h.hlo b (c2▸h.fh c c1 (by rw[c2];exact c3))
   have B:=h.kF b m;omega
  ·exact h.inj c c1 a o1 (by rw[c2];exact c3) (c2.trans m.symm)
 have fl:d6 k.N k.y (k.st s (b+1+i) x).g (k.st s (b+1+i) x).ws k.T (z.G++H):=by rw[ew];exact(h.full.set ci.len ci.hy ci.hg (aI hm) p (by show i<pf (k.ld s b);rw[e];exact q)).1
 refine⟨⟨ci.st V x,h.qO,fl,h.kF,fun c h0 C=>?_,h.fh,h.inj,h.fV,h.hlo,fun c d f=>?_,fun c d f j j0 o=>?_⟩,same,fF⟩
 ·rw[fF c (by have:=ci.hy;omega)];exact h.mX c h0 C
 ·have f:=f;rw[fF d (fun g=>?_)]
  ·exact h.hd c d f
  ·exact h.full.ee.field hm p (by show i<pf (k.ld s b);rw[e];exact q) (g▸h.mem f)
 ·have f:=f;by_cases g:d+1+j=b+1+i
  ·obtain⟨rfl,rfl,rfl⟩:=ap c d f j j0 o g;rw[same];exact u
  ·rw[fF _ g];exact h.fd c d f j j0 o
theorem df.st (ci:CI k s){a x:Int}(c:k.cK x=false):df k s (k.st s a x):=
 ⟨fun _ _=>rfl,aA _,fun b _ _ d=>by
  rw[ca.nL ci.len ci.hy ci.hg];split
  ·exact c
  ·exact d⟩
theorem dE.br (h:dE k z s H)(x:Int):∃j,dE k z (k.br s x).2 j/\df k s (k.br s x).2/\k.cK (k.br s x).1=false/\(∃m,j=H++m)/\(∀d,k.ml s d x->k.ml (k.br s x).2 d (k.br s x).1)/\(k.cK x=true->(k.br s x).2.f (cf x)≠-1)/\(k.br s x).1=k.nw (k.br s x).2 x:=by
 have ci:=h.ci;have n1:=ci.hN';have u:=ci.hO;have key:∀(t:ch)(l:List Int),dE k z t l->df k s t->(k.cK x=true->t.f (cf x)≠-1)->k.cK (k.nw t x)=false/\∀d,k.ml s d x->k.ml t d (k.nw t x):=fun t l ht iL hy=>by
  by_cases c:k.cK x=true
  ·have b:=hy c;have n:cf x∈k.T:=by unfold ca.cK at c;simp at c;exact c.2
   have e:k.nw t x=ew 3 (t.f (cf x)):=by unfold ca.nw;rw[c,aH (by simp[b])]
   have o:=ht.iV (ht.fh _ n b)
   have hg:=ht.ci.hg;rw[e];refine⟨mY ht.ci o.1 V,fun d hm=>?_⟩
   rcases hm with rfl|⟨m1,f,g⟩
   ·exact aI ⟨c,b,rfl⟩
   ·exfalso;have p:cf d∈k.T:=by unfold ca.cK at m1;simp at m1;exact m1.2
    have q:=h.iV (h.fh _ p f)
    have v:=ci.hg;rw[g,mY ci q.1 V] at c;simp at c
  ·have c:k.cK x=false:=by simpa using c
   have e:k.nw t x=x:=by unfold ca.nw;rw[c];simp
   rw[e];exact⟨c,fun d hm=>iL.ml hm⟩
 unfold ca.br;by_cases c:k.ls s x=true
 ·obtain⟨c1,c2,c3⟩:=ca.mN c;obtain⟨m1,f,g⟩:=h.cp c2 c3;have b:(k.cp s (cf x)).f (cf x)≠-1:=by rw[g];omega
  obtain⟨k1,i⟩:=key _ _ m1 f (fun _=>b)
  rw[aH c];exact⟨_,m1,f,k1,⟨_,rfl⟩,i,fun _=>b,rfl⟩
 ·have b:k.cK x=true->s.f (cf x)≠-1:=fun hy e=>c (by unfold ca.ls;rw[hy,e];rfl)
  obtain⟨k1,i⟩:=key s H h (df.refl _ _) b;rw[aE c];exact⟨H,h,df.refl _ _,k1,⟨[],Z⟩,i,b,rfl⟩
theorem dE.kf (h:dE k z s H){a b i:Int}(d:k.or z s a b)(e:0<=i)(f:i<pf (k.l0 z a)):∃c,dE k z (k.kf s (b+1+i)) c/\df k s (k.kf s (b+1+i))/\k.cK (k.ld (k.kf s (b+1+i)) (b+1+i))=false/\∃l,c=H++l:=by
 obtain⟨c,m1,g,j,m,n,_,_⟩:=h.br _;obtain⟨s1,s2,o⟩:=m1.st (g.or d) e f (n _ (h.fd a b d i e f))
 refine⟨c,s1,g.trans (df.st m1.ci j),?_,m⟩
 unfold ca.kf;rw[s2];exact j
theorem dE.fP (h:dE k z s H){a b:Int}(c:k.or z s a b):∀n:Nat,(n:Int)<=pf (k.l0 z a)->∃g,dE k z (k.fP s b n) g/\df k s (k.fP s b n)/\(∀i:Nat,i<n->k.cK (k.ld (k.fP s b n) (b+1+i))=false)/\∃f,g=H++f
 |0,_=>⟨H,h,df.refl _ _,fun i hi=>V,⟨[],Z⟩⟩
 |n+1,t=>by
  obtain⟨u,m1,d,j,⟨f,l⟩⟩:=dE.fP h c n V;obtain⟨m,o,j2,cy,⟨p,cz⟩⟩:=m1.kf (d.or c) (i:=n) V V;refine⟨m,o,d.trans j2,fun i hi=>?_,⟨f++p,by rw[cz,l,bj]⟩⟩
  by_cases e:i=n
  ·rw[e];exact cy
  ·have q:=m1.bd (m1.mem (d.or c))
   rw[(m1.hd _ _ (d.or c))] at q;exact j2.cl _ V V (j i V)
end
section
variable {k:ca}{z:C0}{s t u:ch}{H:List Int}
theorem hY {x:Int}(h:pc x=0)(b:pk x=1\/pk x=3\/pk x=4):pf x=2:=by
 unfold pc at h;unfold pk at b;unfold pf;split at h
 ·rename_i e;rw[aH e] at b⊢;generalize x%16=a at*;generalize x/16=f at*;unfold hc at e;rcases b with b|b|b
  ·rw[aH b] at e;split at e
   ·assumption
   ·omega
  ·rw[aE V,aH b] at e;split at e
   ·assumption
   ·omega
  ·rw[aE V,aE V,aH b] at e;split at e
   ·assumption
   ·omega
 ·omega
theorem zB {x:Int}(h:pc x=0):(pk x=1\/pk x=2)\/pk x=3\/pk x=4\/(pk x=5/\pf x=0):=by
 unfold pc at h;unfold pk pf;split at h
 ·rename_i e;rw[aH e,aH e];have c:=iE _ _ e;generalize x%16=a at*;generalize x/16=f at*;by_cases b:a=5
  ·right;right;right;refine⟨b,?_⟩
   unfold hc at e;rw[aE V,aE V,aE V,aE V,aH b] at e;split at e
   ·assumption
   ·omega
  ·omega
 ·omega
theorem jG (k:ca)(s:ch)(a:Int):(k.kf s a).wk=s.wk/\(k.kf s a).ep=s.ep/\(k.kf s a).nx=s.nx/\(k.kf s a).rs=s.rs:=by unfold ca.kf ca.st ca.br;split<;>exact⟨rfl,rfl,rfl,rfl⟩
theorem mZ (k:ca)(s:ch)(a:Int):∀n,(k.fP s a n).wk=s.wk/\(k.fP s a n).ep=s.ep/\(k.fP s a n).nx=s.nx/\(k.fP s a n).rs=s.rs
 |0=>⟨rfl,rfl,rfl,rfl⟩
 |n+1=>by obtain⟨b,c,d,e⟩:=mZ k s a n;obtain⟨f,j2,cy,cz⟩:=jG k _ _;exact⟨f.trans b,j2.trans c,cy.trans d,cz.trans e⟩
theorem qP (k:ca)(s:ch)(a:Int):(k.lk s a).nx=s.nx/\(k.lk s a).rs=s.rs:=by
 unfold ca.lk;split
 ·exact⟨(mZ _ _ _ _).2.2.1,(mZ _ _ _ _).2.2.2⟩
 ·split
  ·exact⟨(jG _ _ _).2.2.1,(jG _ _ _).2.2.2⟩
  ·split<;>exact⟨rfl,rfl⟩
theorem dE.turn (h:dE k z s H)(wk ep rs:List Int)(nx:Int)(hw:∀a∈wk,(k.N:Int)<=a/\a<=2000)(he:∀a∈ep,(k.N:Int)<=a/\a<=2000)(h0:(k.N:Int)<=nx)(b:nx<=(k.N:Int)+k.O+13):dE k z {s with wk:=wk,ep:=ep,rs:=rs,nx:=nx} H:=
 {
  ci:={hN:=h.ci.hN,hN':=h.ci.hN',hO:=h.ci.hO,hy:=h.ci.hy,hg:=h.ci.hg,len:=h.ci.len,th:=h.ci.th,nd:=h.ci.nd,room:=h.ci.room,gT:=h0,gB:=b,ij:=hw,g_:=he,tl:=h.ci.tl}
  qO:=h.qO,full:=h.full,kF:=h.kF,mX:=h.mX,fh:=h.fh,inj:=h.inj,fV:=h.fV,hlo:=h.hlo,hd:=h.hd,fd:=h.fd}
theorem df.turn (k:ca)(s:ch)(wk ep rs:List Int)(nx:Int):df k s {s with wk:=wk,ep:=ep,rs:=rs,nx:=nx}:=⟨fun _ _=>rfl,aA _,fun _ _ _ h=>h⟩
def Lo (k:ca)(s:ch)(b:Int):Prop:=∀i,0<=i->i<pf (k.ld s b)->k.cK (k.ld s (b+1+i))=false\/(pk (k.ld s b)=3/\i=0/\b∈s.wk)\/(pk (k.ld s b)=4/\b∈s.ep)
theorem dE.lk (h:dE k z s H){a b:Int}(e:k.or z s a b):∃f,dE k z (k.lk s b) f/\df k s (k.lk s b)/\(∃v,f=H++v)/\Lo k (k.lk s b) b/\(∀c∈s.wk,c∈(k.lk s b).wk)/\∀c∈s.ep,c∈(k.lk s b).ep:=by
 have t:=h.bd (h.mem e)
 have hg:=h.ci.hg;have hN:=h.ci.hN';have hO:=h.ci.hO;have j:=h.hd a b e;have D:=di (k.ld s b)
 unfold ca.lk;by_cases c1:pk (k.ld s b)=1\/pk (k.ld s b)=2
 ·rw[aH c1];obtain⟨f,m1,g,m,p⟩:=h.fP e (pf (k.ld s b)).toNat (by rw[<-j];omega)
  have n:=m1.hd a b (g.or e)
  refine⟨f,m1,g,p,fun i o l=>aJ ?_,fun c hc=>by rw[(mZ _ _ _ _).1];exact hc,fun c hc=>by rw[(mZ _ _ _ _).2.1];exact hc⟩
  rw[n,<-j] at l;have u:=m i.toNat V;rw[Int.toNat_of_nonneg o] at u;exact u
 ·rw[aE c1];by_cases c3:pk (k.ld s b)=3
  ·rw[aH c3];have w:=hY t.2.2 (aI (aJ c3))
   have A:=h.turn (s.wk++[b]) s.ep s.rs s.nx (fun x q=>by
    rcases List.mem_append.1 q with d|d
    ·exact h.ci.ij x d
    ·rw[bD] at d;omega) h.ci.g_ h.ci.gT h.ci.gB
   obtain⟨f,m1,g,m,p⟩:=A.kf (i:=1) e V (by rw[<-j];omega)
   have ea:b+1+1=b+2:=V;rw[ea] at m1 g m;have n:=m1.hd a b (g.or e)
   refine⟨f,m1,(df.turn k s (s.wk++[b]) s.ep s.rs s.nx).trans g,p,fun i o l=>?_,fun c hc=>by rw[(jG _ _ _).1];exact aZ _ hc,fun c hc=>by rw[(jG _ _ _).2.1];exact hc⟩
   rw[n,<-j,w] at l;by_cases B:i=0
   ·refine aI (aJ ⟨by rw[n,<-j];exact c3,B,?_⟩)
    rw[(jG _ _ _).1];simp
   ·have C:i=1:=V;subst C;rw[ea];exact aJ m
  ·rw[aE c3];by_cases c4:pk (k.ld s b)=4
   ·rw[aH c4];refine⟨H,h.turn s.wk _ s.rs s.nx h.ci.ij (fun x q=>by
     rcases List.mem_append.1 q with d|d
     ·exact h.ci.g_ x d
     ·rw[bD] at d;subst d;omega) h.ci.gT h.ci.gB,df.turn k s s.wk _ s.rs s.nx,⟨[],Z⟩,fun i o l=>aI (aI ⟨c4,Z⟩),fun c hc=>hc,fun c hc=>aZ _ hc⟩
   ·rw[aE c4];refine⟨H,h,df.refl _ _,⟨[],Z⟩,fun i o l=>?_,fun c hc=>hc,fun c hc=>hc⟩
    have:=zB t.2.2;omega
theorem Lo.go {b:Int}{K:List Int}(h:Lo k s b)(hs:dE k z s H)(ht:dE k z t K)(p:df k s t){a:Int}(c:k.or z s a b)(hw:b∈s.wk->b∈t.wk)(he:b∈s.ep->b∈t.ep):Lo k t b:=by
 have f:=hs.hd a b c;have g:=ht.hd a b (p.or c)
 have o:=hs.bd (hs.mem c)
 intro i l j;rw[g,<-f] at j;rw[g,<-f];rcases h i l j with m|⟨d,e,n⟩|⟨d,e⟩
 ·exact aJ (p.cl _ V V m)
 ·exact aI (aJ ⟨d,e,hw n⟩)
 ·exact aI (aI ⟨d,he e⟩)
end
theorem zC {g h:Int->Nat}(R:Int->Int->Prop)(i:∀a b c,R a c->R b c->a=b):∀(l T:List Int),l.Nodup->T.Nodup->(∀b∈l,∃a∈T,R b a/\g b=h a)->ge g l<=ge h T
 |[],T,_,_,_=>aS _
 |b::l,T,hl,j,k=>by
  obtain⟨a,ha,r,e⟩:=k b Z;rw[List.nodup_cons] at hl;have p:=oZ h T a j ha;have m:=zC R i l (T.filter (fun c=>!(c==a))) hl.2 (j.filter _) (fun c hc=>by
   obtain⟨d,hd,f,n⟩:=k c (aO _ hc)
   refine⟨d,List.mem_filter.2 ⟨hd,?_⟩,f,n⟩
   cases q:d==a
   ·rfl
   ·have o:d=a:=by simpa using q
    rw[o] at f;exact absurd (i c b a f r▸hc) hl.1)
  rw[t_];unfold ge at m⊢;omega
theorem zD {g:Int->Nat}{l T:List Int}(hl:l.Nodup)(c:T.Nodup)(hs:∀a∈l,a∈T):ge g l<=ge g T:=
 zC (fun a b=>a=b) (fun _ _ _ d e=>d.trans e.symm) l T hl c (fun b f=>⟨b,hs b f,rfl,rfl⟩)
def m0 (L:Int->Int)(a:Int):Nat:=1+(pf (L a)).toNat
theorem d5.sum {L:Int->Int}{hi:Int}:∀{l:List Int}{a:Int},d5 L hi a l->(ge (m0 L) l:Int)=hi-a
 |[],a,h=>by have h:a=hi:=h;simp[ge,h]
 |x::l,a,h=>by
  obtain⟨rfl,_,c,ht⟩:=h;have b:=d5.sum ht;have hp:=di (L x)
  rw[t_];unfold m0 at b⊢;omega
theorem d5.nodup {L:Int->Int}{hi:Int}:∀{l:List Int}{a:Int},d5 L hi a l->l.Nodup
 |[],_,_=>List.nodup_nil
 |x::l,a,h=>by
  obtain⟨rfl,_,_,ht⟩:=h;rw[List.nodup_cons];refine⟨fun c=>?_,d5.nodup ht⟩
  have:=(ht.mem x c).1;have hp:=di (L x)
  omega
section
variable {N O y g:Nat}{ws Y G:List Int}
theorem zE (h:d6 N y g ws Y G)(hy:y<=N)(Q:List bZ){a:Int}(ha:a∈Y\/a∈G)(b:pk (ld N y g ws a)≠5):((eN N y g ws Q a).length:Int)=pf (ld N y g ws a):=by
 have hp:=di (ld N y g ws a)
 unfold eN;rw[aE b,h.stands hy ha];simp;omega
end
def Pos (z:Int->Int)(al:Int->Bool)(f:Int->Int):Int->List Int->Int->Prop
 |n,[],m=>n=m
 |n,a::l,m=>(al a=true->f a=n/\Pos z al f (n+(1+z a)) l m)/\(al a=false->f a=-1/\Pos z al f n l m)
section
variable {z:Int->Int}{al:Int->Bool}{f:Int->Int}
theorem Pos.le (hz:∀a,0<=z a):∀{l:List Int}{n m:Int},Pos z al f n l m->n<=m
 |[],n,m,h=>Int.le_of_eq h
 |a::l,n,m,h=>by
  have:=hz a;cases c:al a
  ·exact Pos.le hz (h.2 c).2
  ·have:=Pos.le hz (h.1 c).2;omega
theorem Pos.app:∀{l e:List Int}{n m:Int},Pos z al f n (l++e) m->∃b,Pos z al f n l b/\Pos z al f b e m
 |[],e,n,m,h=>⟨n,rfl,h⟩
 |a::l,e,n,m,h=>by
  cases c:al a
  ·obtain⟨b,g,i⟩:=Pos.app (h.2 c).2;exact⟨b,⟨fun d=>(by rw[c] at d;cases d),fun _=>⟨(h.2 c).1,g⟩⟩,i⟩
  ·obtain⟨b,g,i⟩:=Pos.app (h.1 c).2;exact⟨b,⟨fun _=>⟨(h.1 c).1,g⟩,fun d=>(by rw[c] at d;cases d)⟩,i⟩
theorem Pos.bd (hz:∀a,0<=z a):∀{l:List Int}{n m:Int},Pos z al f n l m->∀a∈l,al a=true->n<=f a/\f a+(1+z a)<=m
 |[],n,m,h,a,ha,_=>by cases ha
 |b::l,n,m,h,a,ha,hl=>by
  rcases List.mem_cons.1 ha with e|ha
  ·rw[e] at hl⊢;obtain⟨g,d⟩:=h.1 hl;have:=d.le hz;omega
  ·have:=hz b;cases c:al b
   ·exact Pos.bd hz (h.2 c).2 a ha hl
   ·have:=Pos.bd hz (h.1 c).2 a ha hl;omega
theorem Pos.no:∀{l:List Int}{n m:Int},Pos z al f n l m->∀a∈l,al a=false->f a=-1
 |[],n,m,h,a,ha,_=>by cases ha
 |b::l,n,m,h,a,ha,hl=>by
  rcases List.mem_cons.1 ha with e|ha
  ·rw[e] at hl⊢;exact(h.2 hl).1
  ·cases c:al b
   ·exact Pos.no (h.2 c).2 a ha hl
   ·exact Pos.no (h.1 c).2 a ha hl
theorem Pos.inj (hz:∀a,0<=z a):∀{l:List Int}{n m:Int},Pos z al f n l m->∀a∈l,∀b∈l,al a=true->al b=true->f a=f b->a=b
 |[],n,m,h,a,ha,_,_,_,_,_=>by cases ha
 |x::l,n,m,h,a,ha,b,d,g,lb,e=>by
  have o:=hz x;rcases List.mem_cons.1 ha with ea|ha
  ·rcases List.mem_cons.1 d with i|d
   ·rw[ea,i]
   ·rw[ea] at g e;obtain⟨k,j⟩:=h.1 g;have:=j.bd hz b d lb;omega
  ·rcases List.mem_cons.1 d with i|d
   ·rw[i] at lb e;obtain⟨k,j⟩:=h.1 lb;have:=j.bd hz a ha g;omega
   ·cases c:al x
    ·exact Pos.inj hz (h.2 c).2 a ha b d g lb e
    ·exact Pos.inj hz (h.1 c).2 a ha b d g lb e
theorem Pos.ua (hz:∀a,0<=z a){L:Int->Int}:∀{l:List Int}{n m:Int},Pos z al f n l m->(∀a∈l,al a=true->pc (L (f a))=0/\pf (L (f a))=z a)->d5 L m n ((l.filter al).map f)
 |[],n,m,h,_=>by have h:=h;rw[h];exact d5.done
 |a::l,n,m,h,hl=>by
  cases c:al a
  ·rw[List.filter_cons_of_neg (by simp[c])];exact Pos.ua hz (h.2 c).2 (fun b d=>hl b (aO _ d))
  ·rw[List.filter_cons_of_pos c,List.map_cons];obtain⟨i,g⟩:=h.1 c;obtain⟨q1,e⟩:=hl a Z c;rw[i] at q1 e⊢;refine d5.step q1 (by rw[e];exact g.le hz) ?_;rw[e];exact Pos.ua hz g (fun b d=>hl b (aO _ d))
theorem Pos.sum:∀{l:List Int}{n m:Int},Pos z al f n l m->(∀a,0<=z a)->(ge (fun a=>1+(z a).toNat) (l.filter al):Int)=m-n
 |[],n,m,h,_=>by have h:n=m:=h;simp[ge,h]
 |a::l,n,m,h,hz=>by
  have:=hz a;cases c:al a
  ·rw[List.filter_cons_of_neg (by simp[c])];exact Pos.sum (h.2 c).2 hz
  ·rw[List.filter_cons_of_pos c,t_];have:=Pos.sum (h.1 c).2 hz;omega
end
theorem pn (k:b8)(al:Int->Bool):∀(l:List Int)(t:ct×Int),l.Nodup->(∀a∈l,al a=!(t.1.f a==-1))->Pos (fun a=>pf (k.ld a)) al (k.lV t l).1.f t.2 l (k.lV t l).2/\(∀b,b∉l->(k.lV t l).1.f b=t.1.f b)/\(k.lV t l).1.td=t.1.td/\(k.lV t l).1.ep=t.1.ep
 |[],t,_,_=>⟨rfl,fun _ _=>rfl,rfl,rfl⟩
 |a::l,t,f,ha=>by
  rw[List.nodup_cons] at f;have p:k.lV t (a::l)=k.lV (e6 (fun t a=>t.1.f a) k.lU t a) l:=rfl;have q:=ha a Z;by_cases c:t.1.f a=-1
  ·have i:e6 (fun t a=>t.1.f a) k.lU t a=t:=by unfold e6;rw[aH c]
   rw[p,i];obtain⟨j,g,m,n⟩:=pn k al l t f.2 (fun b d=>ha b (aO _ d))
   have ea:al a=false:=by rw[q,c];rfl
   exact⟨⟨fun h=>(by rw[ea] at h;cases h),fun _=>⟨by rw[g a f.1];exact c,j⟩⟩,fun b d=>g b (fun o=>d (aO _ o)),m,n⟩
  ·have i:e6 (fun t a=>t.1.f a) k.lU t a=k.lU t a:=by unfold e6;rw[aE c]
   rw[p,i];obtain⟨j,g,m,n⟩:=pn k al l (k.lU t a) f.2 (fun b d=>by
    have s:b≠a:=fun e=>f.1 (e▸d)
    show al b=!(gq t.1.f a t.2 b==-1)
    unfold gq;rw[aE s];exact ha b (aO _ d))
   have ea:al a=true:=by rw[q,beq_false_of_ne c];rfl
   refine⟨⟨fun _=>⟨?_,j⟩,fun h=>(by rw[ea] at h;cases h)⟩,fun b d=>?_,m,n⟩
   ·rw[g a f.1];show gq t.1.f a t.2 a=_;unfold gq;rw[aH rfl]
   ·rw[g b (fun o=>d (aO _ o))];show gq t.1.f a t.2 b=_;unfold gq;rw[aE (fun e=>d (by rw[e];simp))]
section
variable {rp rb:Nat}{b9 bY:Int}{F:Nat->Prop}{s:cj}{w:au}
end
section
variable {rp rb:Nat}{b9 bY:Int}{F:Nat->Prop}{s:cj}{w:au}
end
section
variable {rp rb:Nat}{b9 bY:Int}{F:Nat->Prop}{s:cj}{w:au}
end
section
variable {a:Wc}{F:Nat->Prop}{S:ck}{w:au}
theorem lW (h:(fq a).J F S w):∃i,(dY a).J i S.s w/\∀f s1 w',(dY a).J f s1 w'->b_ i w f w'->∃d,(fq a).J d ⟨s1,S.r,S.q⟩ w'/\b_ F w d w':=by
 obtain⟨i,ar,l,n,j,m,k⟩:=h;obtain⟨o,g1,g2⟩:=iT n;refine⟨o,g1,fun f s1 w' p q=>?_⟩
 obtain⟨d,k1,g⟩:=g2 (dY a) f s1 w' p q;refine⟨fun b=>d b\/some b=(Value.slice ar S.r.length l).ownBlock,⟨d,ar,l,k1,cv j (fun b e=>g.fr.block b (ce j b e).2 (m b e)),fun b e c=>?_,fun b=>Iff.rfl⟩,⟨g.fr.mono (fun b c=>(k b).2 (aJ c)),fun b c=>?_⟩⟩
 ·rcases g.sub b c with c|c
  ·exact m b e c
  ·have:=(ce j b e).2;omega
 ·rcases c with c|c
  ·exact(g.sub b c).imp (fun c=>(k b).2 (aJ c)) id
  ·exact aJ ((k b).2 (aI c))
theorem G6 {s:ec}(h:(dY a).J F s w)(x i z:Int)(hM:s.M.length<=100000):
 Calls prog 27 #[aj a.pw,ah x,ah i,ah z] w fun e w'=>e=.returned (ah (dT a.N s.y s.g s.ws x i))/\(dY a).J F {s with ws:=fZ a.N s.y s.g s.ws x i z,M:=stM a.N s.y s.g s.ws x i z (dU a.O) s.M} w'/\b_ F w F w':=by
 obtain⟨own,cM,h,g⟩:=h;refine(CE x i z ⟨h.wd,h.ar,h.cd⟩ hM).mono ?_;rintro e w' ⟨rfl,f,fr⟩
 refine⟨rfl,⟨own,cM,?_,g⟩,⟨fr.mono (fun b c=>?_),fun _ c=>aJ c⟩⟩
 ·have d:∀b,b<w.heap.size->own b≠1->own b≠2->_=_:=fun b d j k=>fr.block b d (fun c=>by
   rcases c with c|c|c|c
   ·exact j (by rw[c];exact h.a1)
   ·exact j (by rw[c];exact h.a2)
   ·exact k (by rw[c];exact h.c1)
   ·exact k (by rw[c];exact h.c2))
  exact {
   ar:=f.ar,cd:=f.cd,wd:=f.blk,a1:=h.a1,a2:=h.a2,c1:=h.c1,c2:=h.c2,w1:=h.w1,rl:=h.rl,r1:=h.r1,le:=h.le,lt:=fun b d=>aM (h.lt b d) fr.size
   rt:=(d _ (lt_of_some h.rt) (by rw[h.r1];decide) (by rw[h.r1];decide)).trans h.rt}
 ·refine(g b).2 ?_;rcases c with c|c|c|c
  ·rw[c,h.a1];decide
  ·rw[c,h.a2];decide
  ·rw[c,h.c1];decide
  ·rw[c,h.c2];decide
theorem G7 (h:(fq a).J F S w)(g z:Int)(s:S.r.length<=90000)(hq:S.q.length<=90000):
 Calls prog 32 #[aj a.sd,.agg #[ah g,ah z]] w fun e w'=>∃f,e=.returned (.bool (!kB (S.r.length+S.q.length)))/\(fq a).J f (if 24<=S.r.length+S.q.length then S else⟨S.s,S.r++[(g,z)],S.q⟩) w'/\b_ F w f w':=by
 have t:=h;obtain⟨i,ar,u,⟨v,j,k,l,x,A,B,m,n,C,o⟩,r0,r1,p⟩:=h;refine(Eh w a.sd ar j u k S.r S.q g z ⟨x,r0,A⟩ s hq).mono ?_;rintro e w' ⟨rfl,⟨d,q⟩|⟨d,b1,c1,hs,D,fr⟩⟩
 ·exact⟨F,rfl,by rw[aH d];exact(fq a).below t q,b_.of q⟩
 ·refine⟨fun b=>i b\/some b=(Value.slice (ak b1) (S.r++[(g,z)]).length c1).ownBlock,rfl,?_,⟨fr.mono (fun b c=>(p b).2 (aJ (by rw[c];exact m))),fun b c=>?_⟩⟩
  ·rw[aE d];refine⟨i,some _,c1,⟨v,j,k,(dY a).keep l fr.size (fun b c=>fr.block b ((dY a).lt l b c) (fun e=>n (by rw[<-e];exact c))),hs.blk,hs.q0,B,m,n,C,fun b c=>aM (o b c) fr.size⟩,hs.r0,fun b e c=>?_,fun b=>Iff.rfl⟩
   simp[Value.ownBlock] at e;subst e;have:=o b c;omega
  ·rcases c with c|c
   ·exact aJ ((p b).2 (aJ c))
   ·simp[Value.ownBlock] at c;subst c;exact aI D
end
structure ka where
 a:Wc
 rp:Nat
 rb:Nat
 b9:Int
 bY:Int
 pb:Nat
section
variable {c:ka}{F:Nat->Prop}{S:ck×cj}{w:au}
end
section
variable {c:ka}{F:Nat->Prop}{S:ck×cj}{w:au}
end
section
variable {c:ka}{F:Nat->Prop}{S:ck×cj}{w:au}
end
section
variable {c:ka}{F:Nat->Prop}{S:ck×cj}{w:au}
end
section
variable {c:ka}{F:Nat->Prop}{S:ck×cj}{w:au}
end
section
variable {c:ka}{F:Nat->Prop}{S:ck×cj}{w:au}
end
section
variable {c:ka}{F:Nat->Prop}{S:ck×cj}{w:au}
end
section
variable {c:ka}{F:Nat->Prop}{S:ck×cj}{w:au}
end
theorem G8 {P:Program}{o:Oper}{a:Act}{w:au}{K:Act->au->Prop}{Q:Exit->Act->au->Prop}(n:o.guard=none)(e s:Operand)(f p i:TypeId)
 (A:o.op=.call {callee:=.builtin .copy,args:=#[e,s],argTypes:=#[f,p]})(B:P.underlying f=some (.slice i))(C:(P.info? i).map (·.size)=some 1)
 (k sp:Option Addr)(l q m u:Nat)(hd:a.eval e=.slice k l q)(hs:a.eval s=.slice sp m u)
 (g c:Nat)(d:List Value)(t:TypeId)(hg:w.heap[g]?=some (.cells d.toArray t (0,0)))(b:List Value)(D:b.length=Nat.min m l)
 (F:0<b.length->k=some ⟨g,c,none⟩/\∃x,sp=some x/\∀j v,b[j]?=some v->w.cell? (x.add j)=some v)
 (G:c+b.length<=d.length)(H:∀v∈b,v.oneCell'=true)
 (h:∀w',nl w w' g d c b->K (a.put o.dst (goInt b.length)) w'):Oper.wp P o a w K Q:=by
 have:=pY (ops:=#[]) (o:=o) (K:=K) (Q:=Q) (E:=False) n e s f p i A B C k sp l q m u hd hs g c d t hg b D F G H h;rwa [aH (show Region.wanted o (yielded #[] a.tmps)=true by simp[Region.wanted,n])] at this
theorem ub {P:Program}{ops:Array Oper}{rest:List Oper}{o:Oper}{a:Act}{w:au}{Q:Exit->Act->au->Prop}(n:o.guard=none)(e s:Operand)(f p i:TypeId)
 (A:o.op=.call {callee:=.builtin .copy,args:=#[e,s],argTypes:=#[f,p]})(B:P.underlying f=some (.slice i))(C:(P.info? i).map (·.size)=some 1)
 (k sp:Option Addr)(l q m u:Nat)(hd:a.eval e=.slice k l q)(hs:a.eval s=.slice sp m u)
 (g c:Nat)(d:List Value)(t:TypeId)(hg:w.heap[g]?=some (.cells d.toArray t (0,0)))(b:List Value)(D:b.length=Nat.min m l)
 (E:0<b.length->k=some ⟨g,c,none⟩/\∃x,sp=some x/\∀j v,b[j]?=some v->w.cell? (x.add j)=some v)
 (F:c+b.length<=d.length)(G:∀v∈b,v.oneCell'=true)
 (h:∀w',nl w w' g d c b->wpList P ops Q rest (a.put o.dst (goInt b.length)) w'):wpList P ops Q (o::rest) a w:=
 wpList_plain n fun _ H=>G8 n e s f p i A B C k sp l q m u hd hs g c d t hg b D E F G (fun w' hw=>H _ _ (h w' hw))
theorem G9 (w:au):Calls prog 177 #[.int .u64 1,.int .u64 12] w fun e w'=>e=.returned (.tuple #[.int .u64 0,.int .u64 12])/\w'=w:=by go_wp2;go_ret2;exact⟨rfl,rfl⟩
theorem G_ (w:au):Calls prog 134 #[.int .u64 1,.int .u64 12] w fun e w'=>e=.returned (.tuple #[.int .u64 0,.int .u64 12])/\w'=w:=by
 go_enter func134,ntmps134;go_wp2_with fail;refine(G9 w).mono ?_;rintro e w1 ⟨rfl,hw⟩
 have hw:=hw.symm;subst hw;go_wp2;go_ret2;exact⟨rfl,rfl⟩
def tw (v:Int)(n:Nat):List Int:=List.replicate n v++List.replicate (12-n) 0
theorem uc (v:Int)(n:Nat)(h:n<=12):(tw v n).length=12:=by simp[tw];omega
theorem Ha (v:Int)(n m:Nat)(h:n+m<=12):splice (tw v n) n (List.replicate m v)=tw v (n+m):=by unfold splice tw;rw[List.take_left' Z,bw,List.drop_append,bw];simp only [List.drop_replicate];rw[show n-(n+m)=0 by omega,show 12-n-(n+m-n)=12-(n+m) by omega];simp;rw[<-bj,List.replicate_append_replicate]
theorem Hb (v:Int)(n i:Nat)(h:i<n):(tw v n).getD i 0=v:=by unfold tw;rw[aC,List.getElem?_append_left (by simpa using h)];simp[h]
theorem one_cell {w:au}{b:Nat}{v:Int}(hc:w.cell? (am b 0)=some (ah v)):∀j u,((List.replicate 1 v).map (Value.int .i64))[j]?=some u->w.cell? ((⟨b,0,none⟩:Addr).add j)=some u:=by
 intro j u hj;have c:j=0:=by exact oL
 subst c;rw[<-hj];simpa[Addr.add] using hc
theorem Hc {w:au}{nb n:Nat}{v:Int}(b:w.heap[nb]?=some (.cells ((tw v n).map (Value.int .i64)).toArray 2 (0,0)))(c:n<=12)(m:Nat)(hm:m<=n):∀j u,((List.replicate m v).map (Value.int .i64))[j]?=some u->w.cell? ((⟨nb,0,none⟩:Addr).add j)=some u:=by
 intro j u hj;have d:j<m:=by exact oL
 have e:u=ah v:=by simp[d] at hj;exact hj.symm
 have hl:=uc v n c;have hg:=Hb v n j V;rw[aC,aG (by omega:j<(tw v n).length)] at hg;have ea:(⟨nb,0,none⟩:Addr).add j=⟨nb,j,none⟩:=by simp[Addr.add];intro h;exact h.symm
 rw[ea,e];have f:j<(tw v n).length:=V;simp[World.cell?,b,List.getElem?_eq_getElem f];exact hg
theorem zF {w w':au}{nb n m B:Nat}{v:Int}(b:nl w w' nb ((tw v n).map (Value.int .i64)) n ((List.replicate m v).map (Value.int .i64)))(c:w.heap[nb]?=some (.cells ((tw v n).map (Value.int .i64)).toArray 2 (0,0)))(hm:0<m)(h:n+m<=12)(hB:B<=nb):w'.heap[nb]?=some (.cells ((tw v (n+m)).map (Value.int .i64)).toArray 2 (0,0))/\Below B w w':=by
 rcases b with⟨h0,_⟩|rfl
 ·have:=congrArg List.length h0;simp at this
  omega
 ·rw[r9,Ha v n m h];exact⟨setRow_heap w nb _ _ _ _ c,⟨rfl,rfl,rfl,by simp[World.setRow],fun k hk=>setRow_other w nb k _ V⟩⟩
theorem Hd (w:au)(b:Nat)(v:Int)(hc:w.cell? (am b 0)=some (ah v)):
 Calls prog 63 #[.slice (ak b) 1 1,ah 12] w fun e w'=>∃nb,e=.returned (.slice (ak nb) 12 12)/\w.heap.size<=nb/\w'.heap[nb]?=some (.cells ((tw v 12).map (Value.int .i64)).toArray 2 (0,0))/\Below w.heap.size w w':=by
 obtain⟨l,hi,C,D,E⟩:=info_parts vW;have lb:=aK w _ hc;go_enter func63,ntmps63;go_wp2_with fail;refine(G_ w).mono ?_;rintro e w0 ⟨rfl,hw⟩
 have hw:=hw.symm;subst hw
 go_upto_region 7 with(at_make;refine wpList_make_full _ rfl _ _ 53 rfl w.heap.size 2 l (ah 0) 1 underlying53 hi C D .i64 .i64 _ _ 12 rfl rfl V V (by rw[E];omega) (by unfold maxLen;omega) bW ?_;intro w1 F G)
 have H:w1.heap[w.heap.size]?=some (.cells ((tw v 0).map (Value.int .i64)).toArray 2 (0,0)):=by simpa[tw] using(vX F)
 have f:=(aD _ w).grown G bW (fun _ h=>by cases h)
 have o:=hide (one_cell ((f.cell (p:=am b 0) lb).trans hc))
 have g:=hide H;have c:av (((List.replicate 1 v).map (Value.int .i64)).length=Nat.min 1 12):=rfl;have d:av (0+((List.replicate 1 v).map (Value.int .i64)).length<=((tw v 0).map (Value.int .i64)).length):=by show _<=_;rw[aQ,aQ,uc v 0 V];simp
 go_wp2_with (refine ub rfl _ _ 53 53 2 rfl underlying53 r8 (ak w.heap.size) (ak b) 12 12 1 1 rfl rfl w.heap.size 0 ((tw v 0).map (Value.int .i64)) 2 g.o ((List.replicate 1 v).map (Value.int .i64)) c.o (fun _=>⟨rfl,_,rfl,o.o⟩) d.o (ou _) ?_;intro P q)
 obtain⟨s,t⟩:=zF (B:=w.heap.size) q g.o V V bW
 have u:=f.trans t;clear q o g c d f t
 go_loopw [8] (fun nv wr=>∃n:Nat,1<=n/\n<=12/\nv=ah n/\av (wr.heap[w.heap.size]?=some (.cells ((tw v n).map (Value.int .i64)).toArray 2 (0,0)))/\Below w.heap.size w wr) (fun nv _=>12-(intOf nv).toNat)
 exact⟨1,aA _,V,rfl,s,u⟩
 ·
   clear s u;obtain⟨n,n1,x,rfl,i,A⟩:=hrel;by_cases Q:n<12
   ·obtain⟨m,hm,I,j,J⟩:∃m,m=Nat.min n (12-n)/\0<m/\n+m<=12/\m<=n:=⟨_,rfl,by simp only [Nat.min_def];split<;>omega,by simp only [Nat.min_def];split<;>omega,by simp only [Nat.min_def];split<;>omega⟩
    have k:=hide i.o;have c:av (((List.replicate m v).map (Value.int .i64)).length=Nat.min n (12-n)):=by show _=_;rw[<-hm];simp
    have d:av (n+((List.replicate m v).map (Value.int .i64)).length<=((tw v n).map (Value.int .i64)).length):=by show _<=_;rw[aQ,aQ,uc v n x];simpa using j
    have R:¬12=n:=V;have l:(0:Int)<=(n:Int):=V;have S:(n:Int)<=12:=V;have U:(n:Int)<12:=V;clear i;go_wp2_with fail
    go_region_law (refine pY rfl (.tmp 41) (.tmp 44) 53 53 2 rfl underlying53 r8 (some ⟨w.heap.size,n,none⟩) (ak w.heap.size) (12-n) (12-n) n 12 ?_ ?_ w.heap.size n ((tw v n).map (Value.int .i64)) 2 k.o ((List.replicate m v).map (Value.int .i64)) c.o (fun _=>⟨rfl,_,rfl,(hide (Hc k.o x m J)).o⟩) d.o (ou _) ?_;(simp[Act.eval,Act.put]);(simp[Act.eval,Act.put]);intro w3 K)
    obtain⟨L,M⟩:=zF (B:=w.heap.size) K k.o I j bW
    have N:=hide L;have O:=A.drew.trans M;have hw:IntKind.i64.wrap ((n:Int)+(m:Int))=((n+m:Nat):Int):=by rw[bu];omega
    simp[Act.put,go_sem,Exit.inBlock];rw[<-hm,hw];refine⟨⟨_,_,_,_,_,_,_,_,_,_,_,_,_,_,?rel,rfl⟩,?measure⟩
    exact⟨n+m,V,j,rfl,N,O⟩
    simp[intOf];omega
   ·obtain rfl:n=12:=V;go_wp2_with fail;go_ret;exact⟨w.heap.size,rfl,aA _,i.o,A⟩
theorem He (n o:Nat)(w:au)(h0:16<=n)(a1:n<=256)(a2:o<=1024):
 Calls prog 21 #[ah n,ah o] w fun e w'=>∃pw p q pc cM s nb,e=.returned (.tuple #[aj pw,.agg #[ah 0,ah 0]])/\gZ w' pw p q pc cM n o 0 0 (List.replicate (n+o) 0) (dU o) [] (aj s) (.slice (ak nb) 12 12)/\w'.heap[s]?=some (.cells #[.slice none 0 0,.slice none 0 0] 128 (0,0))/\w'.heap[nb]?=some (.cells ((tw 2 12).map (Value.int .i64)).toArray 2 (0,0))/\
  (w.heap.size<=pw/\w.heap.size<=p/\w.heap.size<=q/\w.heap.size<=pc/\w.heap.size<=cM/\w.heap.size<=s/\w.heap.size<=nb)/\Below w.heap.size w w':=by
 have P:=B3 n o (w.alloc (.cells #[.int .i64 0,.int .i64 0] 28)) V V V V;simp only [Int.toNat_natCast] at P;go_enter func21,ntmps21;go_wp2_with fail;refine P.mono ?_;clear P;rintro e w1 ⟨p,q,rfl,D,hp,hq,m⟩
 have E:=(m.block w.heap.size Z).trans (aL w (.cells #[.int .i64 0,.int .i64 0] 28))
 have U:=(an w (.cells #[.int .i64 0,.int .i64 0] 28)).trans (m.mono Z)
 simp at hp hq;have W:=m.size;simp at W;have u:=D.alloc (.cells #[.int .i64 0,.int .i64 0] 28)
 have A:=an w1 (.cells #[.int .i64 0,.int .i64 0] 28)
 clear m;go_wp2_with fail;refine(mh _ u).mono ?_;rintro e w3 ⟨rfl,j⟩
 have F:=u.below j bW
 have X:=(U.trans (A.mono V)).trans (j.mono (by simp;omega))
 have Y:=j.size;simp at Y;have G:=((j.block w.heap.size (by simp;omega)).trans (A.block w.heap.size V)).trans E;clear D u j A E;go_wp2_with fail;refine(CD n o w3 V).mono ?_;rintro e d ⟨pc,cM,rfl,H,a3,bb,l⟩
 have I:=F.below l bW
 have ab:=X.trans (l.mono V)
 have bd:=l.size;have J:=(l.block w.heap.size V).trans G;clear F l G;go_wp2_with fail;have i:=an d (.cells #[.slice none 0 0,.slice none 0 0] 128)
 have B:=aL d (.cells #[.slice none 0 0,.slice none 0 0] 128)
 refine(rU _).mono ?_;rintro e C ⟨rfl,hw⟩
 have ad:C.heap.size=d.heap.size+1:=by rw[hw];simp
 rw[<-hw] at i B;clear hw;have K:=I.below i bW
 have L:=H.below i bW
 have ag:=ab.trans (i.mono V)
 have M:=(i.block w.heap.size V).trans J;clear I H J i;go_wp2_with fail;have N:=an C (.cells #[.int .i64 2] 2)
 refine(Hd _ (d.heap.size+1) 2 (by rw[<-ad];simp)).mono ?_;rintro e c ⟨nb,rfl,O,Q,R⟩
 have f:=N.trans (R.mono Z)
 have ai:=K.below f bW
 have al:=L.below f bW
 have ap:=ag.trans (f.mono V)
 have t:=(f.block w.heap.size V).trans M;have ar:=(f.block d.heap.size V).trans B;have be:=f.size;have bg:w.heap.size<nb:=by simp at O;omega
 have bi:=lt_of_some Q;have y0:c.cell? (am w.heap.size 0)=some (ah 0):=ay t
 have y1:c.cell? (am w.heap.size 1)=some (ah 0):=ay t
 have ax:c.frozen? (am w.heap.size 0)=false:=az t
 have aB:c.frozen? (am w.heap.size 1)=false:=az t
 have aF:w.heap.size<c.heap.size:=V;clear K L M B R f N O;go_wp2_with fail;obtain⟨b,hW0⟩:∃b,b=(c.setCell ⟨w.heap.size,0,none⟩ (.int .i64 0)).setCell ⟨w.heap.size,1,none⟩ (.int .i64 0):=⟨_,rfl⟩
 rw[<-hW0];have aR:b.heap.size=c.heap.size:=by rw[hW0];simp[World.setCell]
 have k0:∀k,k≠w.heap.size->b.heap[k]?=c.heap[k]?:=fun k hk=>by rw[hW0];exact(aN _ _ _ _ hk).trans (aN _ _ _ _ hk)
 have g0:b.cell? (am w.heap.size 0)=some (ah 0):=by exact kV
 have g1:b.cell? (am w.heap.size 1)=some (ah 0):=by rw[hW0];exact a9 _ _ _ ((a5 c ⟨w.heap.size,0,none⟩ ⟨w.heap.size,1,none⟩ _ Z).trans y1)
 have aT:Below w.heap.size w b:=by rw[hW0];exact ap.trans ((((Fr.refl (fun k=>k=w.heap.size) c).set w.heap.size 0 _ rfl).set w.heap.size 1 _ rfl).below (Nat.le_of_lt aF) (fun x e=>by have e:x=w.heap.size:=e;omega))
 have S:=aL b (.cells #[.pointer (some ⟨p,0,none⟩),.pointer (some ⟨pc,0,none⟩),.pointer (some ⟨d.heap.size,0,none⟩),.slice (some ⟨nb,0,none⟩) 12 12] 55)
 rw[aR] at S;have g:=an b (.cells #[.pointer (some ⟨p,0,none⟩),.pointer (some ⟨pc,0,none⟩),.pointer (some ⟨d.heap.size,0,none⟩),.slice (some ⟨nb,0,none⟩) 12 12] 55)
 have aV:=(al.same (w':=b) (k0 pc V) (k0 cM V)).below g bW
 have a0:=((g.block d.heap.size V).trans (k0 _ V)).trans ar;clear y0 y1 ax aB hW0;generalize b.alloc (.cells #[.pointer (some ⟨p,0,none⟩),.pointer (some ⟨pc,0,none⟩),.pointer (some ⟨d.heap.size,0,none⟩),.slice (some ⟨nb,0,none⟩) 12 12] 55)=bl at*;refine bv (v:=.tuple #[aj c.heap.size,.agg #[ah 0,ah 0]]) (by simp[results,results21,go_sem,((g.cell (p:=am w.heap.size 0) (by show w.heap.size<_;omega)).trans g0),((g.cell (p:=am w.heap.size 1) (by show w.heap.size<_;omega)).trans g1)]) rfl ⟨c.heap.size,p,q,pc,cM,d.heap.size,nb,rfl,⟨S,((ai.same (w':=b) (k0 p V) (k0 q V)).below g bW),aV⟩,a0,(((g.block nb V).trans (k0 _ V)).trans Q),⟨V,V,V,V,V,V,V⟩,(aT.trans (g.mono V))⟩
theorem Hf (n o:Int)(w:au)(h:n<16\/256<n\/o<0\/1024<o):
 Calls prog 21 #[ah n,ah o] w fun e w'=>e=.returned (.tuple #[.pointer none,.agg #[ah 1,ah (-1)]])/\Below w.heap.size w w':=by
 have g:=an w (.cells #[.int .i64 0,.int .i64 0] 28)
 have i:=aL w (.cells #[.int .i64 0,.int .i64 0] 28)
 have P:=B4 n o (w.alloc (.cells #[.int .i64 0,.int .i64 0] 28)) h;go_enter func21,ntmps21;go_wp2_with fail;refine P.mono ?_;rintro e w1 ⟨rfl,d⟩
 have c:=(d.block w.heap.size Z).trans i;have hB1:=g.trans (d.mono Z)
 have j:=d.size;simp at j;have y0:w1.cell? (am w.heap.size 0)=some (ah 0):=ay c
 have y1:w1.cell? (am w.heap.size 1)=some (ah 0):=ay c
 have q:w1.frozen? (am w.heap.size 0)=false:=az c
 have s:w1.frozen? (am w.heap.size 1)=false:=az c
 have l1:w.heap.size<w1.heap.size:=V;clear d i g c;go_wp2_with fail
 go_region_law (fail)
 all_goals
  obtain⟨b,hW0⟩:∃b,b=(w1.setCell ⟨w.heap.size,0,none⟩ (.int .i64 1)).setCell ⟨w.heap.size,1,none⟩ (.int .i64 (-1)):=⟨_,rfl⟩
  rw[<-hW0];have t:b.heap.size=w1.heap.size:=by rw[hW0];simp[World.setCell]
  have g0:b.cell? (am w.heap.size 0)=some (ah 1):=by exact kV
  have g1:b.cell? (am w.heap.size 1)=some (ah (-1)):=by exact sr
  have l:Below w.heap.size w b:=by exact zv
  have f:=(an b (.cells #[.int .i64 1,.int .i64 (-1)] 28)).drew;have r0:=(f.cell (p:=am w.heap.size 0) (by show w.heap.size<_;omega)).trans g0;have r1:=(f.cell (p:=am w.heap.size 1) (by show w.heap.size<_;omega)).trans g1;have m:=l.trans (f.mono V)
  generalize (b.alloc (.cells #[.int .i64 1,.int .i64 (-1)] 28)).drew=u at*;go_wp2_with fail;refine bv (v:=.tuple #[.pointer none,.agg #[.int .i64 1,.int .i64 (-1)]]) (by simp[results,results21,go_sem,r0,r1]) rfl ⟨rfl,m⟩
end Go.Proofs.YtjpjpjemibgjpaaGreat
