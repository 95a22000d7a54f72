import Derived.Test.YtpkjkjhanlbcoaaGreatJ11
namespace Go.Proofs.YtpkjkjhanlbcoaaGreat
set_option maxRecDepth 100000
set_option maxHeartbeats 4000000
open Tryz
open Go.RowKit W Kp ck
theorem Gx {a:Wc}{ba:Nat->Prop}{S:cv}{w:az}{a0 a1:Option Addr}{k0 k1:Nat}(hw:(ed a).J ba S.s w)(hs:fF w a.sd a0 k0 a1 k1 S.r S.q)(h0:S.r.length<=90000)(ce:S.q.length<=90000):
 Calls prog 75 #[aq a.pw] w fun e w'=>∃(c:ft)(ar:Option Addr)(bt:Nat)(o:Nat->Prop),e=.returned (aq c.pk)/\(df (dW c (S.s.j0 a)) c.bs (.slice ar S.r.length bt)).J o (g6,S.q) w'/\w'.ownsRow 0 103 2 (.slice ar S.r.length bt) S.r.length (ev S.r)/\(∀b,some b=(Value.slice ar S.r.length bt).ownBlock->¬o b/\w.heap.size<=b)/\(∀b,o b->ba b\/w.heap.size<=b)/\Below w.heap.size w w':=by
 have da:=@run_makeMap prog;obtain⟨c0,_,c2,_,aF,_⟩:=jZ hw;have am:=(kU hw).1;have n1:=am.hN';have cE:=am.hO;have cF:=am.hg;have n4:=am.hy;have bx:=hide (c8.start n1 cE n4 cF)
 have N:aA ((ed a).J ba S.s w/\At w a.p a.q a.N a.O S.s.y S.s.g S.s.ws):=⟨hw,am⟩
 have cg:=lt_of_some hs.blk;have bb:Below w.heap.size w (w.alloc (.map #[] 0)):=(aH _ w).alloc b7 _;have cG:=za (w.alloc (.map #[] 0)) a.sd a0 a1 k0 k1 S.r S.q ⟨(bb.block _ cg).trans hs.blk,cL hs.r0 (fun b e=>bb.block b (cu hs.r0 b e).2),cL hs.q0 (fun b e=>bb.block b (cu hs.q0 b e).2)⟩ h0 ce;have cH:aA (Mp (w.alloc (.map #[] 0)) w.heap.size [] (fun _=>-1)):=⟨_,World.ownsMap_made w prog 3 (plainElem (H:=Unit) prog 3),fun _=>rfl,fun a ha=>by simp at ha⟩
 clear hw hs am bb cg h0 ce;go_enter func75,ntmps75;go_wp2_with fail;refine cG.mono ?_;rintro e w1 ⟨ps,l,m,b1,W,rfl,cI,v,g0,g1,cJ,b0⟩
 have cK:=b0.size;simp only [World.size_alloc] at cK cI g0 g1;have bd:aA (fP a S w w1.heap.size w.heap.size ps l m b1 W (.slice none 0 0) (.slice none 0 0) [] (w1.alloc (.cells #[.pointer (some ⟨a.pw,0,none⟩),.slice none 0 0,.slice none 0 0,.map (some w.heap.size),.pointer (some ⟨ps,0,none⟩),.slice none 0 0,.slice none 0 0] 140))/\(w1.alloc (.cells #[.pointer (some ⟨a.pw,0,none⟩),.slice none 0 0,.slice none 0 0,.map (some w.heap.size),.pointer (some ⟨ps,0,none⟩),.slice none 0 0,.slice none 0 0] 140)).heap.size=w1.heap.size+1):=by
  have aR:=aw w1 (.cells #[.pointer (some ⟨a.pw,0,none⟩),.slice none 0 0,.slice none 0 0,.map (some w.heap.size),.pointer (some ⟨ps,0,none⟩),.slice none 0 0,.slice none 0 0] 140)
  have cM:=((aH _ w).alloc b7 (.map #[] 0)).trans (b0.mono ac)
  refine⟨{bl:=cM.trans (aR.mono aa),cb:=aP _ _,sd:=⟨(aR.block _ (lt_of_some v.blk)).trans v.blk,cL v.r0 (fun b e=>aR.block b (cu v.r0 b e).2),cL v.q0 (fun b e=>aR.block b (cu v.q0 b e).2)⟩,mp:=(cH.o.same (b0.block _ ac)).same (aR.block _ aa),kE:=rfl,jH:=aa,pp:=lt_of_some v.blk,l0:=fun k e=>⟨?_,(cu v.r0 k e).2⟩,l1:=fun k e=>⟨?_,(cu v.q0 k e).2⟩,ln:=cJ},ac⟩
  ·cases hb:l with
   |none=>rw[hb] at e;simp[Value.ownBlock] at e
   |some z=>
    rw[hb] at e;have cN:k=z.block:=by simpa[Value.ownBlock] using e
    have:=g0 z hb;omega
  ·cases hb:b1 with
   |none=>rw[hb] at e;simp[Value.ownBlock] at e
   |some z=>
    rw[hb] at e;have cN:k=z.block:=by simpa[Value.ownBlock] using e
    have:=g1 z hb;omega
 have an:=(bd.o.1.bl.cell (p:=av a.pw 0) aF).trans c0;have i:=mX _ (N.o.2.below bd.o.1.bl b7)
 go_wp2_with fail;refine i.mono ?_;rintro e ch ⟨rfl,ci⟩
 have be:aA (fP a S w w1.heap.size w.heap.size ps l m b1 W (.slice none 0 0) (.slice none 0 0) [] ch/\w1.heap.size+1<=ch.heap.size):=⟨bd.o.1.below ci,by have:=ci.size;have:=bd.o.2;omega⟩
 have an:=(be.o.1.bl.cell (p:=av a.pw 0) aF).trans c0;have i:=kQ _ (N.o.2.below be.o.1.bl b7)
 go_wp2_with fail;refine i.mono ?_;rintro e cj ⟨rfl,ck⟩
 have aV:aA (fP a S w w1.heap.size w.heap.size ps l m b1 W (.slice none 0 0) (.slice none 0 0) [] cj/\w1.heap.size+1<=cj.heap.size):=⟨be.o.1.below ck,by have:=ck.size;have:=be.o.2;omega⟩
 have an:=(aV.o.1.bl.cell (p:=av a.pw 0) aF).trans c0;have i:=Gt _ (N.o.2.below aV.o.1.bl b7)
 go_wp2_with fail;refine i.mono ?_;rintro e cO ⟨v1,v2,rfl,b2,b3,cP,cQ⟩
 obtain⟨y1,m1,rfl⟩:=eN b2;obtain⟨d,g,rfl⟩:=eN b3;have B:=iT (aV.o.1.below cQ) (e8 b2 (fun b e=>aU aV.o.2 (cu b2 b e).1)) (e8 b3 (fun b e=>aU aV.o.2 (cu b3 b e).1)) cP;have bg:aA ((eC a.N S.s.y S.s.g S.s.ws).length<=2000/\(dH a.N S.s.y S.s.g S.s.ws).length<=2000/\(∀x∈eC a.N S.s.y S.s.g S.s.ws,0<=x/\x<=2000)/\∀x∈dH a.N S.s.y S.s.g S.s.ws,0<=x/\x<=2000):=⟨iX _ _,iX _ _,fun x s=>by have:=oe x s;omega,fun x s=>by have:=qr x s;omega⟩
 have cl:w1.heap.size<w1.heap.size+1/\a.pw<w1.heap.size+1/\a.p<w1.heap.size+1/\a.q<w1.heap.size+1:=by have q1:=N.o.2.e5;have bi:=N.o.2.e7;omega
 obtain⟨u0,b4,b5,b6,ao,b9⟩:=B.o.1.cells;have an:=(B.o.1.bl.cell (p:=av a.pw 0) aF).trans c0;have ca:=ao 1;have i:=y_ cO (N.o.2.below B.o.1.bl b7) u0 an (eC a.N S.s.y S.s.g S.s.ws) y1 m1 (w1.heap.size+1) (0+S.s.y) (by have:=bg.o.1;omega) (fun x s=>by have:=bg.o.2.2.1 x s;omega) B.o.2.1 cl;rw[Int.zero_add] at i;have cR:aA (em (fun x=>decide ((S.s.y:Int)<=x+pf (ld a.N S.s.y S.s.g S.s.ws x))) (eC a.N S.s.y S.s.g S.s.ws)=(S.s.j0 a).Y):=rfl;rw[cR.o] at i;go_wp2_with fail;refine i.mono ?_;rintro r F ⟨rfl,cS,cm⟩
 have cT:∀b,some b=(Value.slice y1 (eC a.N S.s.y S.s.g S.s.ws).length m1).ownBlock->w1.heap.size<b:=fun b e=>(cu B.o.2.1 b e).1;have ad:aA (fP a S w w1.heap.size w.heap.size ps l m b1 W (.slice none 0 0) (.slice none 0 0) [] F/\F.ownsRow (w1.heap.size+1) 3 1 (.slice y1 (S.s.j0 a).Y.length m1) (S.s.j0 a).Y.length ((S.s.j0 a).Y.map (Value.int .i64))/\F.ownsRow (w1.heap.size+1) 3 1 (.slice d (dH a.N S.s.y S.s.g S.s.ws).length g) (dH a.N S.s.y S.s.g S.s.ws).length ((dH a.N S.s.y S.s.g S.s.ws).map (Value.int .i64))/\(∀n cn b,some b=(Value.slice y1 n m1).ownBlock->some b≠(Value.slice d cn g).ownBlock)):=by
  refine⟨B.o.1.fr cm cT,cS,ii B.o.2.2.1 cm (fun b e ag=>B.o.2.2.2 b ag e),fun n cn b e=>?_⟩
  have q:=B.o.2.2.2 b (by
   cases y1 with
   |none=>simp[Value.ownBlock] at e
   |some z=>simpa[Value.ownBlock] using e)
  cases d with
  |none=>simp[Value.ownBlock]
  |some z=>simpa[Value.ownBlock] using q
 obtain⟨u0,b4,b5,b6,ao,b9⟩:=ad.o.1.cells;have ca:=ao 1;have ai:aA (fP a S w w1.heap.size w.heap.size ps l m b1 W (.slice y1 (S.s.j0 a).Y.length m1) (.slice none 0 0) [] (F.setCell ⟨w1.heap.size,1,none⟩ (.slice y1 (S.s.j0 a).Y.length m1))/\(F.setCell ⟨w1.heap.size,1,none⟩ (.slice y1 (S.s.j0 a).Y.length m1)).ownsRow (w1.heap.size+1) 3 1 (.slice y1 (S.s.j0 a).Y.length m1) (S.s.j0 a).Y.length ((S.s.j0 a).Y.map (Value.int .i64))/\(F.setCell ⟨w1.heap.size,1,none⟩ (.slice y1 (S.s.j0 a).Y.length m1)).ownsRow (w1.heap.size+1) 3 1 (.slice d (dH a.N S.s.y S.s.g S.s.ws).length g) (dH a.N S.s.y S.s.g S.s.ws).length ((dH a.N S.s.y S.s.g S.s.ws).map (Value.int .i64))):=by have f:Fr (fun b=>b=w1.heap.size) F (F.setCell ⟨w1.heap.size,1,none⟩ (.slice y1 (S.s.j0 a).Y.length m1)):=(Fr.refl _ F).set _ 1 _ rfl;exact⟨ad.o.1.set1 _,ii ad.o.2.1 f (fun b e ag=>by have:=(cu ad.o.2.1 b e).1;omega),ii ad.o.2.2.1 f (fun b e ag=>by have:=(cu ad.o.2.2.1 b e).1;omega)⟩
 have co:=hide ad.o.2.2.2;obtain⟨s0,s1,s2,bn,s4,s5⟩:=ai.o.1.cells;have an:=(ai.o.1.bl.cell (p:=av a.pw 0) aF).trans c0;have s6:=s4 2;have i:=y_ _ (N.o.2.below ai.o.1.bl b7) s0 an (dH a.N S.s.y S.s.g S.s.ws) d g (w1.heap.size+1) ((a.N:Int)+S.s.g) (by have:=bg.o.2.1;omega) (fun x s=>by have:=bg.o.2.2.2 x s;omega) ai.o.2.2 cl;have cU:aA (em (fun x=>decide ((a.N:Int)+S.s.g<=x+pf (ld a.N S.s.y S.s.g S.s.ws x))) (dH a.N S.s.y S.s.g S.s.ws)=(S.s.j0 a).G):=rfl;rw[cU.o] at i;go_wp2_with fail;refine i.mono ?_;rintro r ap ⟨rfl,cV,cp⟩
 have cW:∀b,some b=(Value.slice d (dH a.N S.s.y S.s.g S.s.ws).length g).ownBlock->w1.heap.size<b:=fun b e=>(cu ai.o.2.2 b e).1;have al:=gM (ai.o.1.fr cp cW) (ii ai.o.2.1 cp (fun b e ag=>co.o _ _ b e ag)) cV;obtain⟨u0,b4,b5,b6,ao,b9⟩:=al.o.1.cells;have ca:=ao 2;have t:aA (fP a S w w1.heap.size w.heap.size ps l m b1 W (.slice y1 (S.s.j0 a).Y.length m1) (.slice d (S.s.j0 a).G.length g) [] (ap.setCell ⟨w1.heap.size,2,none⟩ (.slice d (S.s.j0 a).G.length g))/\(ap.setCell ⟨w1.heap.size,2,none⟩ (.slice d (S.s.j0 a).G.length g)).ownsRow (w1.heap.size+1) 3 1 (.slice y1 (S.s.j0 a).Y.length m1) (S.s.j0 a).Y.length ((S.s.j0 a).Y.map (Value.int .i64))/\(ap.setCell ⟨w1.heap.size,2,none⟩ (.slice d (S.s.j0 a).G.length g)).ownsRow (w1.heap.size+1) 3 1 (.slice d (S.s.j0 a).G.length g) (S.s.j0 a).G.length ((S.s.j0 a).G.map (Value.int .i64))):=by have f:Fr (fun b=>b=w1.heap.size) ap (ap.setCell ⟨w1.heap.size,2,none⟩ (.slice d (S.s.j0 a).G.length g)):=(Fr.refl _ ap).set _ 2 _ rfl;exact⟨al.o.1.set2 _,ii al.o.2.1 f (fun b e ag=>by have:=(cu al.o.2.1 b e).1;omega),ii al.o.2.2 f (fun b e ag=>by have:=(cu al.o.2.2 b e).1;omega)⟩
 clear al u0 b4 b6 ao;obtain⟨s0,s1,s2,bn,s4,s5⟩:=t.o.1.cells;have bo:aA ((S.s.j0 a).T=(S.s.j0 a).G++(S.s.j0 a).Y/\(S.s.j0 a).T.length=(S.s.j0 a).G.length+(S.s.j0 a).Y.length/\_/\_):=⟨rfl,by unfold cf.T;rw[a7],bx.o.tl,bx.o.ps⟩
 have cq:=bo.o.2.1;have db:=bo.o.2.2.1;have i:=Gw _ w1.heap.size (S.s.j0 a).G (S.s.j0 a).Y d y1 g m1 s1 s2 (e8 t.o.2.1 (fun _ _=>a4 _)) (e8 t.o.2.2 (fun _ _=>a4 _)) aa;rw[<-cq,<-bo.o.1] at i;clear s0 s1 s2 bn s4 cq;go_wp2_with fail;refine i.mono ?_;clear i s5 b5 b9 ca;rintro e a2 ⟨cX,cY,rfl,cc,bp⟩
 have ab:aA (_/\_/\a2.ownsRow (w1.heap.size+1) 3 1 (.slice d (S.s.j0 a).G.length g) (S.s.j0 a).G.length ((S.s.j0 a).G.map (Value.int .i64))/\a2.ownsRow (w1.heap.size+1) 3 1 (.slice cX (S.s.j0 a).T.length cY) (S.s.j0 a).T.length ((S.s.j0 a).T.map (Value.int .i64))):=⟨t.o.1.below bp,cL t.o.2.1 (fun b e=>bp.block b (cu t.o.2.1 b e).2),cL t.o.2.2 (fun b e=>bp.block b (cu t.o.2.2 b e).2),e8 cc (fun b e=>by have:=(cu cc b e).1;have q:=t.o.1.cells.2.2.2.2.2;omega)⟩
 clear cc bp t;go_wp2_with fail
 go_loopw [66] (fun iv wr=>∃j:Nat,j<=(S.s.j0 a).T.length/\iv=ak j/\aA (fP a S w w1.heap.size w.heap.size ps l m b1 W (.slice y1 (S.s.j0 a).Y.length m1) (.slice d (S.s.j0 a).G.length g) ((S.s.j0 a).T.take j) wr/\Fr (fun b=>b=w.heap.size) a2 wr)) (fun iv _=>(S.s.j0 a).T.length-(intOf iv).toNat)
 case atStart=>exact⟨0,a4 _,rfl,ab.o.1,Fr.refl _ _⟩
 ·
   obtain⟨j,dc,rfl,u⟩:=hrel;by_cases br:j<(S.s.j0 a).T.length
   ·obtain⟨a3,cZ,cr,c1,hc⟩:=gX ab.o.2.2.2 aa;have c3:w1.heap.size<a3/\a3<a2.heap.size:=by
     have:=cu ab.o.2.2.2 a3 (by rw[cr];rfl)
     omega
    have cs:=(aQ (a:=⟨a3,cZ+j,none⟩) (u.o.2.block a3 c3.2 (fun e=>by have:=u.o.1.jH;have:=u.o.1.pp;omega))).trans (hc j br)
    have hm:(S.s.j0 a).T.getD j 0∈(S.s.j0 a).T:=by rw[aJ,aN br];exact a8 br
    have s:=bo.o.2.2.2 _ hm;have ct:=hide (gL _ j br 0)
    generalize (S.s.j0 a).T.getD j 0=x at cs s ct;obtain⟨D,o1,cw,cx⟩:=u.o.1.mp;obtain⟨s0,s1,s2,bn,s4,s5⟩:=u.o.1.cells;have cy:=jp (a:=x) s.1 aa;have hv:=m9 (-1) ae;have ht:((S.s.j0 a).T.take j).length=j:=by rw[bq];omega
    have bs:=gM o1 cw cx;have j0:(0:Int)<=(j:Int):=aa;have dd:(j:Int)<((S.s.j0 a).T.length:Int):=aa;clear cw cx hc c1 hm s0 s1 s2 s4;subst cr;go_wp2_with (first
     |(at_mapUpdate;refine wpList_mapUpdate_own _ rfl _ _ _ 127 rfl 3 3 iY underlying127 (plainElem (H:=Unit) prog 3) w.heap.size ((S.s.j0 a).T.take j).length D rfl o1 (by unfold maxLen;omega) _ _ _ rfl rfl cy _ [] hv ?_;intro cd cz cA)
     |go_in)
    have c4:aA (fP a S w w1.heap.size w.heap.size ps l m b1 W (.slice y1 (S.s.j0 a).Y.length m1) (.slice d (S.s.j0 a).G.length g) ((S.s.j0 a).T.take (j+1)) cd/\Fr (fun b=>b=w.heap.size) a2 cd):=by
     have cB:Fr (fun b=>b=w.heap.size) wr cd:=(Fr.refl _ wr).grown cA (fun b e=>aM (by cases e;rfl))
     have c5:=Mp.add (f:=fun _=>-1) bs.o.1 bs.o.2.1 bs.o.2.2 rfl rfl cz;have cC:=u.o.1.add cB c5;rw[<-ct.o] at cC;exact⟨cC,u.o.2.trans cB (fun b e=>aM e)⟩
    clear u bs cz cA o1 cs bn s5 cy hv;go_roundw;exact⟨j+1,aa,aj,c4⟩
    simp[intOf];omega
   ·obtain rfl:j=(S.s.j0 a).T.length:=aa;have c6:aA (∃(o:Nat->Prop),(df (dW ⟨w1.heap.size,w.heap.size,ps,.slice y1 (S.s.j0 a).Y.length m1,.slice d (S.s.j0 a).G.length g⟩ (S.s.j0 a)) ps (.slice l S.r.length m)).J o (g6,S.q) wr/\wr.ownsRow 0 103 2 (.slice l S.r.length m) S.r.length (ev S.r)/\(∀b,some b=(Value.slice l S.r.length m).ownBlock->¬o b/\w.heap.size<=b)/\(∀b,o b->ba b\/w.heap.size<=b)/\Below w.heap.size w wr):=by
     obtain⟨aB,cD⟩:=u.o;rw[bz] at aB;have ne:∀b,w1.heap.size+1<=b->¬b=w.heap.size:=fun b hb e=>by have:=aB.jH;have:=aB.pp;omega
     obtain⟨o,q1,bi,q3⟩:=aB.done N.o.1 bx.o (ii ab.o.2.1 cD (fun b e=>ne b (cu ab.o.2.1 b e).1)) (ii ab.o.2.2.1 cD (fun b e=>ne b (cu ab.o.2.2.1 b e).1)) (fun b e=>co.o _ _ b e)
     exact⟨o,q1,aB.sd.r0,bi,q3,aB.bl⟩
    clear u ab;go_wp2_with fail;go_ret;obtain⟨o,q1,bi,q3,c7,c9⟩:=c6.o;exact⟨⟨w1.heap.size,w.heap.size,ps,.slice y1 (S.s.j0 a).Y.length m1,.slice d (S.s.j0 a).G.length g⟩,l,m,o,rfl,q1,bi,q3,c7,c9⟩
def g7 (g:Int->Nat)(l:List Int):Nat:=(l.map g).sum
theorem t6 (g:Int->Nat)(a:Int)(l:List Int):g7 g (a::l)=g a+g7 g l:=by simp[g7]
theorem Gy (g:Int->Nat)(l m:List Int):g7 g (l++m)=g7 g l+g7 g m:=by simp[g7]
open Go.RowKit W
section
variable {N O y g:Nat}{ws:List Int}{Y G:List Int}
theorem ni {x i:Int}(h:eD N y g ws x i=0):tB N y g ws x=true/\pk (ld N y g ws (cq x))≠5/\0<=i/\i<iG N y g (cq x) (pf (ld N y g ws (cq x))):=by
 unfold eD at h;by_cases ht:tB N y g ws x=true
 ·rw[aK ht] at h;by_cases b:pk (ld N y g ws (cq x))=5
  ·rw[aK b] at h;omega
  ·rw[aI b] at h;by_cases hi:i<0\/iG N y g (cq x) (pf (ld N y g ws (cq x)))<=i
   ·rw[aK hi] at h;omega
   ·exact⟨ht,b,aa,aa⟩
 ·rw[aI ht] at h;omega
theorem zc {x:Int}(h:ec N y g ws Y G)(hN:N<=256)(hy:y<=N)(hO:O<=1024)(hg:g<=O)(ht:tB N y g ws x=true):dd x=true/\(cq x∈Y\/cq x∈G):=by obtain⟨b,c⟩:=h.lists hN hy hO hg;unfold tB at ht;rw[b,c] at ht;simpa using ht
theorem ec.gz (h:ec N y g ws Y G)(hl:ws.length=N+O)(hN:N<=256)(hy:y<=N)(hO:O<=1024)(hg:g<=O)(x i z:Int):ec N y g (Proofs.YtpkjkjhanlbcoaaGreat.gz N y g ws x i z) Y G:=by
 unfold Proofs.YtpkjkjhanlbcoaaGreat.gz;by_cases h0:eD N y g ws x i=0
 ·rw[aK h0];obtain⟨ht,_,c,b⟩:=ni h0;obtain⟨_,hv⟩:=zc h hN hy hO hg ht;rw[h.stands hy hv] at b;split
  ·exact(h.set hl hy hg hv c b).1
  ·exact h
 ·rw[aI h0];exact h
theorem Gz (x i z c:Int)(M:List Int):(stM N y g ws x i z c M).length<=M.length+1:=by
 unfold stM;split
 ·unfold lB;split
  ·exact Di _ _
  ·omega
 ·omega
end
open Go.RowKit W o6
structure ix (N y g:Nat)(ws Y G rs:List Int):Prop where
 full:ec N y g ws Y G
 rt:∀x∈rs,dd x=true->cq x∈Y\/cq x∈G
 fd:∀v,(v∈Y\/v∈G)->∀i,0<=i->i<pf (ld N y g ws v)->dd (ld N y g ws (v+1+i))=true->cq (ld N y g ws (v+1+i))∈Y\/cq (ld N y g ws (v+1+i))∈G
section
variable {N O y g:Nat}{ws Y G rs:List Int}
theorem nk (n:Nat)(h:n<1000000):dd (ew 3 n)=true/\cq (ew 3 n)=n:=by grind [nR,nT]
theorem ix.root (h:ix N y g ws Y G rs)(k:Nat)(x:Int)(b:dd x=true->cq x∈Y\/cq x∈G):ix N y g ws Y G (rs.set k x):=
 ⟨h.full,fun z hz=>by grind [rt],h.fd⟩
theorem ix.at (h:ix N y g ws Y G rs)(k:Nat)(hk:k<rs.length)(ha:dd (rs.getD k 0)=true):cq (rs.getD k 0)∈Y\/cq (rs.getD k 0)∈G:=
 h.rt _ (by simp_all) ha
theorem nl (h:ec N y g ws Y G){v i:Int}(hv:v∈Y)(b:0<=i)(c:i<pf (ld N y g ws v)):0<=v+1+i/\v+1+i<y:=by have d:=h.ty.mem v hv;omega
theorem nm (h:ec N y g ws Y G){v i:Int}(hv:v∈G)(b:0<=i)(c:i<pf (ld N y g ws v)):(N:Int)<=v+1+i/\v+1+i<(N:Int)+g:=by have d:=h.es.mem v hv;omega
theorem kF (h:ec N y g ws Y G){v i:Int}(hv:v∈Y\/v∈G)(b:0<=i)(c:i<pf (ld N y g ws v)):dt N y g (v+1+i)=true:=by grind [nl,iW,nm,hD]
theorem ix.make (h:ix N y g ws Y G rs)(hl:ws.length=N+O){k f:Int}(hm:iV N y k f=true):ix N (i_ N y k f) g (fS N y k f ws) (Y++[(y:Int)]) G rs:=by
 have e:=h.full.make hl hm;obtain⟨j,q⟩:=o4 hm;have s:=i3 k f j;have m:i_ N y k f=y+1+f.toNat:=by grind [i_]
 have n:fS N y k f ws=fK ws y (hw k f) f.toNat:=by grind [fS]
 have o:y+f.toNat<ws.length:=aa;rw[m,n] at e⊢;have mem:∀{z:Int},(z∈Y\/z∈G)->(z∈Y++[(y:Int)]\/z∈G):=fun hz=>(by grind)
 refine⟨e,fun x p ha=>mem (h.rt x p ha),fun v hv i l b ha=>?_⟩
 rcases hv with hv|hv
 ·rcases List.mem_append.1 hv with hv|hv
  ·have hi:=h.full.iH v hv;have c:ld N (y+1+f.toNat) g (fK ws y (hw k f) f.toNat) v=ld N y g ws v:=by grind [ef,iW,jT]
   rw[c] at b;have hb:=nl h.full hv l b;have d:ld N (y+1+f.toNat) g (fK ws y (hw k f) f.toNat) (v+1+i)=ld N y g ws (v+1+i):=by grind [ef,iW,jT]
   grind [fd]
  ·simp at hv;subst hv;rw[(w6 _ _ o),(p8 k f j).2.1] at b;have d:ld N (y+1+f.toNat) g (fK ws y (hw k f) f.toNat) ((y:Int)+1+i)=2:=by grind [ef,iW,jT]
   rw[d] at ha;exact absurd ha ae
 ·have hi:=h.full.io v hv;have c:ld N (y+1+f.toNat) g (fK ws y (hw k f) f.toNat) v=ld N y g ws v:=by grind [ef,hD,jT]
  rw[c] at b;have hb:=nm h.full hv l b;have d:ld N (y+1+f.toNat) g (fK ws y (hw k f) f.toNat) (v+1+i)=ld N y g ws (v+1+i):=by grind [ef,hD,jT]
  grind [fd]
theorem ix.set (h:ix N y g ws Y G rs)(hl:ws.length=N+O)(hy:y<=N)(hg:g<=O){v i z:Int}(hv:v∈Y\/v∈G)(b:0<=i)(c:i<pf (ld N y g ws v))(hz:dd z=true->cq z∈Y\/cq z∈G):ix N y g (ws.set (v+1+i).toNat z) Y G rs:=by
 obtain⟨d,hk⟩:=h.full.set hl hy hg hv b c;have hb:=jD (kF h.full hv b c) hy hg;refine⟨d,h.rt,fun u e j j0 f ha=>?_⟩
 grind [fd,ld]
theorem ix.tb (h:ix N y g ws Y G rs)(hN:N<=256)(hy:y<=N)(hO:O<=1024)(hg:g<=O)(k:Nat)(hk:k<rs.length):tB N y g ws (rs.getD k 0)=dd (rs.getD k 0):=by
 obtain⟨b,c⟩:=h.full.lists hN hy hO hg;unfold tB;rw[b,c];cases ha:dd _
 ·rfl
 ·have:=h.at k hk ha
  grind
end
open Go.RowKit W Kp ck o6
structure C0 where
 g:Nat
 ws:List Int
 G:List Int
def cj.l0 (k:cj)(z:C0)(a:Int):Int:=Proofs.YtpkjkjhanlbcoaaGreat.ld k.N k.y z.g z.ws a
def cj.or (k:cj)(z:C0)(s:cr)(a b:Int):Prop:=(a=b/\b∈z.G)\/(a∈k.T/\s.f a=b/\b≠-1)
def cj.ml (k:cj)(s:cr)(b x:Int):Prop:=x=b\/(k.cP b=true/\s.f (cq b)≠-1/\x=ew 3 (s.f (cq b)))
structure dF (k:cj)(z:C0)(s:cr)(H:List Int):Prop where
 ci:CI k s
 qP:z.g<=s.g
 full:ec k.N k.y s.g s.ws k.T (z.G++H)
 kV:∀b∈z.G,b<(k.N:Int)+z.g
 nn:∀b,0<=b->b<(k.y:Int)->k.ld s b=k.l0 z b
 fh:∀a∈k.T,s.f a≠-1->s.f a∈H
 inj:∀a∈k.T,∀b∈k.T,s.f a≠-1->s.f a=s.f b->a=b
 gh:∀b∈H,∃a∈k.T,s.f a=b
 hlo:∀b∈H,(k.N:Int)+z.g<=b
 hd:∀a b,k.or z s a b->k.ld s b=k.l0 z a
 fd:∀a b,k.or z s a b->∀i,0<=i->i<pf (k.l0 z a)->k.ml s (k.l0 z (a+1+i)) (k.ld s (b+1+i))
structure da (k:cj)(s t:cr):Prop where
 f:∀a,s.f a≠-1->t.f a=s.f a
 g:s.g<=t.g
 cl:∀b,(k.N:Int)<=b->b<(k.N:Int)+s.g->k.cP (k.ld s b)=false->k.cP (k.ld t b)=false
section
variable {k:cj}{z:C0}{s t u:cr}{H:List Int}
theorem da.refl (k:cj)(s:cr):da k s s:=⟨fun _ _=>rfl,aG _,fun _ _ _ h=>h⟩
theorem da.trans (h:da k s t)(j:da k t u):da k s u:=
 ⟨fun a ha=>(j.f a (by grind [f])).trans (h.f a ha),aU h.g j.g,fun b c d e=>j.cl b c (by have:=h.g;omega) (by grind [cl])⟩
theorem da.or (h:da k s t){a b:Int}(ho:k.or z s a b):k.or z t a b:=by
 rcases ho with ho|⟨c,d,e⟩
 ·exact aM ho
 ·exact aL ⟨c,(h.f a aa).trans d,e⟩
theorem da.ml (h:da k s t){c x:Int}(ho:k.ml s c x):k.ml t c x:=by
 rcases ho with ho|⟨d,b,e⟩
 ·exact aM ho
 ·exact aL ⟨d,(h.f _ b▸b),(h.f _ b▸e)⟩
theorem dF.mem (h:dF k z s H){a b:Int}(ho:k.or z s a b):b∈z.G++H:=by
 rcases ho with⟨_,hb⟩|⟨c,d,e⟩
 ·grind
 grind [fh]
theorem dF.from (h:dF k z s H){b:Int}(hb:b∈z.G++H):∃a,k.or z s a b:=by
 rcases List.mem_append.1 hb with hb|hb
 ·exact⟨b,aM ⟨rfl,hb⟩⟩
 ·obtain⟨a,ha,e⟩:=h.gh b hb;have:=h.hlo b hb;exact⟨a,aL ⟨ha,e,aa⟩⟩
theorem dF.bd (h:dF k z s H){b:Int}(hb:b∈z.G++H):(k.N:Int)<=b/\b+(1+pf (k.ld s b))<=(k.N:Int)+s.g/\pc (k.ld s b)=0:=h.full.es.mem b hb
theorem bj {α:Type _}{b:α}(«as»:List α){bs:List α}:b ∈ bs -> b ∈ «as» ++ bs:=by intros;apply List.mem_append_right<;>assumption
theorem dF.je (h:dF k z s H){b:Int}(hb:b∈H):(k.N:Int)<=b/\b<(k.N:Int)+s.g:=by
 have c:=h.bd (bj _ hb)
 have:=dr (k.ld s b)
 omega
theorem CI.zd (h:CI k s){a:Int}(ha:(k.N:Int)<=a):a∉k.T:=fun c=>by
 have b:=h.sP c
 grind [hy]
theorem nr (h:CI k s){n:Int}(h0:(k.N:Int)<=n)(b:n<1000000):k.cP (ew 3 n)=false:=by grind [nR,nT,CI.zd,cj.cP]
theorem dF.cp (h:dF k z s H){a:Int}(ha:a∈k.T)(o:s.f a=-1):dF k z (k.cp s a) (H++[((k.N+s.g:Nat):Int)])/\da k s (k.cp s a)/\(k.cp s a).f a=((k.N+s.g:Nat):Int):=by
 have ci:=h.ci;have hc:=ci.iE ha o;obtain⟨p,B,t3⟩:=ci.th a ha;have hp:=dr (k.ld s a)
 have hz:=h.qP;have hl:=cj.sU ci.len ci.hy ci.hg p t3 hc;obtain⟨u,_⟩:=ci.cp ha o;obtain⟨v,F⟩:=h.full.copy ci.len ci.hy ci.hg hc (by grind)
 have N:(k.cp s a).f=gO s.f a ((k.N+s.g:Nat):Int):=by rw[cj.oa hc]
 have S:(k.cp s a).g=s.g+(1+(pf (k.ld s a)).toNat):=by rw[cj.oa hc]
 have d:∀b,b≠a->(k.cp s a).f b=s.f b:=fun b hb=>by simp_all [gO]
 have n:(k.cp s a).f a=((k.N+s.g:Nat):Int):=by simp_all [gO]
 have lo:∀b,b<(k.N:Int)+s.g->k.ld (k.cp s a) b=k.ld s b:=fun b hb=>by grind
 have jI:da k s (k.cp s a):=⟨fun b hb=>(by grind),aa,fun b f g W=>(by grind)⟩
 have q:∀c b,k.or z (k.cp s a) c b->k.or z s c b\/(c=a/\b=((k.N+s.g:Nat):Int)):=fun c b ho=>by
  rcases ho with ho|⟨o1,t,w⟩
  ·exact aM (aM ho)
  ·by_cases e:c=a
   ·grind
   ·rw[d c e] at t;exact aM (aL ⟨o1,t,w⟩)
 refine⟨⟨u,aa,by rw[<-bw];exact v,h.kV,fun b h0 f=>?_,fun c l f=>?_,fun c l b hb f g=>?_,fun b hb=>?_,fun b hb=>?_,fun c b ho=>?_,fun c b ho i ab x=>?_⟩,jI,n⟩
 ·grind [CI.hy,nn]
 ·grind [fh]
 ·by_cases j:c=a
  ·by_cases m:b=a
   ·omega
   ·rw[j,n,d b m] at g;have:=h.je (h.fh b hb aa)
    omega
  ·by_cases m:b=a
   ·rw[m,n,d c j] at g;rw[d c j] at f;have:=h.je (h.fh c l f)
    omega
   ·rw[d c j,d b m] at g;rw[d c j] at f;exact h.inj c l b hb f g
 ·rcases List.mem_append.1 hb with hb|hb
  ·obtain⟨c,l,e⟩:=h.gh b hb;have hn:s.f c≠-1:=by have:=h.je hb;omega
   grind
  grind
 ·rcases List.mem_append.1 hb with hb|hb
  ·exact h.hlo b hb
  grind
 ·rcases q c b ho with ho|⟨rfl,rfl⟩
  ·have hm:=h.bd (h.mem ho)
   rw[lo b (by have:=dr (k.ld s b);omega)]
   grind [hd]
  grind [nn]
 ·rcases q c b ho with ho|⟨rfl,rfl⟩
  ·have hm:=h.bd (h.mem ho)
   grind [hd,da.ml,fd]
  ·rw[<-(h.nn c p aa)] at x;refine aM ?_
   grind [nn]
theorem dF.st (h:dF k z s H){a b i x:Int}(ho:k.or z s a b)(n:0<=i)(v:i<pf (k.l0 z a))(q:k.ml s (k.l0 z (a+1+i)) x):dF k z (k.st s (b+1+i) x) H/\k.ld (k.st s (b+1+i) x) (b+1+i)=x/\(∀c,c≠b+1+i->k.ld (k.st s (b+1+i) x) c=k.ld s c):=by
 have ci:=h.ci;have hm:=h.mem ho;have hb:=h.bd hm;have e:=h.hd a b ho;rw[e] at hb;have hi:dt k.N k.y s.g (b+1+i)=true:=hD aa aa;have hl:=cj.n_ ci.len ci.hy ci.hg (b+1+i) x;have same:k.ld (k.st s (b+1+i) x) (b+1+i)=x:=by simp_all
 have im:∀c,c≠b+1+i->k.ld (k.st s (b+1+i) x) c=k.ld s c:=fun c hc=>by simp_all
 have ew:k.st s (b+1+i) x={s with ws:=s.ws.set (b+1+i).toNat x}:=by grind [cj.st]
 have ap:∀c d,k.or z s c d->∀j,0<=j->j<pf (k.l0 z c)->d+1+j=b+1+i->c=a/\d=b/\j=i:=fun c d f j j0 m g=>by
  have hd:=h.mem f;have o:d=b:=by
   rcases Int.lt_trichotomy d b with l|l|l
   ·have:=h.full.es.apart d hd b hm l;have this:d+(1+pf (k.ld s d))<=b:=this
    grind [hd]
   ·omega
   ·have:=h.full.es.apart b hm d hd l;have this:b+(1+pf (k.ld s b))<=d:=this
    grind
  refine⟨?_,o,aa⟩
  rw[o] at f;rcases f with⟨c1,c2⟩|⟨c1,c2,c3⟩<;>rcases ho with⟨o1,p⟩|⟨o1,p,w⟩
  ·omega
  ·have t:=h.hlo b (by grind [fh])
   have u:=h.kV b c2;omega
  ·have t:=h.hlo b (by grind [fh])
   have u:=h.kV b p;omega
  ·exact h.inj c c1 a o1 aa aa
 have fl:ec k.N k.y (k.st s (b+1+i) x).g (k.st s (b+1+i) x).ws k.T (z.G++H):=(ew▸(h.full.set ci.len ci.hy ci.hg (by grind) n (by show i<pf (k.ld s b);grind)).1)
 refine⟨⟨ci.st aa x,h.qP,fl,h.kV,fun c h0 B=>?_,h.fh,h.inj,h.gh,h.hlo,fun c d f=>?_,fun c d f j j0 m=>?_⟩,same,im⟩
 ·grind [CI.hy,nn]
 ·have f:=f;rw[im d (fun g=>?_)]
  ·exact h.hd c d f
  ·exact h.full.es.field hm n (by show i<pf (k.ld s b);grind) (g▸h.mem f)
 ·have f:=f;by_cases g:d+1+j=b+1+i
  ·obtain⟨rfl,rfl,rfl⟩:=ap c d f j j0 m g;rw[same];exact q
  ·rw[im _ g];exact h.fd c d f j j0 m
theorem da.st (ci:CI k s){a x:Int}(c:k.cP x=false):da k s (k.st s a x):=
 ⟨fun _ _=>rfl,aG _,fun b _ _ d=>by grind [cj.n_,CI.len,CI.hy,CI.hg]⟩
theorem dF.br (h:dF k z s H)(x:Int):∃d,dF k z (k.br s x).2 d/\da k s (k.br s x).2/\k.cP (k.br s x).1=false/\(∃i,d=H++i)/\(∀b,k.ml s b x->k.ml (k.br s x).2 b (k.br s x).1)/\(k.cP x=true->(k.br s x).2.f (cq x)≠-1)/\(k.br s x).1=k.nw (k.br s x).2 x:=by
 have ci:=h.ci;have n1:=ci.hN';have o:=ci.hO;have key:∀(t:cr)(f:List Int),dF k z t f->da k s t->(k.cP x=true->t.f (cq x)≠-1)->k.cP (k.nw t x)=false/\∀b,k.ml s b x->k.ml t b (k.nw t x):=fun t f ht jI hy=>by
  by_cases c:k.cP x=true
  ·have hn:=hy c;have j:cq x∈k.T:=by grind [cj.cP]
   have e:k.nw t x=ew 3 (t.f (cq x)):=by grind [cj.nw]
   have hb:=ht.je (ht.fh _ j hn)
   have hg:=ht.ci.hg;rw[e];refine⟨nr ht.ci hb.1 aa,fun b hm=>?_⟩
   rcases hm with rfl|⟨m1,g,l⟩
   ·exact aL ⟨c,hn,rfl⟩
   ·exfalso;have m:cq b∈k.T:=by grind [cj.cP]
    have p:=h.je (h.fh _ m g)
    have q:=ci.hg
    grind [nr]
  grind [da.ml,cj.nw]
 unfold cj.br;by_cases c:k.ls s x=true
 ·obtain⟨c1,c2,c3⟩:=cj.m7 c;obtain⟨m1,g,l⟩:=h.cp c2 c3
  grind
 ·have hn:k.cP x=true->s.f (cq x)≠-1:=fun hy e=>(by grind [cj.ls])
  obtain⟨k1,n⟩:=key s H h (da.refl _ _) hn;rw[aI c];exact⟨H,h,da.refl _ _,k1,⟨[],ac⟩,n,hn,rfl⟩
theorem dF.kf (h:dF k z s H){a b i:Int}(ho:k.or z s a b)(d:0<=i)(e:i<pf (k.l0 z a)):∃c,dF k z (k.kf s (b+1+i)) c/\da k s (k.kf s (b+1+i))/\k.cP (k.ld (k.kf s (b+1+i)) (b+1+i))=false/\∃f,c=H++f:=by
 obtain⟨c,m1,g,l,m,j,_,_⟩:=h.br _;obtain⟨s1,s2,n⟩:=m1.st (g.or ho) d e (j _ (h.fd a b ho i d e))
 grind [da.trans,da.st,ci,cj.kf]
theorem dF.gA (h:dF k z s H){a b:Int}(ho:k.or z s a b):∀n:Nat,(n:Int)<=pf (k.l0 z a)->∃f,dF k z (k.gA s b n) f/\da k s (k.gA s b n)/\(∀i:Nat,i<n->k.cP (k.ld (k.gA s b n) (b+1+i))=false)/\∃d,f=H++d
 |0,_=>⟨H,h,da.refl _ _,fun i hi=>aa,⟨[],ac⟩⟩
 |n+1,hn=>by
  obtain⟨m,m1,c,o,⟨d,p⟩⟩:=dF.gA h ho n aa;obtain⟨g,j,j2,cH,⟨l,cJ⟩⟩:=m1.kf (c.or ho) (i:=n) aa aa;refine⟨g,j,c.trans j2,fun i hi=>?_,⟨d++l,by simp_all⟩⟩
  by_cases e:i=n
  ·rw[e];exact cH
  ·have hb:=m1.bd (m1.mem (c.or ho))
   rw[(m1.hd _ _ (c.or ho))] at hb;exact j2.cl _ aa aa (by grind)
theorem iz {x:Int}(h:pc x=0)(b:pk x=1\/pk x=3\/pk x=4):pf x=2:=by
 unfold pc at h;unfold pk at b;unfold pf;split at h
 ·rename_i e;rw[aK e] at b⊢;generalize x%16=a at*;generalize x/16=f at*;unfold hc at e;rcases b with b|b|b
  ·rw[aK b] at e;split at e
   ·assumption
   ·omega
  ·rw[aI aa,aK b] at e;split at e
   ·assumption
   ·omega
  ·rw[aI aa,aI aa,aK b] at e;split at e
   ·assumption
   ·omega
 ·omega
theorem ze {x:Int}(h:pc x=0):(pk x=1\/pk x=2)\/pk x=3\/pk x=4\/(pk x=5/\pf x=0):=by
 unfold pc at h;unfold pk pf;split at h
 ·rename_i e;rw[aK e,aK e];have hb:=i3 _ _ e;generalize x%16=a at*;generalize x/16=f at*;by_cases b:a=5
  ·right;right;right;refine⟨b,?_⟩
   unfold hc at e;rw[aI aa,aI aa,aI aa,aI aa,aK b] at e;split at e
   ·assumption
   ·omega
  ·omega
 ·omega
theorem kW (k:cj)(s:cr)(a:Int):(k.kf s a).wk=s.wk/\(k.kf s a).ep=s.ep/\(k.kf s a).nx=s.nx/\(k.kf s a).rs=s.rs:=by unfold cj.kf cj.st cj.br;split<;>exact⟨rfl,rfl,rfl,rfl⟩
theorem oy (k:cj)(s:cr)(a:Int):∀n,(k.gA s a n).wk=s.wk/\(k.gA s a n).ep=s.ep/\(k.gA s a n).nx=s.nx/\(k.gA s a n).rs=s.rs
 |0=>⟨rfl,rfl,rfl,rfl⟩
 |n+1=>by obtain⟨b,c,d,e⟩:=oy k s a n;obtain⟨f,j2,cH,cJ⟩:=kW k _ _;exact⟨f.trans b,j2.trans c,cH.trans d,cJ.trans e⟩
theorem qQ (k:cj)(s:cr)(a:Int):(k.lk s a).nx=s.nx/\(k.lk s a).rs=s.rs:=by
 unfold cj.lk;split
 ·exact⟨(oy _ _ _ _).2.2.1,(oy _ _ _ _).2.2.2⟩
 ·split
  ·exact⟨(kW _ _ _).2.2.1,(kW _ _ _).2.2.2⟩
  ·split<;>exact⟨rfl,rfl⟩
theorem dF.turn (h:dF k z s H)(wk ep rs:List Int)(nx:Int)(hw:∀a∈wk,(k.N:Int)<=a/\a<=2000)(he:∀a∈ep,(k.N:Int)<=a/\a<=2000)(h0:(k.N:Int)<=nx)(b:nx<=(k.N:Int)+k.O+13):dF k z {s with wk:=wk,ep:=ep,rs:=rs,nx:=nx} H:=
 {
  ci:={hN:=h.ci.hN,hN':=h.ci.hN',hO:=h.ci.hO,hy:=h.ci.hy,hg:=h.ci.hg,len:=h.ci.len,th:=h.ci.th,nd:=h.ci.nd,room:=h.ci.room,h7:=h0,jE:=b,iI:=hw,il:=he,tl:=h.ci.tl}
  qP:=h.qP,full:=h.full,kV:=h.kV,nn:=h.nn,fh:=h.fh,inj:=h.inj,gh:=h.gh,hlo:=h.hlo,hd:=h.hd,fd:=h.fd}
theorem da.turn (k:cj)(s:cr)(wk ep rs:List Int)(nx:Int):da k s {s with wk:=wk,ep:=ep,rs:=rs,nx:=nx}:=⟨fun _ _=>rfl,aG _,fun _ _ _ h=>h⟩
def Lo (k:cj)(s:cr)(b:Int):Prop:=∀i,0<=i->i<pf (k.ld s b)->k.cP (k.ld s (b+1+i))=false\/(pk (k.ld s b)=3/\i=0/\b∈s.wk)\/(pk (k.ld s b)=4/\b∈s.ep)
theorem dF.lk (h:dF k z s H){a b:Int}(ho:k.or z s a b):∃e,dF k z (k.lk s b) e/\da k s (k.lk s b)/\(∃t,e=H++t)/\Lo k (k.lk s b) b/\(∀c∈s.wk,c∈(k.lk s b).wk)/\∀c∈s.ep,c∈(k.lk s b).ep:=by
 have hb:=h.bd (h.mem ho)
 have hg:=h.ci.hg;have hN:=h.ci.hN';have hO:=h.ci.hO;have g:=h.hd a b ho;have F:=dr (k.ld s b)
 unfold cj.lk;by_cases c1:pk (k.ld s b)=1\/pk (k.ld s b)=2
 ·rw[aK c1];obtain⟨e,m1,f,l,o⟩:=h.gA ho (pf (k.ld s b)).toNat (by rw[<-g];omega)
  have m:=m1.hd a b (f.or ho)
  refine⟨e,m1,f,o,fun i n j=>aM ?_,fun c hc=>by rw[(oy _ _ _ _).1];exact hc,fun c hc=>by rw[(oy _ _ _ _).2.1];exact hc⟩
  rw[m,<-g] at j;have q:=l i.toNat aa;rw[Int.toNat_of_nonneg n] at q;exact q
 ·rw[aI c1];by_cases c3:pk (k.ld s b)=3
  ·rw[aK c3];have u:=iz hb.2.2 (aL (aM c3))
   have v:=h.turn (s.wk++[b]) s.ep s.rs s.nx (fun x p=>by
    rcases List.mem_append.1 p with d|d
    ·exact h.ci.iI x d
    ·rw[List.mem_singleton] at d;omega) h.ci.il h.ci.h7 h.ci.jE
   obtain⟨e,m1,f,l,o⟩:=v.kf (i:=1) ho aa (by rw[<-g];omega)
   have ea:b+1+1=b+2:=aa;rw[ea] at m1 f l;have m:=m1.hd a b (f.or ho)
   refine⟨e,m1,(da.turn k s (s.wk++[b]) s.ep s.rs s.nx).trans f,o,fun i n j=>?_,fun c hc=>by rw[(kW _ _ _).1];exact bk _ hc,fun c hc=>by rw[(kW _ _ _).2.1];exact hc⟩
   rw[m,<-g,u] at j;by_cases w:i=0
   ·refine aL (aM ⟨by rw[m,<-g];exact c3,w,?_⟩)
    rw[(kW _ _ _).1];simp
   ·have B:i=1:=aa;subst B;rw[ea];exact aM l
  ·rw[aI c3];by_cases c4:pk (k.ld s b)=4
   ·rw[aK c4];refine⟨H,h.turn s.wk _ s.rs s.nx h.ci.iI (fun x p=>by
     rcases List.mem_append.1 p with d|d
     ·exact h.ci.il x d
     ·rw[List.mem_singleton] at d;subst d;omega) h.ci.h7 h.ci.jE,da.turn k s s.wk _ s.rs s.nx,⟨[],ac⟩,fun i n j=>aL (aL ⟨c4,ac⟩),fun c hc=>hc,fun c hc=>bk _ hc⟩
   ·rw[aI c4];refine⟨H,h,da.refl _ _,⟨[],ac⟩,fun i n j=>?_,fun c hc=>hc,fun c hc=>hc⟩
    have:=ze hb.2.2;omega
theorem Lo.go {b:Int}{K:List Int}(h:Lo k s b)(hs:dF k z s H)(ht:dF k z t K)(p:da k s t){a:Int}(ho:k.or z s a b)(hw:b∈s.wk->b∈t.wk)(he:b∈s.ep->b∈t.ep):Lo k t b:=by
 have e:=hs.hd a b ho;have f:=ht.hd a b (p.or ho)
 have hb:=hs.bd (hs.mem ho)
 intro i j g;rw[f,<-e] at g;rw[f,<-e];rcases h i j g with l|⟨c,d,m⟩|⟨c,d⟩
 ·exact aM (p.cl _ aa aa l)
 ·exact aL (aM ⟨c,d,hw m⟩)
 ·exact aL (aL ⟨c,he d⟩)
end
theorem zf {g h:Int->Nat}(R:Int->Int->Prop)(i:∀a b c,R a c->R b c->a=b):∀(l T:List Int),l.Nodup->T.Nodup->(∀b∈l,∃a∈T,R b a/\g b=h a)->g7 g l<=g7 h T
 |[],T,_,_,_=>a4 _
 |b::l,T,hl,j,k=>by
  obtain⟨a,ha,r,e⟩:=k b ac;rw[List.nodup_cons] at hl;have p:=o7 h T a j ha;have m:=zf R i l (T.filter (fun c=>!(c==a))) hl.2 (j.filter _) (fun c hc=>by
   obtain⟨d,hd,f,n⟩:=k c (aX _ hc)
   refine⟨d,List.mem_filter.2 ⟨hd,?_⟩,f,n⟩
   cases q:d==a
   ·rfl
   ·have o:d=a:=by simpa using q
    rw[o] at f;exact absurd (i c b a f r▸hc) hl.1)
  rw[t6];unfold g7 at m⊢;omega
theorem zi {g:Int->Nat}{l T:List Int}(hl:l.Nodup)(c:T.Nodup)(hs:∀a∈l,a∈T):g7 g l<=g7 g T:=
 zf (fun a b=>a=b) (fun _ _ _ d e=>d.trans e.symm) l T hl c (fun b hb=>⟨b,hs b hb,rfl,rfl⟩)
def ns (L:Int->Int)(a:Int):Nat:=1+(pf (L a)).toNat
theorem eb.sum {L:Int->Int}{hi:Int}:∀{l:List Int}{a:Int},eb L hi a l->(g7 (ns L) l:Int)=hi-a
 |[],a,h=>by have h:a=hi:=h;simp[g7,h]
 |x::l,a,h=>by
  obtain⟨rfl,_,c,ht⟩:=h;have b:=eb.sum ht;have hp:=dr (L x)
  rw[t6];unfold ns at b⊢;omega
theorem eb.nodup {L:Int->Int}{hi:Int}:∀{l:List Int}{a:Int},eb L hi a l->l.Nodup
 |[],_,_=>List.nodup_nil
 |x::l,a,h=>by
  obtain⟨rfl,_,_,ht⟩:=h;rw[List.nodup_cons];refine⟨fun c=>?_,eb.nodup ht⟩
  have:=(ht.mem x c).1;have hp:=dr (L x)
  omega
section
variable {N y g:Nat}{ws Y G:List Int}
theorem zj (h:ec N y g ws Y G)(hy:y<=N)(Q:List ce){a:Int}(ha:a∈Y\/a∈G)(b:pk (ld N y g ws a)≠5):((e9 N y g ws Q a).length:Int)=pf (ld N y g ws a):=by
 have hp:=dr (ld N y g ws a)
 unfold e9;rw[aI b,h.stands hy ha];simp;omega
end
def Pos (z:Int->Int)(al:Int->Bool)(f:Int->Int):Int->List Int->Int->Prop
 |n,[],m=>n=m
 |n,a::l,m=>(al a=true->f a=n/\Pos z al f (n+(1+z a)) l m)/\(al a=false->f a=-1/\Pos z al f n l m)
section
variable {z:Int->Int}{al:Int->Bool}{f:Int->Int}
theorem Pos.le (hz:∀a,0<=z a):∀{l:List Int}{n m:Int},Pos z al f n l m->n<=m
 |[],n,m,h=>Int.le_of_eq h
 |a::l,n,m,h=>by
  have:=hz a;cases c:al a
  ·exact Pos.le hz (h.2 c).2
  ·have:=Pos.le hz (h.1 c).2;omega
theorem Pos.app:∀{l e:List Int}{n m:Int},Pos z al f n (l++e) m->∃b,Pos z al f n l b/\Pos z al f b e m
 |[],e,n,m,h=>⟨n,rfl,h⟩
 |a::l,e,n,m,h=>by
  cases c:al a
  ·obtain⟨b,g,i⟩:=Pos.app (h.2 c).2;exact⟨b,⟨fun d=>(by rw[c] at d;cases d),fun _=>⟨(h.2 c).1,g⟩⟩,i⟩
  ·obtain⟨b,g,i⟩:=Pos.app (h.1 c).2;exact⟨b,⟨fun _=>⟨(h.1 c).1,g⟩,fun d=>(by rw[c] at d;cases d)⟩,i⟩
theorem Pos.bd (hz:∀a,0<=z a):∀{l:List Int}{n m:Int},Pos z al f n l m->∀a∈l,al a=true->n<=f a/\f a+(1+z a)<=m
 |[],n,m,h,a,ha,_=>by cases ha
 |b::l,n,m,h,a,ha,hl=>by
  rcases List.mem_cons.1 ha with e|ha
  ·rw[e] at hl⊢;obtain⟨g,d⟩:=h.1 hl;have:=d.le hz;omega
  ·have:=hz b;cases c:al b
   ·exact Pos.bd hz (h.2 c).2 a ha hl
   ·have:=Pos.bd hz (h.1 c).2 a ha hl;omega
theorem Pos.no:∀{l:List Int}{n m:Int},Pos z al f n l m->∀a∈l,al a=false->f a=-1
 |[],n,m,h,a,ha,_=>by cases ha
 |b::l,n,m,h,a,ha,hl=>by
  rcases List.mem_cons.1 ha with e|ha
  ·rw[e] at hl⊢;exact(h.2 hl).1
  ·cases c:al b
   ·exact Pos.no (h.2 c).2 a ha hl
   ·exact Pos.no (h.1 c).2 a ha hl
theorem Pos.inj (hz:∀a,0<=z a):∀{l:List Int}{n m:Int},Pos z al f n l m->∀a∈l,∀b∈l,al a=true->al b=true->f a=f b->a=b
 |[],n,m,h,a,ha,_,_,_,_,_=>by cases ha
 |x::l,n,m,h,a,ha,b,hb,d,lb,e=>by
  have k:=hz x;rcases List.mem_cons.1 ha with ea|ha
  ·rcases List.mem_cons.1 hb with g|hb
   ·rw[ea,g]
   ·rw[ea] at d e;obtain⟨j,i⟩:=h.1 d;have:=i.bd hz b hb lb;omega
  ·rcases List.mem_cons.1 hb with g|hb
   ·rw[g] at lb e;obtain⟨j,i⟩:=h.1 lb;have:=i.bd hz a ha d;omega
   ·cases c:al x
    ·exact Pos.inj hz (h.2 c).2 a ha b hb d lb e
    ·exact Pos.inj hz (h.1 c).2 a ha b hb d lb e
theorem Pos.t7 (hz:∀a,0<=z a){L:Int->Int}:∀{l:List Int}{n m:Int},Pos z al f n l m->(∀a∈l,al a=true->pc (L (f a))=0/\pf (L (f a))=z a)->eb L m n ((l.filter al).map f)
 |[],n,m,h,_=>by have h:=h;rw[h];exact eb.done
 |a::l,n,m,h,hl=>by
  cases c:al a
  ·rw[List.filter_cons_of_neg (by simp[c])];exact Pos.t7 hz (h.2 c).2 (fun b hb=>hl b (aX _ hb))
  ·rw[List.filter_cons_of_pos c,List.map_cons];obtain⟨g,e⟩:=h.1 c;obtain⟨q1,d⟩:=hl a ac c;rw[g] at q1 d⊢;refine eb.step q1 (by rw[d];exact e.le hz) ?_;rw[d];exact Pos.t7 hz e (fun b hb=>hl b (aX _ hb))
theorem Pos.sum:∀{l:List Int}{n m:Int},Pos z al f n l m->(∀a,0<=z a)->(g7 (fun a=>1+(z a).toNat) (l.filter al):Int)=m-n
 |[],n,m,h,_=>by have h:n=m:=h;simp[g7,h]
 |a::l,n,m,h,hz=>by
  have:=hz a;cases c:al a
  ·rw[List.filter_cons_of_neg (by simp[c])];exact Pos.sum (h.2 c).2 hz
  ·rw[List.filter_cons_of_pos c,t6];have:=Pos.sum (h.1 c).2 hz;omega
end
theorem pv (k:cf)(al:Int->Bool):∀(l:List Int)(t:cy×Int),l.Nodup->(∀a∈l,al a=!(t.1.f a==-1))->Pos (fun a=>pf (k.ld a)) al (k.mv t l).1.f t.2 l (k.mv t l).2/\(∀b,b∉l->(k.mv t l).1.f b=t.1.f b)/\(k.mv t l).1.td=t.1.td/\(k.mv t l).1.ep=t.1.ep
 |[],t,_,_=>⟨rfl,fun _ _=>rfl,rfl,rfl⟩
 |a::l,t,hn,ha=>by
  rw[List.nodup_cons] at hn;have n:k.mv t (a::l)=k.mv (fu (fun t a=>t.1.f a) k.mr t a) l:=rfl;have o:=ha a ac;by_cases c:t.1.f a=-1
  ·have f:fu (fun t a=>t.1.f a) k.mr t a=t:=by unfold fu;rw[aK c]
   rw[n,f];obtain⟨g,d,i,j⟩:=pv k al l t hn.2 (fun b hb=>ha b (aX _ hb))
   have ea:al a=false:=by rw[o,c];rfl
   exact⟨⟨fun h=>(by rw[ea] at h;cases h),fun _=>⟨by rw[d a hn.1];exact c,g⟩⟩,fun b hb=>d b (fun m=>hb (aX _ m)),i,j⟩
  ·have f:fu (fun t a=>t.1.f a) k.mr t a=k.mr t a:=by unfold fu;rw[aI c]
   rw[n,f];obtain⟨g,d,i,j⟩:=pv k al l (k.mr t a) hn.2 (fun b hb=>by
    have p:b≠a:=fun e=>hn.1 (e▸hb)
    show al b=!(gO t.1.f a t.2 b==-1)
    unfold gO;rw[aI p];exact ha b (aX _ hb))
   have ea:al a=true:=by rw[o,beq_false_of_ne c];rfl
   refine⟨⟨fun _=>⟨?_,g⟩,fun h=>(by rw[ea] at h;cases h)⟩,fun b hb=>?_,i,j⟩
   ·rw[d a hn.1];show gO t.1.f a t.2 a=_;unfold gO;rw[aK rfl]
   ·rw[d b (fun m=>hb (aX _ m))];show gO t.1.f a t.2 b=_;unfold gO;rw[aI (fun e=>hb (by rw[e];simp))]
theorem LD {b:Type}{l:List b}{i:Nat}{x y:b}(h:y∈l.set i x):y∈l\/y=x:=List.mem_or_eq_of_mem_set h
def kX (N O y g:Nat)(ws M Y G:List Int):Prop:=
 ∀v∈G,∀i,0<=i->i<pf (ld N y g ws v)->dd (ld N y g ws (v+1+i))=true->cq (ld N y g ws (v+1+i))∈Y->(gf N (dJ O) v&&M.contains (cN N v))=true
section
variable {N O y g:Nat}{ws M Y G rs:List Int}
theorem kX.make (h:ix N y g ws Y G rs)(hc:kX N O y g ws M Y G)(hl:ws.length=N+O){k f:Int}(hm:iV N y k f=true):kX N O (i_ N y k f) g (fS N y k f ws) M (Y++[(y:Int)]) G:=by
 obtain⟨j,p⟩:=o4 hm;have q:=i3 k f j;have l:i_ N y k f=y+1+f.toNat:=by unfold i_;rw[aK hm]
 have m:fS N y k f ws=fK ws y (hw k f) f.toNat:=by unfold fS;rw[aK hm]
 have hlt:y+f.toNat<ws.length:=aa;rw[l,m];intro v hv i c b ha hy;have hi:=h.full.io v hv;have n:ld N (y+1+f.toNat) g (fK ws y (hw k f) f.toNat) v=ld N y g ws v:=by exact sF
 rw[n] at b;have hb:=nm h.full hv c b;have o:ld N (y+1+f.toNat) g (fK ws y (hw k f) f.toNat) (v+1+i)=ld N y g ws (v+1+i):=by rw[ef (hD hb.1 hb.2),ef (hD hb.1 hb.2),jT _ _ _ _ _ hlt,aI aa,aI aa]
 rw[o] at ha hy;rcases List.mem_append.1 hy with d|d
 ·exact hc v hv i c b ha d
 ·simp at d;rcases h.fd v (aL hv) i c b ha with e|e
  ·have:=(h.full.iH _ e).2;omega
  ·have:=(h.full.io _ e).1;omega
theorem zk {v:Int}(h0:(N:Int)<=v)(b:v<(N:Int)+g)(hg:g<=O):gf N (dJ O) v=true:=by unfold gf dJ;simp only [Bool.and_eq_true,decide_eq_true_eq];omega
theorem oz {x i z c:Int}(h:eD N y g ws x i≠0):gz N y g ws x i z=ws/\stM N y g ws x i z c M=M:=by
 refine⟨by unfold gz;rw[aI h],?_⟩
 have e:m2 N y g ws x i z=false:=by unfold m2;rw[bB h];rfl
 unfold stM;rw[e];rfl
theorem zl (h:ec N y g ws Y G){u v i j:Int}(c:u∈G)(hv:v∈G)(d:0<=i)(f:i<pf (ld N y g ws u))(j0:0<=j)(k:j<pf (ld N y g ws v))(e:u+1+i=v+1+j):u=v:=by
 rcases Int.lt_trichotomy u v with b|b|b
 ·have:=h.es.apart u c v hv b;omega
 ·exact b
 ·have:=h.es.apart v hv u c b;omega
theorem kX.set (h:ix N y g ws Y G rs)(hc:kX N O y g ws M Y G)(hl:ws.length=N+O)(hN:N<=256)(hy:y<=N)(hO:O<=1024)(hg:g<=O)(x i z:Int):kX N O y g (gz N y g ws x i z) (stM N y g ws x i z (dJ O) M) Y G:=by
 by_cases l:eD N y g ws x i=0
 ·obtain⟨p,W,t3,c⟩:=ni l;obtain⟨l1,l2⟩:=h.full.lists hN hy hO hg;have hv:cq x∈Y\/cq x∈G:=by unfold tB at p;rw[l1,l2] at p;simpa using(bv _ _▸p:dd x=true/\(Y.contains (cq x)||G.contains (cq x))=true).2
  rw[(h.full.stands hy hv)] at c;have t:=kF h.full hv t3 c;have ab:=jD t hy hg;have w:gz N y g ws x i z=ws.set (cq x+1+i).toNat z:=by unfold gz;rw[aK l,aK t]
  obtain⟨ad,hk⟩:=h.full.set hl hy hg hv t3 c;rw[w];have B:∀k,M.contains k=true->(stM N y g ws x i z (dJ O) M).contains k=true:=fun k hk=>by
   unfold stM;split
   ·unfold lB;split
    ·rw[sH,hk];rfl
    ·exact hk
   ·exact hk
  intro v d j j0 m ha f;rw[hk v (aL d)] at m;have hi:=kF h.full (aL d) j0 m;have q:ld N y g (ws.set (cq x+1+i).toNat z) (v+1+j)=if(cq x+1+i).toNat=(v+1+j).toNat then z else ld N y g ws (v+1+j):=by rw[ef hi,ef hi,lZ _ _ _ _ aa]
  rw[q] at ha f;have n:=h.full.io v d;by_cases e:(cq x+1+i).toNat=(v+1+j).toNat
  ·rw[aK e] at ha f;have s:cq x+1+i=v+1+j:=aa;have hz:=h.full.iH _ f;have u:hB N g (cq x)=true:=by
    unfold hB;rw[decide_eq_true_eq];rcases hv with b|b
    ·have o:=nl h.full b t3 c;omega
    ·have:=h.full.io _ b;omega
   have eo:=jC u;have F:m2 N y g ws x i z=true:=by unfold m2;rw[ha,u,bm l];simp only [Bool.true_and,Bool.and_true];unfold hB;rw[decide_eq_true_eq];omega
   have S:cq x∈G:=by
    rcases hv with b|b
    ·have:=h.full.iH _ b;omega
    ·exact b
   rw[bv];refine⟨zk n.1 n.2 hg,?_⟩
   unfold stM;rw[aK F,(zl h.full S d t3 c j0 m s),xl (zk n.1 n.2 hg),sH];simp
  ·rw[aI e] at ha f;have o:=hc v d j j0 m ha f;rw[bv] at o⊢;exact⟨o.1,B _ o.2⟩
 ·obtain⟨q,s⟩:=oz l;rw[q,s];exact hc
end
structure cM (a:Wc)(s:ej):Prop where
 n0:16<=a.N
 n1:a.N<=256
 o1:a.O<=1024
 y1:s.y<=a.N
 g1:s.g<=a.O
 l1:s.ws.length=a.N+a.O
 r1:s.rs.length=12
structure eE (a:Wc)(s:ej)(Y G:List Int):Prop where
 inv:ix a.N s.y s.g s.ws Y G s.rs
 cd:kX a.N a.O s.y s.g s.ws s.M Y G
section
variable {a:Wc}{s:ej}{Y G:List Int}
theorem eE.root (h:eE a s Y G)(k:Nat)(x:Int)(b:dd x=true->cq x∈Y\/cq x∈G):eE a {s with rs:=s.rs.set k x} Y G:=⟨h.inv.root k x b,h.cd⟩
theorem eE.set (h:eE a s Y G)(hb:cM a s)(k m:Nat)(hk:k<12)(i:Int)(hm:m<12):
 eE a {s with ws:=gz a.N s.y s.g s.ws (s.rs.getD k 0) i (s.rs.getD m 0),M:=stM a.N s.y s.g s.ws (s.rs.getD k 0) i (s.rs.getD m 0) (dJ a.O) s.M} Y G:=by
 refine⟨?_,kX.set h.inv h.cd hb.l1 hb.n1 hb.y1 hb.o1 hb.g1 _ _ _⟩
 by_cases b:eD a.N s.y s.g s.ws (s.rs.getD k 0) i=0
 ·obtain⟨e,j,t3,d⟩:=ni b;have f:dd (s.rs.getD k 0)=true:=by rw[<-h.inv.tb hb.n1 hb.y1 hb.o1 hb.g1 k (by rw[hb.r1];exact hk)];exact e
  have hv:=h.inv.at k (by rw[hb.r1];exact hk) f;rw[h.inv.full.stands hb.y1 hv] at d;unfold gz;rw[aK b,aK (kF h.inv.full hv t3 d)];exact h.inv.set hb.l1 hb.y1 hb.g1 hv t3 d (fun g=>h.inv.at m (by rw[hb.r1];exact hm) g)
 ·rw[(oz (M:=s.M) (c:=dJ a.O) b).1];exact h.inv
end
theorem zm {c:Type}(o:fT c)(is:c->Int->Bool)(kp:c->Int->Int×c)(hl:∀s x,(o.wt (kp s x).2).length=(o.wt s).length):∀(n:Nat)(s:c)(b:List ce),(o.wt (eK (cm o is kp) n s b).1).length+(eK (cm o is kp) n s b).2.length=(o.wt s).length+b.length
 |0,s,b=>rfl
 |n+1,s,b=>by
  have d:=sN o is kp hl s b;have e:=oV (cm o is kp) s b;by_cases h:(pts (cm o is kp) s b).1.length=0
  ·rw[l4 _ _ _ _ h];dsimp only;omega
  ·rw[l5 _ _ _ _ h,zm o is kp hl n];omega
theorem qR {b:Type}(o:fT b)(is:b->Int->Bool)(kp:b->Int->Int×b)(nw:b->Int->Int)(hl:∀s x,(o.wt (kp s x).2).length=(o.wt s).length)(s:b)(r:List ce):(eV o is kp nw s r).length+(eW o is kp nw s r).length<=r.length+(o.wt s).length:=by
 have c:=zm o is kp hl ((r.filter (fun e=>!is s e.2)).length+1) s (r.filter (fun e=>!is s e.2))
 have d:(eW o is kp nw s r).length<=(o.wt (fE o is kp s r)).length:=by unfold eW;rw[aZ];exact bA _ _
 have f:(eV o is kp nw s r).length<=(r.filter (fun e=>is s e.2)).length:=by unfold eV;rw[aZ];exact bA _ _
 have g:(r.filter (fun e=>is s e.2)).length+(r.filter (fun e=>!is s e.2)).length=r.length:=by
  clear c d f
  induction r with
  |nil=>rfl
  |cons e r i=>
   simp only [List.filter_cons];cases is s e.2<;>simp<;>omega
 have j:(o.wt (fE o is kp s r)).length<=(o.wt s).length+(r.filter (fun e=>!is s e.2)).length:=by unfold fE;omega
 omega
theorem GA (a:Wc)(S:cv):(S.cut a).r.length+(S.cut a).q.length<=S.r.length+S.q.length:=by
 unfold cv.cut;split
 ·exact aG _
 ·have b:=qR (dU cr) (fun s x=>(S.s.k0 a).al s.1 x) _ (fun s x=>(S.s.k0 a).nw s.1 x) (fun s x=>ti (S.s.k0 a) s x) (S.t3 a) S.r;have d:(S.t3 a).2.length=S.q.length:=by unfold cv.t3 cj.sp;rw[o_]
  dsimp only;generalize S.t3 a=t at*;have c:(dU cr).wt t=t.2:=rfl;rw[c] at b;unfold cj.sR cj.jq;omega
theorem c8.pl {k:cf}{s:cy}(h:c8 k s)(hN:(0:Int)<=k.a.N):c8 k (k.pl s).1:=by
 obtain⟨P,_,b,d⟩:=pv k (fun c=>!(s.f c==-1)) k.T (s,k.a.N) h.nd (fun c _=>rfl)
 have P:Pos (fun c=>pf (k.ld c)) (fun c=>!(s.f c==-1)) (k.pl s).1.f k.a.N k.T (k.pl s).2:=P;have b:(k.pl s).1.td=s.td:=b;have d:(k.pl s).1.ep=s.ep:=d;have f:k.lost (k.pl s).1<=k.lost s:=by
  unfold cf.lost;rw[<-List.countP_eq_length_filter,<-List.countP_eq_length_filter];refine List.countP_mono_left (fun c hc e=>?_)
  cases q:(s.f c==-1)
  ·have:=(P.bd (fun c=>(dr _).1) c hc (by rw[q];rfl)).1;have e:(k.pl s).1.f c=-1:=by simpa using e
   omega
  ·rfl
 have:=h.sum;exact⟨h.nd,h.ps,by rw[b];exact h.td,by rw[d];exact h.ep,h.tl,by rw[b,d];omega⟩
theorem qS {b c:Type}(g:b->c)(fm:b->Int->Int)(st:b->Int->b)(h:∀t a,g (st t a)=g t):∀(l:List Int)(t:b),g (hJ fm st t l)=g t
 |[],_=>rfl
 |a::l,t=>by
  have e:hJ fm st t (a::l)=hJ fm st (fu fm st t a) l:=rfl;rw[e,qS g fm st h l];unfold fu;split
  ·rfl
  ·exact h t a
theorem zn (k:cf)(s:cy):∀n,(k.f7 s n).a=k.a
 |0=>rfl
 |n+1=>zn k s n
theorem zo (k:cf)(s:cy)(a:Int):∀n,(k.gZ s a n).a=k.a
 |0=>rfl
 |n+1=>zo k s a n
theorem GB (k:cf)(s:cy):(k.fj s).a=k.a:=by
 unfold cf.fj cf.oq;rw[qS (fun k:cf=>k.a) _ _ (fun t a=>?_)]
 ·exact zn k s 12
 ·unfold cf.j8;rw[zo];exact(tY t s a).1
theorem GC (k:cf)(s:cy):(k.sl s).a=k.a:=by
 have b:(k.lM s k.G).1.a=k.a:=qS (fun t:cf×Int=>t.1.a) (fun _ a=>s.f a) (cf.jd s) (fun _ _=>rfl) k.G (k,0)
 have c:(k.sl2 s).a=(k.sl1 s).a:=qS (fun t:cf=>t.a) (fun(_:cf) a=>s.f a) (fun k a=>k.cop a) (fun _ _=>rfl) k.Y (k.sl1 s)
 have d:(k.sl s).a=(k.sl2 s).a:=rfl;have e:(k.sl1 s).a=(k.lM s k.G).1.a:=rfl;rw[d,c,e,b]
theorem zp {c:ft}{k:cf}{vt e:Value}{F:Nat->Prop}{s:cy}{w:az}(h:(cZ c k vt e).J F s w):∃d,(ed k.a).J d k.s w/\∀b,d b->F b:=by obtain⟨d,own,h,f⟩:=h;exact⟨d,h.wd,fun b g=>(f b).2 (by rw[(h.w1 b).1 g];decide)⟩
section
variable {a:Wc}{F:Nat->Prop}{S:cv}{w:az}
theorem GD (h:(fW a).J F S w)(hq:S.q.length+S.r.length<=90000)(c9:S.fX a=false->∃G,iL (S.k5 a) (S.dI a) G/\G 0 (S.k5 a,0)):
 Calls prog 37 #[aq a.pw] w fun e w'=>∃f,e=.returned (ak (S.iM a))/\(fW a).J f (S.dD a) w'/\cg F w f w':=by
 obtain⟨da,ar,be,b9,ai,B,i⟩:=h;obtain⟨u,ad,cap,g1,g2,g3,g4,g5,al,v,bg⟩:=b9;have db:=hide c9;have eg:=(kU g1).1;have N:=Cj g1 g2 g3 ai g4 g5 al;have ct:=iT v bg B i;have dc:=Gx (S:=S) g1 ⟨g2,ai,g3⟩ aa aa;have cv:aA (S.iM a=if S.fX a=true then 3 else 0):=rfl;have cw:aA (S.dD a=if S.fX a=true then S else⟨(S.k6 a).s,(S.k5 a).tR (S.cJ a,S.q3 a) (S.r3 a),(S.k5 a).iw (S.cJ a,S.q3 a) (S.r3 a)⟩):=rfl;go_enter func37,ntmps37;go_wp2_with fail;refine dc.mono ?_;rintro e w1 ⟨c,br,am,cx,rfl,dd,de,dg,dh,di⟩
 have dj:aA (cg u w cx w1):=⟨Fr.of di,dh⟩
 have bi:=c7 de dg;obtain⟨dk,⟨dl,bl⟩,dm⟩:=jb dd;have bl:=bl;have dn:=FL dl bl;have dp:aA (∀j t w',(eQ c (S.s.j0 a)).J j t w'->c8 (S.s.j0 a) t->cg dk w1 j w'->∃f,(df (dW c (S.s.j0 a)) c.bs (.slice br S.r.length am)).J f (t,S.q) w'/\cg cx w1 f w'):=fun j t w' q1 W q3=>dm (dW c (S.s.j0 a)) j t w' ⟨q1,W⟩ q3;have dq:=hide (dy.cO bl 12).ff;go_wp2_with fail;refine dn.mono ?_;rintro e dr ⟨j,rfl,ds,dt⟩
 obtain⟨eh,dv,cz⟩:=dp.o j _ dr ds dq.o dt;have cA:=yN (c:=c) rfl dv (by show S.q.length<=90000;omega)
 have ca:=c7 (dj.o.trans cz) cz;go_wp2_with fail;refine cA.mono ?_;clear cA;rintro e g ⟨cb,rfl,aR,cc⟩
 have aR:=aR;obtain⟨ei,⟨⟨ej,ek,dw⟩,el⟩,_⟩:=jb aR;obtain⟨_,_,_,_,cB,_⟩:=eI dw;have dx:=aT g _ cB;have hd:=(ax g).drew;have ab:aA ((df (dW c (S.s.j0 a)) c.bs (.slice br S.r.length am)).J cb (S.j2 a) g.drew/\cg u w cb g.drew/\g.drew.ownsRow 0 103 2 (.slice br S.r.length am) S.r.length (ev S.r)/\(∀b,cb b->b<g.heap.size)/\w.heap.size<=g.heap.size):=by
  have cC:=ca.o.2.trans cc;refine⟨(df (dW c (S.s.j0 a)) c.bs (.slice br S.r.length am)).below aR hd,(ca.o.1.trans cc).below hd,?_,(df (dW c (S.s.j0 a)) c.bs (.slice br S.r.length am)).lt aR,(ca.o.1.trans cc).fr.size⟩
  exact cL bi.o.1 (fun b e=>(hd.block b (aO (cu bi.o.1 b e).2 cC.fr.size)).trans (cC.fr.block b (cu bi.o.1 b e).2 (bi.o.2 b e).1))
 have dz:(S.j2 a).2.length+S.r.length<=90000:=by have:(S.j2 a).2.length=S.q.length:=po _ _ _;omega
 have dA:aA (∀m,Below g.drew.heap.size g.drew m->m.heap[g.heap.size]?=some (du c)->m.heap[g.heap.size+1]?=some (jG (mf c))->Calls prog 78 #[aq c.bs,.agg #[(i7 g.heap.size).v,(ir (g.heap.size+1)).v,(ju c).v]] m fun e w'=>∃a1 c1 f,e=.returned (.tuple #[])/\(df (dW c (S.s.j0 a)) c.bs (.slice a1 (S.r3 a).length c1)).J f (S.cH a,S.q3 a) w'/\w'.ownsRow 0 103 2 (.slice a1 (S.r3 a).length c1) (S.r3 a).length (ev (S.r3 a))/\(∀b,some b=(Value.slice a1 (S.r3 a).length c1).ownBlock->¬f b/\m.heap.size<=b)/\cg u w f w'/\w.heap.size<=m.heap.size):=fun m ag cd ce=>by
  have hs:g.drew.heap.size=g.heap.size:=rfl;refine(FK (t:=S.j2 a) (r:=S.r) rfl ((df (dW c (S.s.j0 a)) c.bs (.slice br S.r.length am)).below ab.o.1 ag) (cL ab.o.2.2.1 (fun b e=>ag.block b (cu ab.o.2.2.1 b e).2)) dz g.heap.size (g.heap.size+1) aa cd ce (fun d=>by have:=ab.o.2.2.2.1 _ d;omega) (fun d=>by have:=ab.o.2.2.2.1 _ d;omega)).mono ?_;rintro e w' ⟨a1,c1,f,rfl,q1,W,q3,dB,dC⟩
  have cf:=ab.o.2.1.below ag;have em:=ab.o.2.2.2.2;have en:=ag.size;refine⟨a1,c1,f,rfl,q1,W,q3,⟨cf.fr.trans dB (fun b d=>?_),fun b d=>?_⟩,aa⟩
  ·rcases d with d|d|d
   ·exact cf.sub b d
   ·exact aL aa
   ·exact aL aa
  ·exact(dC b d).elim (cf.sub b) (fun d=>aL aa)
 go_wp2_with fail
 go_region_held3 (fun w'=>w'.cell? (av c.pk 4)=some (aq c.bs)) (go_keep)
  (first
    |(go_at_call 79;refine(tM (mf c) g.drew c.pk).mono ?_;rintro e m ⟨rfl,cd,ce,ag⟩;have eo:=(ag.cell (p:=av c.pk 4) dx).trans cB;have ch:=gM cd ce ag)
    |(go_at_call 78;refine(dA.o m ch.o.2.2 ch.o.1 ch.o.2.1).mono ?_;rintro e dD ⟨a1,c1,dE,rfl,cD,dF,cE,dG,dH⟩;obtain⟨_,⟨⟨cF,cG,aV⟩,_⟩,_⟩:=jb cD;obtain⟨_,_,_,_,ep,_⟩:=eI aV;have an:aA (_/\_/\(∀b,some b=(Value.slice a1 (S.r3 a).length c1).ownBlock->¬dE b/\w.heap.size<=b)/\_):=⟨cD,dF,fun b e=>⟨(cE b e).1,aU dH (cE b e).2⟩,dG⟩))
 all_goals
  obtain⟨Fm,⟨⟨cF,cG,aV⟩,a0⟩,dI⟩:=jb an.o.1;have a0:=a0;have aV:=aV;have cH:=FR aV a0.tl a0.ps;have dJ:=hide (a0.pl aa)
  have cI:aA (((S.s.j0 a).pl (S.cH a)).2-(S.s.j0 a).a.N=S.n4 a/\((S.s.j0 a).pl (S.cH a)).1=S.cJ a):=⟨rfl,rfl⟩
  rw[cI.o.1,cI.o.2] at cH;have dK:aA (∀j w' vt ao,(cZ c (S.s.j0 a) vt ao).J j (S.cJ a) w'->cg Fm dD j w'->_):=fun j w' vt ao q1 q3=>dI (dW c (S.s.j0 a)) j (S.cJ a) w' ⟨⟨vt,ao,q1⟩,dJ.o⟩ q3;go_wp2_with fail;refine cH.mono ?_;rintro e bn ⟨dL,rfl,cJ,dM⟩
  obtain⟨bo,dN,ci⟩:=dK.o dL bn cF cG cJ dM;have cK:=FN cJ;have dO:aA ((S.s.j0 a).a.O=a.O):=rfl;rw[dO.o] at cK;have a3:aA ((df (dW c (S.s.j0 a)) c.bs (.slice a1 (S.r3 a).length c1)).J bo (S.cJ a,S.q3 a) bn/\cg u w bo bn/\bn.ownsRow 0 103 2 (.slice a1 (S.r3 a).length c1) (S.r3 a).length (ev (S.r3 a))/\∀b,some b=(Value.slice a1 (S.r3 a).length c1).ownBlock->¬bo b):=by refine⟨dN,an.o.2.2.2.trans ci,ii an.o.2.1 ci.fr (fun b e=>(an.o.2.2.1 b e).1),fun b e d=>(ci.sub b d).elim (an.o.2.2.1 b e).1 (fun d=>by have:=(cu an.o.2.1 b e).2;omega)⟩
  go_wp2_with fail;refine cK.mono ?_;rintro e bp ⟨rfl,cj⟩
  have n:=iT ((df (dW c (S.s.j0 a)) c.bs (.slice a1 (S.r3 a).length c1)).below a3.o.1 cj) (a3.o.2.1.below cj) (cL a3.o.2.2.1 (fun b e=>cj.block b (cu a3.o.2.2.1 b e).2)) a3.o.2.2.2;by_cases ck:(a.O:Int)<S.n4 a
  ·have ap:S.fX a=true:=bm ck;have cl:aA (∃f,(fW a).J f (S.dD a) bp/\cg F w f bp):=by
    have ba:=cw.o;rw[aK ap] at ba;rw[ba];obtain⟨_,⟨⟨vt,ao,cM⟩,_⟩,_⟩:=jb n.o.1;obtain⟨eq,er,es,⟨⟨vt,ao,cM⟩,_⟩,_,_,cm,_⟩:=n.o.1;obtain⟨l,q1,W⟩:=zp cM;have q1:=q1;have T:cg u w l bp:=n.o.2.1.less (fun b d=>cm b (W b d))
    obtain⟨g1,g2,g3,ai,g4,g5,al⟩:=N.o;obtain⟨v,bg,B,i⟩:=ct.o;obtain⟨et,_,eu⟩:=jb (o:=ed a) (F:=da) (t:=(S.s,S.q)) (w:=w) (p:=a.sd) (vr:=.slice ar S.r.length be) ⟨u,ad,cap,g1,g2,g3,g4,g5,al,v,bg⟩
    have cN:=lt_of_some g2;refine⟨fun b=>(l b\/b=a.sd\/some b=(Value.slice ad S.q.length cap).ownBlock)\/some b=(Value.slice ar S.r.length be).ownBlock,⟨fun b=>l b\/b=a.sd\/some b=(Value.slice ad S.q.length cap).ownBlock,ar,be,⟨l,ad,cap,q1,(T.fr.block _ cN al).trans g2,ii g3 T.fr (fun b e=>(v b e).2),fun b d=>aM d,aL (aM rfl),fun d=>(T.sub _ d).elim al (fun d=>by omega),fun b e=>⟨aL (aL e),fun d=>(T.sub b d).elim (v b e).2 (fun d=>by have:=(cu g3 b e).2;omega)⟩,fun b d=>?_⟩,ii ai T.fr (fun b e d=>B b e (g4 b d)),fun b e d=>?_,fun b=>Iff.rfl⟩,⟨T.fr.mono (fun b d=>(i b).2 (aM (g4 b d))),fun b d=>?_⟩⟩
    ·rcases d with d|d|d
     ·exact(ed a).lt q1 b d
     ·have:=T.fr.size;omega
     ·have:=(cu g3 b d).2;have:=T.fr.size;omega
    ·have ew:=(cu ai b e).2;rcases d with d|d|d
     ·exact(T.sub b d).elim (fun d=>B b e (g4 b d)) (fun d=>by omega)
     ·exact B b e (by rw[d];exact g5)
     ·exact B b e (v b d).1
    ·rcases d with(d|d|d)|d
     ·exact(T.sub b d).imp (fun d=>(i b).2 (aM (g4 b d))) id
     ·exact aM ((i b).2 (aM (by rw[d];exact g5)))
     ·exact aM ((i b).2 (aM (v b d).1))
     ·exact aM ((i b).2 (aL d))
   have bb:=cv.o;rw[aK ap] at bb;have cn:=hide bb;have ex:decide ((a.O:Int)<S.n4 a)=true:=bm ck;go_wp2_with fail;go_ret;obtain⟨f,co,j2⟩:=cl.o;exact⟨f,by rw[cn.o];rfl,co,j2⟩
  ·have ap:S.fX a=false:=bB ck;obtain⟨cO,dP,dQ⟩:=db.o ap;have cP:aA (iL (S.k5 a) (S.dI a) cO/\cO 0 (S.k5 a,0)):=⟨dP,dQ⟩
   have dR:(S.q3 a).length+(S.r3 a).length<=90000:=by have b9:=qR (dU cy) (fun s x=>(S.s.j0 a).al s.1 x) (S.s.j0 a).ke (fun s x=>(S.s.j0 a).nw s.1 x) (fun s x=>qM (S.s.j0 a) s x) (S.j2 a) S.r;have dS:(dU cy).wt (S.j2 a)=(S.j2 a).2:=rfl;have dT:S.r3 a=eV (dU cy) (fun s x=>(S.s.j0 a).al s.1 x) (S.s.j0 a).ke (fun s x=>(S.s.j0 a).nw s.1 x) (S.j2 a) S.r:=rfl;have dV:S.q3 a=eW (dU cy) (fun s x=>(S.s.j0 a).al s.1 x) (S.s.j0 a).ke (fun s x=>(S.s.j0 a).nw s.1 x) (S.j2 a) S.r:=rfl;rw[dS,<-dT,<-dV] at b9;omega
   have dX:¬bo a.sd:=fun d=>(n.o.2.1.sub _ d).elim N.o.2.2.2.2.2.2 (fun d=>by have:=lt_of_some N.o.2.1;omega)
   have cQ:=F5 (k:=S.s.j0 a) (t:=(S.cJ a,S.q3 a)) rfl n.o.1 n.o.2.2.1 n.o.2.2.2 dR (v1:=.slice ar S.r.length be) (v2:=.slice ad S.q.length cap) ((n.o.2.1.fr.block a.sd (lt_of_some N.o.2.1) N.o.2.2.2.2.2.2).trans N.o.2.1) dX;have dY:aA ((S.s.j0 a).fj (S.cJ a)=S.k5 a):=rfl;rw[dY.o] at cQ;go_wp2_with fail;refine cQ.mono ?_;rintro e cR ⟨a2,c2,dZ,rfl,d0,cS,cT,d1,d2,d3,d4⟩
   have d5:aA (Fr (fun b=>u b\/b=a.sd) w cR/\(∀b,dZ b->u b\/w.heap.size<=b)/\w.heap.size<=bp.heap.size):=by
    have T:=n.o.2.1;have z:=T.fr.size;refine⟨(T.fr.mono (fun b d=>aM d)).trans d3 (fun b d=>?_),fun b d=>(d4 b d).elim (T.sub b) (fun d=>aL aa),z⟩
    rcases d with d|d
    ·exact(T.sub b d).imp aM id
    ·exact aM (aL d)
   obtain⟨cU,bs,bt,⟨⟨vt,ao,cp⟩,bx⟩,cq,cV,cm,ey,ez,cW,d6⟩:=d0;have cp:=cp;have bx:=bx;have cX:=Gm cP.o.1 cP.o.2 cp bx.tl bx.ps;have d7:aA ((S.k5 a).sl (S.dI a)=S.k6 a):=rfl;rw[d7.o] at cX;obtain⟨bd,cY⟩:∃bd,(S.k5 a).tR (S.cJ a,S.q3 a) (S.r3 a)=bd:=⟨_,rfl⟩
   obtain⟨aB,c0⟩:∃aB,(S.k5 a).iw (S.cJ a,S.q3 a) (S.r3 a)=aB:=⟨_,rfl⟩
   rw[cY] at cS cT cq;rw[c0] at cq cV cW;have d8:=Ch (d1.trans cq) cV cm d2 cW d6;have d9:=c7 cS cT;have c3:aA ((S.k5 a).tR (S.cJ a,S.q3 a) (S.r3 a)=bd/\(S.k5 a).iw (S.cJ a,S.q3 a) (S.r3 a)=aB):=⟨cY,c0⟩
   go_wp2_with fail;refine cX.mono ?_;rintro e c4 ⟨eA,rfl,eb,aF⟩
   have cl:aA (∃f,(fW a).J f (S.dD a) c4/\cg F w f c4):=by
    have ba:=cw.o;rw[aI (by rw[ap];simp),c3.o.1,c3.o.2] at ba;rw[ba];obtain⟨l,q1,W⟩:=zp eb;have ea:(S.k6 a).a=a:=by have ec:S.k6 a=(S.k5 a).sl (S.dI a):=rfl;have ee:S.k5 a=(S.s.j0 a).fj (S.cJ a):=rfl;rw[ec,GC,ee,GB];rfl
    rw[ea] at q1;obtain⟨b1,b2,b3,b4,b5,b6⟩:=d8.o;obtain⟨r1,cr⟩:=d9.o;obtain⟨c5,cs,t3⟩:=d5.o;obtain⟨g1,g2,g3,ai,g4,g5,al⟩:=N.o;obtain⟨v,bg,B,i⟩:=ct.o;have cN:=lt_of_some g2;have eB:=c5.size;have eC:=aF.fr.size;have b0:∀b,l b->cU b\/cR.heap.size<=b:=fun b d=>aF.sub b (W b d)
    have c6:¬cU a.sd:=fun d=>b4 (b3 _ d)
    have ef:∀b,some b=(Value.slice a2 bd.length c2).ownBlock->¬(l b\/b=a.sd\/some b=(Value.slice bs aB.length bt).ownBlock):=fun b e d=>by
     have q:=cr b e;rcases d with d|d|d
     ·exact(b0 b d).elim (fun d=>q.1 (b3 b d)) (fun d=>by have:=(cu r1 b e).2;omega)
     ·omega
     ·exact q.1 (b5 b d).1
    refine⟨fun b=>(l b\/b=a.sd\/some b=(Value.slice bs aB.length bt).ownBlock)\/some b=(Value.slice a2 bd.length c2).ownBlock,⟨fun b=>l b\/b=a.sd\/some b=(Value.slice bs aB.length bt).ownBlock,a2,c2,⟨l,bs,bt,q1,(aF.fr.block _ aa c6).trans b1,ii b2 aF.fr (fun b e=>(b5 b e).2),fun b d=>aM d,aL (aM rfl),fun d=>(b0 _ d).elim c6 (fun d=>by omega),fun b e=>⟨aL (aL e),fun d=>(b0 b d).elim (b5 b e).2 (fun d=>by have:=(cu b2 b e).2;omega)⟩,fun b d=>?_⟩,ii r1 aF.fr (fun b e d=>(cr b e).1 (b3 b d)),ef,fun b=>Iff.rfl⟩,⟨(c5.trans aF.fr (fun b d=>(cs b (b3 b d)).imp aM id)).mono (fun b d=>?_),fun b d=>?_⟩⟩
    ·rcases d with d|d|d
     ·exact(ed a).lt q1 b d
     ·omega
     ·have:=(cu b2 b d).2;omega
    ·rcases d with d|d
     ·exact(i b).2 (aM (g4 b d))
     ·exact(i b).2 (aM (by rw[d];exact g5))
    ·rcases d with(d|d|d)|d
     ·rcases b0 b d with d|d
      ·exact(cs b (b3 b d)).imp (fun d=>(i b).2 (aM (g4 b d))) id
      ·exact aL aa
     ·exact aM ((i b).2 (aM (by rw[d];exact g5)))
     ·exact(cs b (b5 b d).1).imp (fun d=>(i b).2 (aM (g4 b d))) id
     ·have:=(cr b d).2;exact aL aa
   have bb:=cv.o;rw[aI (by rw[ap];simp)] at bb;have cn:=hide bb;go_wp2_with fail;go_ret;obtain⟨f,co,j2⟩:=cl.o;exact⟨f,by rw[cn.o];rfl,co,j2⟩
end
theorem eb.next {L:Int->Int}{hi:Int}:∀{l:List Int}{a:Int},eb L hi a l->∀x∈l,x+(1+pf (L x))∈l\/x+(1+pf (L x))=hi
 |[],_,_,x,b=>by cases b
 |y::l,a,h,x,b=>by
  obtain⟨e,_,_,ht⟩:=h;rcases List.mem_cons.1 b with c|c
  ·subst c;subst e
   match l,ht with
   |[],ht=>exact aL ht
   |f::g,ht=>
    obtain⟨d,_⟩:=ht;exact aM (by rw[<-d];simp)
  ·exact(eb.next ht x c).imp (aX _) id
theorem zq {L:Int->Int}{hi:Int}:∀{l m:List Int}{a x y:Int},eb L hi a (l++m)->x∈l->y∈m->x<y
 |[],_,_,_,_,_,b,_=>by cases b
 |u::l,m,a,x,y,h,b,hy=>by
  obtain⟨e,_,_,ht⟩:=h;have hp:=dr (L a)
  rcases List.mem_cons.1 b with c|c
  ·have:=(ht.mem y (bj l hy)).1;omega
  ·exact zq ht c hy
structure LI (k:cj)(z:C0)(s:cr)(H D:List Int):Prop where
 mi:dF k z s H
 bo:s.nx∈H\/s.nx=(k.N:Int)+s.g
 lo:∀b∈H,b<s.nx->Lo k s b
 ld:∀b∈D,Lo k s b
 dg:∀b∈D,b∈z.G
section
variable {k:cj}{z:C0}{s t:cr}{H D:List Int}
theorem LI.kT (h:LI k z s H D)(hn:hB k.N s.g s.nx=true):∃d,LI k z {k.lk s s.nx with nx:=s.nx+(1+pf (k.ld s s.nx))} d D/\da k s {k.lk s s.nx with nx:=s.nx+(1+pf (k.ld s s.nx))}/\∃g,d=H++g:=by
 have hb:=jC hn;have e:=h.bo.resolve_right aa;obtain⟨a,ho⟩:=h.mi.from (bj z.G e)
 have F:=dr (k.ld s s.nx)
 have hg:=h.mi.ci.hg;obtain⟨d,m1,f,⟨g,i⟩,u,v,w⟩:=h.mi.lk ho;have m:=h.mi.hd a _ ho;have n:=m1.hd a _ (f.or ho)
 have hlo:=h.mi.hlo _ e;have x:∀b∈g,s.nx<b:=fun b c=>zq (by have:=m1.full.es;rw[i,<-bw] at this;exact this) (bj z.G e) c;have p:∀b,b∈H->b∈d:=fun b c=>by rw[i];exact bk _ c
 have keep:∀b,(∃a,k.or z s a b)->Lo k s b->Lo k {k.lk s s.nx with nx:=s.nx+(1+pf (k.ld s s.nx))} b:=fun b ⟨a,o⟩ l=>by
  have l2:=Lo.go l h.mi m1 f o (v b) (w b)
  exact l2
 refine⟨d,⟨(m1.turn _ _ _ _ m1.ci.iI m1.ci.il aa aa),?_,fun b c lt=>?_,fun b c=>keep b ⟨b,aM ⟨rfl,h.dg b c⟩⟩ (h.ld b c),h.dg⟩,⟨f.f,f.g,f.cl⟩,g,i⟩
 ·have q:=eb.next m1.full.es s.nx (bj z.G (p _ e))
  have j:Proofs.YtpkjkjhanlbcoaaGreat.ld k.N k.y (k.lk s s.nx).g (k.lk s s.nx).ws s.nx=k.ld s s.nx:=n.trans m.symm;rw[j] at q;rcases q with c|c
  ·rcases List.mem_append.1 c with c|c
   ·have:=h.mi.kV _ c;omega
   ·exact aM c
  ·exact aL c
 ·dsimp only at lt;by_cases B:b=s.nx
  ·subst B;exact u
  ·by_cases lb:b<s.nx
   ·have t:b∈H:=by
     rw[i] at c;rcases List.mem_append.1 c with c|c
     ·exact c
     ·exact absurd (x b c) aa
    exact keep b (h.mi.from (bj z.G t)) (h.lo b t lb)
   ·have ap:=m1.full.es.apart s.nx (bj z.G (p _ e)) b (bj z.G c) aa;have j:Proofs.YtpkjkjhanlbcoaaGreat.ld k.N k.y (k.lk s s.nx).g (k.lk s s.nx).ws s.nx=k.ld s s.nx:=n.trans m.symm;rw[j] at ap;omega
theorem LI.lift (h:LI k z s H D){K:List Int}(ht:dF k z t K)(p:da k s t)(hw:t.wk=s.wk)(he:t.ep=s.ep)(hn:t.nx=s.nx)(hb:t.nx∈K\/t.nx=(k.N:Int)+t.g)(f:∀b∈K,b<t.nx->b∈H):LI k z t K D:=
 ⟨ht,hb,fun b d lt=>by
  have e:=f b d lt;obtain⟨a,o⟩:=h.mi.from (bj z.G e)
  exact Lo.go (h.lo b e (by rw[<-hn];exact lt)) h.mi ht p o (fun c=>by rw[hw];exact c) (fun c=>by rw[he];exact c),fun b d=>Lo.go (h.ld b d) h.mi ht p (aM ⟨rfl,h.dg b d⟩) (fun c=>by rw[hw];exact c) (fun c=>by rw[he];exact c),h.dg⟩
theorem LI.zr (h:LI k z s H D):s.nx<=(k.N:Int)+s.g:=by
 rcases h.bo with b|b
 ·have:=(h.mi.je b).2;omega
 ·omega
theorem LI.cp (h:LI k z s H D){a:Int}(ha:a∈k.T)(e:s.f a=-1):LI k z (k.cp s a) (H++[((k.N+s.g:Nat):Int)]) D/\da k s (k.cp s a):=by
 obtain⟨m1,d,_⟩:=h.mi.cp ha e;have f:=h.zr;refine⟨h.lift m1 d rfl rfl rfl ?_ (fun b c lt=>?_),d⟩
 ·show s.nx∈_\/_;rcases h.bo with c|c
  ·exact aM (bk _ c)
  ·exact aM (bj _ (by rw[c];simp))
 ·have g:b<s.nx:=lt;rcases List.mem_append.1 c with c|c
  ·exact c
  ·rw[List.mem_singleton] at c;omega
theorem LI.br (h:LI k z s H D)(x:Int):∃f,LI k z (k.br s x).2 f D/\da k s (k.br s x).2/\(∃j,f=H++j)/\k.cP (k.br s x).1=false/\(∀g,k.ml s g x->k.ml (k.br s x).2 g (k.br s x).1):=by
 obtain⟨_,_,_,i,_,b,_⟩:=h.mi.br x;cases hls:k.ls s x
 ·have e:(k.br s x).2=s:=by unfold cj.br;rw[hls];rfl
  rw[e] at b⊢;exact⟨H,h,da.refl _ _,⟨[],ac⟩,i,b⟩
 ·have e:(k.br s x).2=k.cp s (cq x):=by unfold cj.br;rw[aK hls]
  have c:=hls;unfold cj.ls at c;rw[bv] at c;have d:=c.1;unfold cj.cP at d;rw[bv] at d;obtain⟨l,j2⟩:=h.cp (by simpa using d.2) (by simpa using c.2)
  rw[e] at b⊢;exact⟨_,l,j2,⟨_,rfl⟩,i,b⟩
theorem LI.kf (h:LI k z s H D){a b i:Int}(ho:k.or z s a b)(d:0<=i)(e:i<pf (k.l0 z a)):∃c,LI k z (k.kf s (b+1+i)) c D/\da k s (k.kf s (b+1+i))/\k.cP (k.ld (k.kf s (b+1+i)) (b+1+i))=false/\∃j,c=H++j:=by
 obtain⟨c,m1,f,l,g,m⟩:=h.br _;obtain⟨s1,s2,o⟩:=m1.mi.st (f.or ho) d e (m _ (h.mi.fd a b ho i d e))
 have p:=da.st (a:=b+1+i) m1.mi.ci g;refine⟨c,m1.lift s1 p rfl rfl rfl m1.bo (fun b n _=>n),f.trans p,?_,l⟩
 unfold cj.kf;rw[s2];exact g
end
end Go.Proofs.YtpkjkjhanlbcoaaGreat
