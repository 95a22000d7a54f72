import Derived.Test.YtpkjkjhanlbcoaaGreatJ10
import Derived.Lib.SliceRun
namespace Go.Proofs.YtpkjkjhanlbcoaaGreat
set_option maxRecDepth 100000
set_option maxHeartbeats 4000000
open Tryz
open Go.RowKit W Kp cf
theorem tO {P:Prop}(h:P:=by
 rintro e w2 ⟨rfl,hA2,hs2⟩
 obtain⟨F2,h2,t2⟩:=hU w2 _ _ _ hA2 hs2;exact⟨F2,rfl,⟨h2,ea,tP,tT⟩,t2⟩):P:=h
theorem yG {P:Prop}(h:P:=by unfold dC;rw[aG c];show((k.ma t.1.1 _,t.1.2.set i ((t.1.2.getD i (0,0)).1,(t.1.2.getD i (0,0)).2)),true)=_;rw[(FS _ _ _)]):P:=h
theorem yH {P:Prop}(h:P:=by
 obtain⟨j1,j2,cA⟩:=h1.ma _;refine⟨j1,h2.trans j2,fun i hi=>?_⟩
 by_cases e:i=n
 ·rw[e];exact cA
 ·exact j2.cS (h3 i V)):P:=h
def b9.e3 (k:b9)(s:cu):b9:=(k.fR s 12).ob s k.T
section
variable {c:e9}{k0 k:b9}{vt cr vr:Value}{F:Nat->Prop}{s:cu}{w:ax}{bp:Nat}
theorem cV.of {k k0:b9}(h:cV k0 s)(b:k.Y=k0.Y)(c:k.G=k0.G):cV k s:=by
 have e:k.T=k0.T:=by unfold b9.T;rw[b,c]
 exact⟨by rw[e];exact h.nd,by rw[e];exact h.ps,by rw[e];exact h.td,by rw[e];exact h.ep,by rw[e];exact h.tl,by unfold b9.lost;rw[e];exact h.sum⟩
theorem yI (h:(df c k0 s vt cr).J F k w):k0.a.nb≠c.pk/\k0.a.nb≠k0.a.pw/\F k0.a.nb:=by
 obtain⟨⟨i,own,h,j⟩,ea,_⟩:=h;have hw:=h.wd;rw[<-ea];have f:=h.w1;obtain⟨m,cO,b,l⟩:=hw;have g:i k.a.nb:=(l _).2 (by rw[b.r1];decide)
 refine⟨fun e=>?_,fun e=>?_,(j _).2 (by rw[(f _).1 g];decide)⟩
 ·have d:=(f _).1 g;rw[e,h.k1] at d;omega
 ·have d:=b.r1;rw[e,b.w1] at d;omega
theorem FT {cE:Option Addr}{cF:Nat}{r:List b7}(cG:vr=.slice cE r.length cF){t:cu×List b7}(h:(c7 (dP c k) c.bs vr).J F t w)(hr:w.ownsRow 0 103 2 vr r.length (ev r))(cI:∀b,some b=vr.ownBlock->¬F b)(hq:t.2.length+r.length<=90000){v1 v2:Value}(hs:w.heap[k.a.sd]?=some (.cells #[v1,v2] 153 (0,0)))(cc:¬F k.a.sd):
 Calls prog 83 #[aj c.pk] w fun e w'=>∃a1 c1 o,e=.returned (.tuple #[])/\(c7 (dP c (k.e3 t.1)) c.bs (.slice a1 ((k.e3 t.1).tR t r).length c1)).J o (((k.e3 t.1).tS t r).1,(k.e3 t.1).ii t r) w'/\w'.ownsRow 0 103 2 (.slice a1 ((k.e3 t.1).tR t r).length c1) ((k.e3 t.1).tR t r).length (ev ((k.e3 t.1).tR t r))/\(∀b,some b=(Value.slice a1 ((k.e3 t.1).tR t r).length c1).ownBlock->¬o b/\w.heap.size<=b)/\w'.heap[k.a.sd]?=w'.heap[c.bs]?/\¬o k.a.sd/\Fr (fun b=>F b\/b=k.a.sd) w w'/\(∀b,o b->F b\/w.heap.size<=b):=by
 have dq:∀(cd:Fn)(first cap:Array Value)(w:ax),(Instr.makeFunc cd first cap).run prog w=.ok (.func cd first cap) w:=fun _ _ _ _=>rfl;obtain⟨C,⟨⟨vt,cr,h0⟩,ce⟩,cf⟩:=i3 h;have be:ay (cV k t.1):=ce;have cJ:=au w (dl c)
 have cK:∀b,C b->b<w.heap.size:=(cT c k vt cr).lt h0;have bg:(da (df c k t.1 vt cr) w.heap.size (dl c)).J (fun b=>C b\/b=w.heap.size) k (w.alloc (dl c)):=⟨C,⟨(cT c k vt cr).below h0 cJ,rfl,rfl,rfl⟩,aO _ _,fun f=>by have:=cK _ f;omega,fun b=>Iff.rfl⟩
 obtain⟨_,bi,D,_,_⟩:=gD bg;obtain⟨ad,_,c0,_,_⟩:=ih bi;obtain⟨c3,_⟩:=tN bi;have K:(w.alloc (dl c)).cell? (aq w.heap.size 0)=some (aj c.pk):=by simp only [World.cell?];rw[D];rfl
 clear bi D ce;go_enter func83,ntmps83;go_wp2_with fail
 go_loopw [12] (fun iv wr=>∃(j:Nat)(E:Nat->Prop),j<=12/\iv=ah j/\ay ((da (df c k t.1 vt cr) w.heap.size (dl c)).J E (k.fR t.1 j) wr/\b8 (fun b=>C b\/b=w.heap.size) (w.alloc (dl c)) E wr)) (fun iv _=>12-(intOf iv).toNat)
 case atStart=>exact⟨0,_,aX _,rfl,⟨bg,b8.refl _ _⟩⟩
 case round=>
  clear bg K ad c0 c3;obtain⟨j,E,dr,rfl,B⟩:=hrel;obtain⟨ag,u,D,lb,bl⟩:=gD B.o.1;have K:wr.cell? (aq w.heap.size 0)=some (aj c.pk):=aA D
  obtain⟨ad,_,c0,_,_⟩:=ih u;obtain⟨c3,rt⟩:=tN u;by_cases bn:j<12
  ·have cg:ay (∀ai al w1,(df c k t.1 vt cr).J ai al w1->b8 ag wr ai w1->(da (df c k t.1 vt cr) w.heap.size (dl c)).J (fun b=>ai b\/b=w.heap.size) al w1/\b8 E wr (fun b=>ai b\/b=w.heap.size) w1):=bl;have v:ay (wr.heap[w.heap.size]?=some (dl c)/\w.heap.size<wr.heap.size/\(df c k t.1 vt cr).J ag (k.fR t.1 j) wr):=⟨D,lb,u⟩
   obtain⟨n1,ds,cL⟩:=yI u;have n4:k.a.nb≠w.heap.size:=fun e=>by obtain⟨G,g1,_,g3,_⟩:=B.o.1;exact g3 (by rw[<-e];exact(yI g1).2.2)
   obtain⟨ch,cM⟩:=rt j bn;have bo:=yF ((df c k t.1 vt cr).below u (aH _ wr).drew) ((k.fR t.1 j).s.rs.getD j 0)
   have am:ay (k.fR t.1 (j+1)=(k.fR t.1 j).qC j (k.nw t.1 ((k.fR t.1 j).s.rs.getD j 0))):=rfl;obtain⟨an,bp⟩:∃an,k.fR t.1 (j+1)=an:=⟨_,rfl⟩
   rw[bp] at am;have cN:ay (k.fR t.1 (j+1)=an):=bp;clear bp u D lb bl rt cL;generalize (k.fR t.1 j).s.rs.getD j 0=x at bo am ch;generalize k.fR t.1 j=ci at am v B;have j0:(0:Int)<=(j:Int):=V;have dt:(j:Int)<12:=V;go_wp2_with fail
   go_region_held3 (fun w'=>w'.cell? (aq w.heap.size 0)=some (aj c.pk)/\w'.cell? (aq c.pk 0)=some (aj k.a.pw)/\w'.cell? (aq k.a.pw 3)=some (.slice (ak k.a.nb) 12 12)) (go_keep)
    (first
      |(go_at_call 156;refine bo.mono ?_;clear bo;rintro e g ⟨rfl,cj⟩;have ao:Below wr.heap.size wr g:=((aH _ wr).drew).trans (cj.mono Z);have H:=(df c k t.1 vt cr).below v.o.2.2 ao;obtain⟨y1,_,_,_,_⟩:=ih H;obtain⟨cO,ck⟩:=tN H;obtain⟨cP,cQ⟩:=ck j bn;have br:=(ao.cell (p:=aq w.heap.size 0) v.o.2.1).trans K;have i:ay ((df c k t.1 vt cr).J ag ci g/\Below wr.heap.size wr g):=⟨H,ao⟩;clear cj ao H ck))
   have A:ay (∃G,(da (df c k t.1 vt cr) w.heap.size (dl c)).J G an (g.setCell ⟨k.a.nb,j,none⟩ (.int .i64 (k.nw t.1 x)))/\b8 (fun b=>C b\/b=w.heap.size) (w.alloc (dl c)) G (g.setCell ⟨k.a.nb,j,none⟩ (.int .i64 (k.nw t.1 x)))):=by
    obtain⟨G,cR,cS⟩:=FP i.o.1 j (k.nw t.1 x)
    obtain⟨dD,bs⟩:=cg.o G _ _ cR ((b8.of i.o.2).trans cS)
    exact⟨_,by rw[am.o];exact dD,B.o.2.trans bs⟩
   clear i cg v B br y1 cO cP cQ K ad c0 c3 ch cM;go_wp2_with fail;go_roundw
   case rel=>
    obtain⟨G,dD,bs⟩:=A.o;exact⟨j+1,G,V,af,by rw[cN.o];exact⟨dD,bs⟩⟩
   case measure=>simp[intOf];omega
  ·obtain rfl:j=12:=V;clear bn rt bl;have bt:ay (k.T.length<=4000/\∀a∈k.T,0<=a/\a<=2000):=⟨be.o.tl,be.o.ps⟩
   have hd:=(av wr).drew;have cl:Calls prog 141 #[aj c.pk] wr.drew fun e w'=>∃a f,e=.returned (.slice a k.T.length f)/\w'.ownsRow wr.drew.heap.size 3 1 (.slice a k.T.length f) k.T.length (k.T.map (Value.int .i64))/\Below wr.drew.heap.size wr.drew w':=by
    have e:(k.fR t.1 12).T=k.T:=by unfold b9.T;rw[u.2.2.1,u.2.2.2]
    have P:=yC (c:=c) (k:=k.fR t.1 12) (F:=ag) (s:=t.1) (w:=wr.drew) ⟨vt,cr,(cT c _ vt cr).below u.1 hd⟩ (by rw[e];exact bt.o.1)
    rw[e] at P;exact P
   have v:ay (w.heap.size<wr.heap.size/\(da (df c k t.1 vt cr) w.heap.size (dl c)).J E (k.fR t.1 12) wr.drew/\b8 (fun b=>C b\/b=w.heap.size) (w.alloc (dl c)) E wr.drew/\∀b,E b->b<wr.drew.heap.size):=⟨lb,(da (df c k t.1 vt cr) w.heap.size (dl c)).below B.o.1 hd,B.o.2.below hd,fun b hb=>by have:=(da (df c k t.1 vt cr) w.heap.size (dl c)).lt B.o.1 b hb;simpa using this⟩
   have ap:ay (k.e3 t.1=(k.fR t.1 12).ob t.1 k.T):=rfl;obtain⟨d,bx⟩:∃d,k.e3 t.1=d:=⟨_,rfl⟩
   rw[bx] at ap;have cU:ay (k.e3 t.1=d):=bx;clear bx;generalize k.fR t.1 12=ci at ap v B u;clear u D lb hd B ad c0 c3;go_wp2_with fail
   go_region_held3 (fun w'=>w'.cell? (aq w.heap.size 0)=some (aj c.pk)) (go_keep)
    (first
      |(go_at_call 141;refine cl.mono ?_;clear cl;rintro e bY ⟨cW,cX,rfl,cm,bZ⟩;have br:bY.cell? (aq w.heap.size 0)=some (aj c.pk):=(bZ.cell (p:=aq w.heap.size 0) (by have:=v.o.1;simpa using this)).trans K;have ar:ay (bY.ownsRow wr.drew.heap.size 3 1 (.slice cW k.T.length cX) k.T.length (k.T.map (Value.int .i64))/\Below wr.drew.heap.size wr.drew bY):=⟨cm,bZ⟩;clear cm bZ)
      |(go_at_call 157;refine(FQ ((da (df c k t.1 vt cr) w.heap.size (dl c)).below v.o.2.1 ar.o.2) bt.o.1 bt.o.2 ar.o.1 v.o.2.2.2).mono ?_;rintro e g ⟨aB,rfl,b0,co⟩;obtain⟨cp,L,q,_,_⟩:=gD b0;have cq:g.cell? (aq w.heap.size 0)=some (aj c.pk):=aA q;clear L q;have cs:ay ((da (df c k t.1 vt cr) w.heap.size (dl c)).J aB d g/\b8 (fun b=>C b\/b=w.heap.size) (w.alloc (dl c)) aB g):=⟨(by rw[ap.o];exact b0),(v.o.2.2.1.below ar.o.2).trans co⟩;clear b0 co))
   all_goals
    have aF:ay (∃n,(c7 (dP c d) c.bs vr).J n (t.1,t.2) g/\¬n w.heap.size/\g.heap[w.heap.size]?=some (dl c)/\Fr F w g/\(∀b,n b->F b\/w.heap.size<=b))/\d.a=k.a:=by
     obtain⟨cp,L,q,cY,cZ⟩:=cs.o.1;have ct:=cs.o.2;have c2:b8 C w aB g:=⟨(Fr.of (X:=C) (au w (dl c))).trans ct.fr (fun b f=>f.imp id (fun e=>by omega)),fun b hb=>(ct.sub b hb).elim (fun f=>f.imp id (fun e=>by omega)) (fun f=>aJ (by simp at f;omega))⟩
     obtain⟨n,hM,cv⟩:=cf (da (dP c d) w.heap.size (dl c)) aB t.1 g ⟨cp,⟨⟨vt,cr,L.1⟩,be.o.of L.2.2.1 L.2.2.2⟩,q,cY,cZ⟩ c2;obtain⟨g1,g2,g3⟩:=qt hM;exact⟨⟨_,g1,fun f=>f.2 rfl,g2,cv.fr,fun b f=>cv.sub b f.1⟩,L.2.1⟩
    obtain⟨aF,c4⟩:=aF;obtain⟨n,hM,cw,b2,aR,b3⟩:=aF.o;have cx:g.ownsRow 0 103 2 vr r.length (ev r):=cH hr (fun b e=>aR.block b (cn hr b e).2 (cI b e))
    have cy:g.heap[k.a.sd]?=some (.cells #[v1,v2] 153 (0,0)):=(aR.block _ (lt_of_some hs) cc).trans hs;have cz:∀b,n b->b<g.heap.size:=(c7 (dP c d) c.bs vr).lt hM;obtain⟨_,⟨⟨du,dv,H⟩,_⟩,_⟩:=i3 hM;obtain⟨_,_,_,_,b4,_⟩:=ey H;have cA:=aQ g _ b4;have cB:=lt_of_some b2;have M:¬n k.a.sd/\k.a.sd<w.heap.size:=⟨fun f=>(b3 _ f).elim cc (fun f=>by have:=lt_of_some hs;omega),lt_of_some hs⟩
    have i:ay ((c7 (dP c d) c.bs vr).J n (t.1,t.2) g/\g.ownsRow 0 103 2 vr r.length (ev r)/\g.heap[k.a.sd]?=some (.cells #[v1,v2] 153 (0,0))/\(∀b,n b->b<g.heap.size)/\¬n w.heap.size/\w.heap.size<g.heap.size/\(¬n k.a.sd/\k.a.sd<w.heap.size)/\c.pk<g.heap.size/\g.heap[w.heap.size]?=some (dl c)):=⟨hM,cx,cy,cz,cw,cB,M,cA,b2⟩
    have aV:ay (Fr F w g/\∀b,n b->F b\/w.heap.size<=b):=⟨aR,b3⟩
    have c5:ay (∀m,Below g.heap.size g m->m.heap[g.heap.size]?=some (dl c)->m.heap[g.heap.size+1]?=some (jy (kl c))->Calls prog 78 #[aj c.bs,.agg #[(iV g.heap.size).v,(ig (g.heap.size+1)).v,(jh c).v]] m fun e w'=>∃a1 c1 o,e=.returned (.tuple #[])/\(c7 (dP c d) c.bs (.slice a1 (d.tR t r).length c1)).J o ((d.tS t r).1,d.ii t r) w'/\w'.ownsRow 0 103 2 (.slice a1 (d.tR t r).length c1) (d.tR t r).length (ev (d.tR t r))/\(∀b,some b=(Value.slice a1 (d.tR t r).length c1).ownBlock->¬o b/\m.heap.size<=b)/\Fr (fun b=>n b\/b=g.heap.size+1\/b=g.heap.size) m w'/\(∀b,o b->n b\/m.heap.size<=b)):=fun m Q a0 a2=>
     FR cG ((c7 (dP c d) c.bs vr).below i.o.1 Q) (cH i.o.2.1 (fun b e=>Q.block b (cn i.o.2.1 b e).2)) hq g.heap.size (g.heap.size+1) V a0 a2 (fun f=>by have:=i.o.2.2.2.1 _ f;omega) (fun f=>by have:=i.o.2.2.2.1 _ f;omega)
    clear br K ar v ap hM cx cy cz cw cB M cA b2 aR b3 H aF cf h0 hr hs h;go_wp2_with fail
    go_region_held3 (fun w'=>w'.cell? (aq w.heap.size 0)=some (aj c.pk)/\w'.cell? (aq c.pk 4)=some (aj c.bs)) (go_keep)
     (first
       |(go_at_call 79;refine(tE (kl c) g.drew c.pk).mono ?_;rintro e m ⟨rfl,a0,a2,Q⟩;have bb:Below g.heap.size g m:=((aH _ g).drew).trans (Q.mono Z);have b5:=(bb.cell (p:=aq c.pk 4) i.o.2.2.2.2.2.2.2.1).trans b4;have b6:=(bb.cell (p:=aq w.heap.size 0) i.o.2.2.2.2.2.1).trans cq;have A:ay (m.heap[g.heap.size]?=some (dl c)/\m.heap[g.heap.size+1]?=some (jy (kl c))/\Below g.heap.size g m):=⟨a0,a2,bb⟩;clear a0 a2 Q bb)
       |(go_at_call 78;refine(c5.o m A.o.2.2 A.o.1 A.o.2.1).mono ?_;rintro e l ⟨a1,c1,N,rfl,q,R,O,S,U⟩;obtain⟨_,⟨⟨c6,c8,ca⟩,_⟩,_⟩:=i3 q;obtain⟨u0,_,_,_,c9,_⟩:=ey ca;have db:l.cell? (aq w.heap.size 0)=some (aj c.pk):=(by have cb:=A.o.2.2.block w.heap.size i.o.2.2.2.2.2.1;have dc:=S.block w.heap.size (by have:=A.o.2.2.size;have:=i.o.2.2.2.2.2.1;omega) (fun f=>by rcases f with f|f|f;(exact i.o.2.2.2.2.1 f);(have:=i.o.2.2.2.2.2.1;omega);(have:=i.o.2.2.2.2.2.1;omega));simp[World.cell?,dc,cb,i.o.2.2.2.2.2.2.2.2]);have bd:ay ((c7 (dP c d) c.bs (.slice a1 (d.tR t r).length c1)).J N ((d.tS t r).1,d.ii t r) l/\l.ownsRow 0 103 2 (.slice a1 (d.tR t r).length c1) (d.tR t r).length (ev (d.tR t r))/\(∀b,some b=(Value.slice a1 (d.tR t r).length c1).ownBlock->¬N b/\m.heap.size<=b)/\Fr (fun b=>n b\/b=g.heap.size+1\/b=g.heap.size) m l/\(∀b,N b->n b\/m.heap.size<=b)/\(cT c d c6 c8).J _ (d.tS t r).1 l):=⟨q,R,O,S,U,ca⟩;clear q R O S U ca))
    all_goals
     clear b5 b6 cq b4;have W:ay (l.heap[k.a.sd]?=some (.cells #[v1,v2] 153 (0,0))):=by have l1:=i.o.2.2.2.2.2.2.1;have l2:=i.o.2.2.2.2.2.1;have dd:=A.o.2.2.size;exact((bd.o.2.2.2.1.block k.a.sd V (fun f=>by rcases f with f|f|f;(exact l1.1 f);omega;omega)).trans (A.o.2.2.block k.a.sd V)).trans i.o.2.2.1
     obtain⟨_,cC,_⟩:=pm bd.o.2.2.2.2.2;obtain⟨_,_,cD,_⟩:=jN cC;rw[c4] at cD u0;obtain⟨dw,I,J,_,Y,_⟩:=bd.o.1;have de:l.cell? (aq c.bs 0)=some (.slice a1 (d.tR t r).length c1):=aA Y
     have b1:l.cell? (aq c.bs 1)=some (.slice I (d.ii t r).length J):=aA Y
     have s0:l.cell? (aq k.a.sd 0)=some v1:=aA W.o
     have s1:l.cell? (aq k.a.sd 1)=some v2:=aA W.o
     have t0:l.frozen? (aq k.a.sd 0)=false:=aC W.o
     have al:l.frozen? (aq k.a.sd 1)=false:=aC W.o
     have dg:ay (∃o,(c7 (dP c d) c.bs (.slice a1 (d.tR t r).length c1)).J o ((d.tS t r).1,d.ii t r) ((l.setCell ⟨k.a.sd,0,none⟩ (.slice a1 (d.tR t r).length c1)).setCell ⟨k.a.sd,1,none⟩ (.slice I (d.ii t r).length J)).drew/\((l.setCell ⟨k.a.sd,0,none⟩ (.slice a1 (d.tR t r).length c1)).setCell ⟨k.a.sd,1,none⟩ (.slice I (d.ii t r).length J)).drew.ownsRow 0 103 2 (.slice a1 (d.tR t r).length c1) (d.tR t r).length (ev (d.tR t r))/\(∀b,some b=(Value.slice a1 (d.tR t r).length c1).ownBlock->¬o b/\w.heap.size<=b)/\((l.setCell ⟨k.a.sd,0,none⟩ (.slice a1 (d.tR t r).length c1)).setCell ⟨k.a.sd,1,none⟩ (.slice I (d.ii t r).length J)).drew.heap[k.a.sd]?=((l.setCell ⟨k.a.sd,0,none⟩ (.slice a1 (d.tR t r).length c1)).setCell ⟨k.a.sd,1,none⟩ (.slice I (d.ii t r).length J)).drew.heap[c.bs]?/\¬o k.a.sd/\Fr (fun b=>F b\/b=k.a.sd) w ((l.setCell ⟨k.a.sd,0,none⟩ (.slice a1 (d.tR t r).length c1)).setCell ⟨k.a.sd,1,none⟩ (.slice I (d.ii t r).length J)).drew/\(∀b,o b->F b\/w.heap.size<=b)):=by
      have l1:=i.o.2.2.2.2.2.2.1;have l2:=i.o.2.2.2.2.2.1;have dd:=A.o.2.2.size;obtain⟨q,R,O,S,U,_⟩:=bd.o;have M:¬N k.a.sd:=fun f=>(U _ f).elim l1.1 (fun f=>by omega)
      have ab:Fr (fun b=>b=k.a.sd) l ((l.setCell ⟨k.a.sd,0,none⟩ (.slice a1 (d.tR t r).length c1)).setCell ⟨k.a.sd,1,none⟩ (.slice I (d.ii t r).length J)).drew:=(((Fr.refl (fun b=>b=k.a.sd) l).set k.a.sd 0 _ rfl).set k.a.sd 1 _ rfl).drew;have dh:N c.bs:=by obtain⟨_,_,_,_,_,_,_,cb,_⟩:=q;exact cb
      have di:Fr F w l:=(aV.o.1.trans (Fr.of (X:=F) A.o.2.2) (fun b f=>aK f)).trans S (fun b f=>by
       have:=aV.o.1.size;rcases f with f|f|f
       ·exact aV.o.2 b f
       ·exact aJ V
       ·exact aJ V)
      refine⟨N,(c7 (dP c d) c.bs _).keep q ab.size (fun b hb=>ab.block b ((c7 (dP c d) c.bs _).lt q b hb) (fun e=>M (by rw[<-e];exact hb))),cH R (fun b e=>ab.block b (cn R b e).2 (fun dx=>by have:=(O b e).2;omega)),fun b e=>⟨(O b e).1,by have:=(O b e).2;omega⟩,?_,M,(di.mono (fun b f=>aK f)).trans ab (fun b e=>aK (aJ e)),fun b hb=>(U b hb).elim (aV.o.2 b) (fun f=>aJ V)⟩
      rw[ab.block c.bs (lt_of_some Y) (fun e=>M (by rw[<-e];exact dh)),Y];show((l.setCell _ _).setCell _ _).heap[k.a.sd]?=_;simp only [World.setCell,Array.getElem?_modify,if_true,W.o,Option.map_some];simp
     clear cC Y;go_wp2_with fail
     go_region
     clear de b1 s0 s1 t0 al cD u0 c9 db;obtain⟨o,dj,dk,dm,b5,b6,dn,dp⟩:=dg.o;go_end0;rw[cU.o];exact⟨a1,c1,o,rfl,dj,dk,dm,b5,b6,dn,dp⟩
end
def b9.lB (k:b9)(t f n:Nat):b9:=k.ar k.s.y k.s.g (splice k.s.ws t ((k.s.ws.drop f).take n))
def b9.cop (k:b9)(a:Int):b9:=k.ar k.s.y (jK k.a.N k.a.O k.s.y k.s.g k.s.ws a) (jL k.a.N k.a.O k.s.y k.s.g k.s.ws a)
section
variable {c:e9}{k0 k:b9}{vt cr vr:Value}{F:Nat->Prop}{s:cu}{w:ax}{bp f4:Nat}
theorem FU (h:(df c k0 s vt cr).J F k w)(t f n:Nat)(d:t+n<=k0.a.N+k0.a.O)(h2:f+n<=k0.a.N+k0.a.O):Calls prog 162 #[aj k0.a.p,ah t,ah f,ah n] w fun e w'=>∃b,e=.returned (.tuple #[])/\(df c k0 s vt cr).J b (k.lB t f n) w'/\b8 F w b w':=by obtain⟨h,ea,tP,tT⟩:=h;obtain⟨g,hU⟩:=oa h;rw[<-ea];refine(wA t f n w g (by rw[ea];exact d) (by rw[ea];exact h2)).mono ?_;exact tO
theorem FV (h:(df c k0 s vt cr).J F k w)(a:Int):Calls prog 165 #[aj k0.a.p,ah a] w fun e w'=>∃b v,e=.returned (ah v)/\(df c k0 s vt cr).J b (k.cop a) w'/\b8 F w b w':=by
 obtain⟨h,ea,d,f⟩:=h;obtain⟨g,i⟩:=oa h;rw[<-ea];refine(wQ a w g).mono ?_;rintro e j ⟨rfl,l,m⟩
 obtain⟨n,o,p⟩:=i j _ _ _ l m;exact⟨n,_,rfl,⟨o,ea,d,f⟩,p⟩
theorem FX {b:Int}(h:(hC (da (df c k0 s vt cr) bp (dl c)) f4).J F (k,b) w)(a:Int)(m:Nat)(ha:a∈k0.T)(hp:0<=a/\a<=2000)(x:0<=s.f a)(A:s.f a+m<=k0.a.N+k0.a.O)(B:a+m<=k0.a.N+k0.a.O)(am:0<=b/\b<=100000)(hm:m<=13):
 Calls prog 161 #[ah a,ah m,aj bp,aj f4] w fun e w'=>∃l,e=.returned (.tuple #[])/\(hC (da (df c k0 s vt cr) bp (dl c)) f4).J l (k.lB (s.f a).toNat a.toNat m,b+m) w'/\b8 F w l w':=by
 have n:=jd hp.1 V;obtain⟨ao,g1,_,_,C⟩:=lA h;obtain⟨i,g2,E,lb,G⟩:=gD g1;have H:w.cell? (aq bp 0)=some (aj c.pk):=aA E
 obtain⟨I,J,c0,_,_⟩:=ih g2;have o:=(df c k0 s vt cr).below g2 (aH _ w).drew;obtain⟨_,_,_,⟨D,o1,ap,K⟩,_⟩:=ih o;obtain⟨z,j,L,ar⟩:=o1.lookup_int (t:=127) (e:=3) (q:=.i64) iN underlying127 underlying3 (lX _) n;obtain rfl:z=s.f a:=by have:=L.symm.trans (K a ha);simpa using this
 obtain⟨tn,M⟩:=Int.eq_ofNat_of_zero_le x;obtain⟨an,N⟩:=Int.eq_ofNat_of_zero_le hp.1;rw[M] at j A⊢;rw[N] at j B n⊢;have P:=FU o tn an m V V;rw[Int.toNat_natCast,Int.toNat_natCast];have O:ay (∀d f w1,(df c k0 s vt cr).J d f w1->b8 i w d w1->∃g,(hC (da (df c k0 s vt cr) bp (dl c)) f4).J g (f,b) w1/\b8 F w g w1):=fun d f w1 Q t=>by obtain⟨j2,R⟩:=G d f w1 Q t;obtain⟨cA,t3⟩:=C _ f w1 j2 R;exact⟨_,cA,t3⟩
 have S:ay (b8 i w i w.drew):=b8.of (aH _ w).drew;go_enter func161,ntmps161;go_wp2_with fail
 go_region_held3 (fun w'=>w'.cell? (aq bp 0)=some (aj c.pk)/\w'.cell? (aq c.pk 0)=some (aj k0.a.pw)/\w'.cell? (aq c.pk 3)=some (.map (some c.ch))/\w'.cell? (aq k0.a.pw 0)=some (aj k0.a.p)) (go_keep)
  (first
    |(go_at_call 162;refine P.mono ?_;rintro e p ⟨d,rfl,cA,t3⟩;obtain⟨U,W,X,_,_⟩:=ih cA;have Y:=O.o d _ p cA (S.o.trans t3);obtain⟨g,cE,u⟩:=Y;have ab:=(n_ cE).1;have aB:=(n_ cE).2;dsimp only at ab;have ad:p.cell? (aq bp 0)=some (aj c.pk):=(by obtain⟨_,ag,_⟩:=lA cE;obtain⟨_,_,ai,_⟩:=gD ag;simp[World.cell?,ai]);have v:ay (_/\_):=⟨cE,u⟩;clear cA t3 cE u))
 all_goals
  clear H I J c0 U W X ad j;go_wp2_with fail;go_end0;obtain⟨dD,al⟩:=yE v.o.1 (b+m)
  exact⟨g,rfl,dD,v.o.2.trans al⟩
theorem FY (h:(da (df c k0 s vt cr) bp (dl c)).J F k w)(a m:Int):
 Calls prog 164 #[ah a,ah m,aj bp] w fun e w'=>∃b,e=.returned (.tuple #[])/\(da (df c k0 s vt cr) bp (dl c)).J b (k.cop a) w'/\b8 F w b w':=by
 obtain⟨n,g2,f,lb,g⟩:=gD h;have o:w.cell? (aq bp 0)=some (aj c.pk):=aA f
 obtain⟨p,q,c0,_,_⟩:=ih g2;go_enter func164,ntmps164;go_wp2_with fail;refine(FV g2 a).mono ?_;rintro e w1 ⟨i,v,rfl,j,l⟩
 have d:=hide ((hide g).o i _ w1 j l)
 go_wp2;go_end0;exact⟨_,rfl,d.o.1,d.o.2⟩
end
def b9.i5 (s:cu)(t:b9×Int)(a:Int):b9×Int:=(t.1.lB (s.f a).toNat a.toNat (1+(pf (t.1.ld a)).toNat),t.2+(1+pf (t.1.ld a)))
def b9.lC (k:b9)(s:cu)(l:List Int):b9×Int:=gV (fun _ a=>s.f a) (b9.i5 s) (k,0) l
def b9.pn (k:b9)(s:cu)(l:List Int):b9:=gV (fun(_:b9) a=>s.f a) (fun k a=>k.cop a) k l
def b9.tU (k:b9):b9:={k with s:={k.s with M:=[]}}
def b9.sl1 (k:b9)(s:cu):b9:=(k.lC s k.G).1.ar (k.lC s k.G).1.s.y (k.lC s k.G).2.toNat (k.lC s k.G).1.s.ws
def b9.sl2 (k:b9)(s:cu):b9:=(k.sl1 s).pn s k.Y
def b9.sl (k:b9)(s:cu):b9:=((k.sl2 s).ar 0 (k.sl2 s).s.g (k.sl2 s).s.ws).tU
theorem FZ:dN 161:=gb func161 ae rfl
theorem F0:dN 164:=gb func164 ae rfl
section
variable {c:e9}{k0 k:b9}{vt cr vr:Value}{F:Nat->Prop}{s:cu}{w:ax}{bp f4:Nat}
theorem F1 (h:(df c k0 s vt cr).J F k w)(n:Int)(h0:0<=n)(d:n<=k0.a.O):Calls prog 163 #[aj k0.a.p,ah n] w fun e w'=>∃b,e=.returned (.tuple #[])/\(df c k0 s vt cr).J b (k.ar k.s.y n.toNat k.s.ws) w'/\b8 F w b w':=by obtain⟨h,ea,tP,tT⟩:=h;obtain⟨f,hU⟩:=oa h;rw[<-ea];refine(Cv n w f h0 (by rw[ea];exact d)).mono ?_;exact tO
theorem F4 (h:(df c k0 s vt cr).J F k w):Calls prog 114 #[aj k0.a.p] w fun e w'=>∃b,e=.returned (.tuple #[])/\(df c k0 s vt cr).J b (k.ar 0 k.s.g k.s.ws) w'/\b8 F w b w':=by obtain⟨h,ea,tP,tT⟩:=h;obtain⟨d,hU⟩:=oa h;rw[<-ea];refine(wi w d).mono ?_;exact tO
theorem F5 (h:(df c k0 s vt cr).J F k w):w.cell? (aq k0.a.pw 1)=some (aj k0.a.pc)/\Calls prog 115 #[aj k0.a.pc] w fun e w'=>∃f,e=.returned (.tuple #[])/\(df c k0 s vt cr).J f k.tU w'/\b8 F w f w':=by
 obtain⟨h,ea,j,l⟩:=h;obtain⟨u,g1,g2⟩:=pm h;obtain⟨_,c1,_⟩:=jN g1;obtain⟨cO,hc,m⟩:=xW g1;have P:=sE w hc.hp;rw[ea] at c1 P;refine⟨c1,P.mono ?_⟩
 rintro e n ⟨rfl,g,d⟩
 rw[<-ea] at g d;obtain⟨v,o,p⟩:=m n _ _ g ⟨d.os,d.tape,d.output,d.size,fun b hb i _=>d.block b hb i i⟩ (aJ bW)
 obtain⟨q,j2,t⟩:=g2 _ _ _ o p;exact⟨q,rfl,⟨j2,ea,j,l⟩,t⟩
theorem oc (h:(df c k0 s vt cr).J F k w):w.cell? (aq c.pk 1)=some c.yv/\w.cell? (aq c.pk 2)=some c.ov/\w.ownsRow 0 3 1 c.yv k0.Y.length (k0.Y.map (Value.int .i64))/\w.ownsRow 0 3 1 c.ov k0.G.length (k0.G.map (Value.int .i64)):=by obtain⟨h,ea,b,d⟩:=h;obtain⟨_,e,f,_⟩:=ey h;obtain⟨y,g⟩:=yA h;rw[b] at y;rw[d] at g;exact⟨e,f,y,g⟩
def iE (k0:b9)(s:cu)(G:Nat->b9×Int->Prop):Prop:=
 (∀j t,j<k0.G.length->G j t->s.f (k0.G.getD j 0)≠-1->0<=s.f (k0.G.getD j 0)/\s.f (k0.G.getD j 0)+(1+pf (t.1.ld (k0.G.getD j 0)))<=k0.a.N+k0.a.O/\k0.G.getD j 0+(1+pf (t.1.ld (k0.G.getD j 0)))<=k0.a.N+k0.a.O/\0<=t.2/\t.2<=100000)/\
 (∀j t,j<k0.G.length->G j t->G (j+1) (e_ (fun _ a=>s.f a) (b9.i5 s) t (k0.G.getD j 0)))/\(∀t,G k0.G.length t->0<=t.2/\t.2<=k0.a.O)
theorem F6 {G:Nat->b9×Int->Prop}(m:iE k0 s G){t:b9×Int}(h0:G 0 t)(h:(hC (da (df c k0 s vt cr) bp (dl c)) f4).J F t w)(hl:k0.G.length<=4000)(hp:∀a∈k0.G,0<=a/\a<=2000){ad:Option Addr}{d:Nat}(hv:c.ov=.slice ad k0.G.length d):
 Calls prog 157 #[aj c.pk,.slice ad k0.G.length d,.func (.func 161) #[] #[aj bp,aj f4]] w fun e w'=>∃f,e=.returned (.tuple #[])/\(hC (da (df c k0 s vt cr) bp (dl c)) f4).J f (gV (fun _ a=>s.f a) (b9.i5 s) t k0.G) w'/\b8 F w f w'/\G k0.G.length (gV (fun _ a=>s.f a) (b9.i5 s) t k0.G):=by
 have n:∀a∈k0.G,a∈k0.T:=fun a ha=>List.mem_append.2 (aK ha)
 refine tL _ (fun _ a=>s.f a) (fun t a=>pf _) _ G k0.T c.pk k0.a.pw k0.a.p c.ch 161 #[.pointer _,.pointer _] FZ k0.G ad d F t w
  (by
    rintro F t o a p;obtain⟨_,g,_⟩:=lA p;obtain⟨_,b,_⟩:=gD g;obtain⟨c0,c3,c5,hM,q⟩:=ih b;refine⟨c0,c3,c5,hM,(gf a o q).mono ?_⟩
    rintro r w' ⟨rfl,hb⟩
    have u:pf (t.1.ld a)=pf (ld k0.a.N t.1.s.y t.1.s.g t.1.s.ws a):=by unfold b9.ld;rw[b.2.1]
    exact⟨pk _,pc _,by rw[u],hb⟩)
  (fun t a=>dj _) (fun a ha=>⟨by have:=hp a ha;omega,n a ha⟩) V
  (by
    rintro j F t o i hg k v;have hm:k0.G.getD j 0∈k0.G:=by rw[aE,aL i];exact a6 i
    have b:=hp _ hm;have C:=dj (t.1.ld (k0.G.getD j 0))
    obtain⟨a1,a2,x,A,B⟩:=m.1 j t i hg v;have l:((1+(pf (t.1.ld (k0.G.getD j 0))).toNat:Nat):Int)=1+pf (t.1.ld (k0.G.getD j 0)):=V;have P:=FX k _ _ (n _ hm) b a1 (by rw[l];exact a2) (by rw[l];exact x) ⟨A,B⟩ V;rw[l] at P;exact P)
  m.2.1 h0 h (fun f D w' k _=>?_)
 obtain⟨_,g,_⟩:=lA k;obtain⟨_,b,_⟩:=gD g;have hr:=(oc b).2.2.2;rw[hv] at hr;exact gI hr
theorem F7 (h:(da (df c k0 s vt cr) bp (dl c)).J F k w)(hl:k0.Y.length<=4000)(hp:∀a∈k0.Y,0<=a/\a<=2000){ad:Option Addr}{f:Nat}(hv:c.yv=.slice ad k0.Y.length f):
 Calls prog 157 #[aj c.pk,.slice ad k0.Y.length f,.func (.func 164) #[] #[aj bp]] w fun e w'=>∃d,e=.returned (.tuple #[])/\(da (df c k0 s vt cr) bp (dl c)).J d (k.pn s k0.Y) w'/\b8 F w d w':=by
 have l:∀a∈k0.Y,a∈k0.T:=fun a ha=>List.mem_append.2 (aJ ha)
 have E:=tL _ (fun(_:b9) a=>s.f a) (fun t a=>pf (t.ld a)) (fun k a=>k.cop a) (fun _ _=>True) k0.T c.pk k0.a.pw k0.a.p c.ch 164 #[.pointer _] F0 k0.Y ad f F k w
  (by
    rintro F t i a m;obtain⟨_,b,_⟩:=gD m;obtain⟨c0,c3,c5,hM,n⟩:=ih b;refine⟨c0,c3,c5,hM,(gf a i n).mono ?_⟩
    rintro r w' ⟨rfl,hb⟩
    have o:pf (t.ld a)=pf (ld k0.a.N t.s.y t.s.g t.s.ws a):=by unfold b9.ld;rw[b.2.1]
    exact⟨pk _,pc _,by rw[o],hb⟩)
  (fun t a=>dj _) (fun a ha=>⟨by have:=hp a ha;omega,l a ha⟩) V
  (fun j F t i _ _ g _=>FY g _ _)
  (fun _ _ _ _=>trivial) trivial h (fun d q w' g _=>by obtain⟨_,b,_⟩:=gD g;have hr:=(oc b).2.2.1;rw[hv] at hr;exact gI hr)
 refine E.mono ?_;rintro r w' ⟨d,rfl,b,p,_⟩
 exact⟨d,rfl,b,p⟩
end
theorem b8.less {X F c:Nat->Prop}{w w':ax}(h:b8 X w F w')(hs:∀b,c b->F b):b8 X w c w':=⟨h.fr,fun b d=>h.sub b (hs b d)⟩
theorem F8 {g:Type}{o:dr g}{bx:Nat}{x:Obj}{F:Nat->Prop}{w:ax}{t:g}(h:(da o bx x).J F t w):∃e,o.J e t w/\w.heap[bx]?=some x/\bx<w.heap.size/\(∀c f w1,o.J c f w1->b8 e w c w1->(da o bx x).J (fun b=>c b\/b=bx) f w1/\b8 F w (fun b=>c b\/b=bx) w1)/\∀b,e b->F b:=by
 obtain⟨e,h,g2,g3,g4⟩:=h;refine⟨e,h,g2,lt_of_some g2,fun c f w1 i hT=>⟨⟨c,i,(hT.fr.block bx (lt_of_some g2) g3).trans g2,fun d=>(hT.sub bx d).elim g3 (fun d=>by have:=lt_of_some g2;omega),fun b=>Iff.rfl⟩,⟨hT.fr.mono (fun b hb=>(g4 b).2 (aK hb)),fun b hb=>?_⟩⟩,fun b hb=>(g4 b).2 (aK hb)⟩
 exact tJ
section
variable {c:e9}{k:b9}{vt cr:Value}{F:Nat->Prop}{s:cu}{w:ax}
theorem F9 {G:Nat->b9×Int->Prop}(a0:iE k s G)(a1:G 0 (k,0))(h:(cT c k vt cr).J F s w)(hl:k.T.length<=4000)(hp:∀a∈k.T,0<=a/\a<=2000):
 Calls prog 84 #[aj c.pk] w fun e w'=>∃K,e=.returned (.tuple #[])/\(cT c (k.sl s) vt cr).J K s w'/\b8 F w K w':=by
 have cm:k.T.length=k.G.length+k.Y.length:=by unfold b9.T;rw[aZ]
 have m:ay (_/\_/\(∀a∈k.G,0<=a/\a<=2000)/\(∀a∈k.Y,0<=a/\a<=2000)/\k.G.length<=4000/\k.Y.length<=4000):=⟨a0,a1,fun a ha=>hp a (List.mem_append.2 (aK ha)),fun a ha=>hp a (List.mem_append.2 (aJ ha)),V,V⟩
 have L:=(cT c k vt cr).lt h;obtain⟨w0,u⟩:∃w0,w.alloc (dl c)=w0:=⟨_,rfl⟩
 have a2:Below w.heap.size w w0:=by rw[<-u];exact au w (dl c)
 have bb:w0.heap.size=w.heap.size+1:=by rw[<-u];simp
 have bd:w0.heap[w.heap.size]?=some (dl c):=by rw[<-u];exact aO _ _
 obtain⟨w1,D⟩:∃w1,w0.alloc (km 0)=w1:=⟨_,rfl⟩
 have M:Below w0.heap.size w0 w1:=by rw[<-D];exact au w0 (km 0)
 have be:w1.heap[w0.heap.size]?=some (km 0):=by rw[<-D];exact aO _ _
 have N:=a2.trans (M.mono V)
 have O:(df c k s vt cr).J F k w1:=⟨(cT c k vt cr).below h N,rfl,rfl,rfl⟩
 have bg:(da (df c k s vt cr) w.heap.size (dl c)).J (fun b=>F b\/b=w.heap.size) k w1:=⟨F,O,(M.block _ V).trans bd,fun f=>by have:=L _ f;omega,fun b=>Iff.rfl⟩
 have bi:(hC (da (df c k s vt cr) w.heap.size (dl c)) (w.heap.size+1)).J (fun b=>(F b\/b=w.heap.size)\/b=w.heap.size+1) (k,0) w1:=⟨_,bg,by rw[<-bb];exact be,fun f=>f.elim (fun f=>by have:=L _ f;omega) (fun f=>by omega),fun b=>Iff.rfl⟩
 have bl:=(ey h).2.2.1;obtain⟨_,bn,yr,gr⟩:=oc O;obtain⟨P,Q,bo⟩:=eE yr;obtain⟨E,gc,v⟩:=eE gr;have cn:w1.cell? (aq c.pk 2)=some (.slice E k.G.length gc):=by rw[bn,v]
 rw[v] at bl;have H:=hide bo;have bp:=hide v;have hd:=(av w1).drew;have br:ay (b8 F w (fun b=>(F b\/b=w.heap.size)\/b=w.heap.size+1) w1.drew):=⟨(Fr.of (X:=F) N).trans (Fr.of (X:=F) hd) (fun b f=>aK f),fun b f=>f.elim (fun f=>f.imp id (fun e=>by omega)) (fun e=>aJ V)⟩
 have R:=F6 m.o.1 m.o.2.1 ((hC (da (df c k s vt cr) w.heap.size (dl c)) (w.heap.size+1)).below bi hd) m.o.2.2.2.2.1 m.o.2.2.1 v;obtain⟨d,S⟩:∃d,gV (fun _ a=>s.f a) (b9.i5 s) (k,0) k.G=d:=⟨_,rfl⟩
 rw[S] at R;have U:ay (k.sl1 s=d.1.ar d.1.s.y d.2.toNat d.1.s.ws):=by show k.sl1 s=_;unfold b9.sl1 b9.lC;rw[S]
 have o:ay (k.sl s=((k.sl2 s).ar 0 (k.sl2 s).s.g (k.sl2 s).s.ws).tU/\k.sl2 s=(k.sl1 s).pn s k.Y):=⟨rfl,rfl⟩
 generalize k.sl s=co at o⊢;generalize k.sl2 s=cp at o;generalize k.sl1 s=cq at o U;subst D;subst u;go_enter func84,ntmps84;go_wp2_with fail
 go_region_held3 (fun w'=>w'.cell? (aq w.heap.size 0)=some (aj c.pk)/\w'.cell? (aq c.pk 2)=some (.slice E k.G.length gc)) (go_keep)
  (first
    |(go_at_call 157;refine R.mono ?_;rintro e i ⟨cs,rfl,cA,t3,g3⟩;have p:=g7 cA (br.o.trans t3) (m.o.1.2.2 _ g3);obtain⟨_,q1,_⟩:=lA cA;obtain⟨_,q,q3,_⟩:=gD q1;obtain⟨_,bs,_⟩:=oc q;have ct:i.cell? (aq w.heap.size 0)=some (aj c.pk):=aA q3;have cu:i.cell? (aq c.pk 2)=some (.slice E k.G.length gc):=(by rw[bs,bp.o])))
 all_goals
  have x:ay (∃n,(da (df c k s vt cr) w.heap.size (dl c)).J n d.1 i.drew/\b8 F w n i.drew/\¬n (w.heap.size+1)/\w.heap.size+1<i.heap.size):=by obtain⟨n,cE,dD,A,B⟩:=p.o.1;exact⟨n,(da (df c k s vt cr) w.heap.size (dl c)).below cE (aH _ i).drew,(p.o.2.1.less (fun b f=>(B b).2 (aK f))).below (aH _ i).drew,A,lt_of_some dD⟩
  obtain⟨n,cE,bt,n4,bx⟩:=x.o;obtain⟨W,dD,cv,cw,Y,bY⟩:=F8 cE;obtain⟨bZ,_,b0,_,_⟩:=ih dD;have b1:=(n_ p.o.1).1;have C:=F1 dD d.2 p.o.2.2.1 p.o.2.2.2;rw[<-U.o] at C;have v0:_=_:=bZ;have b2:_=_:=b0;have b3:ay (∀g d w1,(df c k s vt cr).J g d w1->b8 W i.drew g w1->_/\_):=fun g d w1 j l=>⟨(Y g d w1 j l).1,bt.trans (Y g d w1 j l).2⟩
  have ab:_/\¬W (w.heap.size+1):=⟨bx,fun f=>n4 (bY _ f)⟩
  go_wp2_with fail
  go_region_held3 (fun w'=>w'.cell? (aq w.heap.size 0)=some (aj c.pk)/\w'.cell? (aq c.pk 0)=some (aj k.a.pw)/\w'.cell? (aq k.a.pw 0)=some (aj k.a.p)/\w'.cell? (aq (w.heap.size+1) 0)=some (ah d.2)) (go_keep)
   (first
     |(go_at_call 163;refine C.mono ?_;rintro e t ⟨b4,rfl,A,ad⟩;obtain⟨r0,_,cx,_,_⟩:=ih A;obtain⟨B,b5⟩:=b3.o b4 _ t A ad;obtain⟨_,_,b6,_⟩:=gD B;have r1:t.cell? (aq w.heap.size 0)=some (aj c.pk):=aA b6;have cy:=(aP (a:=⟨w.heap.size+1,0,none⟩) (ad.fr.block _ (by simpa using ab.1) ab.2)).trans b1;have I:=dq B b5))
  all_goals
   have x:=dq ((da (df c k s vt cr) w.heap.size (dl c)).below I.o.1 (aH _ t).drew) (I.o.2.below (aH _ t).drew)
   have ag:=F7 x.o.1 m.o.2.2.2.2.2 m.o.2.2.2.1 H.o;rw[<-o.o.2] at ag;have cz:t.cell? (aq c.pk 1)=some (.slice P k.Y.length Q):=by obtain⟨_,q,_⟩:=gD I.o.1;exact(oc q).1.trans (by rw[H.o])
   go_wp2_with fail
   go_region_held3 (fun w'=>w'.cell? (aq w.heap.size 0)=some (aj c.pk)/\w'.cell? (aq c.pk 1)=some (.slice P k.Y.length Q)) (go_keep)
    (first
      |(go_at_call 157;refine ag.mono ?_;rintro e ai ⟨cB,rfl,al,b7⟩;obtain⟨_,q,q3,_⟩:=gD al;have cC:ai.cell? (aq w.heap.size 0)=some (aj c.pk):=aA q3;have m1:_=_:=(oc q).1.trans (by rw[H.o]);have am:=dq al (x.o.2.trans b7)))
   all_goals
    obtain⟨ca,an,cD,cF,ao⟩:=gD am.o.1;obtain⟨v0,_,b2,_,_⟩:=ih an;have C:=F4 an;have cb:ay (∀g d w1,(df c k s vt cr).J g d w1->b8 ca ai g w1->_/\_):=fun g d w1 j l=>⟨(ao g d w1 j l).1,am.o.2.trans (ao g d w1 j l).2⟩
    go_wp2_with fail;refine C.mono ?_;rintro e J ⟨cc,rfl,cd,ce⟩
    obtain⟨cf,cg⟩:=cb.o cc _ J cd ce;obtain⟨ch,ap,ci,cG,ar⟩:=gD cf;have z0:J.cell? (aq w.heap.size 0)=some (aj c.pk):=aA ci
    obtain⟨cH,_,_,_,_⟩:=ih ap;obtain⟨cI,aB⟩:=F5 ap;rw[<-o.o.1] at aB;have cj:ay (∀g d w1,(df c k s vt cr).J g d w1->b8 ch J g w1->_/\_):=fun g d w1 j l=>⟨(ar g d w1 j l).1,cg.trans (ar g d w1 j l).2⟩
    go_wp2_with fail;refine aB.mono ?_;rintro e ck ⟨aF,rfl,aR,cl⟩
    have aV:=dq aR.1 ((cj.o aF _ ck aR cl).2.less (fun b f=>aK f))
    go_wp2_with fail;go_end0;exact⟨aF,rfl,aV.o.1,aV.o.2⟩
end
theorem yJ (f:Nat)(c:Array Value)(p:Int->Bool)(k:dN f)(w:ax)(l:List Int)
 (hl:∀(w':ax)(x:Int),x∈l->Below w.heap.size w w'->Calls prog f (#[ah x]++c) w' fun r o=>r=.returned (.bool (p x))/\Below w'.heap.size w' o)
 (ad:Option Addr)(cap:Nat)(hm:l.length<=100000)(hp:iK w ad l):
 Calls prog 241 #[.slice ad l.length cap,.func (.func f) #[] c] w fun r w'=>Below w.heap.size w w'/\((r=.returned (ah (-1))/\∀e∈l,p e=false)\/∃i:Nat,r=.returned (ah i)/\i<l.length/\p (l.getD i 0)=true/\∀e∈l.take i,p e=false):=by
 have q:=hide hl;have s:=hide hp;have C:∀(args:Array Value)(w:ax),_=_:=k;clear hl hp k;go_enter func241,ntmps241;go_wp2_with fail
 go_loopw [8] (fun iv wr=>∃j:Nat,j<=l.length/\iv=ah j/\ay (∀e∈l.take j,p e=false)/\Below w.heap.size w wr) (fun iv _=>l.length-(intOf iv).toNat)
 case atStart=>exact⟨0,aX _,rfl,by simp[ay,Hid],aH _ _⟩
 case round=>
  obtain⟨j,D,rfl,d,hb⟩:=hrel;by_cases b:j<l.length
  ·obtain⟨E,F,t,G,hc⟩:=s.o.below hb V;have u:=hc j b;have hd:l.getD j 0∈l:=by rw[aE,aL b];exact a6 b
   obtain⟨x,g⟩:∃x,l.getD j 0=x:=⟨_,rfl⟩
   have m:ay (_=_):=g;rw[g] at u hd;have P:=q.o wr x hd hb;clear hc g hd;subst t;go_wp2_with fail;refine P.mono ?_;rintro r w1 ⟨rfl,v⟩
   have n:=hb.trans (v.mono hb.size)
   cases hp:p x
   ·have A:ay (∀e∈l.take (j+1),p e=false):=fun e he=>by
     rw[gy l j b 0,List.mem_append,bw] at he;rcases he with he|he
     ·exact d.o e he
     ·rw[he,m.o];exact hp
    go_wp2_with fail;go_roundw
    case rel=>exact⟨j+1,V,af,A,n⟩
    case measure=>simp[intOf];omega
   ·have B:ay (p (l.getD j 0)=true):=by show _=_;rw[m.o];exact hp
    go_wp2_with fail;go_ret;exact⟨n,aJ ⟨j,rfl,b,B.o,d.o⟩⟩
  ·obtain rfl:j=l.length:=V;rw[bm] at d;go_wp2_with fail;go_ret;exact⟨hb,aK ⟨rfl,d.o⟩⟩
theorem F_:dN 214:=gb func214 ae rfl
theorem Ga {pk pw p q N O y g bx be:Nat}{ws:List Int}{e:Int}(w:ax)(b:At w p q N O y g ws)(c0:w.cell? (aq bx 0)=some (aj pk))(c1:w.cell? (aq pk 0)=some (aj pw))(c2:w.cell? (aq pw 0)=some (aj p))(c3:w.cell? (aq be 0)=some (ah e))(a:Int)(ha:0<=a/\a<=100000):
 Calls prog 214 #[ah a,aj bx,aj be] w fun r w'=>r=.returned (.bool (decide (e<=a+pf (ld N y g ws a))))/\Below w.heap.size w w':=by
 have P:=gf a w b;have d:=dj (ld N y g ws a)
 clear b;go_enter func214,ntmps214;go_wp2_with fail;refine P.mono ?_;clear P;rintro r w1 ⟨rfl,c⟩
 have f:=(c.cell (p:=aq be 0) (aQ w _ c3)).trans c3;clear c0 c1 c2 c3;go_wp2;go_ret;exact⟨by first|rfl|(done)|(omega),c⟩
def ed (p:Int->Bool)(l:List Int):List Int:=l.filter (fun x=>!p x)
theorem tW (p:Int->Bool)(l:List Int)(x:Int):ed p (l++[x])=if p x=true then ed p l else ed p l++[x]:=by unfold ed;cases h:p x<;>simp[h]
theorem qD {p:Int->Bool}{l:List Int}(h:∀e∈l,p e=false):ed p l=l:=by unfold ed;rw[List.filter_eq_self];intro a ha;rw[h a ha];rfl
theorem yK {base size n g cap i:Nat}{e:TypeId}:∀(d:List Value)(o:Nat){w:ax}{b:List Value},w.ownsRow base e size (.slice (ak g) n cap) n b->i<=o->∃c,(w.setCells g o d).ownsRow base e size (.slice (ak g) n cap) n c/\c.take i=b.take i
 |[],o,w,b,h,_=>⟨b,h,rfl⟩
 |v::d,o,w,b,h,hi=>by
  obtain⟨c,f,j⟩:=yK d (o+1) (qp h o v) (by omega:i<=o+1)
  refine⟨c,f,j.trans ?_⟩
  rw[List.take_set_of_le hi]
theorem yL {g:Nat}:∀(c:List Value)(o:Nat)(w:ax),Fr (fun b=>b=g) w (w.setCells g o c)
 |[],_,w=>Fr.refl _ w
 |v::c,o,w=>((Fr.refl (fun b=>b=g) w).set g o v rfl).trans (yL c (o+1) _) (fun _ e=>aK e)
theorem Gb (f:Nat)(c:Array Value)(p:Int->Bool)(F:dN f)(w:ax)(l:List Int)(g cap B:Nat)
 (hl:∀(w':ax)(x:Int),x∈l->Fr (fun b=>b=g) w w'->Calls prog f (#[ah x]++c) w' fun r ab=>r=.returned (.bool (p x))/\Below w'.heap.size w' ab)
 (hm:l.length<=100000)(hr:w.ownsRow B 3 1 (.slice (ak g) l.length cap) l.length (l.map (Value.int .i64))):
 Calls prog 213 #[.slice (ak g) l.length cap,.func (.func f) #[] c] w fun r w'=>r=.returned (.slice (ak g) (ed p l).length cap)/\w'.ownsRow B 3 1 (.slice (ak g) (ed p l).length cap) (ed p l).length ((ed p l).map (Value.int .i64))/\Fr (fun b=>b=g) w w':=by
 have M:=hide hl;have P:=yJ f c p F w l (fun w' x A hb=>M.o w' x A (Fr.of hb)) (ak g) cap hm (gI hr)
 have C:ay (_):=hr;have am:=sP hr;have an:∀(args:Array Value)(w:ax),(callFunc f args).run prog w=.ok (.enter f args) w:=F;clear hl hr F;go_enter func213,ntmps213;go_wp2_with fail;refine P.mono ?_;clear P;rintro r w1 ⟨n,⟨rfl,hn⟩|⟨m,rfl,N,O,hn⟩⟩
 ·have Q:ay (ed p l=l/\w1.ownsRow B 3 1 (.slice (ak g) l.length cap) l.length (l.map (Value.int .i64))/\Fr (fun b=>b=g) w w1):=⟨qD hn,cH C.o (fun b e=>n.block b (cn C.o b e).2),Fr.of n⟩
  clear n hn;go_wp2_with fail;go_ret;rw[Q.o.1];exact⟨rfl,Q.o.2⟩
 ·have ad:(m:Int)<l.length:=V;have R:ay (ed p (l.take (m+1))=l.take m/\w1.ownsRow B 3 1 (.slice (ak g) l.length cap) l.length (l.map (Value.int .i64))/\Fr (fun b=>b=g) w w1):=by
   refine⟨?_,cH C.o (fun b e=>n.block b (cn C.o b e).2),Fr.of n⟩
   rw[gy l m N 0,tW,aI O,qD hn]
  clear hn O n;go_wp2_with fail;have S:((m:Int)==-1)=false:=by rw[beq_eq_false_iff_ne];omega
  rw[S];clear S
  go_loopw [5,6] (fun iv G wr=>∃(i j:Nat),i<j/\j<=l.length/\iv=ah i/\G=ah j/\ay ((ed p (l.take j)).length=i/\wr.ownsRow B 3 1 (.slice (ak g) l.length cap) l.length ((ed p (l.take j)++l.drop i).map (Value.int .i64))/\Fr (fun b=>b=g) w wr)) (fun _ G _=>l.length-(intOf G).toNat)
  ·
    refine⟨m,m+1,V,V,rfl,af,?_⟩
    obtain⟨s,D,H⟩:=R.o;refine⟨by rw[s,bv];omega,?_,H⟩
    rw[s,List.take_append_drop];exact D
  ·
    clear R N ad;obtain⟨i,j,ao,ap,rfl,rfl,d⟩:=hrel;by_cases o:j<l.length
    ·have hd:l.getD j 0∈l:=by rw[aE,aL o];exact a6 o
     have A:((ed p (l.take j)++l.drop i).map (Value.int .i64))[j]?=some (ah (l.getD j 0)):=by have e:=d.o.1;rw[List.getElem?_map,List.getElem?_append_right V,List.getElem?_drop,e,show i+(j-i)=j from by omega,aL o,aE,aL o];rfl
     have U:=(kD d.o.2.1 A).1;have P:=M.o wr (l.getD j 0) hd d.o.2.2;have t:ay (_=_):=gy l j o 0;generalize l.getD j 0=x at U P t;have j0:(0:Int)<=(j:Int):=V;have ar:(j:Int)<l.length:=V;have m:(0:Int)<=(i:Int):=V;have ag:(i:Int)<l.length:=V;clear A hd;go_wp2_with fail;refine P.mono ?_;clear P U;rintro r u ⟨rfl,I⟩
     have q:=dq (cH d.o.2.1 (fun b e=>I.block b (cn d.o.2.1 b e).2)) (d.o.2.2.trans (Fr.of (X:=fun b=>b=g) I) (fun _ v=>aK v))
     clear I;cases hp:p x
     ·have hy:∃y,((ed p (l.take j)++l.drop i).map (Value.int .i64))[i]?=some (Value.int .i64 y):=by
       have e:=d.o.1;have J:i<l.length:=V;refine⟨l[i],?_⟩
       rw[List.getElem?_map,List.getElem?_append_right V,List.getElem?_drop,e,Nat.sub_self,Nat.add_zero,aL J];rfl
      obtain⟨y,hy⟩:=hy;obtain⟨y1,aB⟩:=kD q.o.1 hy;have K:ay ((ed p (l.take (j+1))).length=i+1/\(u.setCell ⟨g,i,none⟩ (.int .i64 x)).ownsRow B 3 1 (.slice (ak g) l.length cap) l.length ((ed p (l.take (j+1))++l.drop (i+1)).map (Value.int .i64))/\Fr (fun b=>b=g) w (u.setCell ⟨g,i,none⟩ (.int .i64 x))):=by
       have e:=d.o.1;have J:i<l.length:=V;have e7:ed p (l.take (j+1))=ed p (l.take j)++[x]:=by rw[t.o,tW,hp];rfl
       refine⟨by rw[e7,aZ,e];rfl,?_,q.o.2.trans ((Fr.refl (fun b=>b=g) u).set g i _ rfl) (fun _ v=>aK v)⟩
       have E:=qp q.o.1 i (Value.int .i64 x)
       have ai:((ed p (l.take j)++l.drop i).map (Value.int .i64)).set i (ah x)=(ed p (l.take (j+1))++l.drop (i+1)).map (Value.int .i64):=by rw[e7,<-List.map_set,List.set_append_right _ _ V,e,Nat.sub_self,List.drop_eq_getElem_cons J,List.set_cons_zero,ba];rfl
       rw[ai] at E;exact E
      clear hp hy d q t;go_wp2_with fail;go_roundw;exact⟨i+1,j+1,V,V,af,af,K⟩
      simp[intOf];omega
     ·have K:ay ((ed p (l.take (j+1))).length=i/\u.ownsRow B 3 1 (.slice (ak g) l.length cap) l.length ((ed p (l.take (j+1))++l.drop i).map (Value.int .i64))/\Fr (fun b=>b=g) w u):=by
       have e7:ed p (l.take (j+1))=ed p (l.take j):=by rw[t.o,tW,hp];rfl
       rw[e7];exact⟨d.o.1,q.o⟩
      clear hp d q t;go_wp2_with fail;go_roundw;exact⟨i,j+1,V,V,rfl,af,K⟩
      simp[intOf];omega
    ·obtain rfl:j=l.length:=V;have L:((ed p (l.take l.length)++l.drop i).map (Value.int .i64)).length=l.length:=by have e:=d.o.1;rw[aW,aZ,e,List.length_drop];omega
     have aF:∀ty,(Builtin.clear_ #[74] ty #[.slice (some ⟨g,i,none⟩) (l.length-i) (cap-i)]).run prog wr=.ok (.tuple #[]) (wr.setCells g i (List.replicate (l.length-i) (ah 0))):=fun ty=>
      Lib.run_clear_slice wr _ _ ty _ underlying74 (fun w=>lX w) rfl rfl g i _ _ V (fun k hk=>by rw[(kD d.o.2.1 (aL (by rw[L];omega:i+k<_))).1];rfl) (fun k hk=>(kD d.o.2.1 (aL (by rw[L];omega:i+k<_))).2)
     have W:ay ((ed p l).length=i/\(wr.setCells g i (List.replicate (l.length-i) (ah 0))).ownsRow B 3 1 (.slice (ak g) i cap) i ((ed p l).map (Value.int .i64))/\Fr (fun b=>b=g) w (wr.setCells g i (List.replicate (l.length-i) (ah 0)))):=by
      obtain⟨s,D,H⟩:=d.o;rw[bm] at s D;refine⟨s,?_,H.trans (yL _ _ _) (fun _ v=>aK v)⟩
      obtain⟨aR,al,E⟩:=yK (i:=i) (List.replicate (l.length-i) (Value.int .i64 0)) i D bW
      have Y:=sO al i V;rw[E,List.map_append,List.take_append_of_le_length (by simp;omega),List.take_of_length_le (by simp;omega)] at Y;exact Y
     have m:(0:Int)<=(i:Int):=V;have ag:(i:Int)<l.length:=V;clear o d L;go_wp2_with fail;go_ret;rw[W.o.1];exact⟨rfl,W.o.2⟩
def eb.j0 (a:Wc)(s:eb):b9:=⟨a,s,ed (fun x=>decide ((s.y:Int)<=x+pf (ld a.N s.y s.g s.ws x))) (d8 a.N s.y s.g s.ws),ed (fun x=>decide ((a.N:Int)+s.g<=x+pf (ld a.N s.y s.g s.ws x))) (dB a.N s.y s.g s.ws)⟩
def gM:cu:=⟨fun _=>-1,[],[]⟩
def cq.j2 (a:Wc)(S:cq):cu×List b7:=(S.s.j0 a).sp ((S.s.j0 a).cJ gM 12,S.q)
def cq.cA (a:Wc)(S:cq):cu:=((S.s.j0 a).eW (S.j2 a) S.r).1
def cq.r3 (a:Wc)(S:cq):List b7:=(S.s.j0 a).sR (S.j2 a) S.r
def cq.q3 (a:Wc)(S:cq):List b7:=(S.s.j0 a).je (S.j2 a) S.r
def cq.cE (a:Wc)(S:cq):cu:=((S.s.j0 a).pl (S.cA a)).1
def cq.n4 (a:Wc)(S:cq):Int:=((S.s.j0 a).pl (S.cA a)).2-a.N
def cq.fN (a:Wc)(S:cq):Bool:=decide ((a.O:Int)<S.n4 a)
def cq.k5 (a:Wc)(S:cq):b9:=(S.s.j0 a).e3 (S.cE a)
def cq.dD (a:Wc)(S:cq):cu:=((S.k5 a).tS (S.cE a,S.q3 a) (S.r3 a)).1
def cq.k6 (a:Wc)(S:cq):b9:=(S.k5 a).sl (S.dD a)
def cq.dz (a:Wc)(S:cq):cq:=if S.fN a=true then S else⟨(S.k6 a).s,(S.k5 a).tR (S.cE a,S.q3 a) (S.r3 a),(S.k5 a).ii (S.cE a,S.q3 a) (S.r3 a)⟩
def cq.ij (a:Wc)(S:cq):Int:=if S.fN a=true then 3 else 0
section
variable {a:Wc}{s:eb}
theorem yM {p:Int->Bool}{l:List Int}{x:Int}(h:x∈ed p l):x∈l:=(List.mem_filter.1 h).1
theorem yN (p:Int->Bool)(l:List Int):(ed p l).length<=l.length:=bq _ _
theorem cV.start (hN:a.N<=256)(hO:a.O<=1024)(hy:s.y<=a.N)(hg:s.g<=a.O):cV (s.j0 a) gM:=by
 have f:∀x∈(s.j0 a).Y,0<=x/\x<s.y:=fun x b=>by
  have c:=n3 x (yM b)
  omega
 have g:∀x∈(s.j0 a).G,(a.N:Int)<=x/\x<(a.N:Int)+s.g:=fun x b=>by
  have c:=mS _ _ x (yM b)
  omega
 have nd:(s.j0 a).T.Nodup:=by
  unfold b9.T;rw[List.nodup_append];refine⟨(qu 2000 _).filter _,(qu 2000 0).filter _,fun x b z hz e=>?_⟩
  have c:=g x b;have i:=f z hz;omega
 have tl:(s.j0 a).T.length<=4000:=by
  unfold b9.T;rw[aZ];have c:(s.j0 a).G.length<=2000:=aT (yN _ _) (h8 _ _)
  have i:(s.j0 a).Y.length<=2000:=aT (yN _ _) (h8 _ _)
  omega
 refine⟨nd,fun x b=>?_,fun x b=>by simp[gM] at b,fun x b=>by simp[gM] at b,tl,?_⟩
 ·rcases List.mem_append.1 b with d|d
  ·have:=g x d;omega
  ·have:=f x d;omega
 ·exact bq _ _
end
def b9.oe (k:b9)(s:cu)(a:Int):Prop:=∀i:Nat,(i:Int)<pf (k.ld a)->k.cS s (k.ld (a+1+i))=false
section
variable {k:b9}{C X:Int->Prop}{s:cu}
theorem b9.po {x:Int}(h:k.jt x=true):k.cS s x=false↔s.f (cg x)≠-1:=by unfold b9.cS;rw[h,Bool.true_and,beq_eq_false_iff_ne]
theorem a_ (a b:Bool):((a && b) = Bool.true) = (a = Bool.true /\ b = Bool.true):=Bool.and_eq_true ..
theorem og {x:Int}(h:k.jt x=true):cg x∈k.T:=by unfold b9.jt at h;rw[a_] at h;exact List.contains_iff_mem.1 h.2
structure dQ (k:b9)(s t:cu):Prop where
 f:∀b,s.f b≠-1->t.f b=s.f b
theorem dQ.cS {t:cu}(h:dQ k s t){y:Int}(hy:k.cS s y=false):k.cS t y=false:=by
 cases hj:k.jt y
 ·unfold b9.cS;rw[hj];rfl
 ·rw[b9.po hj] at hy⊢;rw[h.f _ hy];exact hy
theorem dQ.refl (s:cu):dQ k s s:=⟨fun _ _=>rfl⟩
theorem dQ.trans {t c:cu}(h:dQ k s t)(j:dQ k t c):dQ k s c:=⟨fun b hb=>by have e:=h.f b hb;rw[j.f b (by rw[e];exact hb),e]⟩
theorem dQ.oe {t:cu}(h:dQ k s t){a:Int}(ha:k.oe s a):k.oe t a:=fun i hi=>h.cS (ha i hi)
end
structure m7 (k:b9)(s:cu)(a:Int):Prop where
 p:pk (k.ld a)=1\/pk (k.ld a)=2->k.oe s a
 w:pk (k.ld a)=3->k.cS s (k.ld (a+2))=false
 e:pk (k.ld a)=4->a∈s.ep\/k.cS s (k.ld (a+2))=false
structure cZ (k:b9)(X:Int->Prop)(s:cu):Prop where
 eX:cV k s
 self:∀a∈k.T,s.f a≠-1->s.f a=a
 td:∀a∈s.td,s.f a≠-1
 cmp:∀a∈k.T,s.f a≠-1->a∈s.td\/X a\/m7 k s a
section
variable {k:b9}{X:Int->Prop}{s t:cu}
theorem m7.le {a:Int}(h:m7 k s a)(l:dQ k s t)(he:∀b∈s.ep,b∈t.ep):m7 k t a:=
 ⟨fun q=>l.oe (h.p q),fun q=>l.cS (h.w q),fun q=>(h.e q).imp (he a) l.cS⟩
theorem qE (k:b9)(s:cu)(x:Int):(k.ma s x).ep=s.ep:=by unfold b9.ma;split<;>rfl
theorem cZ.ma (h:cZ k X s)(x:Int):cZ k X (k.ma s x)/\dQ k s (k.ma s x)/\k.cS (k.ma s x) x=false:=by
 by_cases c:k.cS s x=true
 ·obtain⟨o,l,m⟩:=b9.qA c;have hp:=(h.eX.ps _ l).1;have n:k.jt x=true:=by unfold b9.cS at c;rw[a_] at c;exact c.1
  have e:k.ma s x={s with f:=gA s.f (cg x) (cg x),td:=s.td++[cg x]}:=by unfold b9.ma;rw[aI c]
  have i:∀b,(k.ma s x).f b=if b=cg x then cg x else s.f b:=fun b=>by rw[e];rfl
  have j:(k.ma s x).td=s.td++[cg x]:=by rw[e]
  have le:dQ k s (k.ma s x):=⟨fun b hb=>by rw[i,aG (fun e=>hb (by rw[e];exact m))]⟩
  refine⟨⟨(h.eX.ma x).1,fun b hb g=>?_,fun b hb=>?_,fun b hb g=>?_⟩,le,?_⟩
  ·rw[i] at g⊢;by_cases d:b=cg x
   ·rw[aI d,d]
   ·rw[aG d] at g⊢;exact h.self b hb g
  ·rw[j] at hb;rw[i];by_cases d:b=cg x
   ·rw[aI d];omega
   ·rw[aG d];rcases List.mem_append.1 hb with hb|hb
    ·exact h.td b hb
    ·exact absurd (List.mem_singleton.1 hb) d
  ·rw[j];by_cases d:b=cg x
   ·exact aK (by rw[d];simp)
   ·rw[i,aG d] at g;rcases h.cmp b hb g with q|q|q
    ·exact aK (aY _ q)
    ·exact aJ (aK q)
    ·exact aJ (aJ (q.le le (fun b hb=>by rw[qE];exact hb)))
  ·rw[b9.po n,i,aI rfl];omega
 ·have e:k.ma s x=s:=by unfold b9.ma;rw[aG c]
  rw[e];exact⟨h,dQ.refl _,by simpa using c⟩
theorem Ge (k:b9)(s:cu)(a:Int):∀n,(k.e8 s a n).ep=s.ep
 |0=>rfl
 |n+1=>(qE _ _ _).trans (Ge k s a n)
theorem cZ.e8 (h:cZ k X s)(a:Int):∀n:Nat,cZ k X (k.e8 s a n)/\dQ k s (k.e8 s a n)/\∀i:Nat,i<n->k.cS (k.e8 s a n) (k.ld (a+1+i))=false
 |0=>⟨h,dQ.refl _,fun i hi=>V⟩
 |n+1=>by obtain⟨h1,h2,h3⟩:=cZ.e8 h a n;exact yH
theorem cZ.lk {x:Int}(h:cZ k (fun b=>b=x) s)(m:x∈k.T)(hr:k.lost s+s.td.length+s.ep.length+1<=k.T.length):cZ k (fun _=>False) (k.lk s x)/\dQ k s (k.lk s x):=by
 have d:∀e:cu,cZ k (fun b=>b=x) e->m7 k e x->cZ k (fun _=>False) e:=fun e f n=>⟨f.eX,f.self,f.td,fun a ha g=>by
  rcases f.cmp a ha g with q|q|q
  ·exact aK q
  ·rw[q];exact aJ (aJ n)
  ·exact aJ (aJ q)⟩
 have c:=(h.eX.lk m hr).1;unfold b9.lk at c⊢;by_cases c1:pk (k.ld x)=1\/pk (k.ld x)=2
 ·rw[aI c1];obtain⟨m1,j,l⟩:=h.e8 x _;exact⟨d _ m1 ⟨fun _ i hi=>l i V,fun q=>V,fun q=>V⟩,j⟩
 ·rw[aG c1] at c⊢;by_cases c3:pk (k.ld x)=3
  ·rw[aI c3];obtain⟨m1,j,l⟩:=h.ma _;exact⟨d _ m1 ⟨fun q=>absurd q c1,fun _=>l,fun q=>V⟩,j⟩
  ·rw[aG c3] at c⊢;by_cases c4:pk (k.ld x)=4
   ·rw[aI c4] at c⊢;have le:dQ k s {s with ep:=s.ep++[x]}:=⟨fun _ _=>rfl⟩
    refine⟨d _ ⟨c,h.self,h.td,fun a ha g=>?_⟩ ⟨fun q=>absurd q c1,fun q=>absurd q c3,fun _=>aK Z⟩,le⟩
    exact(h.cmp a ha g).imp id (fun q=>q.imp id (fun q=>q.le le (fun b hb=>aY _ hb)))
   ·rw[aG c4];exact⟨d _ h ⟨fun q=>absurd q c1,fun q=>absurd q c3,fun q=>absurd q c4⟩,dQ.refl _⟩
theorem cZ.l1 (h:cZ k (fun _=>False) s)(hl:0<s.td.length):cZ k (fun _=>False) (k.l1 s)/\dQ k s (k.l1 s):=by
 obtain⟨x,c⟩:∃x,s.td.getD (s.td.length-1) 0=x:=⟨_,rfl⟩
 have hm:x∈s.td:=by rw[<-c,aE,aL V];exact a6 _
 have d:∀b,b∈s.td->b∈s.td.take (s.td.length-1)\/b=x:=fun b hb=>by
  have e:=gy s.td (s.td.length-1) V 0;rw[show s.td.length-1+1=s.td.length from by omega,bm,c] at e;have f:b∈s.td.take (s.td.length-1)++[x]:=by rw[<-e];exact hb
  rcases List.mem_append.1 f with hb|hb
  ·exact aK hb
  ·exact aJ (List.mem_singleton.1 hb)
 have hs:=h.eX.sum;have l:(s.td.take (s.td.length-1)).length=s.td.length-1:=by rw[bv];omega
 have j0:cV k {s with td:=s.td.take (s.td.length-1)}:=⟨h.eX.nd,h.eX.ps,fun a ha=>h.eX.td a (bA ha),h.eX.ep,h.eX.tl,by show k.lost s+(s.td.take _).length+s.ep.length<=_;omega⟩
 have h0:cZ k (fun b=>b=x) {s with td:=s.td.take (s.td.length-1)}:=⟨j0,h.self,fun a ha=>h.td a (bA ha),fun a ha g=>by
  rcases h.cmp a ha g with q|q|q
  ·exact(d a q).imp id aK
  ·exact absurd q id
  ·exact aJ (aJ ⟨q.p,q.w,q.e⟩)⟩
 obtain⟨m1,i⟩:=h0.lk (h.eX.td x hm) (by show k.lost s+(s.td.take _).length+s.ep.length+1<=_;omega)
 have j:k.l1 s=k.lk {s with td:=s.td.take (s.td.length-1)} x:=by unfold b9.l1;rw[c]
 rw[j];exact⟨m1,⟨fun b hb=>i.f b hb⟩⟩
theorem cZ.lm:∀(n:Nat){s:cu},cZ k (fun _=>False) s->cZ k (fun _=>False) (k.lm n s)/\dQ k s (k.lm n s)
 |0,s,h=>⟨h,dQ.refl _⟩
 |n+1,s,h=>by
  unfold b9.lm;by_cases c:0<s.td.length
  ·rw[aI c];obtain⟨b,d⟩:=h.l1 c;obtain⟨e,j2⟩:=cZ.lm n b;exact⟨e,d.trans j2⟩
  ·rw[aG c];exact⟨h,dQ.refl _⟩
theorem cZ.eJ (h:cZ k (fun _=>False) s):cZ k (fun _=>False) (k.eJ s)/\dQ k s (k.eJ s)/\(k.eJ s).td=[]:=by obtain⟨b,c⟩:=cZ.lm _ h;exact⟨b,c,Fu h.eX⟩
theorem cZ.iD:∀(l:List Int){t:List Int×cu},cZ k X t.2->cZ k X (l.foldl k.cP t).2/\dQ k t.2 (l.foldl k.cP t).2/\(l.foldl k.cP t).2.ep=t.2.ep/\(∀a∈t.1,a∈(l.foldl k.cP t).1)/\∀a∈l,a∈(l.foldl k.cP t).1\/k.cS (l.foldl k.cP t).2 (k.ld (a+2))=false
 |[],t,h=>⟨h,dQ.refl _,rfl,fun _ q=>q,fun a ha=>by cases ha⟩
 |a::l,t,h=>by
  have key:cZ k X (k.cP t a).2/\dQ k t.2 (k.cP t a).2/\(k.cP t a).2.ep=t.2.ep/\(∀b∈t.1,b∈(k.cP t a).1)/\(a∈(k.cP t a).1\/k.cS (k.cP t a).2 (k.ld (a+2))=false):=by
   unfold b9.cP;split
   ·exact⟨h,dQ.refl _,rfl,fun b hb=>aY _ hb,aK Z⟩
   ·obtain⟨m1,f,g⟩:=h.ma _;exact⟨m1,f,qE _ _ _,fun _ hb=>hb,aJ g⟩
  obtain⟨k1,i,j,m,k5⟩:=key;obtain⟨n,c,o,d,p⟩:=cZ.iD l k1;refine⟨n,i.trans c,o.trans j,fun b hb=>d b (m b hb),fun b hb=>?_⟩
  rcases List.mem_cons.1 hb with e|hb
  ·rw[e];exact k5.imp (d a) c.cS
  ·exact p b hb
theorem cZ.kv (h:cZ k (fun _=>False) s):cZ k (fun _=>False) (k.kv s).2/\dQ k s (k.kv s).2:=by
 obtain⟨b,e,f,_,g⟩:=cZ.iD s.ep (t:=([],s)) h;have b:=b;have le:dQ k (k.dv s s.ep).2 (k.kv s).2:=⟨fun _ _=>rfl⟩
 refine⟨⟨h.eX.kv.1,b.self,b.td,fun a ha i=>?_⟩,e.trans le⟩
 rcases b.cmp a ha i with q|q|q
 ·exact aK q
 ·exact absurd q id
 ·refine aJ (aJ ⟨fun c=>le.oe (q.p c),fun c=>le.cS (q.w c),fun c=>?_⟩)
  rcases q.e c with d|d
  ·rw[f] at d;exact(g a d).imp id le.cS
  ·exact aJ (le.cS d)
theorem yO:∀(l:List Int)(t:List Int×cu),t.1.length+l.length<=(l.foldl k.cP t).1.length->l.foldl k.cP t=(t.1++l,t.2)/\∀a∈l,k.cS t.2 (k.ld (a+1))=true
 |[],t,_=>⟨Z,fun a ha=>by cases ha⟩
 |a::l,t,h=>by
  have f:∀(l:List Int)(t:List Int×cu),(l.foldl k.cP t).1.length<=t.1.length+l.length:=fun l=>by
   induction l with
   |nil=>intro t;simp
   |cons b l g=>
    intro t;rw[a8];have q:=g (k.cP t b)
    have d:(k.cP t b).1.length<=t.1.length+1:=by
     unfold b9.cP;split
     ·simp
     ·simp
    simp only [List.length_cons];omega
  rw[a8] at h⊢;simp only [List.length_cons] at h;by_cases c:k.cS t.2 (k.ld (a+1))=true
  ·have e:k.cP t a=(t.1++[a],t.2):=by unfold b9.cP;rw[aI c]
   rw[e] at h⊢;obtain⟨q1,d⟩:=yO l (t.1++[a],t.2) (by simp only [List.length_append,List.length_cons,List.length_nil];omega)
   rw[q1];refine⟨Z,fun b hb=>?_⟩
   rcases List.mem_cons.1 hb with e|hb
   ·rw[e];exact c
   ·exact d b hb
  ·have e:k.cP t a=(t.1,k.ma t.2 (k.ld (a+2))):=by unfold b9.cP;rw[aG c]
   rw[e] at h;have:=f l (t.1,k.ma t.2 (k.ld (a+2)))
   dsimp only at this
   omega
theorem Gf (h:(k.kv s).1=false):(k.kv s).2=s/\∀a∈s.ep,k.cS s (k.ld (a+1))=true:=by
 have c:=of_decide_eq_false h;obtain⟨q1,b⟩:=yO s.ep ([],s) (by show 0+s.ep.length<=(k.dv s s.ep).1.length;omega)
 have q1:k.dv s s.ep=(s.ep,s):=by have:k.dv s s.ep=([]++s.ep,s):=q1;simpa using this
 refine⟨?_,b⟩
 unfold b9.kv;rw[q1]
end
structure fO (k:b9)(s:cu)(q:List b7):Prop where
 jR:cZ k (fun _=>False) s
 td:s.td=[]
 ep:∀a∈s.ep,k.cS s (k.ld (a+1))=true
 wq:∀e∈q,k.al s e.2=true\/k.al s e.1=false
section
variable {k:b9}{s:cu}
theorem yP {t:cu}(l:dQ k s t){x:Int}(h:k.al s x=true):k.al t x=true:=by unfold b9.al at h⊢;rw[l.cS (by simpa using h)];rfl
theorem FS {b:Type}(l:List b)(i:Nat)(c:b):l.set i (l.getD i c)=l:=by
 by_cases h:i<l.length
 ·rw[aE,aL h];simp
 ·rw[List.set_eq_of_length_le V]
theorem cZ.kq:∀(l:List Nat)(t:(cu×List b7)×Bool),cZ k (fun _=>False) t.1.1->cZ k (fun _=>False) (l.foldl (dC k.al k.mp) t).1.1/\dQ k t.1.1 (l.foldl (dC k.al k.mp) t).1.1/\(l.foldl (dC k.al k.mp) t).1.2=t.1.2/\
 ((l.foldl (dC k.al k.mp) t).2=false->t.2=false/\l.foldl (dC k.al k.mp) t=t/\∀i∈l,k.al t.1.1 (t.1.2.getD i (0,0)).2=true\/k.al t.1.1 (t.1.2.getD i (0,0)).1=false)
 |[],t,h=>⟨h,dQ.refl _,rfl,fun e=>⟨e,rfl,fun i hi=>by cases hi⟩⟩
 |i::l,t,h=>by
  rw[a8];by_cases c:(k.al t.1.1 (t.1.2.getD i (0,0)).2||!k.al t.1.1 (t.1.2.getD i (0,0)).1)=true
  ·have e:dC k.al k.mp t i=t:=by unfold dC;rw[aI c]
   rw[e];obtain⟨b,d,f,g⟩:=cZ.kq l t h;refine⟨b,d,f,fun q=>?_⟩
   obtain⟨q1,n,q3⟩:=g q;refine⟨q1,n,fun j m=>?_⟩
   rcases List.mem_cons.1 m with e|m
   ·rw[e];rw[Bool.or_eq_true] at c;exact c.imp id (fun c=>by simpa using c)
   ·exact q3 j m
  ·have e:dC k.al k.mp t i=((k.ma t.1.1 (t.1.2.getD i (0,0)).2,t.1.2),true):=by exact yG
   rw[e];obtain⟨m1,o,_⟩:=h.ma _;obtain⟨b,d,f,g⟩:=cZ.kq l ((k.ma t.1.1 _,t.1.2),true) m1;refine⟨b,o.trans d,f,fun q=>?_⟩
   have:=(g q).1;cases this
theorem cZ.wa {t:cu×List b7}(h:cZ k (fun _=>False) t.1):cZ k (fun _=>False) (k.wa t).1.1/\dQ k t.1 (k.wa t).1.1/\(k.wa t).1.2=t.2/\((k.wa t).2=false->(k.wa t).1=t/\∀e∈t.2,k.al t.1 e.2=true\/k.al t.1 e.1=false):=by
 obtain⟨b,c,d,f⟩:=cZ.kq _ (t,false) h;refine⟨b,c,d,fun q=>?_⟩
 obtain⟨_,g,q3⟩:=f q;refine⟨?_,fun e he=>?_⟩
 ·show(gJ k.al k.mp t _).1=t;unfold gJ;rw[g]
 ·obtain⟨i,hi,j⟩:=List.mem_iff_getElem.1 he;have:=q3 i (by simpa using hi)
  have l:t.2.getD i (0,0)=e:=by rw[aE,aL hi,j];rfl
  rw[l] at this
  exact this
theorem cZ.cW:∀(n:Nat)(t:cu×List b7),cZ k (fun _=>False) t.1->cZ k (fun _=>False) (k.cW n t).1/\dQ k t.1 (k.cW n t).1/\(k.cW n t).2=t.2/\(k.mu t.1<n->fO k (k.cW n t).1 (k.cW n t).2)
 |0,t,h=>⟨h,dQ.refl _,rfl,fun e=>V⟩
 |n+1,t,h=>by
  obtain⟨l1,l2,j⟩:=h.eJ;obtain⟨v1,v2⟩:=l1.kv;have m1:=(dt.eJ h.eX).mu;obtain⟨u,l⟩:=dt.kv l1.eX;unfold b9.cW;by_cases c:(k.kv (k.eJ t.1)).1=true
  ·rw[aI c];obtain⟨d,f,g,i⟩:=cZ.cW n ((k.kv _).2,t.2) v1;have:=l c;exact⟨d,(l2.trans v2).trans f,g,fun e=>i (by dsimp only;omega)⟩
  ·rw[aG c];have c2:(k.kv (k.eJ t.1)).1=false:=by simpa using c
   obtain⟨s1,s2⟩:=Gf c2;rw[s1];obtain⟨w1,m,o,p⟩:=cZ.wa (t:=(k.eJ t.1,t.2)) l1;by_cases b:(k.wa (k.eJ t.1,t.2)).2=true
   ·rw[aI b];obtain⟨d,f,g,i⟩:=cZ.cW n _ w1;have:=(dt.wa l1.eX).2.2 b;dsimp only at this
    exact⟨d,(l2.trans m).trans f,g.trans o,fun e=>i V⟩
   ·rw[aG b];have q:(k.wa (k.eJ t.1,t.2)).2=false:=by simpa using b
    obtain⟨q1,s⟩:=p q;rw[q1];exact⟨l1,l2,rfl,fun _=>⟨l1,j,s2,s⟩⟩
theorem cZ.sp {t:cu×List b7}(h:cZ k (fun _=>False) t.1):fO k (k.sp t).1 (k.sp t).2/\dQ k t.1 (k.sp t).1/\(k.sp t).2=t.2:=by obtain⟨e,b,c,d⟩:=cZ.cW _ t h;exact⟨d V,b,c⟩
theorem cZ.ke {t:cu×List b7}(h:cZ k (fun _=>False) t.1)(x:Int):fO k (k.ke t x).2.1 (k.ke t x).2.2/\dQ k t.1 (k.ke t x).2.1/\(k.ke t x).2.2=t.2/\k.al (k.ke t x).2.1 x=true:=by
 obtain⟨m1,c,d⟩:=h.ma x;obtain⟨e,b,f⟩:=cZ.sp (t:=(k.ma t.1 x,t.2)) m1;refine⟨e,c.trans b,f,?_⟩
 show(!k.cS (k.sp (k.ma t.1 x,t.2)).1 x)=true;rw[(b.cS d)];rfl
def b9.fG (k:b9):cu×List b7->b7->Bool×(cu×List b7):=cm (dI cu) (fun s x=>k.al s.1 x) k.ke
theorem fO.cm {t:cu×List b7}(h:fO k t.1 t.2)(e:b7):fO k (k.fG t e).2.1 (k.fG t e).2.2/\dQ k t.1 (k.fG t e).2.1:=by
 unfold b9.fG;cases c:k.al t.1 e.1
 ·rw[mV (o:=dI cu) (is:=fun s x=>k.al s.1 x) (kp:=k.ke) (s:=t) (e:=e) c];exact⟨h,dQ.refl _⟩
 ·rw[mW (o:=dI cu) (is:=fun s x=>k.al s.1 x) (kp:=k.ke) (s:=t) (e:=e) c];obtain⟨b,d,i,f⟩:=h.jR.ke e.2;show fO k (k.ke t e.2).2.1 ((k.ke t e.2).2.2++[(e.1,e.2)])/\dQ k t.1 (k.ke t e.2).2.1;refine⟨⟨b.jR,b.td,b.ep,fun g hd=>?_⟩,d⟩
  rcases List.mem_append.1 hd with hd|hd
  ·exact b.wq g hd
  ·rw[List.mem_singleton.1 hd];exact aK f
theorem fO.pl:∀(l:List b7)(b:List b7×List b7×(cu×List b7)),fO k b.2.2.1 b.2.2.2->fO k (l.foldl (ej k.fG) b).2.2.1 (l.foldl (ej k.fG) b).2.2.2/\dQ k b.2.2.1 (l.foldl (ej k.fG) b).2.2.1
 |[],b,h=>⟨h,dQ.refl _⟩
 |e::l,b,h=>by
  have key:(ej k.fG b e).2.2=(k.fG b.2.2 e).2:=by unfold ej;split<;>rfl
  obtain⟨c1,c2⟩:=h.cm e;rw[<-key] at c1 c2;obtain⟨c,d⟩:=fO.pl l _ c1;exact⟨c,c2.trans d⟩
theorem fO.eB:∀(n:Nat)(t:cu×List b7)(b:List b7),fO k t.1 t.2->fO k (eB k.fG n t b).1.1 (eB k.fG n t b).1.2/\dQ k t.1 (eB k.fG n t b).1.1
 |0,t,b,h=>⟨h,dQ.refl _⟩
 |n+1,t,b,h=>by
  obtain⟨d,e⟩:=fO.pl b ([],[],t) h;have d:fO k (pts k.fG t b).2.2.1 (pts k.fG t b).2.2.2:=d;have e:dQ k t.1 (pts k.fG t b).2.2.1:=e;by_cases c:(pts k.fG t b).1.length=0
  ·rw[lS _ _ _ _ c];exact⟨d,e⟩
  ·rw[lU _ _ _ _ c];obtain⟨f,g⟩:=fO.eB n (pts k.fG t b).2.2 (pts k.fG t b).2.1 d;exact⟨f,e.trans g⟩
theorem fO.eW {t:cu×List b7}(h:fO k t.1 t.2)(r:List b7):fO k (k.eW t r).1 (k.eW t r).2/\dQ k t.1 (k.eW t r).1:=fO.eB _ t _ h
theorem cZ.start (h:cV k gM){X:Int->Prop}:cZ k X gM:=⟨h,fun _ _ b=>absurd rfl b,fun _ ha=>by simp[gM] at ha,fun _ _ b=>absurd rfl b⟩
theorem cZ.cJ {X:Int->Prop}(h:cZ k X s):∀n,cZ k X (k.cJ s n)/\dQ k s (k.cJ s n)/\∀i,i<n->k.cS (k.cJ s n) (k.s.rs.getD i 0)=false
 |0=>⟨h,dQ.refl _,fun i hi=>V⟩
 |n+1=>by obtain⟨h1,h2,h3⟩:=cZ.cJ h n;exact yH
end
theorem oh {a:Wc}{S:cq}(c:cV (S.s.j0 a) gM):fO (S.s.j0 a) (S.cA a) ((S.s.j0 a).eW (S.j2 a) S.r).2/\dQ (S.s.j0 a) (S.j2 a).1 (S.cA a)/\∀i,i<12->(S.s.j0 a).cS (S.cA a) (S.s.rs.getD i 0)=false:=by obtain⟨d,_,e⟩:=(cZ.start c).cJ 12;obtain⟨f,g,_⟩:=cZ.sp (t:=((S.s.j0 a).cJ gM 12,S.q)) d;obtain⟨j,b⟩:=fO.eW f S.r;exact⟨j,b,fun i hi=>b.cS (g.cS (e i hi))⟩
end Go.Proofs.YtpkjkjhanlbcoaaGreat
