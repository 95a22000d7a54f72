import Derived.Test.YtpkjkjhanlbcoaaGreatJ08
import Derived.Deep.LoopGhost
namespace Go.Proofs.YtpkjkjhanlbcoaaGreat
set_option maxRecDepth 100000
set_option maxHeartbeats 4000000
open Tryz
open Go.RowKit W Kp ck
theorem yE {P:Prop}(h:P:=by simp only [World.setCell,Array.getElem?_modify,if_true,((hb1 _ (lt_of_some h.cb) (by grind [dM.k1])).trans h.cb),Option.map_some];simp):P:=h
structure ft where
 pk:Nat
 ct:Nat
 bs:Nat
 yv:Value
 ov:Value
structure dM (c:ft)(k:cf)(pi:Nat->Prop)(own:Nat->Nat)(s:cy)(vt cx:Value)(w:az):Prop where
 wd:(ed k.a).J pi k.s w
 w1:∀b,pi b↔own b=1
 cb:w.heap[c.pk]?=some (.cells #[aq k.a.pw,c.yv,c.ov,.map (some c.ct),aq c.bs,vt,cx] 140 (0,0))
 k1:own c.pk=5
 mp:Mp w c.ct k.T s.f
 m1:own c.ct=6
 tr:w.ownsRow 0 3 1 vt s.td.length (s.td.map (Value.int .i64))
 hI:∀b,some b=vt.ownBlock->own b=7
 er:w.ownsRow 0 3 1 cx s.ep.length (s.ep.map (Value.int .i64))
 eo:∀b,some b=cx.ownBlock->own b=8
 yr:w.ownsRow 0 3 1 c.yv k.Y.length (k.Y.map (Value.int .i64))
 iq:∀b,some b=c.yv.ownBlock->own b=9
 gr:w.ownsRow 0 3 1 c.ov k.G.length (k.G.map (Value.int .i64))
 go:∀b,some b=c.ov.ownBlock->own b=10
 lt:∀b,own b≠0->b<w.heap.size
section
variable {c:ft}{k:cf}{pi:Nat->Prop}{own:Nat->Nat}{s:cy}{vt cx:Value}{w w':az}
theorem dM.but (h:dM c k pi own s vt cx w)(L:Nat->Prop)(hs:w.heap.size<=w'.heap.size)(hk:∀b,b<w.heap.size->own b≠0->¬L (own b)->w'.heap[b]?=w.heap[b]?)
 (f:L 5->w'.heap[c.pk]?=some (.cells #[aq k.a.pw,c.yv,c.ov,.map (some c.ct),aq c.bs,vt,cx] 140 (0,0)))
 (hM:L 6->Mp w' c.ct k.T s.f)(g:L 7->w'.ownsRow 0 3 1 vt s.td.length (s.td.map (Value.int .i64)))(i:L 8->w'.ownsRow 0 3 1 cx s.ep.length (s.ep.map (Value.int .i64)))(j:¬L 1)(m:¬L 9)(n:¬L 10):dM c k pi own s vt cx w' where
 wd:=(ed k.a).keep h.wd hs (fun b d=>hk b ((ed k.a).lt h.wd b d) (by rw[(h.w1 b).1 d];decide) (by rw[(h.w1 b).1 d];omega))
 w1:=h.w1
 cb:=by grind [cb,k1]
 k1:=h.k1
 mp:=by
  by_cases l:L 6
  ·grind
  ·exact h.mp.same (hk _ h.mp.lt (by grind [m1]) (by grind [m1]))
 m1:=h.m1
 tr:=by
  by_cases l:L 7
  ·grind
  ·exact cL h.tr (fun b e=>hk b (cu h.tr b e).2 (by grind [hI]) (by grind [hI]))
 hI:=h.hI
 er:=by
  by_cases l:L 8
  ·grind
  ·exact cL h.er (fun b e=>hk b (cu h.er b e).2 (by grind [eo]) (by grind [eo]))
 eo:=h.eo
 yr:=cL h.yr (fun b e=>hk b (cu h.yr b e).2 (by grind [iq]) (by grind [iq]))
 iq:=h.iq
 gr:=cL h.gr (fun b e=>hk b (cu h.gr b e).2 (by grind [go]) (by grind [go]))
 go:=h.go
 lt:=fun b hb=>aO (h.lt b hb) hs
end
def cZ (c:ft)(k:cf)(vt f:Value):dx cy where
 J F s w:=∃d own,dM c k d own s vt f w/\∀b,F b↔own b≠0
 lt:=by rintro F s w ⟨d,own,h,e⟩ b hb;exact h.lt b ((e b).1 hb)
 keep:=by rintro F s w w' ⟨d,own,h,e⟩ hs hk;exact⟨d,own,h.but (fun _=>False) hs (fun b _ h0 _=>hk b ((e b).2 h0)) False.elim False.elim False.elim False.elim id id id,e⟩
def eQ (c:ft)(k:cf):dx cy where
 J F s w:=∃vt b,(cZ c k vt b).J F s w
 lt:=by
  rintro F s w ⟨vt,b,h⟩
  exact(cZ c k vt b).lt h
 keep:=by rintro F s w w' ⟨vt,b,h⟩ hs hk;exact⟨vt,b,(cZ c k vt b).keep h hs hk⟩
section
variable {c:ft}{k:cf}{F:Nat->Prop}{s:cy}{vt cx:Value}{w:az}
theorem eI (h:(cZ c k vt cx).J F s w):w.cell? (av c.pk 0)=some (aq k.a.pw)/\w.cell? (av c.pk 1)=some c.yv/\w.cell? (av c.pk 2)=some c.ov/\w.cell? (av c.pk 3)=some (.map (some c.ct))/\w.cell? (av c.pk 4)=some (aq c.bs)/\w.cell? (av c.pk 5)=some vt/\w.cell? (av c.pk 6)=some cx/\(∀i,w.frozen? (av c.pk i)=false)/\c.pk<w.heap.size:=by
 obtain⟨d,own,h,_⟩:=h;have b:=h.cb;refine⟨?_,?_,?_,?_,?_,?_,?_,fun i=>?_,lt_of_some b⟩
 all_goals first|simp[World.cell?,b]|simp[World.frozen?,b]
theorem gQ (h:(cZ c k vt cx).J F s w):At w k.a.p k.a.q k.a.N k.a.O k.s.y k.s.g k.s.ws/\w.cell? (av k.a.pw 0)=some (aq k.a.p)/\w.cell? (av k.a.pw 3)=some (.slice (au k.a.nb) 12 12)/\∀i,i<12->w.cell? (av k.a.nb i)=some (ak (k.s.rs.getD i 0)):=by obtain⟨b,own,h,_⟩:=h;obtain⟨c0,_,_,c3,_,_,_,rt⟩:=jZ h.wd;exact⟨(kU h.wd).1,c0,c3,fun i hi=>(by grind)⟩
theorem pj (h:(cZ c k vt cx).J F s w):Mp w c.ct k.T s.f/\∀w' f,Mp w' c.ct k.T f->Fr (fun b=>b=c.ct) w w'->(cZ c k vt cx).J F {s with f:=f} w'/\cg F w F w':=by
 obtain⟨i,own,h,j⟩:=h;refine⟨h.mp,fun w' f hm fr=>⟨⟨i,own,?_,j⟩,⟨(by grind [Fr.mono,dM.m1]),fun _ d=>aM d⟩⟩⟩
 have g:dM c k i own {s with f:=f} vt cx w':=by
  have hk:∀b,b<w.heap.size->own b≠6->_=_:=fun b hb hn=>fr.block b hb (fun e=>hn (by rw[e];exact h.m1))
  exact {
   wd:=(ed k.a).keep h.wd fr.size (fun b d=>hk b ((ed k.a).lt h.wd b d) (by rw[(h.w1 b).1 d];decide)),w1:=h.w1
   cb:=(by grind [dM.cb,dM.k1]),k1:=h.k1,mp:=hm,m1:=h.m1
   tr:=cL h.tr (fun b e=>hk b (cu h.tr b e).2 (by grind [dM.hI])),hI:=h.hI
   er:=cL h.er (fun b e=>hk b (cu h.er b e).2 (by grind [dM.eo])),eo:=h.eo
   yr:=cL h.yr (fun b e=>hk b (cu h.yr b e).2 (by grind [dM.iq])),iq:=h.iq
   gr:=cL h.gr (fun b e=>hk b (cu h.gr b e).2 (by grind [dM.go])),go:=h.go
   lt:=fun b hb=>aO (h.lt b hb) fr.size}
 omega
theorem Fu {v0:Value}(h:(cZ c k v0 cx).J F s w){v1:Value}{l:List Int}{w1:az}(g:Fr (fun b=>some b=v0.ownBlock) w w1)(ho:w1.ownsRow 0 3 1 v1 l.length (l.map (Value.int .i64)))(hn:∀b,some b=v1.ownBlock->some b=v0.ownBlock\/¬F b):
 (cZ c k v1 cx).J (fun b=>F b\/some b=v1.ownBlock) {s with td:=l} (w1.setCell ⟨c.pk,5,none⟩ v1)/\Fr F w (w1.setCell ⟨c.pk,5,none⟩ v1):=by
 obtain⟨i,own,h,m⟩:=h;have sz:(w1.setCell ⟨c.pk,5,none⟩ v1).heap.size=w1.heap.size:=by simp_all
 have hb1:∀b,b<w.heap.size->own b≠7->_=_:=fun b hb hn=>g.block b hb (fun e=>hn (h.hI b e))
 have hb:∀b,b<w.heap.size->own b≠7->own b≠5->(w1.setCell ⟨c.pk,5,none⟩ v1).heap[b]?=w.heap[b]?:=fun b hb n p=>(by grind [dM.k1,aW])
 have o:∀b,some b=v1.ownBlock->_:=fun b e=>(hn b e).elim (fun e=>aM (h.hI b e)) (fun hl=>aL (Classical.byContradiction (fun c=>hl ((m b).2 c))))
 have f:∀b j,own b=j->j≠7->j≠0->(if some b=v1.ownBlock then 7 else own b)=j:=fun b j e n h0=>(aI (fun c=>by rcases o b c with c|c<;>omega)▸e)
 have q:=fun b e=>(cu ho b e).2;refine⟨⟨i,fun b=>if some b=v1.ownBlock then 7 else own b,?_,fun b=>?_⟩,?_⟩
 ·exact {
   wd:=(ed k.a).keep h.wd ((sz▸g.size)) (fun b d=>hb b ((ed k.a).lt h.wd b d) (by rw[(h.w1 b).1 d];decide) (by rw[(h.w1 b).1 d];decide))
   w1:=fun b=>⟨fun d=>f _ _ ((h.w1 b).1 d) ae ae,fun d=>by
    by_cases e:some b=v1.ownBlock
    ·simp_all
    ·rw[aI e] at d;exact(h.w1 b).2 d⟩
   k1:=f _ _ h.k1 ae ae,m1:=f _ _ h.m1 ae ae
   cb:=by exact yE
   mp:=h.mp.same (hb _ h.mp.lt (by grind [dM.m1]) (by grind [dM.m1]))
   tr:=(by grind [cL,dM.k1,aW])
   hI:=fun b e=>by grind
   er:=cL h.er (fun b e=>hb b (cu h.er b e).2 (by grind [dM.eo]) (by grind [dM.eo]))
   eo:=fun b e=>(by grind [dM.eo])
   yr:=cL h.yr (fun b e=>hb b (cu h.yr b e).2 (by grind [dM.iq]) (by grind [dM.iq]))
   iq:=fun b e=>(by grind [dM.iq])
   gr:=cL h.gr (fun b e=>hb b (cu h.gr b e).2 (by grind [dM.go]) (by grind [dM.go]))
   go:=fun b e=>(by grind [dM.go])
   lt:=fun b hb=>by grind [dM.lt,Fr.size,aO]}
 ·grind
 grind [Fr.mono,dM.hI,Fr.set,dM.k1]
theorem yF {v0:Value}(h:(cZ c k v0 cx).J F s w){v1:Value}{l:List Int}{w1:az}(f:Fr (fun b=>some b=v0.ownBlock) w w1)(ho:w1.ownsRow 0 3 1 v1 l.length (l.map (Value.int .i64)))(hn:∀b,some b=v1.ownBlock->some b=v0.ownBlock\/w.heap.size<=b):
 ∃d,(cZ c k v1 cx).J d {s with td:=l} (w1.setCell ⟨c.pk,5,none⟩ v1)/\cg F w d (w1.setCell ⟨c.pk,5,none⟩ v1):=by
 obtain⟨g,i⟩:=Fu h f ho (fun b e=>(hn b e).imp id (fun j hb=>by have:=(cZ c k v0 cx).lt h b hb;omega))
 obtain⟨m,own,hm,n⟩:=h;exact⟨_,g,i,fun b hb=>(by grind [dM.hI])⟩
theorem yG {v0:Value}(h:(cZ c k vt v0).J F s w){v1:Value}{l:List Int}{w1:az}(g:Fr (fun b=>some b=v0.ownBlock) w w1)(ho:w1.ownsRow 0 3 1 v1 l.length (l.map (Value.int .i64)))(hn:∀b,some b=v1.ownBlock->some b=v0.ownBlock\/¬F b):
 (cZ c k vt v1).J (fun b=>F b\/some b=v1.ownBlock) {s with ep:=l} (w1.setCell ⟨c.pk,6,none⟩ v1)/\Fr F w (w1.setCell ⟨c.pk,6,none⟩ v1):=by
 obtain⟨i,own,h,m⟩:=h;have sz:(w1.setCell ⟨c.pk,6,none⟩ v1).heap.size=w1.heap.size:=by simp_all
 have hb1:∀b,b<w.heap.size->own b≠8->_=_:=fun b hb hn=>g.block b hb (fun e=>hn (h.eo b e))
 have hb:∀b,b<w.heap.size->own b≠8->own b≠5->(w1.setCell ⟨c.pk,6,none⟩ v1).heap[b]?=w.heap[b]?:=fun b hb n p=>(by grind [dM.k1,aW])
 have o:∀b,some b=v1.ownBlock->_:=fun b e=>(hn b e).elim (fun e=>aM (h.eo b e)) (fun hl=>aL (Classical.byContradiction (fun c=>hl ((m b).2 c))))
 have f:∀b j,own b=j->j≠8->j≠0->(if some b=v1.ownBlock then 8 else own b)=j:=fun b j e n h0=>(aI (fun c=>by rcases o b c with c|c<;>omega)▸e)
 have q:=fun b e=>(cu ho b e).2;refine⟨⟨i,fun b=>if some b=v1.ownBlock then 8 else own b,?_,fun b=>?_⟩,?_⟩
 ·exact {
   wd:=(ed k.a).keep h.wd ((sz▸g.size)) (fun b d=>hb b ((ed k.a).lt h.wd b d) (by rw[(h.w1 b).1 d];decide) (by rw[(h.w1 b).1 d];decide))
   w1:=fun b=>⟨fun d=>f _ _ ((h.w1 b).1 d) ae ae,fun d=>by
    by_cases e:some b=v1.ownBlock
    ·simp_all
    ·rw[aI e] at d;exact(h.w1 b).2 d⟩
   k1:=f _ _ h.k1 ae ae,m1:=f _ _ h.m1 ae ae
   cb:=by exact yE
   mp:=h.mp.same (hb _ h.mp.lt (by grind [dM.m1]) (by grind [dM.m1]))
   er:=(by grind [cL,dM.k1,aW])
   eo:=fun b e=>by grind
   tr:=cL h.tr (fun b e=>hb b (cu h.tr b e).2 (by grind [dM.hI]) (by grind [dM.hI]))
   hI:=fun b e=>(by grind [dM.hI])
   yr:=cL h.yr (fun b e=>hb b (cu h.yr b e).2 (by grind [dM.iq]) (by grind [dM.iq]))
   iq:=fun b e=>(by grind [dM.iq])
   gr:=cL h.gr (fun b e=>hb b (cu h.gr b e).2 (by grind [dM.go]) (by grind [dM.go]))
   go:=fun b e=>(by grind [dM.go])
   lt:=fun b hb=>by grind [dM.lt,Fr.size,aO]}
 ·grind
 grind [Fr.mono,dM.eo,Fr.set,dM.k1]
theorem Fw {v0:Value}(h:(cZ c k vt v0).J F s w){v1:Value}{l:List Int}{w1:az}(f:Fr (fun b=>some b=v0.ownBlock) w w1)(ho:w1.ownsRow 0 3 1 v1 l.length (l.map (Value.int .i64)))(hn:∀b,some b=v1.ownBlock->some b=v0.ownBlock\/w.heap.size<=b):
 ∃d,(cZ c k vt v1).J d {s with ep:=l} (w1.setCell ⟨c.pk,6,none⟩ v1)/\cg F w d (w1.setCell ⟨c.pk,6,none⟩ v1):=by
 obtain⟨g,i⟩:=yG h f ho (fun b e=>(hn b e).imp id (fun j hb=>by have:=(cZ c k vt v0).lt h b hb;omega))
 obtain⟨m,own,hm,n⟩:=h;exact⟨_,g,i,fun b hb=>(by grind [dM.eo])⟩
theorem ng (h:(cZ c k vt cx).J F s w):w.ownsRow 0 3 1 vt s.td.length (s.td.map (Value.int .i64))/\w.ownsRow 0 3 1 cx s.ep.length (s.ep.map (Value.int .i64))/\some c.pk≠vt.ownBlock/\some c.pk≠cx.ownBlock/\c.pk≠c.ct:=by
 obtain⟨b,own,h,_⟩:=h
 grind [dM.tr,dM.er,dM.hI,dM.k1,dM.eo,dM.m1]
end
section
variable {c:ft}{k:cf}{vt cx:Value}{F:Nat->Prop}{s:cy}{w:az}
theorem yH (h:(cZ c k vt cx).J F s w)(x:Int):
 Calls prog 219 #[aq c.pk,ak x] w fun e w'=>∃v,e=.returned (.tuple #[ak v,.bool (k.jt x)])/\(k.jt x=true->v=s.f (cq x))/\Below w.heap.size w w':=by
 have HJ:=hide h;have P:=nY x w;cases ha:dd x
 ·rw[ha] at P;have b:k.jt x=false:=by unfold cf.jt;rw[ha];rfl
  rw[b];go_enter func219,ntmps219;exact xJ
 ·have b:k.jt x=k.T.contains (cq x):=by unfold cf.jt;rw[ha];rfl
  have d:=sZ ha;rw[b];rw[ha] at P;generalize cq x=a at P d⊢;have xE:=jp d.1 d.2;obtain⟨bt,hbt⟩:∃bt,bt=k.T.contains a:=⟨_,rfl⟩
  rw[<-hbt];go_enter func219,ntmps219;go_wp2_with fail;refine P.mono ?_;clear P;rintro e w1 ⟨rfl,hb1⟩
  have oc:=(cZ c k vt cx).below HJ.o hb1;obtain⟨_,_,_,c1,_⟩:=eI oc;obtain⟨⟨D,o1,o2,o3⟩,_⟩:=pj oc;exact xD
theorem pm (h:(cZ c k vt cx).J F s w)(x:Int):
 Calls prog 154 #[aq c.pk,ak x] w fun e w'=>e=.returned (.bool (k.cX s x))/\Below w.heap.size w w':=by
 have P:=yH h x;cases hy:k.jt x
 ·have b:k.cX s x=false:=by unfold cf.cX;rw[hy];rfl
  rw[b];rw[hy] at P;go_enter func154,ntmps154;go_wp2_with fail;refine P.mono ?_;rintro e w1 ⟨v,rfl,_,hb1⟩
  go_wp2;go_ret;exact⟨rfl,hb1⟩
 ·have b:k.cX s x=(s.f (cq x)==-1):=by unfold cf.cX;rw[hy];rfl
  rw[b];rw[hy] at P;go_enter func154,ntmps154;exact qq
theorem yI (h:(cZ c k vt cx).J F s w)(x:Int):
 Calls prog 156 #[aq c.pk,ak x] w fun e w'=>e=.returned (ak (k.nw s x))/\Below w.heap.size w w':=by
 have P:=yH h x;cases hy:k.jt x
 ·have b:k.nw s x=x:=by unfold cf.nw;rw[hy];simp
  rw[b];rw[hy] at P;go_enter func156,ntmps156;go_wp2_with fail;refine P.mono ?_;rintro e w1 ⟨v,rfl,_,hb1⟩
  go_wp2_with fail;go_ret;exact⟨rfl,hb1⟩
 ·rw[hy] at P;by_cases d:s.f (cq x)=-1
  ·have b:k.nw s x=x:=by unfold cf.nw;rw[hy,d];simp
   rw[b];rw[d] at P;go_enter func156,ntmps156;exact qq
  ·have b:k.nw s x=ew 3 (s.f (cq x)):=by unfold cf.nw;rw[hy,aK (by simp[d])]
   rw[b];generalize s.f (cq x)=a at P d⊢;go_enter func156,ntmps156;exact xG
end
def js (c:ft)(k:cf)(b:Value):dx cy where
 J F s w:=∃vt,(cZ c k vt b).J F s w
 lt:=by
  rintro F s w ⟨vt,h⟩
  exact(cZ c k vt b).lt h
 keep:=by rintro F s w w' ⟨vt,h⟩ hs hk;exact⟨vt,(cZ c k vt b).keep h hs hk⟩
section
variable {c:ft}{k:cf}{cx:Value}{F:Nat->Prop}{s:cy}{w:az}
theorem yJ (h:(js c k cx).J F s w)(m:c8 k s)(x:Int):
 Calls prog 142 #[aq c.pk,ak x] w fun e w'=>∃g,e=.returned (.tuple #[])/\(js c k cx).J g (k.ma s x) w'/\cg F w g w':=by
 obtain⟨vt,h⟩:=h;have P:=pm h x;have v:=hide h;clear h;cases hl:k.cX s x
 ·have an:k.ma s x=s:=by unfold cf.ma;rw[hl];rfl
  rw[an];rw[hl] at P;go_enter func142,ntmps142;go_wp2_with fail;refine P.mono ?_;rintro e w1 ⟨rfl,d⟩
  have B:aA ((js c k cx).J F s w1/\cg F w F w1):=⟨⟨vt,(cZ c k vt cx).below v.o d⟩,cg.of d⟩
  go_wp2_with fail;go_end0;exact⟨F,rfl,B.o.1,B.o.2⟩
 ·obtain⟨ao,hi,ap,ar,aB⟩:=info_parts kn;obtain⟨l1,l2,N⟩:=cf.qL hl;have E:aA (k.ma s x={s with f:=gO s.f (cq x) (cq x),td:=s.td++[cq x]}):=by show _=_;unfold cf.ma;rw[aK hl]
  have n:=nY x;rw[l1] at n;have S:=m.ps _ l2;have bt:=m.tl;have bx:=m.sum;rw[hl] at P;generalize k.ma s x=s2 at E⊢;generalize cq x=a at E n l2 N S⊢;clear hl l1 N;go_enter func142,ntmps142;go_wp2_with fail;refine P.mono ?_;rintro e w1 ⟨rfl,d⟩
  go_wp2_with fail;refine(n w1).mono ?_;rintro e aF ⟨rfl,aR⟩
  have hb:=d.trans (aR.mono d.size)
  have W:=(cZ c k vt cx).below v.o hb;obtain⟨_,_,_,c3,_,c5,_,b0,lk⟩:=eI W;obtain⟨⟨D,o1,a0,a1⟩,hM⟩:=pj W;obtain⟨o,b1,a2,a3⟩:=o1.update (t:=127) (e:=3) iY underlying127 (by unfold maxLen;omega) (jp S.1 aa) (m9 a (WalkArith.wf_i64 ⟨aa,aa⟩))
  obtain⟨p,ba⟩:=hM o _ (Mp.put o1 a0 a1 l2 a2) ((Fr.refl _ aF).grown a3 (fun b e=>aM (by cases e;rfl)))
  obtain⟨_,_,_,_,_,bb,_,bd,be⟩:=eI p;obtain⟨q,_,bg,_⟩:=ng p;dsimp only at q;obtain⟨ad,cap,bi⟩:=eN q;subst bi;have bl:=bd 5;have ab:=c7 p ((cg.of hb).trans ba)
  go_wp2_with (at_builtin;refine wpList_append_own_at _ rfl _ _ 74 rfl 0 3 ao (ak 0) 1 8 underlying74 hi ap ar aB rfl ae (.slice ad s.td.length cap) s.td.length (s.td.map (Value.int .i64)) rfl (f9 q _) ⟨o.heap.size,0,none⟩ 1 1 [ak a] rfl rfl ?_ ?_ ?_ ?_ ?_ ?_;(intro j u i;match j,i with|0,i=>(simp at i;subst i;simp[Addr.add]));(intro u ag;simp at ag;subst ag;rfl);(unfold maxLen;omega);(first|omega|simp);(first|omega|(simp;done)|(simp;omega));intro b2 b3 ai al _ bn;obtain⟨b4,bo,bp⟩:=eT ai (Nat.succ_pos _);subst bp;have am:=(al.block c.pk (by simp;omega) bg).trans (aS _ _ _ be);have g4:=(aQ (a:=⟨c.pk,5,none⟩) am).trans bb;have b5:=(World.frozen?_of_block (a:=⟨c.pk,5,none⟩) am).trans bl)
  go_end0;obtain⟨g,br,bs⟩:=yF ab.o.1 (((Fr.refl _ o).alloc _).grown al (fun b e=>aM e.symm)) (v1:=.slice (au b4) (s.td.length+1) bo) (l:=s.td++[a]) (by simpa using ai) (fun b e=>by simp[Value.ownBlock] at e;subst e;exact(bn.imp id (fun e=>by simpa[Value.ownBlock] using e)).imp id (fun e=>by omega))
  exact⟨g,rfl,⟨_,by rw[E.o];exact br⟩,ab.o.2.trans bs⟩
theorem pn (h:(eQ c k).J F s w)(d:c8 k s)(x:Int):
 Calls prog 142 #[aq c.pk,ak x] w fun e w'=>∃b,e=.returned (.tuple #[])/\(eQ c k).J b (k.ma s x) w'/\cg F w b w':=by
 obtain⟨vt,cx,h⟩:=h;refine(yJ ⟨vt,h⟩ d x).mono ?_;rintro e w' ⟨b,rfl,⟨cS,j⟩,t⟩
 exact⟨b,rfl,⟨cS,cx,j⟩,t⟩
end
section
variable {c:ft}{k:cf}{F:Nat->Prop}{s:cy}{w:az}
theorem Fx (h:(eQ c k).J F s w)(p:c8 k s)(a:Int)(a0:0<=a)(a1:a<=2000)(hk:pk (k.ld a)=1\/pk (k.ld a)=2):
 Calls prog 216 #[aq c.pk,ak a] w fun e w'=>∃b,e=.returned (.tuple #[])/\(eQ c k).J b (k.lk s a) w'/\cg F w b w':=by
 have t:k.lk s a=k.fq s a (pf (k.ld a)).toNat:=by unfold cf.lk;rw[aK hk]
 rw[t];have u:=hide h;obtain⟨vt,v,h⟩:=h;obtain⟨f,c0,_⟩:=gQ h;obtain⟨B,_⟩:=eI h;have L:=gy a w f;have N:ld k.a.N k.s.y k.s.g k.s.ws a=k.ld a:=rfl;rw[N] at L;have hp:=dr (k.ld a)
 obtain⟨n,hn⟩:∃n:Nat,pf (k.ld a)=n:=⟨(pf (k.ld a)).toNat,aa⟩
 rw[hn] at L hp⊢;have en:(n:Int).toNat=n:=Int.toNat_natCast n;rw[en];have S:aA (c8 k s):=p;generalize pc (k.ld a)=q at L;have key:∀kd:Int,(kd=1\/kd=2)->pk (k.ld a)=kd->Calls prog 216 #[aq c.pk,ak a] w fun e w'=>∃b,e=.returned (.tuple #[])/\(eQ c k).J b (k.fq s a n) w'/\cg F w b w':=by
  intro kd W ab;rw[ab] at L;rcases W with rfl|rfl
  all_goals
   go_enter func216,ntmps216;go_wp2_with fail;refine L.mono ?_;rintro e w1 ⟨rfl,g⟩
   have ad:aA ((eQ c k).J F (k.fq s a 0) w1/\cg F w F w1):=⟨(eQ c k).below u.o g,cg.of g⟩
   go_wp2_with fail
   go_loopw [26] (fun iv wr=>∃(i:Nat)(b:Nat->Prop),i<=n/\iv=ak i/\aA ((eQ c k).J b (k.fq s a i) wr/\cg F w b wr)) (fun iv _=>n-(intOf iv).toNat)
   exact⟨0,F,a4 _,rfl,ad⟩
   ·
     obtain⟨i,b,hi,rfl,d⟩:=hrel;by_cases ao:i<n
     ·obtain⟨vt,v,j⟩:=d.o.1;obtain⟨f,c0,_⟩:=gQ j;obtain⟨B,_⟩:=eI j;have P:=jS (a+1+i) wr f;have ex:ld k.a.N k.s.y k.s.g k.s.ws (a+1+i)=k.ld (a+1+i):=rfl;rw[ex] at P;have l:aA (k.fq s a (i+1)=k.ma (k.fq s a i) (k.ld (a+1+i))):=rfl;have ag:=(S.o.fq a i).1;generalize k.ld (a+1+i)=x at P l;go_wp2_with fail;refine P.mono ?_;rintro e ap ⟨rfl,m⟩
      have o:=pn ((eQ c k).below d.o.1 m) ag x;rw[<-l.o] at o;have ai:=hide (d.o.2.below m)
      go_wp2_with fail;refine o.mono ?_;rintro e ar ⟨al,rfl,cJ,am⟩
      have an:=c7 cJ (ai.o.trans am)
      go_wp2_with fail;go_roundw;exact⟨i+1,al,aa,aj,an⟩
      simp[intOf];omega
     ·obtain rfl:i=n:=aa;go_wp2_with fail;go_end0;exact⟨b,rfl,d.o.1,d.o.2⟩
 exact key _ hk rfl
theorem Fy (h:(eQ c k).J F s w)(p:c8 k s)(a:Int)(a0:0<=a)(a1:a<=2000)(hk:pk (k.ld a)=3):
 Calls prog 216 #[aq c.pk,ak a] w fun e w'=>∃d,e=.returned (.tuple #[])/\(eQ c k).J d (k.lk s a) w'/\cg F w d w':=by
 have t:k.lk s a=k.ma s (k.ld (a+2)):=by unfold cf.lk;rw[aI aa,aK hk]
 rw[t];obtain⟨x,f⟩:∃x,k.ld (a+2)=x:=⟨_,rfl⟩
 rw[f];have u:aA (k.ld (a+2)=x):=f;have v:aA ((eQ c k).J F s w):=h;obtain⟨vt,B,h⟩:=h;obtain⟨b,c0,_⟩:=gQ h;obtain⟨N,_⟩:=eI h;have L:=gy a w b;have S:ld k.a.N k.s.y k.s.g k.s.ws a=k.ld a:=rfl;rw[S,hk] at L;generalize pf (k.ld a)=n at L;generalize pc (k.ld a)=q at L;go_enter func216,ntmps216;go_wp2_with fail;refine L.mono ?_;rintro e w1 ⟨rfl,g⟩
 have i:=(eQ c k).below v.o g;have j:aA ((eQ c k).J F s w1/\cg F w F w1):=⟨i,cg.of g⟩
 obtain⟨vt,B,l⟩:=i;obtain⟨b,c0,_⟩:=gQ l;obtain⟨N,_⟩:=eI l;have P:=jS (a+2) w1 b;have ex:ld k.a.N k.s.y k.s.g k.s.ws (a+2)=k.ld (a+2):=rfl;rw[ex,u.o] at P;go_wp2_with fail;refine P.mono ?_;rintro e ai ⟨rfl,m⟩
 have W:=pn ((eQ c k).below j.o.1 m) p x;have ab:=hide (j.o.2.below m)
 go_wp2_with fail;refine W.mono ?_;rintro e al ⟨ad,rfl,cJ,ag⟩
 have o:=c7 cJ (ab.o.trans ag)
 go_wp2_with fail;go_end0;exact⟨ad,rfl,o.o.1,o.o.2⟩
theorem Fz (h:(eQ c k).J F s w)(a:Int)(a2:s.ep.length<=10000)(hk:pk (k.ld a)=4):
 Calls prog 216 #[aq c.pk,ak a] w fun e w'=>∃d,e=.returned (.tuple #[])/\(eQ c k).J d (k.lk s a) w'/\cg F w d w':=by
 have x:k.lk s a={s with ep:=s.ep++[a]}:=by unfold cf.lk;rw[aI aa,aI aa,aK hk]
 rw[x];obtain⟨B,hi,N,S,W⟩:=info_parts kn;have ab:aA ((eQ c k).J F s w):=h;obtain⟨vt,ag,h⟩:=h;obtain⟨ai,c0,_⟩:=gQ h;obtain⟨a3,_⟩:=eI h;have L:=gy a w ai;have al:ld k.a.N k.s.y k.s.g k.s.ws a=k.ld a:=rfl;rw[al,hk] at L;generalize pf (k.ld a)=n at L;generalize pc (k.ld a)=q at L;go_enter func216,ntmps216;go_wp2_with fail;refine L.mono ?_;rintro e w1 ⟨rfl,i⟩
 obtain⟨vt,ag,g⟩:=(eQ c k).below ab.o i;obtain⟨_,_,_,_,_,_,am,an,lk⟩:=eI g;obtain⟨_,er,_,ao,_⟩:=ng g;obtain⟨ad,cap,ap⟩:=eN er;subst ap;have ar:=an 6;have m:aA ((cZ c k vt (.slice ad s.ep.length cap)).J F s w1/\cg F w F w1):=⟨g,cg.of i⟩
 go_wp2_with (at_builtin;refine wpList_append_own_at _ rfl _ _ 74 rfl 0 3 B (ak 0) 1 8 underlying74 hi N S W rfl ae (.slice ad s.ep.length cap) s.ep.length (s.ep.map (Value.int .i64)) rfl (f9 er _) ⟨w1.heap.size,0,none⟩ 1 1 [ak a] rfl rfl ?_ ?_ ?_ ?_ ?_ ?_;(intro j u f;match j,f with|0,f=>(simp at f;subst f;simp[Addr.add]));(intro u o;simp at o;subst o;rfl);(unfold maxLen;omega);(first|omega|simp);(first|omega|(simp;done)|(simp;omega));intro ba bb p t _ aB;obtain⟨b4,aF,aR⟩:=eT p (Nat.succ_pos _);subst aR;have v:=(t.block c.pk (by simp;omega) ao).trans (aS _ _ _ lk);have g4:=(aQ (a:=⟨c.pk,6,none⟩) v).trans am;have bd:=(World.frozen?_of_block (a:=⟨c.pk,6,none⟩) v).trans ar)
 go_end0;obtain⟨d,aV,a0⟩:=Fw m.o.1 (((Fr.refl _ w1).alloc _).grown t (fun b e=>aM e.symm)) (v1:=.slice (au b4) (s.ep.length+1) aF) (l:=s.ep++[a]) (by simpa using p) (fun b e=>by
  have a1:=aB.imp id (fun e=>by simpa[Value.ownBlock] using e)
  simp[Value.ownBlock] at e;subst e;exact a1.imp id (fun e=>by omega))
 exact⟨d,rfl,⟨_,_,aV⟩,m.o.2.trans a0⟩
theorem FA (h:(eQ c k).J F s w)(a:Int)(k1:pk (k.ld a)≠1)(n:pk (k.ld a)≠2)(g:pk (k.ld a)≠3)(i:pk (k.ld a)≠4):
 Calls prog 216 #[aq c.pk,ak a] w fun e w'=>∃b,e=.returned (.tuple #[])/\(eQ c k).J b (k.lk s a) w'/\cg F w b w':=by
 have j:k.lk s a=s:=by unfold cf.lk;rw[aI aa,aI g,aI i]
 rw[j];have l:aA ((eQ c k).J F s w):=h;obtain⟨vt,o,h⟩:=h;obtain⟨m,c0,_⟩:=gQ h;obtain⟨p,_⟩:=eI h;have L:=gy a w m;have q:ld k.a.N k.s.y k.s.g k.s.ws a=k.ld a:=rfl;go_enter func216,ntmps216;go_wp2_with fail;refine L.mono ?_;rintro e w1 ⟨rfl,d⟩
 have f:aA ((eQ c k).J F s w1/\cg F w F w1):=⟨(eQ c k).below l.o d,cg.of d⟩
 go_wp2_with fail;go_end0;exact⟨F,rfl,f.o.1,f.o.2⟩
theorem FB (h:(eQ c k).J F s w)(b:c8 k s)(a:Int)(a0:0<=a)(a1:a<=2000)(i:s.ep.length<=10000):
 Calls prog 216 #[aq c.pk,ak a] w fun e w'=>∃d,e=.returned (.tuple #[])/\(eQ c k).J d (k.lk s a) w'/\cg F w d w':=by
 by_cases k1:pk (k.ld a)=1\/pk (k.ld a)=2
 ·exact Fx h b a a0 a1 k1
 by_cases f:pk (k.ld a)=3
 ·exact Fy h b a a0 a1 f
 by_cases g:pk (k.ld a)=4
 ·exact Fz h a i g
 exact FA h a (fun e=>k1 (aM e)) (fun e=>k1 (aL e)) f g
theorem FC (h:(eQ c k).J F s w)(ao:c8 k s):
 Calls prog 143 #[aq c.pk] w fun e w'=>∃u,e=.returned (.tuple #[])/\(eQ c k).J u (k.lm (k.lost s+s.td.length+1) s) w'/\cg F w u w':=by
 have v:=c7 h ao;obtain⟨g,B⟩:∃g,k.lm (k.lost s+s.td.length+1) s=g:=⟨_,rfl⟩
 rw[B];have ap:=hide B;obtain⟨vt,ar,h⟩:=h;obtain⟨_,_,_,_,_,N,_⟩:=eI h;obtain⟨tr,_⟩:=ng h;obtain⟨ad,cap,q⟩:=eN tr;subst q;go_enter func143,ntmps143;go_wp2_with fail
 go_loopg [2] (k.lost s+s.td.length) (fun m nv wr=>∃(s1:cy)(i:Nat->Prop),nv=ak s1.td.length/\aA ((eQ c k).J i s1 wr/\c8 k s1/\cg F w i wr)/\aA (k.lost s1+s1.td.length<=m/\k.lm (m+1) s1=g))
 exact⟨s,F,rfl,⟨v.o.1,v.o.2,cg.refl _ _⟩,⟨aG _,ap.o⟩⟩
 ·
   obtain⟨s1,i,rfl,d,j⟩:=hrel;by_cases f:0<s1.td.length
   ·obtain⟨vt,ar,o⟩:=d.o.1;obtain⟨_,_,_,_,_,N,_,S,lk⟩:=eI o;obtain⟨tr,_,bl,_⟩:=ng o;obtain⟨b,cap,q⟩:=eT tr f;subst q;have aB:=sX tr;have bn:maxLen<=9223372036854775807:=by unfold maxLen;omega
    have aF:wr.cell? (av b (s1.td.length-1))=some (ak (s1.td.getD (s1.td.length-1) 0)):=by obtain⟨bo,bp,e,_,hc⟩:=gX tr f;cases e;have:=hc (s1.td.length-1) aa;rwa [Nat.zero_add] at this
    have br:=S 5;have hm:s1.td.getD (s1.td.length-1) 0∈s1.td:=by rw[aJ,aN aa];exact a8 _
    have W:=d.o.2.1.ps _ (d.o.2.1.td _ hm)
    have aR:=d.o.2.1.sum;have bs:=d.o.2.1.tl;obtain⟨bt,ab,ag⟩:=yF o (Fr.refl _ wr) (v1:=.slice (au b) (s1.td.length-1) cap) (l:=s1.td.take (s1.td.length-1)) (by have:=sW tr (s1.td.length-1) aa;rw[List.map_take,show(s1.td.take (s1.td.length-1)).length=s1.td.length-1 by rw[bq];omega];exact this) (fun b e=>aM e)
    have ai:c8 k {s1 with td:=s1.td.take (s1.td.length-1)}:=⟨d.o.2.1.nd,d.o.2.1.ps,fun x aV=>d.o.2.1.td x (List.mem_of_mem_take aV),d.o.2.1.ep,d.o.2.1.tl,by show k.lost s1+(s1.td.take (s1.td.length-1)).length+s1.ep.length<=_;rw[bq];omega⟩
    have t:=FB ⟨_,_,ab⟩ ai (s1.td.getD (s1.td.length-1) 0) W.1 W.2 (by show s1.ep.length<=10000;omega)
    have a0:aA (k.lk {s1 with td:=s1.td.take (s1.td.length-1)} (s1.td.getD (s1.td.length-1) 0)=k.l1 s1):=rfl;rw[a0.o] at t;have al:=hide (d.o.2.1.l1 f)
    have a1:aA (k.lm (gk+1) s1=k.lm gk (k.l1 s1)):=by show _=_;rw[cf.lm,aK f]
    have am:=hide (d.o.2.2.trans ag)
    obtain⟨n,hn⟩:∃n,s1.td.length=n+1:=⟨s1.td.length-1,aa⟩
    rw[hn] at N aB⊢;rw[hn,Nat.add_sub_cancel] at aF t am;generalize s1.td.getD n 0=x at*;generalize k.l1 s1=p at*;have bx:n<=4000:=aa;clear o ab ag ai tr hm aR S d;go_wp2_with fail;refine t.mono ?_;rintro e b0 ⟨a2,rfl,cJ,a3⟩
    have ba:=gM cJ al.o.1 (am.o.trans a3)
    obtain⟨b1,b2,an⟩:=cJ;obtain⟨_,_,_,_,_,b3,_⟩:=eI an;obtain⟨bb,_⟩:=ng an;obtain⟨b4,b5,bd⟩:=eN bb;subst bd;have hg:1<=gk:=by have:=j.o.1;omega
    have be:aA (k.lost p+p.td.length<=gk-1/\k.lm (gk-1+1) p=g):=⟨by have:=j.o.1;have:=al.o.2;omega,by rw[Nat.sub_add_cancel hg,<-a1.o];exact j.o.2⟩
    go_wp2_with fail
    go_roundg (gk-1)
    case measure=>omega
    exact⟨p,a2,rfl,ba,be⟩
   ·have bg:s1.td=[]:=by
     cases ht:s1.td with
     |nil=>rfl
     |cons x l=>rw[ht] at f;simp at f
    have bi:g=s1:=by rw[<-j.o.2];unfold cf.lm;rw[aI f]
    subst bi;rw[bg];go_wp2_with fail;go_end0;exact⟨i,rfl,d.o.1,d.o.2.2⟩
theorem FD (h:(eQ c k).J F s w)(B:c8 k s):
 Calls prog 144 #[aq c.pk] w fun e w'=>∃b0,e=.returned (.bool (k.kv s).1)/\(eQ c k).J b0 (k.kv s).2 w'/\cg F w b0 w':=by
 obtain⟨cn,hi,co,cp,cq⟩:=info_parts kn;obtain⟨vt,cE,h⟩:=h;obtain⟨_,_,_,_,_,_,cr,_⟩:=eI h;obtain⟨_,er,_⟩:=ng h;obtain⟨ad,cap,cs⟩:=eN er;subst cs;have a2:aA (c8 k s):=B;have b1:aA ((js c k (.slice ad s.ep.length cap)).J F s w):=⟨vt,h⟩
 have cF:s.ep.length<=4000:=by have:=B.sum;have:=B.tl;omega
 have ct:aA (∀a∈s.ep,0<=a/\a<=2000):=fun a ha=>B.ps a (B.ep a ha)
 have b2:aA (k.kv s=(decide ((k.dZ s s.ep).1.length<s.ep.length),{(k.dZ s s.ep).2 with ep:=(k.dZ s s.ep).1})):=rfl;clear B h er;go_enter func144,ntmps144;go_wp2_with fail
 go_loopw [3,12] (fun vr iv wr=>∃(j:Nat)(R:List Int)(s1:cy)(ar:Option Addr)(f:Nat)(d:Nat->Prop),j<=s.ep.length/\iv=ak j/\aA (k.dZ s (s.ep.take j)=(R,s1))/\vr=.slice ar R.length f/\wr.ownsRow w.heap.size 3 1 (.slice ar R.length f) R.length (R.map (Value.int .i64))/\(js c k (.slice ad s.ep.length cap)).J d s1 wr/\cg F w d wr/\aA (∀b,some b=(Value.slice ar R.length f).ownBlock->¬d b)/\aA (c8 k s1/\s1.ep=s.ep)) (fun _ iv _=>s.ep.length-(intOf iv).toNat)
 case atStart=>exact⟨0,[],s,none,0,F,a4 _,rfl,rfl,rfl,bc _ _ _ _,b1.o,cg.refl _ _,fun b e=>by simp[Value.ownBlock] at e,⟨a2.o,rfl⟩⟩
 case round=>
  obtain⟨j,R,s1,ar,f,d,S,rfl,W,rfl,p,b3,q,N,ab⟩:=hrel;clear b1 cr;have cG:R.length<=10000:=by have ag:=(c8.iK (s.ep.take j) (t:=([],s)) a2.o (fun a ha=>a2.o.ep a (List.mem_of_mem_take ha)) (fun b hb=>by cases hb)).2.1;have b5:=W.o;unfold cf.dZ at b5;rw[b5] at ag;simp at ag;omega
  by_cases ao:j<s.ep.length
  ·obtain⟨b6,g⟩:=b3;obtain⟨_,a3,_⟩:=ng g;rw[ab.o.2] at a3;obtain⟨i,m,cv,cH,hc⟩:=gX a3 aa;have ba:=hc j ao;subst cv;have b9:s.ep.getD j 0∈s.ep:=by rw[aJ,aN ao];exact a8 ao
   have cw:=ct.o _ b9;have bb:aA (k.dZ s (s.ep.take (j+1))=k.cU (R,s1) (s.ep.getD j 0)):=by
    show _=_;rw[gL s.ep j ao 0];unfold cf.dZ;rw[List.foldl_append];have:=W.o;unfold cf.dZ at this
    rw[this];rfl
   generalize s.ep.getD j 0=a at ba cw bb;obtain⟨ap,_⟩:=eI g;obtain⟨ai,aB,_⟩:=gQ g;have L:=jS (a+1) wr ai;have al:ld k.a.N k.s.y k.s.g k.s.ws (a+1)=k.ld (a+1):=rfl;rw[al] at L;have v:aA ((js c k (.slice (some ⟨i,m,none⟩) s.ep.length cap)).J d s1 wr/\cg F w d wr):=⟨⟨b6,g⟩,q⟩
   have cI:=q.fr.size;have ca:aA (∀b,some b=(Value.slice ar R.length f).ownBlock->b<wr.heap.size):=fun b e=>(cu p b e).2;have j0:(0:Int)<=(j:Int):=aa;have cJ:(j:Int)<(s.ep.length:Int):=aa;clear hc b9 g q ai al a3;cases hls:k.cX s1 (k.ld (a+1))
   ·have aF:aA (k.dZ s (s.ep.take (j+1))=(R,k.ma s1 (k.ld (a+2)))):=by show _=_;rw[bb.o];unfold cf.cU;rw[hls];rfl
    generalize k.ld (a+1)=x at L hls;go_wp2_with fail;refine L.mono ?_;clear L;rintro e w1 ⟨rfl,n⟩
    obtain⟨cx,o⟩:=(js c k (.slice (some ⟨i,m,none⟩) s.ep.length cap)).below v.o.1 n;have P:=pm o x;rw[hls] at P;clear ba ap aB o;go_wp2_with fail;refine P.mono ?_;clear P;rintro e am ⟨rfl,an⟩
    have hb:=n.trans (an.mono n.size)
    obtain⟨cz,aR⟩:=(js c k (.slice (some ⟨i,m,none⟩) s.ep.length cap)).below v.o.1 hb;obtain⟨ap,_⟩:=eI aR;obtain⟨ai,aB,_⟩:=gQ aR;have aV:=jS (a+2) am ai;have al:ld k.a.N k.s.y k.s.g k.s.ws (a+2)=k.ld (a+2):=rfl;rw[al] at aV;have cA:aA (k.ld (a+2)=k.ld (a+2)):=rfl;generalize k.ld (a+2)=y at aV aF;have bd:aA ((js c k (.slice (some ⟨i,m,none⟩) s.ep.length cap)).J d s1 am/\Below wr.heap.size wr am):=⟨⟨cz,aR⟩,hb⟩
    clear n an aR ai al hb cA;go_wp2_with fail;refine aV.mono ?_;clear aV;rintro e cB ⟨rfl,be⟩
    have cb:=yJ ((js c k (.slice (some ⟨i,m,none⟩) s.ep.length cap)).below bd.o.1 be) ab.o.1 y;have cc:aA (cg d wr d cB):=(cg.of bd.o.2).below be;clear be ap aB bd;go_wp2_with fail;refine cb.mono ?_;clear cb;rintro e bg ⟨cd,rfl,bi,a0⟩
    have a1:=cc.o.trans a0;have bl:=ab.o.1.ma y;have bn:=gM (v.o.2.trans a1) bl.1 (bl.2.2.trans ab.o.2)
    have bo:=ii p a1.fr (fun b e=>N.o b e)
    have bp:aA (∀b,some b=(Value.slice ar R.length f).ownBlock->¬cd b):=fun b e ce=>(a1.sub b ce).elim (N.o b e) (fun ce=>by have:=ca.o b e;omega)
    clear a0 a1 bl p cc N;go_wp2_with fail;go_roundw;exact⟨j+1,R,_,ar,f,cd,aa,aj,aF,rfl,bo,bi,bn.o.1,bp,⟨bn.o.2.1,bn.o.2.2⟩⟩
    simp[intOf];omega
   ·have aF:aA (k.dZ s (s.ep.take (j+1))=(R++[a],s1)):=by show _=_;rw[bb.o];unfold cf.cU;rw[aK hls]
    generalize k.ld (a+1)=x at L hls;go_wp2_with fail;refine L.mono ?_;clear L;rintro e w1 ⟨rfl,n⟩
    obtain⟨cx,o⟩:=(js c k (.slice (some ⟨i,m,none⟩) s.ep.length cap)).below v.o.1 n;have P:=pm o x;rw[hls] at P;clear ba ap aB o;go_wp2_with fail;refine P.mono ?_;clear P;rintro e am ⟨rfl,an⟩
    have hb:=n.trans (an.mono n.size)
    have br:=cL p (fun b e=>hb.block b (ca.o b e))
    have cK:=hb.size;clear n an;go_wp2_with (at_builtin;refine wpList_append_own_at _ rfl _ _ 74 rfl w.heap.size 3 cn (ak 0) 1 8 underlying74 hi co cp cq rfl ae (.slice ar R.length f) R.length (R.map (Value.int .i64)) rfl (f9 br _) ⟨am.heap.size,0,none⟩ 1 1 [ak a] rfl rfl ?_ ?_ ?_ ?_ ?_ ?_;(intro j u S;match j,S with|0,S=>(simp at S;subst S;simp[Addr.add]));(intro u ch;simp at ch;subst ch;rfl);(unfold maxLen;omega);omega;(simp;omega);intro cM bg bs bt _ ci;obtain⟨b4,bx,cC⟩:=eT bs (Nat.succ_pos _);subst cC)
    have bo:bg.ownsRow w.heap.size 3 1 (.slice (au b4) (R++[a]).length bx) (R++[a]).length ((R++[a]).map (Value.int .i64)):=by simpa using bs
    have o:=(js c k (.slice (some ⟨i,m,none⟩) s.ep.length cap)).below v.o.1 hb;have bi:=qc (js c k (.slice (some ⟨i,m,none⟩) s.ep.length cap)) o bt (fun b e=>N.o b e)
    have a0:cg F w d bg:=⟨((v.o.2.below hb).fr.alloc _).grown bt (fun b e=>aL (cu br b e.symm).1),v.o.2.sub⟩
    have bp:aA (∀b,some b=(Value.slice (au b4) (R++[a]).length bx).ownBlock->¬d b):=fun b e cj=>by
     have cD:=ci.imp id (fun e=>by simpa[Value.ownBlock] using e)
     simp[Value.ownBlock] at e;subst e;rcases cD with e|e
     ·exact N.o _ e cj
     ·have:=(js c k (.slice (some ⟨i,m,none⟩) s.ep.length cap)).lt o _ cj;omega
    clear o bs bt ci br p hb;go_wp2_with fail;go_roundw;exact⟨j+1,R++[a],s1,au b4,bx,d,aa,aj,aF,ac,bo,bi,a0,bp,ab⟩
    simp[intOf];omega
  ·obtain rfl:j=s.ep.length:=aa;rw[bz] at W;obtain⟨b6,g⟩:=b3;obtain⟨_,_,_,_,_,_,cN,ck,lk⟩:=eI g;have cO:=ck 6;obtain⟨cl,cm⟩:=yG g (v1:=.slice ar R.length f) (l:=R) (Fr.refl _ wr) (e8 p (fun _ _=>a4 _)) (fun b e=>aL (N.o b e))
   have s3:=c7 cl (q.fr.trans cm q.sub)
   have xR:aA (∀b,some b=(Value.slice ar R.length f).ownBlock->w.heap.size<=b):=fun b e=>(cu p b e).1;have xQ:=hide q.sub;have E2:aA ((k.kv s).1=decide (R.length<s.ep.length)/\(k.kv s).2={s1 with ep:=R}):=by have ag:=b2.o;rw[W.o] at ag;rw[ag];exact⟨rfl,rfl⟩
   clear cl cm g q p W b2 ck;by_cases hll:R.length<s.ep.length
   ·go_wp2_with fail;exact qv
   ·go_wp2_with fail;exact qv
end
def dW (c:ft)(k:cf):dx cy:=xV (eQ c k) (fun s=>c8 k s)
abbrev du (c:ft):Obj:=.cells #[aq c.pk] 137 (0,0)
abbrev kA (c:ft):f5:=⟨142,#[aq c.pk],#[]⟩
abbrev mf (c:ft):f5:=⟨80,#[aq c.pk],#[]⟩
abbrev jG (fv:f5):Obj:=.cells #[fv.v] 147 (0,0)
abbrev i7 (bx:Nat):f5:=⟨153,#[],#[aq bx]⟩
abbrev ir (b:Nat):f5:=⟨155,#[],#[aq b]⟩
abbrev ju (c:ft):f5:=⟨156,#[aq c.pk],#[]⟩
theorem tJ:dS 153:=gw func153 ah rfl
theorem tK:dS 155:=gw func155 ah rfl
theorem tL:dS 156:=gw func156 ah rfl
section
variable {c:ft}{k:cf}{F:Nat->Prop}{s:cy}{w:az}
theorem tM (fv:f5)(w:az)(p:Nat):
 Calls prog 79 #[aq p,fv.v] w fun e w'=>e=.returned (.agg #[(i7 w.heap.size).v,(ir (w.heap.size+1)).v,.func (.func 156) #[aq p] #[]])/\w'.heap[w.heap.size]?=some (.cells #[aq p] 137 (0,0))/\w'.heap[w.heap.size+1]?=some (jG fv)/\Below w.heap.size w w':=by
 obtain⟨f,b,c⟩:=fv;go_enter func79,ntmps79;go_wp2_with fail;refine a5 (v:=.agg #[(i7 w.heap.size).v,(ir (w.heap.size+1)).v,.func (.func 156) #[aq p] #[]]) (by simp[results,results79,go_sem]) rfl ⟨rfl,?_,?_,(((aH _ w).alloc b7 _).alloc ac _).alloc (by simp;omega) _⟩
 ·rw[aS _ _ _ (by simp;omega),aS _ _ _ ac];exact aP _ _
 ·rw[aS _ _ _ ac];have:=aP (w.alloc (.cells #[.pointer (some ⟨p,0,none⟩)] 137)) (.cells #[.func (.func f) b c] 147)
  simpa using this
theorem tN:lz (dW c k) (fun _=>True) (ju c).f (ju c).b (ju c).c k.nw:=by
 rintro F s w x _ ⟨⟨vt,b,h⟩,_⟩
 exact yI h x
def cf.mp (k:cf)(s:cy)(x:Int):Int×cy:=(x,k.ma s x)
theorem yK (f:Nat):n7 (dl (dW c k) f (jG (kA c))) (fun _=>True) (ir f).f (ir f).b (ir f).c k.mp:=by
 rintro F s w x _ ⟨u,⟨h,j⟩,l,hn,o⟩
 have P:=pn h j x;have c0:w.cell? (av f 0)=some (kA c).v:=aD l
 have t:=hide (j.ma x).1;have g:=gM l hn o;clear h j l hn o;show Calls prog 155 #[ak x,aq f] w _;go_enter func155,ntmps155;go_wp2_with fail;refine P.mono ?_;clear P;rintro e w1 ⟨m,rfl,p,i⟩
 have q:=(i.fr.block f (lt_of_some g.o.1) g.o.2.1).trans g.o.1;have n:aA ((dl (dW c k) f (jG (kA c))).J (fun b=>m b\/b=f) (k.ma s x) w1/\Fr F w w1/\∀b,(m b\/b=f)->F b\/w.heap.size<=b):=by
  refine⟨⟨m,⟨p,t.o⟩,q,fun d=>(i.sub _ d).elim g.o.2.1 (fun d=>by have:=lt_of_some g.o.1;omega),fun b=>Iff.rfl⟩,i.fr.mono (fun b d=>(g.o.2.2 b).2 (aM d)),fun b d=>?_⟩
  rcases d with d|d
  ·exact(i.sub b d).imp (fun d=>(g.o.2.2 b).2 (aM d)) id
  ·exact aM ((g.o.2.2 b).2 (aL d))
 clear p i q;go_wp2_with fail;go_ret;exact⟨_,rfl,n.o.1,n.o.2.1,n.o.2.2⟩
end
def cf.eR (k:cf)(s:cy):cy:=k.lm (k.lost s+s.td.length+1) s
def cf.wa (k:cf)(t:cy×List ce):(cy×List ce)×Bool:=gY k.al k.mp t t.2.length
def cf.ph (k:cf)(s:cy):Nat:=k.lost s+s.td.length+s.ep.length
def cf.mu (k:cf)(s:cy):Nat:=k.lost s+k.ph s
def cf.c9 (k:cf):Nat->cy×List ce->cy×List ce
 |0,t=>t
 |n+1,t=>
  if(k.kv (k.eR t.1)).1=true then k.c9 n ((k.kv (k.eR t.1)).2,t.2)
  else if(k.wa ((k.kv (k.eR t.1)).2,t.2)).2=true then k.c9 n (k.wa ((k.kv (k.eR t.1)).2,t.2)).1
  else(k.wa ((k.kv (k.eR t.1)).2,t.2)).1
def cf.sp (k:cf)(t:cy×List ce):cy×List ce:=k.c9 (k.mu t.1+1) t
def cf.ke (k:cf)(t:cy×List ce)(x:Int):Int×(cy×List ce):=(x,k.sp (k.ma t.1 x,t.2))
structure dy (k:cf)(s t:cy):Prop where
 ff:c8 k t
 lo:k.lost t<=k.lost s
 ph:k.ph t<=k.ph s
section
variable {k:cf}{s t u:cy}
theorem dy.refl (h:c8 k s):dy k s s:=⟨h,aG _,aG _⟩
theorem dy.trans (h:dy k s t)(j:dy k t u):dy k s u:=⟨j.ff,aU j.lo h.lo,aU j.ph h.ph⟩
theorem dy.mu (h:dy k s t):k.mu t<=k.mu s:=by have b:=h.lo;have c:=h.ph;unfold cf.mu;omega
theorem yL (h:c8 k s)(x:Int):k.cX s x=true->k.lost (k.ma s x)<k.lost s:=fun c=>by
 have:=cf.yD h.nd c (fun a ha=>(h.ps a ha).1)
 omega
theorem dy.ma (h:c8 k s)(x:Int):dy k s (k.ma s x):=by
 obtain⟨b,f,d⟩:=h.ma x;refine⟨b,?_,?_⟩
 ·by_cases c:k.cX s x=true
  ·exact Nat.le_of_lt (yL h x c)
  ·have e:k.ma s x=s:=by unfold cf.ma;rw[aI c]
   rw[e];exact aG _
 ·unfold cf.ph;rw[d];omega
theorem dy.fq (h:c8 k s)(a:Int):∀n,dy k s (k.fq s a n)
 |0=>dy.refl h
 |n+1=>(dy.fq h a n).trans (dy.ma (dy.fq h a n).ff _)
theorem FE (h:c8 k s)(a:Int):k.lost (k.lk s a)<=k.lost s:=by
 unfold cf.lk;split
 ·exact(dy.fq h a _).lo
 ·split
  ·exact(dy.ma h _).lo
  ·split
   ·exact aG _
   ·exact aG _
theorem dy.l1 (h:c8 k s)(hl:0<s.td.length):dy k s (k.l1 s):=by
 obtain⟨c,d⟩:=h.l1 hl;have hm:s.td.getD (s.td.length-1) 0∈s.td:=by rw[aJ,aN aa];exact a8 _
 have hs:=h.sum;have e:(s.td.take (s.td.length-1)).length=s.td.length-1:=by rw[bq];omega
 have h0:c8 k {s with td:=s.td.take (s.td.length-1)}:=⟨h.nd,h.ps,fun a ha=>h.td a (List.mem_of_mem_take ha),h.ep,h.tl,by show k.lost s+(s.td.take _).length+s.ep.length<=_;omega⟩
 have b:=(h0.lk (h.td _ hm) (by show k.lost s+(s.td.take _).length+s.ep.length+1<=_;omega)).2.2;have b:(k.l1 s).ep.length<=s.ep.length+1:=b;refine⟨c,(FE h0 _),?_⟩
 unfold cf.ph;omega
theorem dy.lm:∀(n:Nat){s:cy},c8 k s->dy k s (k.lm n s)
 |0,s,h=>dy.refl h
 |n+1,s,h=>by
  unfold cf.lm;by_cases c:0<s.td.length
  ·rw[aK c];exact(dy.l1 h c).trans (dy.lm n (dy.l1 h c).ff)
  ·rw[aI c];exact dy.refl h
theorem dy.eR (h:c8 k s):dy k s (k.eR s):=dy.lm _ h
theorem FF (h:c8 k s):(k.eR s).td=[]:=(c8.lm _ h).2.1 aa
theorem dy.iK:∀(l:List Int){t:List Int×cy},c8 k t.2->dy k t.2 (l.foldl k.cU t).2
 |[],t,h=>dy.refl h
 |a::l,t,h=>by
  have b:dy k t.2 (k.cU t a).2:=by
   unfold cf.cU;split
   ·exact dy.refl h
   ·exact dy.ma h _
  exact b.trans (dy.iK l b.ff)
theorem dy.kv (h:c8 k s):dy k s (k.kv s).2/\((k.kv s).1=true->k.mu (k.kv s).2<k.mu s):=by
 obtain⟨b,f,g,c⟩:=h.kv;have d:k.lost (k.kv s).2<=k.lost s:=(dy.iK s.ep h).lo;refine⟨⟨b,d,by unfold cf.ph;omega⟩,fun e=>?_⟩
 have:=c e;unfold cf.mu cf.ph;omega
theorem yM:∀(l:List Nat)(t:(cy×List ce)×Bool),c8 k t.1.1->dy k t.1.1 (l.foldl (dE k.al k.mp) t).1.1/\(l.foldl (dE k.al k.mp) t).1.2.length=t.1.2.length/\((l.foldl (dE k.al k.mp) t).2=true->t.2=true\/k.lost (l.foldl (dE k.al k.mp) t).1.1<k.lost t.1.1)
 |[],t,h=>⟨dy.refl h,rfl,fun e=>aM e⟩
 |i::l,t,h=>by
  have key:dy k t.1.1 (dE k.al k.mp t i).1.1/\(dE k.al k.mp t i).1.2.length=t.1.2.length/\((dE k.al k.mp t i).2=true->t.2=true\/k.lost (dE k.al k.mp t i).1.1<k.lost t.1.1):=by
   unfold dE;split
   ·exact⟨dy.refl h,rfl,fun e=>aM e⟩
   ·rename_i c;refine⟨dy.ma h _,ac,fun _=>aL (yL h _ ?_)⟩
    rw[Bool.or_eq_true] at c;cases hj:k.cX t.1.1 _
    ·exact absurd (aM (by unfold cf.al;rw[hj];rfl)) c
    ·rfl
  obtain⟨k1,f,g⟩:=key;obtain⟨d,j2,cH⟩:=yM l _ k1.ff;refine⟨k1.trans d,j2.trans f,fun e=>?_⟩
  rcases cH e with b|b
  ·rcases g b with b|b
   ·exact aM b
   ·exact aL (Nat.lt_of_le_of_lt d.lo b)
  ·exact aL (aO b k1.lo)
theorem dy.wa {t:cy×List ce}(h:c8 k t.1):dy k t.1 (k.wa t).1.1/\(k.wa t).1.2.length=t.2.length/\((k.wa t).2=true->k.mu (k.wa t).1.1<k.mu t.1):=by
 obtain⟨b,c,d⟩:=yM _ (t,false) h;have b:dy k t.1 (k.wa t).1.1:=b;refine⟨b,c,fun e=>?_⟩
 have f:k.lost (k.wa t).1.1<k.lost t.1:=(d e).resolve_left ac;have g:=b.ph;unfold cf.mu;omega
end
section
variable {c:ft}{k:cf}{F:Nat->Prop}{s:cy}{w:az}{vr:Value}
theorem tO (bx b:Nat)(fv:f5):kq (dl (dl (dW c k) b (jG fv)) bx (du c)) (fun _=>True) (i7 bx).f (i7 bx).b (i7 bx).c k.al:=by
 rintro F s w x _ ⟨f,⟨g,⟨⟨vt,i,h⟩,_⟩,_⟩,d,_⟩
 have P:=pm h x;have c0:w.cell? (av bx 0)=some (aq c.pk):=aD d
 have E:k.al s x=!k.cX s x:=rfl;go_enter func153,ntmps153;exact tu
theorem FG {i:Option Addr}{j l:Nat}(m:vr=.slice i j l){t:cy×List ce}(h:(df (dW c k) c.bs vr).J F t w)(hq:t.2.length<=90000)(bx f:Nat)(n:w.heap[bx]?=some (du c))(hy:w.heap[f]?=some (jG (kA c)))(hn:¬F bx)(hm:¬F f)(o:bx≠f):
 Calls prog 145 #[aq c.bs,.agg #[(i7 bx).v,(ir f).v,(ju c).v]] w fun e w'=>∃g,e=.returned (.bool (k.wa t).2)/\(df (dW c k) c.bs vr).J g (k.wa t).1 w'/\Fr (fun b=>F b\/b=f\/b=bx) w w'/\(∀b,g b->F b\/b=f\/b=bx\/w.heap.size<=b):=by
 refine(xz _ (xU _ _ _) (fun _=>True) (i7 bx) (ir f) (ju c) _ _ _ (qm _ c.bs vr (fun _=>True) (i7 bx) (ir f) (ju c) k.al k.mp k.nw tJ tK tL (tO bx f (kA c)) (s_ (yK f)) (mc (mc tN))) i j l m _ t w hq (fun _ _=>⟨trivial,trivial⟩) (ks (ks h hy hm) n (fun d=>d.elim hn o))).mono ?_;rintro e w' ⟨g,rfl,p,q,hs⟩
 refine⟨g,rfl,s9 (s9 p),q.mono (fun b d=>?_),fun b hb=>?_⟩
 ·rcases d with(d|d)|d
  ·exact aM d
  ·exact aL (aM d)
  ·exact aL (aL d)
 ·rcases hs b hb with((d|d)|d)|d
  ·exact aM d
  ·exact aL (aM d)
  ·exact aL (aL (aM d))
  ·exact aL (aL (aL d))
theorem yN {bl:Option Addr}{bn bo:Nat}(bp:vr=.slice bl bn bo){t:cy×List ce}(h:(df (dW c k) c.bs vr).J F t w)(hq:t.2.length<=90000):
 Calls prog 77 #[aq c.pk] w fun e w'=>∃aR,e=.returned (.tuple #[])/\(df (dW c k) c.bs vr).J aR (k.sp t) w'/\cg F w aR w':=by
 have br:∀(aV:Fn)(first cap:Array Value)(w:az),(Instr.makeFunc aV first cap).run prog w=.ok (.func aV first cap) w:=fun _ _ _ _=>rfl;obtain⟨f,a0⟩:∃f,k.sp t=f:=⟨_,rfl⟩
 rw[a0];have bs:=hide a0;go_enter func77,ntmps77;go_wp2
 go_loopg [2] (k.mu t.1+1) (fun n bt wr=>∃(ad:Nat->Prop)(d:cy×List ce)(b:Bool),bt=.bool b/\(df (dW c k) c.bs vr).J ad d wr/\cg F w ad wr/\aA (if b=true then k.mu d.1<n/\k.c9 n d=f else d=f)/\d.2.length<=90000)
 exact⟨F,t,true,rfl,h,cg.refl _ _,⟨aa,bs.o⟩,hq⟩
 ·
   obtain⟨ad,d,b,rfl,a1,a2,a3,hq⟩:=hrel;cases b
   ·have x:=hide a3.o;go_wp2;go_end0;rw[<-x.o];exact⟨ad,rfl,a1,a2⟩
   ·obtain⟨ci,bx⟩:=a3.o;obtain⟨m,hm⟩:∃m,gk=m+1:=⟨gk-1,aa⟩
    obtain⟨cj,an,b0⟩:=oi a1;have B:=FC an.1 an.2;have j0:=dy.eR an.2;obtain⟨ba,j2⟩:=dy.kv j0.ff;have cH:=(j0.trans ba).mu;have cJ:=j0.mu;have b1:k.lm (k.lost d.1+d.1.td.length+1) d.1=k.eR d.1:=rfl;rw[b1] at B;have b2:=hide j0.ff;have j:=gM a2 b0 ba.ff;have ao:aA (_/\((k.kv (k.eR d.1)).1=true->k.mu (k.kv (k.eR d.1)).2<k.mu d.1)/\k.mu d.1<m+1):=⟨cH,fun e=>by have:=j2 e;omega,aa⟩
    have x:aA (k.c9 (m+1) d=f):=by rw[<-hm];exact bx
    have ap:=hide hm;go_wp2_with fail;refine B.mono ?_;rintro e w1 ⟨ck,rfl,N,W⟩
    have ag:=FD ((eQ c k).below N (aH _ w1).drew) b2.o;have W:=W.below (aH _ w1).drew;obtain⟨cl,cm,N⟩:=N;obtain⟨_,_,_,_,b3,_⟩:=eI N;cases hkv:(k.kv (k.eR d.1)).1
    ·rw[hkv] at ag;have bb:aA ((if(k.wa ((k.kv (k.eR d.1)).2,d.2)).2=true then k.c9 m (k.wa ((k.kv (k.eR d.1)).2,d.2)).1 else(k.wa ((k.kv (k.eR d.1)).2,d.2)).1)=f):=by
      have:=x.o;unfold cf.c9 at this
      rw[hkv] at this
      exact this
     have s:=dy.wa (t:=((k.kv (k.eR d.1)).2,d.2)) j.o.2.2;have s:aA ((k.wa ((k.kv (k.eR d.1)).2,d.2)).1.2.length<=90000/\((k.wa ((k.kv (k.eR d.1)).2,d.2)).2=true->k.mu (k.wa ((k.kv (k.eR d.1)).2,d.2)).1.1<k.mu d.1)):=by refine⟨by rw[s.2.1];exact hq,fun e=>by have:=s.2.2 e;dsimp only at this;omega⟩
     generalize k.eR d.1=s1 at*;generalize (k.kv s1).2=s2 at*;go_wp2
     go_region_held3 (fun w'=>w'.cell? (av c.pk 4)=some (aq c.bs)) (go_keep)
      (first
        |(go_at_call 144;refine ag.mono ?_;rintro e l ⟨ar,rfl,o,ai⟩;obtain⟨bd,hM,al⟩:=j.o.2.1 ar s2 l ⟨o,j.o.2.2⟩ (W.trans ai);obtain⟨cn,co,o⟩:=o;obtain⟨_,_,_,_,g4,_⟩:=eI o;have l0:=aT l _ g4;have g:=c7 hM (j.o.1.trans al))
        |(go_at_call 79;refine(tM (kA c) l c.pk).mono ?_;rintro e cp ⟨rfl,b4,b5,be⟩;have b6:=(be.cell (p:=av c.pk 4) l0).trans g4;have u:=gM b4 b5 be)
        |(go_at_call 145;refine(FG bp (t:=(s2,d.2)) ((df (dW c k) c.bs vr).below g.o.1 u.o.2.2) hq l.heap.size (l.heap.size+1) u.o.1 u.o.2.1 (fun h=>by have:=(df (dW c k) c.bs vr).lt g.o.1 _ h;omega) (fun h=>by have:=(df (dW c k) c.bs vr).lt g.o.1 _ h;omega) aa).mono ?_;rintro e b9 ⟨aB,rfl,bg,ca,cb⟩;have am:aA (_/\cg F w aB b9):=⟨bg,⟨(g.o.2.below u.o.2.2).fr.trans ca (fun b hb=>hb.elim (g.o.2.sub b) (fun e=>aL (by have:=g.o.2.fr.size;omega))),fun b hb=>(cb b hb).elim (g.o.2.sub b) (fun h=>aL (by have q:=g.o.2.fr.size;have bi:=u.o.2.2.size;omega))⟩⟩;obtain⟨cq,⟨⟨cr,cs,cc⟩,_⟩,_⟩:=oi bg;obtain⟨_,_,_,_,cd,_⟩:=eI cc))
     clear cd g4 b6 b3 j g u x br W;cases hbw:(k.wa (s2,d.2)).2
     ·have ab:aA (if false=true then k.mu (k.wa (s2,d.2)).1.1<m/\k.c9 m (k.wa (s2,d.2)).1=f else(k.wa (s2,d.2)).1=f):=by
       have:=bb.o;rw[hbw] at this
       exact this
      go_wp2
      go_roundg m
      case measure=>have:=ap.o;omega
      exact⟨aB,(k.wa (s2,d.2)).1,false,rfl,am.o.1,am.o.2,ab,s.o.1⟩
     ·have ab:aA (if true=true then k.mu (k.wa (s2,d.2)).1.1<m/\k.c9 m (k.wa (s2,d.2)).1=f else(k.wa (s2,d.2)).1=f):=by have q:=bb.o;rw[hbw] at q;have bi:=s.o.2 hbw;have ch:=ao.o.2.2;exact⟨aa,q⟩
      go_wp2
      go_roundg m
      case measure=>have:=ap.o;omega
      exact⟨aB,(k.wa (s2,d.2)).1,true,rfl,am.o.1,am.o.2,ab,s.o.1⟩
    ·rw[hkv] at ag;have ab:aA (if true=true then k.mu (k.kv (k.eR d.1)).2<m/\k.c9 m ((k.kv (k.eR d.1)).2,d.2)=f else((k.kv (k.eR d.1)).2,d.2)=f):=by have q:=x.o;unfold cf.c9 at q;rw[hkv] at q;have bi:=ao.o.2.1 hkv;have ch:=ao.o.2.2;exact⟨aa,q⟩
     generalize k.eR d.1=s1 at*;generalize (k.kv s1).2=s2 at*;clear N;go_wp2;refine wp_region_noPanic ?_;refine wp_region_any ah ?_;refine ta (T:=fun _=>True) (S:=fun _=>True) (St:=[]) _ _ _ _ ?_;refine fV (i:=0) (v:=?_) rfl ah ah ah ah (fun _ _ _ h=>h) (aM ⟨af,?_⟩) trivial (aL trivial) ?_
     rotate_left
     ·intro w aF;go_simp
      try rfl
     try simp only [Act.put,List.getElem_toArray,List.getElem_cons_zero,List.setIfInBounds_toArray,List.set_cons_zero,List.set_cons_succ]
     refine x7 (i:=1) ah ?_;refine x6 rfl af ?_;simp only [List.getElem_toArray,List.getElem_cons_succ,List.getElem_cons_zero];go_simp;refine ag.mono ?_;rintro e l ⟨ar,rfl,o,ai⟩
     obtain⟨bd,hM,al⟩:=j.o.2.1 ar s2 l ⟨o,j.o.2.2⟩ (W.trans ai)
     have g:=c7 hM (j.o.1.trans al)
     clear o ai hM al;refine fV (i:=2) (v:=?_) rfl ah ah ah ah (fun _ _ _ h=>h) (aM ⟨af,?_⟩) trivial (aL trivial) ?_
     rotate_left
     ·intro w aF;go_simp
      try rfl
     refine fV (i:=3) (v:=undef) rfl ah ah ah ah (fun _ _ _ h=>h) (aL ⟨af,rfl⟩) trivial (aL trivial) ?_;refine fV (i:=4) (v:=undef) rfl ah ah ah ah (fun _ _ _ h=>h) (aL ⟨af,rfl⟩) trivial (aL trivial) ?_;refine fV (i:=5) (v:=undef) rfl ah ah ah ah (fun _ _ _ h=>h) (aL ⟨af,rfl⟩) trivial (aL trivial) ?_;refine fV (i:=6) (v:=undef) rfl ah ah ah ah (fun _ _ _ h=>h) (aL ⟨af,rfl⟩) trivial (aL trivial) ?_
     try simp only [Act.put,List.getElem_toArray,List.getElem_cons_succ,List.getElem_cons_zero,List.setIfInBounds_toArray,List.set_cons_zero,List.set_cons_succ]
     refine fV (i:=7) (v:=undef) rfl ah ah ah ah (fun _ _ _ h=>h) (aL ⟨af,rfl⟩) trivial (aL trivial) ?_;refine fV (i:=8) (v:=undef) rfl ah ah ah ah (fun _ _ _ h=>h) (aL ⟨af,rfl⟩) trivial (aL trivial) ?_
     try simp only [Act.put,List.getElem_toArray,List.getElem_cons_succ,List.getElem_cons_zero,List.setIfInBounds_toArray,List.set_cons_zero,List.set_cons_succ]
     refine fV (i:=9) (v:=undef) rfl ah ah ah ah (fun _ _ _ h=>h) (aL ⟨af,rfl⟩) trivial (aL trivial) ?_;refine fV (i:=10) (v:=undef) rfl ah ah ah ah (fun _ _ _ h=>h) (aL ⟨af,rfl⟩) trivial (aL trivial) ?_;refine fV (i:=11) (v:=undef) rfl ah ah ah ah (fun _ _ _ h=>h) (aL ⟨af,rfl⟩) trivial (aL trivial) ?_;refine fV (i:=12) (v:=?_) rfl ah ah ah ah (fun _ _ _ h=>h) (aM ⟨af,?_⟩) trivial (aL trivial) ?_
     rotate_left
     ·intro w aF;go_simp
      try rfl
     refine fV (i:=13) (v:=?_) rfl ah ah ah ah (fun _ _ _ h=>h) (aM ⟨af,?_⟩) trivial (aL trivial) ?_
     rotate_left
     ·intro w aF;go_simp
      try rfl
     refine x8 ah ?_ _;refine NoPanic.normal ?_;go_wp2
     go_roundg m
     case measure=>have:=ap.o;omega
     exact⟨bd,(s2,d.2),true,rfl,g.o.1,g.o.2,ab,hq⟩
theorem FH {j:Option Addr}{l m:Nat}(n:vr=.slice j l m){t:cy×List ce}(h:(df (dW c k) c.bs vr).J F t w)(hq:t.2.length<=90000)(x:Int):
 Calls prog 80 #[aq c.pk,ak x] w fun e w'=>∃b,e=.returned (.tuple #[])/\(df (dW c k) c.bs vr).J b (k.ke t x).2 w'/\cg F w b w':=by
 obtain⟨W,⟨o,d⟩,p⟩:=oi h;have f:=c7 p (d.ma x).1;have E:aA ((k.ke t x).2=k.sp (k.ma t.1 x,t.2)):=rfl;go_enter func80,ntmps80;go_wp2_with fail;refine(pn o d x).mono ?_;rintro e w1 ⟨q,rfl,s,u⟩
 obtain⟨ab,hM,v⟩:=f.o.1 q _ w1 ⟨s,f.o.2⟩ u;have g:=c7 hM v;go_wp2_with fail;refine(yN n g.o.1 hq).mono ?_;rintro e ad ⟨B,rfl,N,S⟩
 have i:=c7 N (g.o.2.trans S)
 go_wp2_with fail;go_end0;exact⟨B,rfl,i.o.1,i.o.2⟩
end
def cf.e_ (k:cf)(t:cy×List ce)(r:List ce):cy×List ce:=fE (dU cy) (fun s x=>k.al s.1 x) k.ke t r
def cf.sR (k:cf)(t:cy×List ce)(r:List ce):List ce:=eV (dU cy) (fun s x=>k.al s.1 x) k.ke (fun s x=>k.nw s.1 x) t r
def cf.jq (k:cf)(t:cy×List ce)(r:List ce):List ce:=eW (dU cy) (fun s x=>k.al s.1 x) k.ke (fun s x=>k.nw s.1 x) t r
theorem po (k:cf):∀(n:Nat)(t:cy×List ce),(k.c9 n t).2.length=t.2.length
 |0,t=>rfl
 |n+1,t=>by
  unfold cf.c9;split
  ·exact po k n ((k.kv _).2,t.2)
  ·split
   ·exact(po k n _).trans (o9 _ _ _ _)
   ·exact o9 _ _ _ _
theorem qM (k:cf)(t:cy×List ce)(x:Int):(k.ke t x).2.2.length=t.2.length:=po k _ _
section
variable {c:ft}{k:cf}{F:Nat->Prop}{s:cy}{w:az}{vr:Value}
theorem FI (bx f:Nat)(S:bx≠f){W:Option Addr}{ab ad:Nat}(ag:vr=.slice W ab ad):m3 (df (dl (dl (dW c k) f (jG (mf c))) bx (du c)) c.bs vr) (fun _=>True) (ir f).f (ir f).b (ir f).c k.ke:=by
 intro F t w x _ hn m;have hn:(k.ke t x).2.2.length<=90000:=hn;obtain⟨n,o,p⟩:=qB m;obtain⟨q,hy,s⟩:=qB n;rw[qM] at hn;have P:=FH ag q hn x;have c0:w.cell? (av f 0)=some (mf c).v:=aD hy
 have i:=iT o hy p s.1;have E:aA ((k.ke t x).1=x):=rfl;generalize (k.ke t x).1=an at E⊢;generalize (k.ke t x).2=ai at P⊢;clear m n q o hy p s hn;show Calls prog 155 #[ak x,aq f] w _;go_enter func155,ntmps155;go_wp2_with fail;refine P.mono ?_;clear P;rintro e w1 ⟨j,rfl,hM,g⟩
 have al:=lt_of_some i.o.1;have am:=lt_of_some i.o.2.1;have u:=(g.fr.block bx al (fun d=>d.1.2 rfl)).trans i.o.1;have v:=(g.fr.block f am (fun d=>d.2 rfl)).trans i.o.2.1;have B:¬j f:=fun d=>(g.sub f d).elim (fun d=>d.2 rfl) (fun d=>by omega)
 have N:¬(j bx\/bx=f):=fun d=>d.elim (fun d=>(g.sub bx d).elim (fun d=>d.1.2 rfl) (fun d=>by omega)) S;have l:aA ((df (dl (dl (dW c k) f (jG (mf c))) bx (du c)) c.bs vr).J (fun b=>(j b\/b=f)\/b=bx) ai w1/\Fr F w w1/\∀b,((j b\/b=f)\/b=bx)->F b\/w.heap.size<=b):=by
  refine⟨ks (ks hM v B) u N,g.fr.mono (fun b d=>d.1.1),fun b d=>?_⟩
  rcases d with(d|d)|d
  ·exact(g.sub b d).imp (fun d=>d.1.1) id
  ·exact aM (by rw[d];exact i.o.2.2.2)
  ·exact aM (by rw[d];exact i.o.2.2.1)
 clear hM g u v B N;go_wp2_with fail;go_ret;rw[E.o];exact⟨_,rfl,l.o.1,l.o.2.1,l.o.2.2⟩
theorem FJ (bx b:Nat)(f:bx≠b){g:Option Addr}{i j:Nat}(l:vr=.slice g i j):l6 (df (dl (dl (dW c k) b (jG (mf c))) bx (du c)) c.bs vr) (fun _=>True) (i7 bx) (ir b) (ju c) (fun s x=>k.al s.1 x) k.ke (fun s x=>k.nw s.1 x) where
 ea:=tJ
 fU:=tK
 en:=tL
 ha:=by
  rintro F s w x _ ⟨d,ad,cap,e,_⟩
  exact tO bx b (mf c) d s.1 w x trivial e
 hk:=FI bx b f l
 ht:=by
  rintro F s w x _ ⟨d,ad,cap,e,_⟩
  exact mc (mc tN) d s.1 w x trivial e
 hl:=fun s x=>qM k s x
theorem FK {o:Option Addr}{p:Nat}{r:List ce}(N:vr=.slice o r.length p){t:cy×List ce}(h:(df (dW c k) c.bs vr).J F t w)(hr:w.ownsRow 0 103 2 vr r.length (ev r))(hq:t.2.length+r.length<=90000)(bx f:Nat)(q:bx≠f)(S:w.heap[bx]?=some (du c))(hy:w.heap[f]?=some (jG (mf c)))(hn:¬F bx)(hm:¬F f):
 Calls prog 78 #[aq c.bs,.agg #[(i7 bx).v,(ir f).v,(ju c).v]] w fun e w'=>∃a1 c1 n,e=.returned (.tuple #[])/\(df (dW c k) c.bs (.slice a1 (k.sR t r).length c1)).J n ((k.e_ t r).1,k.jq t r) w'/\
  w'.ownsRow 0 103 2 (.slice a1 (k.sR t r).length c1) (k.sR t r).length (ev (k.sR t r))/\(∀b,some b=(Value.slice a1 (k.sR t r).length c1).ownBlock->¬n b/\w.heap.size<=b)/\Fr (fun b=>F b\/b=f\/b=bx) w w'/\(∀b,n b->F b\/w.heap.size<=b):=by
 subst N;refine(ql _ (fun _=>True) (i7 bx) (ir f) (ju c) _ _ _ (FJ bx f q rfl) r o p rfl aa (fun _ _=>⟨trivial,trivial⟩) _ t w (fun _ _=>⟨trivial,trivial⟩) hq (ks (ks h hy hm) S (fun d=>d.elim hn q)) (hZ hr)).mono ?_;rintro e w' ⟨a1,c1,a2,c2,W,aR,rfl,⟨s,ad,cap,⟨fD,⟨g,g1,aV,ab,u⟩,g2,g3,g4⟩,a0,a3,ag,ba,ai,bb,bd⟩,q3,al,i,j,l,am,an,ao,ap,ar⟩
 have i:w'.heap[c.bs]?=some (.cells #[.slice a1 (k.sR t r).length c1,.slice a2 (k.jq t r).length c2] 153 (0,0)):=i;have j:=j;have l:=l;have v:∀b,g b->s b:=fun b hb=>(g4 b).2 (aM ((u b).2 (aM hb)))
 have m:∀b,g b->W b:=fun b hb=>ag b (v b hb)
 have x:∀b,g b->b≠c.bs:=fun b hb e=>ai (by show s c.bs;rw[<-e];exact v b hb)
 have B:=(dW c k).keep (w':=w') g1 al (fun b hb=>q3 b (m b hb) (x b hb))
 have aB:F c.bs:=by obtain⟨_,_,_,_,_,_,_,aF,_⟩:=h;exact aF
 refine⟨a1,c1,fun b=>g b\/b=c.bs\/some b=(Value.slice a2 (k.jq t r).length c2).ownBlock,rfl,⟨g,a2,c2,B,i,e8 l (fun _ _=>a4 _),fun b hb=>aM hb,aL (aM rfl),fun d=>x _ d rfl,fun b e=>⟨aL (aL e),fun d=>ap b e (m b d)⟩,fun b hb=>?_⟩,e8 j (fun _ _=>a4 _),fun b e=>⟨fun d=>?_,(cu j b e).1⟩,am.mono (fun b d=>?_),fun b hb=>?_⟩
 ·rcases hb with hb|hb|hb
  ·exact(dW c k).lt B b hb
  ·rw[hb];exact lt_of_some i
  ·exact(cu l b hb).2
 ·rcases d with d|d|d
  ·exact ao b e (m b d)
  ·obtain⟨be,hc⟩:=fp j b e;rw[d,i] at hc;simp at hc
  ·exact ar b e d
 ·rcases d with(d|d)|d
  ·exact aM d
  ·exact aL (aM d)
  ·exact aL (aL d)
 ·rcases hb with hb|hb|hb
  ·rcases an b (m b hb) with((d|d)|d)|d
   ·exact aM d
   ·exact absurd hb (by rw[d];exact ab)
   ·exact absurd ((u b).2 (aM hb)) (by rw[d];exact g3)
   ·exact aL d
  ·exact aM (by rw[hb];exact aB)
  ·exact aL (cu l b hb).1
def cf.cO (k:cf)(s:cy):Nat->cy
 |0=>s
 |n+1=>k.ma (k.cO s n) (k.s.rs.getD n 0)
theorem dy.cO (h:c8 k s):∀n,dy k s (k.cO s n)
 |0=>dy.refl h
 |n+1=>(dy.cO h n).trans (dy.ma (dy.cO h n).ff _)
theorem FL (h:(eQ c k).J F s w)(g:c8 k s):
 Calls prog 76 #[aq c.pk] w fun e w'=>∃b,e=.returned (.tuple #[])/\(eQ c k).J b (k.cO s 12) w'/\cg F w b w':=by
 have m:=hide h;have n:=hide g;obtain⟨vt,o,h⟩:=h;obtain⟨_,c0,c3,_⟩:=gQ h;obtain⟨u,_⟩:=eI h;clear h g;go_enter func76,ntmps76;go_wp2_with fail
 go_loopw [12] (fun iv wr=>∃(j:Nat)(b:Nat->Prop),j<=12/\iv=ak j/\aA ((eQ c k).J b (k.cO s j) wr/\cg F w b wr)) (fun iv _=>12-(intOf iv).toNat)
 exact⟨0,F,a4 _,rfl,⟨m.o,cg.refl _ _⟩⟩
 ·
   obtain⟨j,b,v,rfl,d⟩:=hrel;by_cases p:j<12
   ·obtain⟨vt,o,i⟩:=d.o.1;obtain⟨_,_,_,rt⟩:=gQ i;have r1:=rt j p;have f:=pn d.o.1 (dy.cO n.o j).ff (k.s.rs.getD j 0)
    have l:aA (k.ma (k.cO s j) (k.s.rs.getD j 0)=k.cO s (j+1)):=rfl;rw[l.o] at f;generalize k.s.rs.getD j 0=x at r1 f;clear i rt l;go_wp2_with fail;refine f.mono ?_;rintro e B ⟨q,rfl,j2,t⟩
    go_wp2_with fail;go_roundw;exact⟨j+1,q,aa,aj,(c7 j2 (d.o.2.trans t))⟩
    simp[intOf];omega
   ·obtain rfl:j=12:=aa;go_wp2_with fail;go_end0;exact⟨b,rfl,d.o.1,d.o.2⟩
end
end Go.Proofs.YtpkjkjhanlbcoaaGreat
