import Derived.Test.YtpkjkjhanlbcoaaGreatJ13
namespace Go.Proofs.YtpkjkjhanlbcoaaGreat
set_option maxRecDepth 100000
set_option maxHeartbeats 2000000
open Tryz
open Go.RowKit W Kp ch
theorem ya {P:Prop}(h:P:=by
 have E2:=hide ((o2 a).trans hbt.symm)
 have E3:ay (bt=true->_=_):=fun e=>o3 a (by rw[hbt] at e;simpa using e)
 clear o2 o3 hbt iL HJ;go_wp2_with (at_lookup;refine wpList_lookup_own_ok_int _ rfl _ _ 127 rfl 3 3 .i64 iE underlying127 underlying3 (lC _) c.cr k.T.length D rfl o1 _ _ rfl yb ?_;intro z hat hwc;rw[E2.o];have E4:=hide (fun e=>by have:=hat.symm.trans (E3.o e);simpa using this);clear hat hwc)
 go_ret2;exact⟨z,rfl,E4.o,hb1⟩):P:=h
theorem qr {P:Prop}(h:P:=by go_ret;rw[E2.o.1,E2.o.2];exact⟨_,by simp[hll],⟨_,_,oX.o.1⟩,⟨oX.o.2,fun b hb=>hb.elim (yc.o b) (fun e=>aK (yd.o b e))⟩⟩):P:=h
theorem qs {P:Prop}(h:P:=by
 go_wp2_with fail;refine P.mono ?_;rintro e w1 ⟨v,rfl,hv,hb1⟩
 have hv:=hv trivial;subst hv;go_wp2;go_ret;exact⟨rfl,hb1⟩):P:=h
theorem ye {P:Prop}(h:P:=by
 go_wp2_with fail;refine P.mono ?_;rintro e w1 ⟨v,rfl,hv,hb1⟩
 have hv:=hv trivial;subst hv;go_wp2_with fail;refine(pN v w1).mono ?_;rintro e w2 ⟨rfl,hb2⟩
 go_wp2;go_ret;exact⟨rfl,hb1.trans (hb2.mono hb1.size)⟩):P:=h
theorem yf {P:Prop}(h:P:=by simp only [World.setCell,Array.getElem?_modify,if_true,((hb1 _ (lt_of_some h.cb) (by grind [cM.k1])).trans h.cb),Option.map_some];simp):P:=h
theorem yh {P:Prop}(h:P:=by
 go_wp2_with fail;refine P.mono ?_;rintro e w1 ⟨rfl,hb1⟩
 go_wp2_with fail;go_ret2;exact⟨0,rfl,fun h=>by simp at h,hb1⟩):P:=h
def Mp (w:aw)(cr:Nat)(T:List Int)(f:Int->Int):Prop:=
 ∃D:DataW Unit,w.ownsMap prog 3 (plainElem prog 3) cr T.length D/\(∀a:Int,Maps.has D (.int .i64 a)=T.contains a)/\∀a∈T,D.atKey (.int .i64 a) (.lit (.int .i64 0))=.lit (.int .i64 (f a))
theorem Mp.same {w w':aw}{cr:Nat}{T:List Int}{f:Int->Int}(h:Mp w cr T f)(e:w'.heap[cr]?=w.heap[cr]?):Mp w' cr T f:=by obtain⟨D,b,c,d⟩:=h;exact⟨D,r8 b e,c,d⟩
theorem Mp.lt {w:aw}{cr:Nat}{T:List Int}{f:Int->Int}(h:Mp w cr T f):cr<w.heap.size:=by obtain⟨D,b,_⟩:=h;exact b.lt
theorem Mp.put {w w':aw}{cr n:Nat}{T:List Int}{f:Int->Int}{a v:Int}{D:DataW Unit}(c:w.ownsMap prog 3 (plainElem prog 3) cr T.length D)(d:∀a:Int,Maps.has D (.int .i64 a)=T.contains a)(i:∀a∈T,D.atKey (.int .i64 a) (.lit (.int .i64 0))=.lit (.int .i64 (f a)))
 (ha:a∈T)(g:w'.ownsMap prog 3 (plainElem prog 3) cr n (D.put (.int .i64 a) (.lit (.int .i64 v)))):Mp w' cr T (gw f a v):=by
 have hs:Maps.size (D.put (.int .i64 a) (.lit (.int .i64 v)))<=T.length:=by rw[Maps.size_put (c.tidy iE),d,aJ (by grind)];exact c.size_le
 refine⟨_,(r9 g rfl).mono hs,fun b=>?_,fun b hb=>?_⟩
 ·by_cases e:b=a
  ·subst e;rw[Maps.has_put_same (k:=.int .i64 b) c.isMap trivial]
   grind
  grind [Maps.has_put_other]
 ·unfold gw;by_cases e:b=a
  ·subst e;rw[Maps.atKey_put_same (k:=.int .i64 b) c.isMap trivial,aJ rfl]
  grind [Maps.atKey_put_other]
theorem Mp.add {w w':aw}{cr n:Nat}{T:List Int}{a v:Int}{f:Int->Int}{D:DataW Unit}(c:w.ownsMap prog 3 (plainElem prog 3) cr T.length D)(j:∀a:Int,Maps.has D (.int .i64 a)=T.contains a)(l:∀a∈T,D.atKey (.int .i64 a) (.lit (.int .i64 0))=.lit (.int .i64 (f a)))
 (g:f a=v)(i:n=T.length+1)(d:w'.ownsMap prog 3 (plainElem prog 3) cr n (D.put (.int .i64 a) (.lit (.int .i64 v)))):Mp w' cr (T++[a]) f:=by
 refine⟨_,by rw[i] at d;simpa using d,fun b=>?_,fun b hb=>?_⟩
 ·by_cases e:b=a
  ·subst e;rw[Maps.has_put_same (k:=.int .i64 b) c.isMap trivial];simp
  grind [Maps.has_put_other]
 ·by_cases e:b=a
  ·subst e;rw[Maps.atKey_put_same (k:=.int .i64 b) c.isMap trivial,g]
  grind [Maps.atKey_put_other]
structure gm where
 pk:Nat
 cr:Nat
 pw:Nat
 p:Nat
 q:Nat
 pc:Nat
 cQ:Nat
 sd:Nat
 nb:Nat
 c:Int
 M:List Int
structure cM (c:gm)(k:cf)(own:Nat->Nat)(s:ck)(cE ct:Value)(w:aw):Prop where
 ar:At w c.p c.q k.N k.O k.y s.g s.ws
 a1:own c.p=1
 a2:own c.q=1
 cd:Cd w c.pc c.cQ k.N c.c c.M
 c1:own c.pc=2
 c2:own c.cQ=2
 wd:w.heap[c.pw]?=some (.cells #[am c.p,am c.pc,am c.sd,.slice (an c.nb) 12 12] 55 (0,0))
 w1:own c.pw=3
 rt:w.heap[c.nb]?=some (.cells (s.rs.map (Value.int .i64)).toArray 2 (0,0))
 rl:s.rs.length=12
 r1:own c.nb=4
 cb:w.heap[c.pk]?=some (.cells #[am c.pw,.map (some c.cr),ak s.nx,cE,ct] 167 (0,0))
 k1:own c.pk=5
 mp:Mp w c.cr k.T s.f
 m1:own c.cr=6
 wr:w.ownsRow 0 3 1 cE s.wk.length (s.wk.map (Value.int .i64))
 dD:∀b,some b=cE.ownBlock->own b=7
 er:w.ownsRow 0 3 1 ct s.ep.length (s.ep.map (Value.int .i64))
 eo:∀b,some b=ct.ownBlock->own b=8
 lt:∀b,own b≠0->b<w.heap.size
section
variable {c:gm}{k:cf}{own:Nat->Nat}{s:ck}{cE ct:Value}{w w':aw}
theorem cM.but (h:cM c k own s cE ct w)(L:Nat->Prop)(hs:w.heap.size<=w'.heap.size)(hk:∀b,b<w.heap.size->own b≠0->¬L (own b)->w'.heap[b]?=w.heap[b]?)
 (f:L 1->At w' c.p c.q k.N k.O k.y s.g s.ws)(g:L 4->w'.heap[c.nb]?=some (.cells (s.rs.map (Value.int .i64)).toArray 2 (0,0)))(i:L 5->w'.heap[c.pk]?=some (.cells #[am c.pw,.map (some c.cr),ak s.nx,cE,ct] 167 (0,0)))
 (hM:L 6->Mp w' c.cr k.T s.f)(j:L 7->w'.ownsRow 0 3 1 cE s.wk.length (s.wk.map (Value.int .i64)))(m:L 8->w'.ownsRow 0 3 1 ct s.ep.length (s.ep.map (Value.int .i64)))(d:¬L 2)(n:¬L 3):cM c k own s cE ct w' where
 ar:=by
  by_cases l:L 1
  ·grind
  ·exact h.ar.same (hk _ h.ar.eO (by grind [a1]) ((h.a1▸l))) (hk _ h.ar.eP (by grind [a2]) ((h.a2▸l)))
 a1:=h.a1
 a2:=h.a2
 cd:=h.cd.same (hk _ h.cd.eO (by grind [c1]) ((h.c1▸d))) (hk _ h.cd.eP (by grind [c2]) ((h.c2▸d)))
 c1:=h.c1
 c2:=h.c2
 wd:=(by grind [wd,w1])
 w1:=h.w1
 rt:=by grind [rt,r1]
 rl:=h.rl
 r1:=h.r1
 cb:=by grind [cb,k1]
 k1:=h.k1
 mp:=by
  by_cases l:L 6
  ·grind
  ·exact h.mp.same (hk _ h.mp.lt (by grind [m1]) ((h.m1▸l)))
 m1:=h.m1
 wr:=by
  by_cases l:L 7
  ·grind
  ·exact cy h.wr (fun b e=>hk b (cg h.wr b e).2 (by grind [dD]) ((h.dD b e▸l)))
 dD:=h.dD
 er:=by
  by_cases l:L 8
  ·grind
  ·exact cy h.er (fun b e=>hk b (cg h.er b e).2 (by grind [eo]) ((h.eo b e▸l)))
 eo:=h.eo
 lt:=fun b hb=>aO (h.lt b hb) hs
end
def cutV (c:gm)(k:cf)(cE e:Value):dS ck where
 J F s w:=∃own,cM c k own s cE e w/\∀b,F b↔own b≠0
 lt:=by rintro F s w ⟨own,h,d⟩ b hb;exact h.lt b ((d b).1 hb)
 keep:=by rintro F s w w' ⟨own,h,d⟩ hs hk;exact⟨own,h.but (fun _=>False) hs (fun b _ hb _=>hk b ((d b).2 hb)) False.elim False.elim False.elim False.elim False.elim False.elim id id,d⟩
def ef (c:gm)(k:cf):dS ck where
 J F s w:=∃cE b,(cutV c k cE b).J F s w
 lt:=by
  rintro F s w ⟨cE,b,h⟩
  exact(cutV c k cE b).lt h
 keep:=by rintro F s w w' ⟨cE,b,h⟩ hs hk;exact⟨cE,b,(cutV c k cE b).keep h hs hk⟩
section
variable {c:gm}{k:cf}{cE ct:Value}{F:Nat->Prop}{s:ck}{w w':aw}
theorem iG (h:(cutV c k cE ct).J F s w):At w c.p c.q k.N k.O k.y s.g s.ws/\∀w' g ws,At w' c.p c.q k.N k.O k.y g ws->c_ c.p c.q w w'->(cutV c k cE ct).J F {s with g:=g,ws:=ws} w'/\ce F w F w':=by
 obtain⟨own,h,i⟩:=h;refine⟨h.ar,fun w' g ws ha d=>⟨⟨own,?_,i⟩,⟨⟨d.os,d.tape,d.output,d.size,fun b hb f=>(by grind [c_.block,cM.a1,cM.a2])⟩,fun _ h=>aL h⟩⟩⟩
 have hb:∀b,b<w.heap.size->own b≠0->¬own b=1->_=_:=fun b hb _ f=>d.block b hb (fun e=>f ((e▸h.a1))) (fun e=>f ((e▸h.a2)))
 exact {
  ar:=ha,a1:=h.a1,a2:=h.a2,c1:=h.c1,c2:=h.c2,w1:=h.w1,rl:=h.rl,r1:=h.r1,k1:=h.k1,m1:=h.m1,dD:=h.dD,eo:=h.eo,lt:=fun b hb=>aO (h.lt b hb) d.size
  cd:=h.cd.same (hb _ h.cd.eO (by grind [cM.c1]) (by grind [cM.c1])) (hb _ h.cd.eP (by grind [cM.c2]) (by grind [cM.c2]))
  wd:=(by grind [cM.wd,cM.w1])
  rt:=(by grind [cM.rt,cM.r1])
  cb:=(by grind [cM.cb,cM.k1])
  mp:=h.mp.same (hb _ h.mp.lt (by grind [cM.m1]) (by grind [cM.m1]))
  wr:=cy h.wr (fun b e=>hb b (cg h.wr b e).2 (by grind [cM.dD]) (by grind [cM.dD]))
  er:=cy h.er (fun b e=>hb b (cg h.er b e).2 (by grind [cM.eo]) (by grind [cM.eo]))}
theorem yi (h:(cutV c k cE ct).J F s w):Mp w c.cr k.T s.f/\∀w' f,Mp w' c.cr k.T f->Fr (fun b=>b=c.cr) w w'->(cutV c k cE ct).J F {s with f:=f} w'/\ce F w F w':=by
 obtain⟨own,h,d⟩:=h;refine⟨h.mp,fun w' f hm fr=>⟨⟨own,?_,d⟩,⟨(by grind [Fr.mono,cM.m1]),fun _ h=>aL h⟩⟩⟩
 have hb:∀b,b<w.heap.size->own b≠6->_=_:=fun b hb g=>fr.block b hb (fun e=>g ((e▸h.m1)))
 exact {
  mp:=hm,a1:=h.a1,a2:=h.a2,c1:=h.c1,c2:=h.c2,w1:=h.w1,rl:=h.rl,r1:=h.r1,k1:=h.k1,m1:=h.m1,dD:=h.dD,eo:=h.eo,lt:=fun b hb=>aO (h.lt b hb) fr.size
  ar:=h.ar.same (hb _ h.ar.eO (by grind [cM.a1])) (hb _ h.ar.eP (by grind [cM.a2]))
  cd:=h.cd.same (hb _ h.cd.eO (by grind [cM.c1])) (hb _ h.cd.eP (by grind [cM.c2]))
  wd:=(by grind [cM.wd,cM.w1])
  rt:=(by grind [cM.rt,cM.r1])
  cb:=(by grind [cM.cb,cM.k1])
  wr:=cy h.wr (fun b e=>hb b (cg h.wr b e).2 (by grind [cM.dD]))
  er:=cy h.er (fun b e=>hb b (cg h.er b e).2 (by grind [cM.eo]))}
theorem EY (h:(cutV c k cE ct).J F s w)(i:Nat)(x:Int):(cutV c k cE ct).J F {s with rs:=s.rs.set i x} (w.setCell ⟨c.nb,i,none⟩ (.int .i64 x))/\ce F w F (w.setCell ⟨c.nb,i,none⟩ (.int .i64 x)):=by
 obtain⟨own,h,d⟩:=h;have fr:Fr (fun b=>b=c.nb) w (w.setCell ⟨c.nb,i,none⟩ (.int .i64 x)):=(by grind [Fr.set,Fr.refl])
 refine⟨⟨own,?_,d⟩,⟨(by grind [Fr.mono,cM.r1]),fun _ h=>aL h⟩⟩
 have hb:∀b,b<w.heap.size->own b≠4->_=_:=fun b hb f=>fr.block b hb (fun e=>f ((e▸h.r1)))
 exact {
  mp:=h.mp.same (hb _ h.mp.lt (by grind [cM.m1])),a1:=h.a1,a2:=h.a2,c1:=h.c1,c2:=h.c2,w1:=h.w1,r1:=h.r1,k1:=h.k1,m1:=h.m1,dD:=h.dD,eo:=h.eo,lt:=fun b hb=>aO (h.lt b hb) fr.size
  rl:=by grind [cM.rl]
  ar:=h.ar.same (hb _ h.ar.eO (by grind [cM.a1])) (hb _ h.ar.eP (by grind [cM.a2]))
  cd:=h.cd.same (hb _ h.cd.eO (by grind [cM.c1])) (hb _ h.cd.eP (by grind [cM.c2]))
  wd:=(by grind [cM.wd,cM.w1])
  rt:=by simp only [World.setCell,Array.getElem?_modify,if_true,h.rt,Option.map_some];simp[List.map_set]
  cb:=(by grind [cM.cb,cM.k1])
  wr:=cy h.wr (fun b e=>hb b (cg h.wr b e).2 (by grind [cM.dD]))
  er:=cy h.er (fun b e=>hb b (cg h.er b e).2 (by grind [cM.eo]))}
theorem eg (h:(cutV c k cE ct).J F s w):w.cell? (ao c.pk 0)=some (am c.pw)/\w.cell? (ao c.pk 1)=some (.map (some c.cr))/\w.cell? (ao c.pk 2)=some (ak s.nx)/\w.cell? (ao c.pk 3)=some cE/\w.cell? (ao c.pk 4)=some ct/\
 w.cell? (ao c.pw 0)=some (am c.p)/\w.cell? (ao c.pw 1)=some (am c.pc)/\w.cell? (ao c.pw 2)=some (am c.sd)/\w.cell? (ao c.pw 3)=some (.slice (an c.nb) 12 12)/\(∀o,w.frozen? (ao c.pk o)=false)/\
 w.ownsRow 0 3 1 cE s.wk.length (s.wk.map (Value.int .i64))/\w.ownsRow 0 3 1 ct s.ep.length (s.ep.map (Value.int .i64))/\Cd w c.pc c.cQ k.N c.c c.M/\c.pk<w.heap.size/\c.pw<w.heap.size:=by
 obtain⟨own,h,e⟩:=h;have b:=h.cb;have d:=h.wd;exact⟨by simp[World.cell?,b],by simp[World.cell?,b],by simp[World.cell?,b],by simp[World.cell?,b],by simp[World.cell?,b],by simp[World.cell?,d],by simp[World.cell?,d],by simp[World.cell?,d],by simp[World.cell?,d],fun o=>by simp[World.frozen?,b],h.wr,h.er,h.cd,lt_of_some b,lt_of_some d⟩
theorem yj (h:(cutV c k cE ct).J F s w):s.rs.length=12/\c.nb<w.heap.size/\∀i,i<12->w.cell? (ao c.nb i)=some (ak (s.rs.getD i 0))/\w.frozen? (ao c.nb i)=false:=by
 obtain⟨own,h,b⟩:=h;have hl:=h.rl;refine⟨hl,lt_of_some h.rt,fun i hi=>⟨?_,?_⟩⟩
 ·simp[World.cell?,h.rt,List.getElem?_map,List.getElem?_eq_getElem (show i<s.rs.length by omega),List.getD_eq_getElem?_getD]
 ·simp[World.frozen?,h.rt]
theorem EZ (h:(cutV c k cE ct).J F s w):c.pk≠c.cr/\c.pw≠c.cr:=by
 obtain⟨own,h,b⟩:=h
 grind [cM.k1,cM.m1,cM.w1]
theorem tk (h:(cutV c k cE ct).J F s w){v:Value}(d:w.cell? (ao c.pk 3)=some v\/w.cell? (ao c.pk 4)=some v):some c.pk≠v.ownBlock/\some c.pw≠v.ownBlock:=by
 obtain⟨own,h,g⟩:=h;have f:=h.cb;have hl:∀b,some b=v.ownBlock->own b=7\/own b=8:=fun b e=>by
  rcases d with d|d
  ·simp[World.cell?,f] at d
   grind [cM.dD]
  ·simp[World.cell?,f] at d
   grind [cM.eo]
 grind [cM.k1,cM.w1]
theorem E0 (h:(cutV c k cE ct).J F s w)(n:Int):(cutV c k cE ct).J F {s with nx:=n} (w.setCell ⟨c.pk,2,none⟩ (.int .i64 n))/\ce F w F (w.setCell ⟨c.pk,2,none⟩ (.int .i64 n)):=by
 obtain⟨own,h,d⟩:=h;have fr:Fr (fun b=>b=c.pk) w (w.setCell ⟨c.pk,2,none⟩ (.int .i64 n)):=(by grind [Fr.set,Fr.refl])
 refine⟨⟨own,?_,d⟩,⟨(by grind [Fr.mono,cM.k1]),fun _ h=>aL h⟩⟩
 have hb:∀b,b<w.heap.size->own b≠5->_=_:=fun b hb f=>fr.block b hb (fun e=>f ((e▸h.k1)))
 exact {
  mp:=h.mp.same (hb _ h.mp.lt (by grind [cM.m1])),a1:=h.a1,a2:=h.a2,c1:=h.c1,c2:=h.c2,w1:=h.w1,r1:=h.r1,k1:=h.k1,m1:=h.m1,dD:=h.dD,eo:=h.eo,lt:=fun b hb=>aO (h.lt b hb) fr.size
  rl:=h.rl
  ar:=h.ar.same (hb _ h.ar.eO (by grind [cM.a1])) (hb _ h.ar.eP (by grind [cM.a2]))
  cd:=h.cd.same (hb _ h.cd.eO (by grind [cM.c1])) (hb _ h.cd.eP (by grind [cM.c2]))
  wd:=(by grind [cM.wd,cM.w1])
  rt:=(by grind [cM.rt,cM.r1])
  cb:=by simp only [World.setCell,Array.getElem?_modify,if_true,h.cb,Option.map_some];simp
  wr:=cy h.wr (fun b e=>hb b (cg h.wr b e).2 (by grind [cM.dD]))
  er:=cy h.er (fun b e=>hb b (cg h.er b e).2 (by grind [cM.eo]))}
theorem E5 {v0:Value}(h:(cutV c k v0 ct).J F s w){v1:Value}{l:List Int}{w1:aw}(g:Fr (fun b=>some b=v0.ownBlock) w w1)(i:w1.ownsRow 0 3 1 v1 l.length (l.map (Value.int .i64)))(f:∀b,some b=v1.ownBlock->some b=v0.ownBlock\/¬F b):
 (cutV c k v1 ct).J (fun b=>F b\/some b=v1.ownBlock) {s with wk:=l} (w1.setCell ⟨c.pk,3,none⟩ v1)/\Fr F w (w1.setCell ⟨c.pk,3,none⟩ v1):=by
 obtain⟨own,h,m⟩:=h;have sz:(w1.setCell ⟨c.pk,3,none⟩ v1).heap.size=w1.heap.size:=by simp_all
 have hb1:∀b,b<w.heap.size->own b≠7->_=_:=fun b hb f=>g.block b hb (fun e=>f (h.dD b e))
 have hb:∀b,b<w.heap.size->own b≠7->own b≠5->(w1.setCell ⟨c.pk,3,none⟩ v1).heap[b]?=w.heap[b]?:=fun b hb n p=>(by grind [cM.k1,aP])
 have o:∀b,some b=v1.ownBlock->_:=fun b e=>(f b e).elim (fun e=>aL (h.dD b e)) (fun hl=>aK (Classical.byContradiction (fun c=>hl ((m b).2 c))))
 have d:∀b j,own b=j->j≠7->j≠0->(if some b=v1.ownBlock then 7 else own b)=j:=fun b j e n h0=>(aH (fun c=>by rcases o b c with c|c<;>omega)▸e)
 have q:=fun b e=>(cg i b e).2;refine⟨⟨fun b=>if some b=v1.ownBlock then 7 else own b,?_,fun b=>?_⟩,?_⟩
 ·exact {
   ar:=h.ar.same (hb _ h.ar.eO (by grind [cM.a1]) (by grind [cM.a1])) (hb _ h.ar.eP (by grind [cM.a2]) (by grind [cM.a2]))
   a1:=d _ _ h.a1 ae ae,a2:=d _ _ h.a2 ae ae,c1:=d _ _ h.c1 ae ae,c2:=d _ _ h.c2 ae ae,w1:=d _ _ h.w1 ae ae,r1:=d _ _ h.r1 ae ae,k1:=d _ _ h.k1 ae ae,m1:=d _ _ h.m1 ae ae
   rl:=h.rl
   cd:=h.cd.same (hb _ h.cd.eO (by grind [cM.c1]) (by grind [cM.c1])) (hb _ h.cd.eP (by grind [cM.c2]) (by grind [cM.c2]))
   wd:=(by grind [cM.wd,cM.w1])
   rt:=(hb _ (lt_of_some h.rt) (by rw[h.r1];decide) (by rw[h.r1];decide)).trans h.rt
   cb:=by exact yf
   mp:=h.mp.same (hb _ h.mp.lt (by grind [cM.m1]) (by grind [cM.m1]))
   wr:=(by grind [cy,cM.k1,aP])
   dD:=fun b e=>by grind
   er:=cy h.er (fun b e=>hb b (cg h.er b e).2 (by grind [cM.eo]) (by grind [cM.eo]))
   eo:=fun b e=>(by grind [cM.eo])
   lt:=fun b hb=>by grind [cM.lt,Fr.size,aO]}
 ·grind
 grind [Fr.mono,cM.dD,Fr.set,cM.k1]
theorem E6 {v0:Value}(h:(cutV c k v0 ct).J F s w){v1:Value}{l:List Int}{w1:aw}(f:Fr (fun b=>some b=v0.ownBlock) w w1)(g:w1.ownsRow 0 3 1 v1 l.length (l.map (Value.int .i64)))(i:∀b,some b=v1.ownBlock->some b=v0.ownBlock\/w.heap.size<=b):
 ∃d,(cutV c k v1 ct).J d {s with wk:=l} (w1.setCell ⟨c.pk,3,none⟩ v1)/\ce F w d (w1.setCell ⟨c.pk,3,none⟩ v1):=by
 obtain⟨j,m⟩:=E5 h f g (fun b e=>(i b e).imp id (fun n hb=>by have:=(cutV c k v0 ct).lt h b hb;omega))
 obtain⟨own,hm,o⟩:=h;exact⟨_,j,m,fun b hb=>(by grind [cM.dD])⟩
theorem yk {v0:Value}(h:(cutV c k cE v0).J F s w){v1:Value}{l:List Int}{w1:aw}(g:Fr (fun b=>some b=v0.ownBlock) w w1)(i:w1.ownsRow 0 3 1 v1 l.length (l.map (Value.int .i64)))(f:∀b,some b=v1.ownBlock->some b=v0.ownBlock\/¬F b):
 (cutV c k cE v1).J (fun b=>F b\/some b=v1.ownBlock) {s with ep:=l} (w1.setCell ⟨c.pk,4,none⟩ v1)/\Fr F w (w1.setCell ⟨c.pk,4,none⟩ v1):=by
 obtain⟨own,h,m⟩:=h;have sz:(w1.setCell ⟨c.pk,4,none⟩ v1).heap.size=w1.heap.size:=by simp_all
 have hb1:∀b,b<w.heap.size->own b≠8->_=_:=fun b hb f=>g.block b hb (fun e=>f (h.eo b e))
 have hb:∀b,b<w.heap.size->own b≠8->own b≠5->(w1.setCell ⟨c.pk,4,none⟩ v1).heap[b]?=w.heap[b]?:=fun b hb n p=>(by grind [cM.k1,aP])
 have o:∀b,some b=v1.ownBlock->_:=fun b e=>(f b e).elim (fun e=>aL (h.eo b e)) (fun hl=>aK (Classical.byContradiction (fun c=>hl ((m b).2 c))))
 have d:∀b j,own b=j->j≠8->j≠0->(if some b=v1.ownBlock then 8 else own b)=j:=fun b j e n h0=>(aH (fun c=>by rcases o b c with c|c<;>omega)▸e)
 have q:=fun b e=>(cg i b e).2;refine⟨⟨fun b=>if some b=v1.ownBlock then 8 else own b,?_,fun b=>?_⟩,?_⟩
 ·exact {
   ar:=h.ar.same (hb _ h.ar.eO (by grind [cM.a1]) (by grind [cM.a1])) (hb _ h.ar.eP (by grind [cM.a2]) (by grind [cM.a2]))
   a1:=d _ _ h.a1 ae ae,a2:=d _ _ h.a2 ae ae,c1:=d _ _ h.c1 ae ae,c2:=d _ _ h.c2 ae ae,w1:=d _ _ h.w1 ae ae,r1:=d _ _ h.r1 ae ae,k1:=d _ _ h.k1 ae ae,m1:=d _ _ h.m1 ae ae
   rl:=h.rl
   cd:=h.cd.same (hb _ h.cd.eO (by grind [cM.c1]) (by grind [cM.c1])) (hb _ h.cd.eP (by grind [cM.c2]) (by grind [cM.c2]))
   wd:=(by grind [cM.wd,cM.w1])
   rt:=(hb _ (lt_of_some h.rt) (by rw[h.r1];decide) (by rw[h.r1];decide)).trans h.rt
   cb:=by exact yf
   mp:=h.mp.same (hb _ h.mp.lt (by grind [cM.m1]) (by grind [cM.m1]))
   er:=(by grind [cy,cM.k1,aP])
   eo:=fun b e=>by grind
   wr:=cy h.wr (fun b e=>hb b (cg h.wr b e).2 (by grind [cM.dD]) (by grind [cM.dD]))
   dD:=fun b e=>(by grind [cM.dD])
   lt:=fun b hb=>by grind [cM.lt,Fr.size,aO]}
 ·grind
 grind [Fr.mono,cM.eo,Fr.set,cM.k1]
theorem E7 {v0:Value}(h:(cutV c k cE v0).J F s w){v1:Value}{l:List Int}{w1:aw}(f:Fr (fun b=>some b=v0.ownBlock) w w1)(g:w1.ownsRow 0 3 1 v1 l.length (l.map (Value.int .i64)))(i:∀b,some b=v1.ownBlock->some b=v0.ownBlock\/w.heap.size<=b):
 ∃d,(cutV c k cE v1).J d {s with ep:=l} (w1.setCell ⟨c.pk,4,none⟩ v1)/\ce F w d (w1.setCell ⟨c.pk,4,none⟩ v1):=by
 obtain⟨j,m⟩:=yk h f g (fun b e=>(i b e).imp id (fun n hb=>by have:=(cutV c k cE v0).lt h b hb;omega))
 obtain⟨own,hm,o⟩:=h;exact⟨_,j,m,fun b hb=>(by grind [cM.eo])⟩
end
theorem tm {x:Int}(h:c7 x=true):0<=cj x/\cj x<1152921504606846976:=by rw[lr x h];unfold c7 at h;simp at h;exact wD x h.2
section
variable {c:gm}{k:cf}{cE ct:Value}{F:Nat->Prop}{s:ck}{w:aw}
theorem yl (h:(cutV c k cE ct).J F s w)(x:Int):
 Calls prog 227 #[am c.pk,ak x] w fun e w'=>∃v,e=.returned (.tuple #[ak v,.bool (k.cL x)])/\(k.cL x=true->v=s.f (cj x))/\Below w.heap.size w w':=by
 have HJ:=hide h;have P:=m9 x w;cases ha:c7 x
 ·rw[ha] at P;have b:k.cL x=false:=by unfold cf.cL;rw[ha];rfl
  rw[b];go_enter func227,ntmps227;exact yh
 ·have b:k.cL x=k.T.contains (cj x):=by unfold cf.cL;rw[ha];rfl
  have d:=tm ha;rw[b];rw[ha] at P;generalize cj x=a at P d⊢;have yb:=i1 d.1 d.2;obtain⟨bt,hbt⟩:∃bt,bt=k.T.contains a:=⟨_,rfl⟩
  rw[<-hbt];go_enter func227,ntmps227;go_wp2_with fail;refine P.mono ?_;clear P;rintro e w1 ⟨rfl,hb1⟩
  have iL:=(cutV c k cE ct).below HJ.o hb1;obtain⟨c0,c1,_⟩:=eg iL;obtain⟨⟨D,o1,o2,o3⟩,_⟩:=yi iL;exact ya
theorem nL (h:(cutV c k cE ct).J F s w)(x:Int):
 Calls prog 189 #[am c.pk,ak x] w fun e w'=>e=.returned (.bool (k.ls s x))/\Below w.heap.size w w':=by
 have P:=yl h x;cases hy:k.cL x
 ·have b:k.ls s x=false:=by unfold cf.ls;rw[hy];rfl
  rw[b];rw[hy] at P;go_enter func189,ntmps189;go_wp2_with fail;refine P.mono ?_;rintro e w1 ⟨v,rfl,_,hb1⟩
  go_wp2;go_ret;exact⟨rfl,hb1⟩
 ·have b:k.ls s x=(s.f (cj x)==-1):=by unfold cf.ls;rw[hy];rfl
  rw[b];rw[hy] at P;go_enter func189,ntmps189;exact qs
theorem qt (h:(cutV c k cE ct).J F s w)(x:Int):
 Calls prog 190 #[am c.pk,ak x] w fun e w'=>e=.returned (ak (k.nw s x))/\Below w.heap.size w w':=by
 have P:=yl h x;cases hy:k.cL x
 ·have b:k.nw s x=x:=by unfold cf.nw;rw[hy];simp
  rw[b];rw[hy] at P;go_enter func190,ntmps190;go_wp2_with fail;refine P.mono ?_;rintro e w1 ⟨v,rfl,_,hb1⟩
  exact lz
 ·rw[hy] at P;by_cases d:s.f (cj x)=-1
  ·have b:k.nw s x=x:=by unfold cf.nw;rw[hy,d];simp
   rw[b];rw[d] at P;go_enter func190,ntmps190;exact qs
  ·have b:k.nw s x=ew 3 (s.f (cj x)):=by unfold cf.nw;rw[hy,aJ (by simp[d])]
   rw[b];generalize s.f (cj x)=a at P d⊢;go_enter func190,ntmps190;exact ye
theorem qu (h:(cutV c k cE ct).J F s w)(i:CI k s)(x:Int):
 Calls prog 182 #[am c.pk,ak x] w fun e w'=>e=.returned (ak (k.br s x).1)/\(cutV c k cE ct).J F (k.br s x).2 w'/\ce F w F w':=by
 have p:ay ((cutV c k cE ct).J F s w):=h;have P:=nL h x;clear h;cases hl:k.ls s x
 ·have m:k.br s x=(k.nw s x,s):=by unfold cf.br;rw[hl];rfl
  rw[m];rw[hl] at P;go_enter func182,ntmps182;go_wp2_with fail;refine P.mono ?_;clear P;rintro e w1 ⟨rfl,d⟩
  have S:=(cutV c k cE ct).below p.o d;have W:=qt S x;clear S;go_wp2_with fail;refine W.mono ?_;rintro e n ⟨rfl,j⟩
  have hb:=d.trans (j.mono d.size)
  clear W d j;go_wp2_with fail;go_ret;exact⟨rfl,(cutV c k cE ct).below p.o hb,ce.of hb⟩
 ·have m:k.br s x=(k.nw (k.cp s (cj x)) x,k.cp s (cj x)):=by unfold cf.br;rw[aJ hl]
  rw[m];obtain⟨l1,l2,be⟩:=cf.mL hl;have ab:=tm l1;have q:=m9 x;rw[hl] at P;rw[l1] at q;have ad:=i1 ab.1 ab.2;have E:ay (k.cp s (cj x)={s with g:=js k.N k.O k.y s.g s.ws (cj x),ws:=ju k.N k.O k.y s.g s.ws (cj x),f:=gw s.f (cj x) (mf k.N k.O k.y s.g s.ws (cj x))}):=rfl;have n1:=i.hN';have br:=i.hO;have bs:=i.hg;have bt:=i.tl;have ag:(Lit.int .i64 (mf k.N k.O k.y s.g s.ws (cj x))).wf=true:=by
   unfold mf;split
   ·exact WalkArith.wf_i64 ⟨aa,aa⟩
   ·decide
  have ai:=mo _ ag;generalize k.cp s (cj x)=s2 at E⊢;clear i m hl l1 be ag;generalize cj x=a at*;go_enter func182,ntmps182;go_wp2_with fail;refine P.mono ?_;clear P;rintro e w1 ⟨rfl,d⟩
  go_wp2_with fail;refine(q w1).mono ?_;rintro e n ⟨rfl,j⟩
  have hb:=d.trans (j.mono d.size)
  have u:=(cutV c k cE ct).below p.o hb;obtain⟨c0,c1,_,_,_,c5,_⟩:=eg u;have al:=(cutV c k cE ct).below u (aE _ n).drew;obtain⟨bg,ap⟩:=iG al;have v:ay (_/\_):=⟨hb,ap⟩
  have C:=v5 a n.drew bg;clear d j hb q ap al u;go_wp2_with fail
  go_region_held3 (fun w'=>w'.cell? (ao c.pk 0)=some (am c.pw)/\w'.cell? (ao c.pk 1)=some (.map (some c.cr))/\w'.cell? (ao c.pw 0)=some (am c.p)) (go_keep)
   (first
     |(go_at_call 165;refine C.mono ?_;clear C;rintro e w3 ⟨rfl,ar,ax⟩;obtain⟨o,aB⟩:=v.o.2 w3 _ _ ar ax;obtain⟨aF,aR,_,_,_,aT,_⟩:=eg o;obtain⟨n4,bi⟩:=EZ o;obtain⟨⟨D,o1,a0,a1⟩,hM⟩:=yi o;obtain⟨B,bl,a2,l⟩:=o1.update (t:=127) (e:=3) iE underlying127 (by unfold maxLen;omega) ad ai;have bn:=l.cell aF (by simpa using n4);have bo:=l.cell aR (by simpa using n4);have bp:=l.cell aT (by simpa using bi);obtain⟨a3,bb⟩:=hM B _ (Mp.put o1 a0 a1 l2 a2) ((Fr.refl _ w3).grown l (fun b e=>aL (by cases e;rfl)));have N:ay ((cutV c k cE ct).J F s2 B/\ce F w F B):=⟨(by rw[E.o];exact a3),(((ce.of v.o.1).below (aE _ n).drew).trans aB).trans bb⟩;clear ar ax o aB o1 a0 a1 hM a2 l a3 bb))
  clear bn bo bp aF aR aT bl c0 c1 c5 E ai ad v;go_wp2_with fail;refine(qt N.o.1 x).mono ?_;rintro e bx ⟨rfl,bd⟩
  go_wp2_with fail;go_ret;exact⟨rfl,(cutV c k cE ct).below N.o.1 bd,N.o.2.below bd⟩
theorem qv (h:(cutV c k cE ct).J F s w)(m:CI k s)(a:Int):
 Calls prog 226 #[am c.pk,ak a] w fun e w'=>e=.returned (.tuple #[])/\(cutV c k cE ct).J F (k.kf s a) w'/\ce F w F w':=by
 have d:=(cutV c k cE ct).below h (aE _ w).drew;obtain⟨c0,_,_,_,_,c5,_⟩:=eg h;obtain⟨n,_⟩:=iG d;have L:=jr a w.drew n;have ad:ay (CI k s):=m;have o:ay ((cutV c k cE ct).J F s w.drew):=d;have E:ay (k.kf s a=k.st (k.br s (k.ld s a)).2 a (k.br s (k.ld s a)).1):=rfl;have p:ld k.N k.y s.g s.ws a=k.ld s a:=rfl;rw[p] at L;generalize k.kf s a=s2 at E⊢;generalize k.ld s a=x at E L;clear h m d n p;go_enter func226,ntmps226
 go_region_held3 (fun w'=>w'.cell? (ao c.pk 0)=some (am c.pw)/\w'.cell? (ao c.pw 0)=some (am c.p)) (go_keep)
  (first
    |(go_at_call 98;refine L.mono ?_;clear L;rintro e w3 ⟨rfl,q⟩;have f:=(cutV c k cE ct).below o.o q;obtain⟨t,_,_,_,_,u,_⟩:=eg f;have v:ay ((cutV c k cE ct).J F s w3/\ce F w F w3):=⟨f,(ce.of (aE _ w).drew).below q⟩;clear f o)
    |(go_at_call 182;refine(qu v.o.1 ad.o x).mono ?_;rintro e ag ⟨rfl,g,B⟩;obtain⟨t,_,_,_,_,u,_⟩:=eg g;obtain⟨N,b⟩:=iG g;have i:ay (_/\_/\_):=⟨v.o.2.trans B,N,b⟩;clear g B N b)
    |(go_at_call 93;refine(ki a (k.br s x).1 ag i.o.2.1).mono ?_;rintro e j ⟨rfl,b,S⟩;obtain⟨l,W⟩:=i.o.2.2 j _ _ b S;obtain⟨t,_,_,_,_,u,_⟩:=eg l;have ab:ay ((cutV c k cE ct).J F s2 j/\ce F w F j):=⟨(by rw[E.o];exact l),i.o.1.trans W⟩;clear b S l W))
 go_wp2_with fail;go_end0;exact⟨rfl,ab.o.1,ab.o.2⟩
end
section
variable {c:gm}{k:cf}{F:Nat->Prop}{s:ck}{w:aw}
theorem E8 {a:Int}(h:pk (k.ld s a)=1\/pk (k.ld s a)=2):k.lk s a=k.f9 s a (pf (k.ld s a)).toNat:=by unfold cf.lk;rw[aJ h]
theorem E9 {a:Int}(h:pk (k.ld s a)=3):k.lk s a=k.kf {s with wk:=s.wk++[a]} (a+2):=by unfold cf.lk;rw[aH aa,aJ h]
theorem E_ {a:Int}(h:pk (k.ld s a)=4):k.lk s a={s with ep:=s.ep++[a]}:=by unfold cf.lk;rw[aH aa,aH aa,aJ h]
theorem Fa {a:Int}(d:pk (k.ld s a)≠1)(e:pk (k.ld s a)≠2)(b:pk (k.ld s a)≠3)(c:pk (k.ld s a)≠4):k.lk s a=s:=by unfold cf.lk;rw[aH aa,aH b,aH c]
theorem ym (h:(ef c k).J F s w)(p:CI k s)(a:Int)(a0:(k.N:Int)<=a)(a1:a<=2000)(hk:pk (k.ld s a)=1\/pk (k.ld s a)=2):
 Calls prog 185 #[am c.pk,ak a] w fun e w'=>∃f,e=.returned (ak (1+pf (k.ld s a)))/\(ef c k).J f (k.lk s a) w'/\ce F w f w':=by
 rw[E8 hk];obtain⟨cE,b,h⟩:=h;obtain⟨c0,_,_,_,_,c5,_⟩:=eg h;obtain⟨t,_⟩:=iG h;have L:=f6 a w t;have u:ld k.N k.y s.g s.ws a=k.ld s a:=rfl;rw[u] at L;have hp:=dp (k.ld s a)
 have v:=hide p;have d:ay ((cutV c k cE b).J F s w):=h;generalize pf (k.ld s a)=n at L hp⊢;obtain⟨m,rfl⟩:∃m:Nat,n=m:=⟨n.toNat,aa⟩
 rw[Int.toNat_natCast];generalize pc (k.ld s a)=q at L;rcases hk with hk|hk
 all_goals
  rw[hk] at L;go_enter func185,ntmps185;go_wp2_with fail;refine L.mono ?_;rintro e w1 ⟨rfl,g⟩
  have x:=(cutV c k cE b).below d.o g;have B:ce F w F w1:=ce.of g;go_wp2_with fail
  go_loopw [27] (fun iv wr=>∃(j:Nat),j<=m/\iv=ak j/\(cutV c k cE b).J F (k.f9 s a j) wr/\ce F w F wr) (fun iv _=>m-(intOf iv).toNat)
  exact⟨0,aX _,rfl,x,B⟩
  ·
    obtain⟨j,W,rfl,i,l⟩:=hrel;by_cases ab:j<m
    ·have d:=dq i l;go_wp2_with fail;refine(qv d.o.1 (v.o.f9 a0 j).1 (a+1+j)).mono ?_;rintro e ad ⟨rfl,N,S⟩
     have o:=dq N (d.o.2.trans S)
     go_wp2_with fail;go_roundw;exact⟨j+1,aa,aj,o.o.1,o.o.2⟩
     simp[intOf];omega
    ·obtain rfl:j=m:=aa;go_wp2_with fail;go_ret;exact⟨F,rfl,⟨cE,b,i⟩,l⟩
theorem Fc (h:(ef c k).J F s w)(a:Int)(g:pk (k.ld s a)≠1)(i:pk (k.ld s a)≠2)(j:pk (k.ld s a)≠3)(l:pk (k.ld s a)≠4):
 Calls prog 185 #[am c.pk,ak a] w fun e w'=>∃b,e=.returned (ak (1+pf (k.ld s a)))/\(ef c k).J b (k.lk s a) w'/\ce F w b w':=by
 rw[Fa g i j l];obtain⟨cE,d,h⟩:=h;obtain⟨c0,_,_,_,_,c5,_⟩:=eg h;obtain⟨m,_⟩:=iG h;have L:=f6 a w m;have n:ld k.N k.y s.g s.ws a=k.ld s a:=rfl;rw[n] at L;have hp:=dp (k.ld s a)
 go_enter func185,ntmps185;go_wp2_with fail;refine L.mono ?_;rintro e w1 ⟨rfl,f⟩
 go_wp2;go_ret;exact⟨F,rfl,⟨cE,d,(cutV c k cE d).below (hide h).o f⟩,ce.of f⟩
theorem Fe (h:(ef c k).J F s w)(a:Int)(a3:s.ep.length<=10000)(i:pk (k.ld s a)=4):
 Calls prog 185 #[am c.pk,ak a] w fun e w'=>∃d,e=.returned (ak (1+pf (k.ld s a)))/\(ef c k).J d (k.lk s a) w'/\ce F w d w':=by
 rw[E_ i];obtain⟨ab,hi,ad,ag,ai⟩:=info_parts jQ;obtain⟨cE,m,h⟩:=h;obtain⟨c0,_,_,_,_,c5,_⟩:=eg h;obtain⟨al,_⟩:=iG h;have L:=f6 a w al;have ap:ld k.N k.y s.g s.ws a=k.ld s a:=rfl;rw[ap] at L;have hp:=dp (k.ld s a)
 have ar:ay ((cutV c k cE m).J F s w):=h;rw[i] at L;generalize pf (k.ld s a)=n at L hp⊢;generalize pc (k.ld s a)=q at L;go_enter func185,ntmps185;go_wp2_with fail;refine L.mono ?_;rintro e w1 ⟨rfl,o⟩
 have g:=(cutV c k cE m).below ar.o o;obtain⟨bb,_,_,bd,p,be,_,_,_,ax,_,er,_,lk,_⟩:=eg g;obtain⟨aB,_⟩:=tk g (aK p)
 obtain⟨t,v,rfl⟩:=dU er;have aF:=ax 4;have x:ay ((cutV c k cE (.slice t s.ep.length v)).J F s w1/\ce F w F w1):=⟨g,ce.of o⟩
 go_wp2_with (at_builtin;refine wpList_append_own_at _ rfl _ _ 74 rfl 0 3 ab (ak 0) 1 8 underlying74 hi ad ag ai rfl ae (.slice t s.ep.length v) s.ep.length (s.ep.map (Value.int .i64)) rfl (gb er _) ⟨w1.heap.size,0,none⟩ 1 1 [ak a] rfl rfl ?_ ?_ ?_ ?_ ?_ ?_;(intro j u f;match j,f with|0,f=>(simp at f;subst f;simp[Addr.add]));(intro u B;simp at B;subst B;rfl);(unfold maxLen;omega);(first|omega|simp);(first|omega|(simp;done)|(simp;omega));intro bg bi N S _ aR;obtain⟨b4,aT,aV⟩:=d4 N (Nat.succ_pos _);subst aV;have W:=(S.block c.pk (by simp;omega) aB).trans (a4 _ _ _ lk);have bl:=(aW (a:=⟨c.pk,4,none⟩) W).trans p;have bn:=(World.frozen?_of_block (a:=⟨c.pk,4,none⟩) W).trans aF)
 go_ret;obtain⟨d,a0,a1⟩:=E7 x.o.1 (((Fr.refl _ w1).alloc _).grown S (fun b e=>aL e.symm)) (v1:=.slice (an b4) (s.ep.length+1) aT) (l:=s.ep++[a]) (by simpa using N) (fun b e=>by
  have a2:=aR.imp id (fun e=>by simpa[Value.ownBlock] using e)
  simp[Value.ownBlock] at e;subst e;exact a2.imp id (fun e=>by omega))
 exact⟨d,rfl,⟨_,_,a0⟩,x.o.2.trans a1⟩
theorem Ff (h:(ef c k).J F s w)(ag:CI k s)(a:Int)(a0:(k.N:Int)<=a)(a1:a<=2000)(bo:s.wk.length<=10000)(m:pk (k.ld s a)=3):
 Calls prog 185 #[am c.pk,ak a] w fun e w'=>∃d,e=.returned (ak (1+pf (k.ld s a)))/\(ef c k).J d (k.lk s a) w'/\ce F w d w':=by
 rw[E9 m];obtain⟨ai,hi,al,ap,ar⟩:=info_parts jQ;obtain⟨cE,g,h⟩:=h;obtain⟨c0,_,_,_,_,c5,_⟩:=eg h;obtain⟨ax,_⟩:=iG h;have L:=f6 a w ax;have aB:ld k.N k.y s.g s.ws a=k.ld s a:=rfl;rw[aB] at L;have hp:=dp (k.ld s a)
 have aF:ay ((cutV c k cE g).J F s w):=h;have aR:ay (CI k {s with wk:=s.wk++[a]}):=ag.x_ a0 a1;rw[m] at L;generalize pf (k.ld s a)=n at L hp⊢;generalize pc (k.ld s a)=q at L;go_enter func185,ntmps185;go_wp2_with fail;refine L.mono ?_;rintro e w1 ⟨rfl,o⟩
 have i:=(cutV c k cE g).below aF.o o;obtain⟨bp,_,_,p,br,bs,_,_,_,aT,er,_,_,lk,_⟩:=eg i;obtain⟨aV,_⟩:=tk i (aL p)
 obtain⟨t,v,rfl⟩:=dU er;have a2:=aT 3;have x:ay ((cutV c k (.slice t s.wk.length v) g).J F s w1/\ce F w F w1):=⟨i,ce.of o⟩
 go_wp2_with (at_builtin;refine wpList_append_own_at _ rfl _ _ 74 rfl 0 3 ai (ak 0) 1 8 underlying74 hi al ap ar rfl ae (.slice t s.wk.length v) s.wk.length (s.wk.map (Value.int .i64)) rfl (gb er _) ⟨w1.heap.size,0,none⟩ 1 1 [ak a] rfl rfl ?_ ?_ ?_ ?_ ?_ ?_;(intro j u f;match j,f with|0,f=>(simp at f;subst f;simp[Addr.add]));(intro u B;simp at B;subst B;rfl);(unfold maxLen;omega);(first|omega|simp);(first|omega|(simp;done)|(simp;omega));intro bt bx N S _ a3;obtain⟨b4,bb,bd⟩:=d4 N (Nat.succ_pos _);subst bd;have W:=(S.block c.pk (by simp;omega) aV).trans (a4 _ _ _ lk);have b0:=(aW (a:=⟨c.pk,3,none⟩) W).trans p;have b1:=(World.frozen?_of_block (a:=⟨c.pk,3,none⟩) W).trans a2)
 obtain⟨d,be,bg⟩:=E6 x.o.1 (((Fr.refl _ w1).alloc _).grown S (fun b e=>aL e.symm)) (v1:=.slice (an b4) (s.wk.length+1) bb) (l:=s.wk++[a]) (by simpa using N) (fun b e=>by
  have bi:=a3.imp id (fun e=>by simpa[Value.ownBlock] using e)
  simp[Value.ownBlock] at e;subst e;exact bi.imp id (fun e=>by omega))
 have ab:=dq be (x.o.2.trans bg)
 refine(qv ab.o.1 aR.o (a+2)).mono ?_;rintro e b2 ⟨rfl,bl,bn⟩
 have ad:=dq bl (ab.o.2.trans bn)
 go_wp2_with fail;go_ret;exact⟨d,rfl,⟨_,_,ad.o.1⟩,ad.o.2⟩
theorem yn (h:(ef c k).J F s w)(b:CI k s)(a:Int)(a0:(k.N:Int)<=a)(a1:a<=2000)(l:s.wk.length<=10000)(m:s.ep.length<=10000):
 Calls prog 185 #[am c.pk,ak a] w fun e w'=>∃d,e=.returned (ak (1+pf (k.ld s a)))/\(ef c k).J d (k.lk s a) w'/\ce F w d w':=by
 by_cases f:pk (k.ld s a)=1
 ·exact ym h b a a0 a1 (aL f)
 by_cases g:pk (k.ld s a)=2
 ·exact ym h b a a0 a1 (aK g)
 by_cases i:pk (k.ld s a)=3
 ·exact Ff h b a a0 a1 l i
 by_cases j:pk (k.ld s a)=4
 ·exact Fe h a m j
 exact Fc h a f g i j
def qw (w:aw)(p:Nat):Int:=match w.cell? (ao p 2) with
 |some (.int _ v)=>v
 |_=>0
theorem tp {p:Nat}{v:Int}(h:w.cell? (ao p 2)=some (ak v)):qw w p=v:=by unfold qw;rw[h]
theorem Fg (h:(ef c k).J F s w)(d:CI k s)(hB:ez k s):
 Calls prog 186 #[am c.pk] w fun e w'=>∃v,e=.returned (.tuple #[])/\(ef c k).J v (k.lb (k.O+1) s) w'/\ce F w v w':=by
 have ap:ay (CI k s/\ez k s):=⟨d,hB⟩
 have n0:=d.hO;have n1:=d.hN';have bg:=d.g7;clear d hB;go_enter func186,ntmps186;go_wp2_with fail
 go_loopw [] (fun wr=>∃(n:Nat)(f:Nat->Prop)(s1:ck),(ef c k).J f s1 wr/\ay (CI k s1/\ez k s1)/\ce F w f wr/\ay (k.lb n s1=k.lb (k.O+1) s)/\(k.N:Int)+k.O-s1.nx<n) (fun wr=>(2000-qw wr c.pk).toNat)
 case atStart=>exact⟨k.O+1,F,s,h,ap,ce.refl _ _,rfl,aa⟩
 case round=>
  obtain⟨n,f,s1,⟨cE,i,j⟩,b,x,l,bi⟩:=hrel;obtain⟨c0,_,c2,_,_,c5,_,_,_,B,_⟩:=eg j;have ar:=tp c2;have ax:=B 2;obtain⟨N,_⟩:=iG ((cutV c k cE i).below j (aE _ wr).drew)
  have L:=l_ s1.nx wr.drew N;have o:ay (_/\_):=⟨j,x⟩
  clear j x N B;go_wp2_with fail
  go_region_held3 (fun w'=>w'.cell? (ao c.pk 0)=some (am c.pw)/\w'.cell? (ao c.pk 2)=some (ak s1.nx)/\w'.cell? (ao c.pw 0)=some (am c.p)) (go_keep)
   (first
     |(go_at_call 96;refine L.mono ?_;clear L;rintro e w3 ⟨rfl,S⟩;have p:=(cutV c k cE i).below ((cutV c k cE i).below o.o.1 (aE _ wr).drew) S;obtain⟨aB,_,aF,_,_,aR,_,_,_,W,_⟩:=eg p;have aT:=W 2;have g:ay ((ef c k).J f s1 w3/\_):=⟨⟨cE,i,p⟩,(o.o.2.below (aE _ wr).drew).below S⟩;clear p o W c0 c2 c5 ax))
  cases hb:hB k.N s1.g s1.nx
  ·go_wp2_with fail;go_end0;have e:k.lb n s1=s1:=by
    cases n with
    |zero=>rfl
    |succ n=>unfold cf.lb;rw[hb];rfl
   rw[<-l.o,e];exact⟨f,rfl,g.o.1,g.o.2⟩
  ·have b1:=jc hb;have b2:=b.o.1.hg;have b3:=b.o.1.g7;have b4:=b.o.2.wk;have b5:=b.o.2.ep;obtain⟨n,rfl⟩:∃m,n=m+1:=⟨n-1,aa⟩
   have hp:=dp (k.ld s1 s1.nx)
   have aV:ay (k.lb n {k.lk s1 s1.nx with nx:=s1.nx+(1+pf (k.ld s1 s1.nx))}=k.lb (k.O+1) s):=by
    have:=l.o;unfold cf.lb at this
    rw[aJ hb] at this
    exact this
   have a0:ay (_/\_):=⟨(b.o.1.kC hb).1,ez.kC b.o.1 hb b.o.2⟩
   have a1:=(b.o.1.lk (a:=s1.nx) b3 aa).2.nx;have L:=yn ((ef c k).below g.o.1 (aE _ w3).drew) b.o.1 s1.nx b3 aa aa aa;generalize pf (k.ld s1 s1.nx)=m at*;generalize k.lk s1 s1.nx=s2 at*;clear hb b4 b5 l;have bl:IntKind.i64.wrap (s1.nx+(1+m))=s1.nx+(1+m):=by rw[bw];omega
   go_wp2_with fail
   go_region_with (go_at_call 185;refine L.mono ?_;rintro e bn ⟨a2,rfl,⟨bo,bp,q⟩,ab⟩;obtain⟨a3,_,ad,_,_,bb,_,_,_,ag,_⟩:=eg q;rw[a1] at ad;have v2:=ag 2;have t:ay (_/\_):=⟨q,(g.o.2.below (aE _ w3).drew).trans ab⟩;clear q ab ag)
   all_goals
    obtain⟨u,ai⟩:=E0 t.o.1 (s1.nx+(1+m))
    obtain⟨_,_,bd,_⟩:=eg u;have be:=tp bd;have al:ay (_/\_):=⟨u,t.o.2.trans ai⟩
    clear u ai t a3 ad bb v2 L aB aF aR aT g;go_wp2_with fail;go_roundw
    case rel=>exact⟨n,a2,_,⟨_,_,al.o.1⟩,a0,al.o.2,aV,by show(k.N:Int)+k.O-(s1.nx+(1+m))<n;omega⟩
    case measure=>
     rw[be,ar];show(2000-(s1.nx+(1+m))).toNat<_;omega
end
section
variable {c:gm}{k:cf}{F:Nat->Prop}{s:ck}{w:aw}
theorem Fh (h:(ef c k).J F s w)(aR:CI k s)(hB:ez k s):
 Calls prog 187 #[am c.pk] w fun e w'=>∃bn,e=.returned (.bool (k.kv s).1)/\(ef c k).J bn (k.kv s).2 w'/\ce F w bn w':=by
 obtain⟨ch,hi,ci,cj,cl⟩:=info_parts jQ;obtain⟨cE,cu,h⟩:=h;obtain⟨c0,_,_,_,c4,c5,_,_,_,cv,_,er,_,lk,_⟩:=eg h;obtain⟨cw,_⟩:=tk h (aK c4)
 obtain⟨cm,m,rfl⟩:=dU er;have bo:=hide aR;have cx:=hide h;have cz:=hB.ep;have bp:=aR.hL;have br:=hide bp;have bs:ay (k.kv s=(decide ((k.dT s s.ep).1.length<s.ep.length),{(k.dT s s.ep).2 with ep:=(k.dT s s.ep).1})):=rfl;have cA:(0:Int)<=k.N:=aa;clear aR hB bp;go_enter func187,ntmps187;go_wp2_with fail
 go_loopw [3,12] (fun vr iv wr=>∃(j:Nat)(R:List Int)(s1:ck)(ar:Option Addr)(d:Nat)(g:Nat->Prop),j<=s.ep.length/\iv=ak j/\ay (k.dT s (s.ep.take j)=(R,s1))/\vr=.slice ar R.length d/\wr.ownsRow w.heap.size 3 1 (.slice ar R.length d) R.length (R.map (Value.int .i64))/\(cutV c k cE (.slice cm s.ep.length m)).J g s1 wr/\ce F w g wr/\ay (∀b,some b=(Value.slice ar R.length d).ownBlock->¬g b)/\ay (CI k s1/\dZ k s s1)) (fun _ iv _=>s.ep.length-(intOf iv).toNat)
 exact⟨0,[],s,none,0,F,aX _,rfl,rfl,rfl,a6 _ _ _ _,h,ce.refl _ _,fun b e=>by simp[Value.ownBlock] at e,⟨bo.o,dZ.refl _ _⟩⟩
 ·
   obtain⟨j,R,s1,ar,d,g,B,rfl,N,rfl,i,p,n,S,W⟩:=hrel;obtain⟨bt,_,_,_,bx,b0,_,_,_,aT,_,ab,_,cB,_⟩:=eg p;have b1:=aT 4;have cn:=W.o.2.ep;rw[cn] at ab;have cC:R.length<=10000:=by have ad:=(bo.o.dT (s.ep.take j) (fun a ha=>(br.o a (List.mem_of_mem_take ha)).1)).2.2.1;rw[N.o] at ad;simp at ad;omega
   by_cases ap:j<s.ep.length
   ·obtain⟨q,t,co,cD,hc⟩:=gV ab aa;have aV:=hc j ap;subst co;have b2:s.ep.getD j 0∈s.ep:=by rw[aG,aI ap];exact a_ ap
    have cp:=br.o _ b2;have a0:ay (k.dT s (s.ep.take (j+1))=k.cS (R,s1) (s.ep.getD j 0)):=by
     show _=_;rw[fE s.ep j ap 0];unfold cf.dT;rw[List.foldl_append];have:=N.o;unfold cf.dT at this
     rw[this];rfl
    generalize s.ep.getD j 0=a at aV cp a0;obtain⟨b3,_⟩:=iG p;have L:=jr (a+1) wr b3;have b5:ld k.N k.y s1.g s1.ws (a+1)=k.ld s1 (a+1):=rfl;rw[b5] at L;have o:=dq p n;have cF:=n.fr.size;have cq:ay (∀b,some b=(Value.slice ar R.length d).ownBlock->b<wr.heap.size):=fun b e=>(cg i b e).2;clear hc b2 p n b3 b5 aT;cases hls:k.ls s1 (k.ld s1 (a+1))
    ·have a1:ay (k.dT s (s.ep.take (j+1))=(R,k.kf (k.kf s1 (a+1)) (a+2))):=by show _=_;rw[a0.o];unfold cf.cS;rw[hls];rfl
     generalize k.ld s1 (a+1)=x at L hls;go_wp2_with fail;refine L.mono ?_;clear L;rintro e w1 ⟨rfl,f⟩
     have P:=nL ((cutV c k cE (.slice (some ⟨q,t,none⟩) s.ep.length m)).below o.o.1 f) x;rw[hls] at P;clear aV bt b0 bx b1 ab;go_wp2_with fail;refine P.mono ?_;clear P;rintro e b6 ⟨rfl,ag⟩
     have hb:=f.trans (ag.mono f.size)
     clear f ag;go_wp2_with fail;refine(qv ((cutV c k cE (.slice (some ⟨q,t,none⟩) s.ep.length m)).below o.o.1 hb) W.o.1 (a+1)).mono ?_;rintro e w3 ⟨rfl,b7,b8⟩
     obtain⟨ai,al⟩:=W.o.1.kf (a:=a+1) aa;have v:=iZ b7 ((ce.of hb).trans b8) ai al;clear b7 b8 ai al hb;go_wp2_with fail;refine(qv v.o.1 v.o.2.2.1 (a+2)).mono ?_;rintro e a2 ⟨rfl,ax,aB⟩
     obtain⟨ai,al⟩:=v.o.2.2.1.kf (a:=a+2) aa;have a3:=v.o.2.1.trans aB;have aF:=iZ ax (o.o.2.trans a3) ai ((W.o.2.trans v.o.2.2.2).trans al)
     have bb:=gN i a3.fr (fun b e=>S.o b e)
     clear ax aB ai al a3 i v;go_wp2_with fail;go_roundw;exact⟨j+1,R,_,ar,d,g,aa,aj,a1,rfl,bb,aF.o.1,aF.o.2.1,S,⟨aF.o.2.2.1,aF.o.2.2.2⟩⟩
     simp[intOf];omega
    ·have a1:ay (k.dT s (s.ep.take (j+1))=(R++[a],s1)):=by show _=_;rw[a0.o];unfold cf.cS;rw[aJ hls]
     generalize k.ld s1 (a+1)=x at L hls;go_wp2_with fail;refine L.mono ?_;clear L;rintro e w1 ⟨rfl,f⟩
     have P:=nL ((cutV c k cE (.slice (some ⟨q,t,none⟩) s.ep.length m)).below o.o.1 f) x;rw[hls] at P;clear aV bt b0 bx b1 ab;go_wp2_with fail;refine P.mono ?_;clear P;rintro e b6 ⟨rfl,ag⟩
     have hb:=f.trans (ag.mono f.size)
     have bd:=cy i (fun b e=>hb.block b (cq.o b e))
     have cG:=hb.size;clear f ag;go_wp2_with (at_builtin;refine wpList_append_own_at _ rfl _ _ 74 rfl w.heap.size 3 ch (ak 0) 1 8 underlying74 hi ci cj cl rfl ae (.slice ar R.length d) R.length (R.map (Value.int .i64)) rfl (gb bd _) ⟨b6.heap.size,0,none⟩ 1 1 [ak a] rfl rfl ?_ ?_ ?_ ?_ ?_ ?_;(intro j u B;match j,B with|0,B=>(simp at B;subst B;simp[Addr.add]));(intro u b9;simp at b9;subst b9;rfl);(unfold maxLen;omega);omega;(simp;omega);intro cH a2 be bg _ ca;obtain⟨b4,bi,cr⟩:=d4 be (Nat.succ_pos _);subst cr)
     have bb:a2.ownsRow w.heap.size 3 1 (.slice (an b4) (R++[a]).length bi) (R++[a]).length ((R++[a]).map (Value.int .i64)):=by simpa using be
     have bl:=(cutV c k cE (.slice (some ⟨q,t,none⟩) s.ep.length m)).below o.o.1 hb;have ax:=pO (cutV c k cE (.slice (some ⟨q,t,none⟩) s.ep.length m)) bl bg (fun b e=>S.o b e)
     have aB:ce F w g a2:=⟨((o.o.2.below hb).fr.alloc _).grown bg (fun b e=>aK (cg bd b e.symm).1),o.o.2.sub⟩
     have cs:ay (∀b,some b=(Value.slice (an b4) (R++[a]).length bi).ownBlock->¬g b):=fun b e cb=>by
      have ct:=ca.imp id (fun e=>by simpa[Value.ownBlock] using e)
      simp[Value.ownBlock] at e;subst e;rcases ct with e|e
      ·exact S.o _ e cb
      ·have:=(cutV c k cE (.slice (some ⟨q,t,none⟩) s.ep.length m)).lt bl _ cb;omega
     clear bl be bg ca bd i hb;go_wp2_with fail;go_roundw;exact⟨j+1,R++[a],s1,an b4,bi,g,aa,aj,a1,ac,bb,ax,aB,cs,W⟩
     simp[intOf];omega
   ·obtain rfl:j=s.ep.length:=aa;rw[ba] at N;obtain⟨cc,cd⟩:=yk p (v1:=.slice ar R.length d) (l:=R) (Fr.refl _ wr) (ec i (fun _ _=>aX _)) (fun b e=>aK (S.o b e))
    have oX:=dq cc (n.fr.trans cd n.sub)
    have yd:ay (∀b,some b=(Value.slice ar R.length d).ownBlock->w.heap.size<=b):=fun b e=>(cg i b e).1;have yc:=hide n.sub;have E2:ay ((k.kv s).1=decide (R.length<s.ep.length)/\(k.kv s).2={s1 with ep:=R}):=by have ad:=bs.o;rw[N.o] at ad;rw[ad];exact⟨rfl,rfl⟩
    clear cc cd p n i ab N bs aT;by_cases hll:R.length<s.ep.length
    ·go_wp2_with fail;exact qr
    ·go_wp2_with fail;exact qr
end
theorem qx {w:aw}{base size n g b:Nat}{e:TypeId}{xs:List Value}(h:w.ownsRow base e size (.slice (an g) n b) n xs)(i:Nat)(u:Value):(w.setCell ⟨g,i,none⟩ u).ownsRow base e size (.slice (an g) n b) n (xs.set i u):=by
 refine⟨by rw[bf];exact h.1,?_⟩
 rcases h.2 with⟨c,_⟩|⟨m,o,d,c,hb,hg,f,j,k,l⟩
 ·simp at c
 ·obtain⟨rfl,rfl⟩:=c;refine aK ⟨g,b,d.setIfInBounds i u,rfl,hb,?_,f,j,by rw[Array.size_setIfInBounds];exact k,?_⟩
  ·simp only [World.setCell,Array.getElem?_modify,if_true,hg,Option.map_some];rfl
  ·rw[Array.toList_setIfInBounds,List.take_set,l]
theorem yp:∀(l:List b9)(i:Nat)(g z:Int),ev (l.set i (g,z))=((ev l).set (i*2) (ak g)).set (i*2+1) (ak z)
 |[],_,_,_=>rfl
 |e::l,0,g,z=>by simp[ev]
 |e::l,i+1,g,z=>by
  have b:ev (e::l)=ak e.1::ak e.2::ev l:=by simp[ev]
  have c:ev ((e::l).set (i+1) (g,z))=ak e.1::ak e.2::ev (l.set i (g,z)):=by simp[ev]
  rw[b,c,(yp l i g z),show(i+1)*2=i*2+1+1 by omega];simp
theorem yq {al:Type}(o:dS al)(p:Nat)(vr:Value):qq (de o p vr) where
 xY:=by
  rintro F s w ⟨N,ab,ad,S,c,j,l,d,m,n,t⟩ w1 q a1 c1 hb x;have d:F p:=d;have lp:=lt_of_some c;have f:∀k,k≠p->(w1.setCell ⟨p,1,none⟩ (.slice a1 q.length c1)).heap[k]?=w1.heap[k]?:=fun k hk=>aP _ _ _ _ hk;have hs:(w1.setCell ⟨p,1,none⟩ (.slice a1 q.length c1)).heap.size=w1.heap.size:=by simp[World.setCell]
  have aF:=hb.size;refine⟨N,a1,c1,o.keep (o.below S hb) (by show w1.heap.size<=(w1.setCell ⟨p,1,none⟩ _).heap.size;rw[hs];exact aD _) (fun k h=>f k (fun e=>m (by rw[<-e];exact h))),?_,ec (cy x (fun k e=>f k (by have:=(cg x k e).1;omega))) (fun _ _=>aX _),fun k h=>aL (l k h),aL d,m,fun k e=>?_,fun k h=>?_⟩
  ·have ap:=(hb.block p lp).trans c;show(w1.setCell ⟨p,1,none⟩ _).heap[p]?=_;simp only [World.setCell,Array.getElem?_modify,if_true,ap,Option.map_some];simp;rfl
  ·exact⟨aK e,fun h=>by have aR:=t k (l k h);have:=(cg x k e).1;omega⟩
  ·show k<(w1.setCell ⟨p,1,none⟩ _).heap.size;rw[hs];rcases h with h|h
   ·have:=t k h;omega
   ·exact(cg x k h).2
 xZ:=by
  rintro F s w ⟨N,ar,W,S,c,j,l,d,m,n,t⟩ ab ad hp i hi g z;have hp:w.heap[p]?=some (.cells #[vr,.slice ab s.2.length ad] 153 (0,0)):=hp;have hi:i<s.2.length:=hi;have he:=c.symm.trans hp;obtain⟨rfl,rfl⟩:=he;obtain⟨b,rfl⟩:∃b,ar=some _:=by
   rcases j.2 with⟨_,h0⟩|⟨ax,aT,aB,ag,_⟩
   ·omega
   ·simp at ag;exact⟨ax,ag.1⟩
  obtain⟨aB,B⟩:=d6 j b rfl;have ai:b≠p:=fun e=>by rw[e,c] at B;simp at B
  have f:∀(u v:Value) k,k≠b->((w.setCell ⟨b,0+i*2,none⟩ u).setCell ⟨b,0+i*2+1,none⟩ v).heap[k]?=w.heap[k]?:=fun u v k hk=>(aP _ _ _ _ hk).trans (aP _ _ _ _ hk)
  have hs:∀(u v:Value),((w.setCell ⟨b,0+i*2,none⟩ u).setCell ⟨b,0+i*2+1,none⟩ v).heap.size=w.heap.size:=fun u v=>by simp[World.setCell]
  refine⟨b,0,rfl,(n b rfl).1,ai,by simp[World.frozen?,B],by simp[World.frozen?,B],N,an b,W,o.keep S (by rw[hs];exact aD _) (fun k h=>f _ _ k (fun e=>(n b rfl).2 (by rw[<-e];exact h))),?_,?_,l,d,m,?_,?_⟩
  ·show((w.setCell _ _).setCell _ _).heap[p]?=some (.cells #[vr,.slice (an b) (s.2.set i (g,z)).length W] 153 (0,0))
   rw[bf];exact(f _ _ p (Ne.symm ai)).trans c
  ·show((w.setCell _ _).setCell _ _).ownsRow 0 103 2 (.slice (an b) (s.2.set i (g,z)).length W) (s.2.set i (g,z)).length (ev (s.2.set i (g,z)))
   rw[bf,yp,Nat.zero_add];exact qx (qx j (i*2) _) _ _
  ·intro k e;exact n k e
  ·intro k h;rw[hs];exact t k h
def ys {b:Type}(o:dS b)(I:b->Prop):dS b where
 J F t w:=o.J F t w/\I t
 lt:=fun h=>o.lt h.1
 keep:=fun h hs hk=>⟨o.keep h.1 hs hk,h.2⟩
def di {f:Type}(o:dS f)(bx:Nat)(x:Obj):dS f where
 J F t w:=∃c,o.J c t w/\w.heap[bx]?=some x/\¬c bx/\∀b,F b↔(c b\/b=bx)
 lt:=by
  rintro F t w ⟨c,h,e,_,d⟩ b hb;rcases(d b).1 hb with hb|hb
  ·exact o.lt h b hb
  ·rw[hb];exact lt_of_some e
 keep:=by rintro F t w w' ⟨c,h,e,g,d⟩ hs hk;exact⟨c,o.keep h hs (fun b hb=>hk b ((d b).2 (aL hb))),(hk bx ((d bx).2 (aK rfl))).trans e,g,d⟩
section
variable {gT:Type}{o:dS gT}{bx p:Nat}{x:Obj}{vr:Value}{F:Nat->Prop}{w w':aw}
theorem nM {t:gT×List b9}(h:(de o p vr).J F t w):∃d,o.J d t.1 w/\∀c f w',o.J c f w'->ce d w c w'->∃j,(de o p vr).J j (f,t.2) w'/\ce F w j w':=by
 obtain⟨d,s,u,v,l,g,m,x,n,i,B⟩:=h;refine⟨d,v,fun c f w' q b=>?_⟩
 have lp:=lt_of_some l;refine⟨fun k=>F k\/c k,⟨c,s,u,q,(b.fr.block p lp n).trans l,cy g (fun k e=>b.fr.block k (cg g k e).2 (i k e).2),fun k h=>aK h,aL x,fun h=>(b.sub p h).elim n (fun h=>by omega),fun k e=>⟨aL (i k e).1,fun h=>(b.sub k h).elim (i k e).2 (fun h=>by have:=(cg g k e).2;omega)⟩,fun k h=>?_⟩,b.fr.mono m,fun k h=>?_⟩
 ·rcases h with h|h
  ·exact aO (B k h) b.fr.size
  ·exact o.lt q k h
 ·rcases h with h|h
  ·exact aL h
  ·exact(b.sub k h).imp (m k) id
theorem jU {t:gT×List b9}(h:(de o p vr).J F t w)(g:w.heap[bx]?=some x)(d:¬F bx):(de (di o bx x) p vr).J (fun b=>F b\/b=bx) t w:=by obtain⟨i,l,m,n,q,s,j,k,u,f,v⟩:=h;refine⟨fun b=>i b\/b=bx,l,m,⟨i,n,g,fun c=>d (j _ c),fun b=>Iff.rfl⟩,q,s,fun b hb=>hb.imp (j b) id,aL k,fun c=>c.elim u (fun e=>d (by rw[<-e];exact k)),fun b e=>⟨aL (f b e).1,fun c=>c.elim (f b e).2 (fun B=>d (by rw[<-B];exact(f b e).1))⟩,fun b hb=>hb.elim (v b) (fun e=>by rw[e];exact lt_of_some g)⟩
theorem tq {t:gT×List b9}(h:(de (di o bx x) p vr).J F t w):(de o p vr).J F t w:=by obtain⟨u,g,i,⟨j,g1,g2,g3,d⟩,k,l,m,n,q,f,s⟩:=h;exact⟨j,g,i,g1,k,l,fun b hb=>m b ((d b).2 (aL hb)),n,fun c=>q ((d p).2 (aL c)),fun b e=>⟨(f b e).1,fun c=>(f b e).2 ((d b).2 (aL c))⟩,s⟩
theorem ts {D:Int->Prop}{f:Nat}{b c:Array Value}{kp:gT->Int->Int×gT}(hk:oI o D f b c kp):oI (di o bx x) D f b c kp:=by
 rintro F t w y hD ⟨l,h,d,g,e⟩
 refine(hk l t w y hD h).mono ?_;rintro r w' ⟨i,rfl,m,j,k⟩
 refine⟨fun b=>i b\/b=bx,rfl,⟨i,m,(j.block bx (lt_of_some d) g).trans d,fun c=>(k bx c).elim g (fun c=>by have:=lt_of_some d;omega),fun b=>Iff.rfl⟩,j.mono (fun b hb=>(e b).2 (aL hb)),fun b hb=>?_⟩
 rcases hb with hb|hb
 ·exact(k b hb).imp (fun c=>(e b).2 (aL c)) id
 ·exact aL ((e b).2 (aK hb))
theorem lQ {D:Int->Prop}{f:Nat}{b c:Array Value}{nw:gT->Int->Int}(ht:lK o D f b c nw):lK (di o bx x) D f b c nw:=by
 rintro F t w y hD ⟨d,h,_⟩
 exact ht d t w y hD h
end
def gO (c:gm)(k:cf):dS ck:=ys (ef c k) (fun s=>CI k s/\ez k s)
abbrev iT (c:gm):Obj:=.cells #[am c.pk] 164 (0,0)
abbrev jV (bx:Nat):fL:=⟨188,#[],#[am bx]⟩
abbrev k4 (c:gm):fL:=⟨190,#[am c.pk],#[]⟩
abbrev mM (c:gm):fL:=⟨182,#[am c.pk],#[]⟩
abbrev mN (c:gm):fL:=⟨111,#[am c.pk],#[]⟩
theorem yt:d7 188:=gW func188 ah rfl
theorem yu:d7 190:=gW func190 ah rfl
theorem Fi:d7 182:=gW func182 ah rfl
theorem Fj:d7 111:=gW func111 ah rfl
section
variable {c:gm}{k:cf}{F:Nat->Prop}{s:ck}{w:aw}
theorem yx (fv:fL)(w:aw)(p:Nat):
 Calls prog 110 #[am p,fv.v] w fun e w'=>e=.returned (.agg #[(jV w.heap.size).v,fv.v,.func (.func 190) #[am p] #[]])/\w'.heap[w.heap.size]?=some (.cells #[am p] 164 (0,0))/\Below w.heap.size w w':=by
 obtain⟨f,b,c⟩:=fv;go_enter func110,ntmps110;go_wp2_with fail;refine bz (v:=.agg #[(jV w.heap.size).v,.func (.func f) b c,.func (.func 190) #[am p] #[]]) (by simp[results,results110,go_sem]) rfl ⟨rfl,?_,((aE _ w).alloc bY _).alloc ac _⟩
 rw[a4 _ _ _ ac];exact aN _ _
theorem yy (bx:Nat):kn (di (gO c k) bx (iT c)) (fun _=>True) (jV bx).f (jV bx).b (jV bx).c k.al:=by
 rintro F s w x _ ⟨d,⟨⟨cE,f,h⟩,_⟩,b,_⟩
 have P:=nL h x;have c0:w.cell? (ao bx 0)=some (am c.pk):=aA b
 have E:k.al s x=!k.ls s x:=rfl;go_enter func188,ntmps188;go_wp2_with fail;refine P.mono ?_;exact pR
theorem yz:lK (gO c k) (fun _=>True) (k4 c).f (k4 c).b (k4 c).c k.nw:=by
 rintro F s w x _ ⟨⟨cE,b,h⟩,_⟩
 exact qt h x
theorem Fk:oI (gO c k) (fun _=>True) (mM c).f (mM c).b (mM c).c k.br:=by
 rintro F s w x _ ⟨⟨cE,e,h⟩,b,hB⟩
 refine(qu h b x).mono ?_;rintro r w' ⟨rfl,f,d⟩
 obtain⟨g,i,_⟩:=b.br x;exact⟨F,rfl,⟨⟨cE,e,f⟩,g,i.cb hB⟩,d.fr,d.sub⟩
end
def lenOf (w:aw)(p:Nat):Nat:=match w.cell? (ao p 4) with
 |some (.slice _ n _)=>n
 |_=>0
def tt (w:aw)(p:Nat):Int:=match w.cell? (ao p 6) with
 |some (.int _ v)=>v
 |_=>0
def tu (c:gm)(k:cf)(w:aw):Nat:=(k.N+k.O+13-qw w c.pk).toNat+lenOf w c.pk+(k.O-(tt w c.p).toNat)
def qy:Value->Nat
 |.bool true=>1
 |_=>0
section
variable {c:gm}{k:cf}{F:Nat->Prop}{s:ck}{w:aw}{vr:Value}
theorem tx (h:(ef c k).J F s w):tu c k w=k.mu s:=by
 obtain⟨cE,g,h⟩:=h;obtain⟨_,_,c2,_,c4,_,_,_,_,_,_,er,_⟩:=eg h;obtain⟨b,_⟩:=iG h;obtain⟨i,j,e⟩:=dU er;have d:lenOf w c.pk=s.ep.length:=by unfold lenOf;rw[c4,e]
 have f:tt w c.p=s.g:=by unfold tt;rw[b.cells.2.2.2.2.2.2]
 unfold tu cf.mu;rw[tp c2,d,f,Int.toNat_natCast]
theorem Fl {f:Option Addr}{nr g:Nat}(i:vr=.slice f nr g){t:ck×List b9}(h:(de (gO c k) c.sd vr).J F t w)(hq:t.2.length<=90000)(bx:Nat)(j:w.heap[bx]?=some (iT c))(l:¬F bx):
 Calls prog 145 #[am c.sd,.agg #[(jV bx).v,(mM c).v,(k4 c).v]] w fun e w'=>∃d,e=.returned (.bool (k.wa t).2)/\(de (gO c k) c.sd vr).J d (k.wa t).1 w'/\Fr (fun b=>F b\/b=bx) w w'/\(∀b,d b->F b\/b=bx\/w.heap.size<=b):=by
 refine(x7 _ (yq _ _ _) (fun _=>True) (jV bx) (mM c) (k4 c) _ _ _ (ta _ c.sd vr (fun _=>True) (jV bx) (mM c) (k4 c) k.al k.br k.nw yt Fi yu (yy bx) (ts Fk) (lQ yz)) f nr g i _ t w hq (fun _ _=>⟨trivial,trivial⟩) (jU h j l)).mono ?_;rintro e w' ⟨d,rfl,m,n,hs⟩
 exact⟨d,rfl,tq m,n,fun b hb=>(hs b hb).elim (fun c=>c.elim aL (fun c=>aK (aL c))) (fun c=>aK (aK c))⟩
theorem yA {b0:Option Addr}{nr b1:Nat}(b2:vr=.slice b0 nr b1){t:ck×List b9}(h:(de (gO c k) c.sd vr).J F t w)(hq:t.2.length<=90000):
 Calls prog 109 #[am c.pk] w fun e w'=>∃bb,e=.returned (.tuple #[])/\(de (gO c k) c.sd vr).J bb (k.sp t) w'/\ce F w bb w':=by
 have b3:∀(bd:Fn)(first be:Array Value)(w:aw),(Instr.makeFunc bd first be).run prog w=.ok (.func bd first be) w:=fun _ _ _ _=>rfl;go_enter func109,ntmps109;go_wp2_with fail
 go_loopw [2] (fun aF wr=>∃(n:Nat)(ag:Nat->Prop)(d:ck×List b9)(b:Bool),aF=.bool b/\(de (gO c k) c.sd vr).J ag d wr/\ce F w ag wr/\ay (if b=true then k.mu d.1<n/\k.cY n d=k.sp t else d=k.sp t)/\d.2.length<=90000) (fun aF wr=>2*tu c k wr+qy aF)
 exact⟨k.mu t.1+1,F,t,true,rfl,h,ce.refl _ _,⟨aa,rfl⟩,hq⟩
 ·
   obtain⟨n,ag,d,b,rfl,bg,bi,bl,hq⟩:=hrel;cases b
   ·have x:=hide bl.o;go_wp2_with fail;go_end0;rw[<-x.o];exact⟨ag,rfl,bg,bi⟩
   ·obtain⟨b4,b5⟩:=bl.o;obtain⟨m,rfl⟩:∃m,n=m+1:=⟨n-1,aa⟩
    obtain⟨cp,u,b6⟩:=nM bg;have aR:=tx u.1;have B:=Fg u.1 u.2.1 u.2.2;obtain⟨bn,bo,b7⟩:=u.2.1.lb u.2.2 (k.O+1)
    obtain⟨b8,j2,cA,cD⟩:=bn.kv bo;have f:ay (_/\_/\(CI k (k.lb (k.O+1) d.1)/\ez k (k.lb (k.O+1) d.1))/\(CI k (k.kv (k.lb (k.O+1) d.1)).2/\ez k (k.kv (k.lb (k.O+1) d.1)).2)):=⟨bi,b6,⟨bn,bo⟩,⟨b8,j2⟩⟩
    have ai:=iZ b7 cA cD b4;have x:=hide b5;go_wp2_with fail;refine B.mono ?_;rintro e w1 ⟨cq,rfl,N,W⟩
    have al:=Fh ((ef c k).below N (aE _ w1).drew) f.o.2.2.1.1 f.o.2.2.1.2;have W:=W.below (aE _ w1).drew;obtain⟨cr,cs,N⟩:=N;obtain⟨ca,_,_,_,_,_,_,cb,_⟩:=eg N;cases hkv:(k.kv (k.lb (k.O+1) d.1)).1
    ·rw[hkv] at al;have bp:ay ((if(k.wa ((k.kv (k.lb (k.O+1) d.1)).2,d.2)).2=true then k.cY m (k.wa ((k.kv (k.lb (k.O+1) d.1)).2,d.2)).1 else(k.wa ((k.kv (k.lb (k.O+1) d.1)).2,d.2)).1)=k.sp t):=by
      have:=x.o;unfold cf.cY at this
      rw[hkv] at this
      exact this
     have j:=CI.wa (s:=((k.kv (k.lb (k.O+1) d.1)).2,d.2)) f.o.2.2.2.1 f.o.2.2.2.2;have j:ay ((k.wa ((k.kv (k.lb (k.O+1) d.1)).2,d.2)).1.2.length<=90000/\k.mu (k.wa ((k.kv (k.lb (k.O+1) d.1)).2,d.2)).1.1<=k.mu d.1/\((k.wa ((k.kv (k.lb (k.O+1) d.1)).2,d.2)).2=true->k.mu (k.wa ((k.kv (k.lb (k.O+1) d.1)).2,d.2)).1.1<k.mu d.1)):=by refine⟨by rw[j.2.2.1];exact hq,by have:=j.2.2.2.1;dsimp only at this;omega,fun e=>by have:=j.2.2.2.2 e;dsimp only at this;omega⟩
     generalize k.lb (k.O+1) d.1=s1 at*;generalize (k.kv s1).2=s2 at*;go_wp2_with fail
     go_region_held3 (fun w'=>w'.cell? (ao c.pk 0)=some (am c.pw)/\w'.cell? (ao c.pw 2)=some (am c.sd)) (go_keep)
      (first
        |(go_at_call 187;refine al.mono ?_;rintro e q ⟨aT,rfl,l,ap⟩;obtain⟨br,hM,ar⟩:=f.o.2.1 aT s2 q ⟨l,f.o.2.2.2⟩ (W.trans ap);obtain⟨ct,cu,l⟩:=l;obtain⟨g0,_,_,_,_,_,_,aV,_⟩:=eg l;have l0:=aM q _ g0;have cc:=aM q _ aV;have g:=dq hM (f.o.1.trans ar))
        |(go_at_call 110;refine(yx (mM c) q c.pk).mono ?_;rintro e w3 ⟨rfl,cd,a0⟩;have cg:=(a0.cell (p:=ao c.pk 0) l0).trans g0;have ch:=(a0.cell (p:=ao c.pw 2) cc).trans aV;have ab:=dq cd a0)
        |(go_at_call 145;refine(Fl b2 (t:=(s2,d.2)) ((de (gO c k) c.sd vr).below g.o.1 ab.o.2) hq q.heap.size ab.o.1 (fun h=>by have:=(de (gO c k) c.sd vr).lt g.o.1 _ h;omega)).mono ?_;rintro e ci ⟨a1,rfl,bs,cj,cl⟩;have ax:ay (_/\ce F w a1 ci):=⟨bs,⟨(g.o.2.below ab.o.2).fr.trans cj (fun b hb=>hb.elim (g.o.2.sub b) (fun e=>aK (by have:=g.o.2.fr.size;omega))),fun b hb=>(cl b hb).elim (g.o.2.sub b) (fun h=>aK (by have o:=g.o.2.fr.size;have a2:=ab.o.2.size;omega))⟩⟩;obtain⟨cv,⟨⟨cm,cn,bt⟩,_⟩,_⟩:=nM bs;have aB:=tx ⟨cm,cn,bt⟩;obtain⟨r0,_,_,_,_,_,_,co,_⟩:=eg bt))
     clear r0 co g0 aV cg ch ca cb f g ab x b3 W;cases hbw:(k.wa (s2,d.2)).2
     ·have ad:ay (if false=true then k.mu (k.wa (s2,d.2)).1.1<m/\k.cY m (k.wa (s2,d.2)).1=k.sp t else(k.wa (s2,d.2)).1=k.sp t):=by
       have:=bp.o;rw[hbw] at this
       exact this
      go_wp2_with fail;go_roundw;exact⟨m,a1,(k.wa (s2,d.2)).1,false,rfl,ax.o.1,ax.o.2,ad,j.o.1⟩
      ·have:=j.o.2.1;rw[aB,aR];simp[qy];omega
     ·have ad:ay (if true=true then k.mu (k.wa (s2,d.2)).1.1<m/\k.cY m (k.wa (s2,d.2)).1=k.sp t else(k.wa (s2,d.2)).1=k.sp t):=by have o:=bp.o;rw[hbw] at o;have a2:=j.o.2.2 hbw;have bx:=ai.o.2.2.2;exact⟨aa,o⟩
      have a2:=j.o.2.2 hbw;go_wp2_with fail;go_roundw;exact⟨m,a1,(k.wa (s2,d.2)).1,true,rfl,ax.o.1,ax.o.2,ad,j.o.1⟩
      ·rw[aB,aR];simp[qy];omega
    ·rw[hkv] at al;have a2:k.mu (k.kv (k.lb (k.O+1) d.1)).2<k.mu d.1:=by have o:=ai.o.1;have bx:=ai.o.2.2.1 hkv;omega
     have ad:ay (if true=true then k.mu (k.kv (k.lb (k.O+1) d.1)).2<m/\k.cY m ((k.kv (k.lb (k.O+1) d.1)).2,d.2)=k.sp t else((k.kv (k.lb (k.O+1) d.1)).2,d.2)=k.sp t):=by have o:=x.o;unfold cf.cY at o;rw[hkv] at o;have bx:=ai.o.2.2.2;exact⟨aa,o⟩
     generalize k.lb (k.O+1) d.1=s1 at*;generalize (k.kv s1).2=s2 at*;clear N;go_wp2_with fail;refine wp_region_noPanic ?_;refine wp_region_any ah ?_;refine qe (T:=fun _=>True) (S:=fun _=>True) (St:=[]) _ _ _ _ ?_;refine eC (i:=0) (v:=?_) rfl ah ah ah ah (fun _ _ _ h=>h) (aL ⟨af,?_⟩) trivial (aK trivial) ?_
     rotate_left
     ·intro w a3;go_simp
      try rfl
     try simp only [Act.put,List.getElem_toArray,List.getElem_cons_zero,List.setIfInBounds_toArray,List.set_cons_zero,List.set_cons_succ]
     refine mI (i:=1) ah ?_;refine xq rfl af ?_;simp only [List.getElem_toArray,List.getElem_cons_succ,List.getElem_cons_zero];go_simp;refine al.mono ?_;rintro e q ⟨aT,rfl,l,ap⟩
     obtain⟨br,hM,ar⟩:=f.o.2.1 aT s2 q ⟨l,f.o.2.2.2⟩ (W.trans ap)
     have aB:=tx l;have g:=dq hM (f.o.1.trans ar)
     clear l ap hM ar;refine eC (i:=2) (v:=?_) rfl ah ah ah ah (fun _ _ _ h=>h) (aL ⟨af,?_⟩) trivial (aK trivial) ?_
     rotate_left
     ·intro w a3;go_simp
      try rfl
     refine eC (i:=3) (v:=undef) rfl ah ah ah ah (fun _ _ _ h=>h) (aK ⟨af,rfl⟩) trivial (aK trivial) ?_;refine eC (i:=4) (v:=undef) rfl ah ah ah ah (fun _ _ _ h=>h) (aK ⟨af,rfl⟩) trivial (aK trivial) ?_;refine eC (i:=5) (v:=undef) rfl ah ah ah ah (fun _ _ _ h=>h) (aK ⟨af,rfl⟩) trivial (aK trivial) ?_;refine eC (i:=6) (v:=undef) rfl ah ah ah ah (fun _ _ _ h=>h) (aK ⟨af,rfl⟩) trivial (aK trivial) ?_
     try simp only [Act.put,List.getElem_toArray,List.getElem_cons_succ,List.getElem_cons_zero,List.setIfInBounds_toArray,List.set_cons_zero,List.set_cons_succ]
     refine eC (i:=7) (v:=undef) rfl ah ah ah ah (fun _ _ _ h=>h) (aK ⟨af,rfl⟩) trivial (aK trivial) ?_;refine eC (i:=8) (v:=undef) rfl ah ah ah ah (fun _ _ _ h=>h) (aK ⟨af,rfl⟩) trivial (aK trivial) ?_;refine eC (i:=9) (v:=undef) rfl ah ah ah ah (fun _ _ _ h=>h) (aK ⟨af,rfl⟩) trivial (aK trivial) ?_;refine eC (i:=10) (v:=undef) rfl ah ah ah ah (fun _ _ _ h=>h) (aK ⟨af,rfl⟩) trivial (aK trivial) ?_;refine eC (i:=11) (v:=undef) rfl ah ah ah ah (fun _ _ _ h=>h) (aK ⟨af,rfl⟩) trivial (aK trivial) ?_
     try simp only [Act.put,List.getElem_toArray,List.getElem_cons_succ,List.getElem_cons_zero,List.setIfInBounds_toArray,List.set_cons_zero,List.set_cons_succ]
     refine eC (i:=12) (v:=undef) rfl ah ah ah ah (fun _ _ _ h=>h) (aK ⟨af,rfl⟩) trivial (aK trivial) ?_;refine eC (i:=13) (v:=undef) rfl ah ah ah ah (fun _ _ _ h=>h) (aK ⟨af,rfl⟩) trivial (aK trivial) ?_
     try simp only [Act.put,List.getElem_toArray,List.getElem_cons_succ,List.getElem_cons_zero,List.setIfInBounds_toArray,List.set_cons_zero,List.set_cons_succ]
     refine eC (i:=14) (v:=undef) rfl ah ah ah ah (fun _ _ _ h=>h) (aK ⟨af,rfl⟩) trivial (aK trivial) ?_;refine eC (i:=15) (v:=?_) rfl ah ah ah ah (fun _ _ _ h=>h) (aL ⟨af,?_⟩) trivial (aK trivial) ?_
     rotate_left
     ·intro w a3;go_simp
      try rfl
     refine eC (i:=16) (v:=?_) rfl ah ah ah ah (fun _ _ _ h=>h) (aL ⟨af,?_⟩) trivial (aK trivial) ?_
     rotate_left
     ·intro w a3;go_simp
      try rfl
     try simp only [Act.put,List.getElem_toArray,List.getElem_cons_succ,List.getElem_cons_zero,List.setIfInBounds_toArray,List.set_cons_zero,List.set_cons_succ]
     refine sG ah ?_ _;refine NoPanic.normal ?_;go_wp2_with fail;go_roundw;exact⟨m,br,(s2,d.2),true,rfl,g.o.1,g.o.2,ad,hq⟩
     ·rw[aB,aR];simp[qy];omega
theorem Fp {j:Option Addr}{nr l:Nat}(m:vr=.slice j nr l){t:ck×List b9}(h:(de (gO c k) c.sd vr).J F t w)(hq:t.2.length<=90000)(x:Int):
 Calls prog 111 #[am c.pk,ak x] w fun e w'=>∃b,e=.returned (ak (k.ke t x).1)/\(de (gO c k) c.sd vr).J b (k.ke t x).2 w'/\ce F w b w':=by
 obtain⟨n,⟨⟨cE,o,p⟩,d,hB⟩,q⟩:=nM h;obtain⟨s,u,_⟩:=d.br x;have f:=gM q s (u.cb hB)
 have E:ay ((k.ke t x).1=(k.br t.1 x).1/\(k.ke t x).2=k.sp ((k.br t.1 x).2,t.2)):=⟨rfl,rfl⟩
 go_enter func111,ntmps111;go_wp2_with fail;refine(qu p d x).mono ?_;rintro e w1 ⟨rfl,v,B⟩
 obtain⟨ad,hM,N⟩:=f.o.1 n _ w1 ⟨⟨cE,o,v⟩,f.o.2⟩ B;have g:=dq hM N;go_wp2_with fail;refine(yA m g.o.1 hq).mono ?_;rintro e ag ⟨S,rfl,W,ab⟩
 have i:=dq W (g.o.2.trans ab)
 go_wp2_with fail;go_ret;exact⟨S,rfl,i.o.1,i.o.2⟩
end
def iU {b:Type}(fd:b->Int->Int)(st:b->Int->b)(e:Int)(t:b)(a:Int):b:=if a+fd t a<e then st t a else t
def jW {b:Type}(fd:b->Int->Int)(st:b->Int->b)(e:Int)(t:b)(l:List Int):b:=l.foldl (iU fd st e) t
theorem yC {i:Type}(o:dS i)(fd:i->Int->Int)(st:i->Int->i)(G:Nat->i->Prop)(pk pw p f:Nat)(ag:Array Value)(ai:d7 f)(l:List Int)(S:Option Addr)(a1:Nat)(e:Int)(F:Nat->Prop)(t:i)(w:aw)
 (al:∀F t w a,o.J F t w->w.cell? (ao pk 0)=some (am pw)/\w.cell? (ao pw 0)=some (am p)/\Calls prog 102 #[am p,ak a] w fun r w'=>∃x z,r=.returned (.tuple #[ak x,ak (fd t a),ak z])/\Below w.heap.size w w')
 (ap:∀t a,0<=fd t a/\fd t a<=12)(ar:∀a∈l,0<=a/\a<=100000)(bs:l.length<=100000)
 (ax:∀j F t w,j<l.length->G j t->o.J F t w->l.getD j 0+fd t (l.getD j 0)<e->Calls prog f (#[ak (l.getD j 0)]++ag) w fun r w'=>∃g,r=.returned (.tuple #[])/\o.J g (st t (l.getD j 0)) w'/\ce F w g w')
 (aB:∀j t,j<l.length->G j t->G (j+1) (iU fd st e t (l.getD j 0)))(h0:G 0 t)(k:o.J F t w)(W:iI w S l)(aF:0<l.length->∀z,S=some z->¬F z.block):
 Calls prog 180 #[am pk,.slice S l.length a1,ak e,.func (.func f) #[] ag] w fun r w'=>∃g,r=.returned (.tuple #[])/\o.J g (jW fd st e t l) w'/\ce F w g w'/\G l.length (jW fd st e t l):=by
 have a2:ay (∀F t w a,o.J F t w->_):=al;have a3:ay (∀j F t w,j<l.length->G j t->o.J F t w->l.getD j 0+fd t (l.getD j 0)<e->_):=ax;have bb:ay (∀j t,j<l.length->G j t->_):=aB;have bd:ay (∀g w',ce F w g w'->_):=fun g w' n=>W.keep n.fr.size (fun hp z e=>n.fr.block _ (by obtain⟨b,bt,aR,hb,_⟩:=W hp;rw[e] at aR;cases aR;exact hb) (aF hp z e))
 have be:ay (_):=ar;have bg:ay (∀t a,_):=ap;have bx:∀(args:Array Value)(w:aw),_=_:=ai;clear al ax aB W aF ar ap ai;go_enter func180,ntmps180;go_wp2_with fail
 go_loopw [15] (fun iv wr=>∃(j:Nat)(d:Nat->Prop)(c:i),j<=l.length/\iv=ak j/\ay (jW fd st e t (l.take j)=c)/\ay (G j c)/\o.J d c wr/\ce F w d wr) (fun iv _=>l.length-(intOf iv).toNat)
 case atStart=>exact⟨0,F,t,aX _,rfl,rfl,h0,k,ce.refl _ _⟩
 case round=>
  clear h0 k;obtain⟨j,d,c,b0,rfl,ab,ad,k,n⟩:=hrel;by_cases q:j<l.length
  ·obtain⟨b1,b2,bi,b3,hc⟩:=bd.o d wr n aa;have b4:=hc j q;subst bi;have aT:l.getD j 0∈l:=by rw[aG,aI q];exact a_ q
   have b5:=be.o _ aT;have aV:ay (jW fd st e t (l.take (j+1))=iU fd st e c (l.getD j 0)):=by
    show _=_;rw[fE l j q 0];unfold jW;rw[List.foldl_append];have:=ab.o;unfold jW at this
    rw[this];rfl
   have a0:ay (_):=bb.o j c q ad.o;have s:=fun w h=>a3.o j d c w q ad.o h;obtain⟨b6,b7,L⟩:=a2.o d c wr (l.getD j 0) k;have b8:=bg.o c (l.getD j 0)
   have N:=dq k n;have s:ay (∀w,o.J d c w->l.getD j 0+fd c (l.getD j 0)<e->_):=s;clear hc aT k n;by_cases hw:l.getD j 0+fd c (l.getD j 0)<e
   ·have u:ay (iU fd st e c (l.getD j 0)=st c (l.getD j 0)):=by show _=_;unfold iU;rw[aJ hw]
    have bl:ay (∀w,o.J d c w->_):=fun w h=>s.o w h hw;clear s;generalize l.getD j 0=a at*;generalize fd c a=m at*;generalize st c a=bn at*;go_wp2_with fail;refine L.mono ?_;rintro r w1 ⟨x,z,rfl,v⟩
    go_wp2_with fail;refine(bl.o w1 (o.below N.o.1 v)).mono ?_;rintro r b9 ⟨bo,rfl,bp,br⟩
    have B:=dq bp ((N.o.2.below v).trans br)
    go_wp2_with fail;go_roundw;exact⟨j+1,bo,bn,aa,aj,by show _=_;rw[aV.o,u.o],by show G _ _;rw[<-u.o];exact a0.o,B.o.1,B.o.2⟩
    simp[intOf];omega
   ·have u:ay (iU fd st e c (l.getD j 0)=c):=by show _=_;unfold iU;rw[aH hw]
    clear s;generalize l.getD j 0=a at*;generalize fd c a=m at*;go_wp2_with fail;refine L.mono ?_;rintro r w1 ⟨x,z,rfl,v⟩
    have B:=dq (o.below N.o.1 v) (N.o.2.below v)
    go_wp2_with fail;go_roundw;exact⟨j+1,d,c,aa,aj,by show _=_;rw[aV.o,u.o],by show G _ _;rw[<-u.o];exact a0.o,B.o.1,B.o.2⟩
    simp[intOf];omega
  ·obtain rfl:j=l.length:=aa;rw[ba] at ab;go_wp2_with fail;go_end0;rw[ab.o];exact⟨d,rfl,k,n,ad.o⟩
end Go.Proofs.YtpkjkjhanlbcoaaGreat
