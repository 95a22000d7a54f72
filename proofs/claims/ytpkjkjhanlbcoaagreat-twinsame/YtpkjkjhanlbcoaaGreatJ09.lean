import Derived.Test.YtpkjkjhanlbcoaaGreatJ08
namespace Go.Proofs.YtpkjkjhanlbcoaaGreat
set_option maxRecDepth 100000
set_option maxHeartbeats 1000000
open Tryz
open Go.RowKit W Kp cf
theorem lq {P:Prop}(h:P:=by rw[hW0,a5 _ _ _ _ Z];exact bf _ _ _ y0):P:=h
theorem xg {P:Prop}(h:P:=by
 have hk:0<x.2.2.2.length->∀b,x.2.1=some b->w'.heap[b.block]?=w.heap[b.block]?:=fun hp b e=>by obtain⟨b0,o0,cs,e0,hb⟩:=hl.2 hp;have e':=e;rw[e0] at e';cases e';exact f.block _ (lt_of_some hb) (fun c=>(hX _ (lt_of_some hb) c).2.1 ⟨x,hx,hp,o0,e0⟩)
 refine⟨hl.1.keep f.size hk,fun hp=>?_⟩
 obtain⟨b0,o0,cs,e0,hb⟩:=hl.2 hp;exact⟨b0,o0,cs,e0,(hk hp _ e0).trans hb⟩):P:=h
theorem qc {P:Prop}(h:P:=by rw[hW0];exact bf _ _ _ ((a5 w1 ⟨w.heap.size,0,none⟩ ⟨w.heap.size,1,none⟩ _ Z).trans y1)):P:=h
theorem qd {P:Prop}(h:P:=by simp only [World.setCell,Array.getElem?_modify,if_true,((hb1 _ (lt_of_some h.cb) (by rw[h.k1];decide)).trans h.cb),Option.map_some];simp):P:=h
theorem qe {P:Prop}(h:P:=by rw[aG (fun c=>by rcases hnw b c with c|c<;>omega)];exact e):P:=h
theorem xh {P:Prop}(h:P:=by rw[hW0];exact bf _ _ _ ((a5 w3 ⟨w.heap.size,0,none⟩ ⟨w.heap.size,1,none⟩ _ Z).trans y1)):P:=h
theorem xi {P:Prop}(h:P:=by
 by_cases l:L 8
 ·exact hE l
 ·exact cH h.er (fun b e=>hk b (cn h.er b e).2 (by rw[h.eo b e];decide) (by rw[h.eo b e];exact l))):P:=h
theorem xj {P:Prop}(h:P:=by
 by_cases l:L 5
 ·exact hK l
 ·exact(hk _ (lt_of_some h.cb) (by rw[h.k1];decide) (by rw[h.k1];exact l)).trans h.cb):P:=h
theorem xk {P:Prop}(h:P:=by obtain⟨x,hx,hl,o,e⟩:=hk;obtain⟨b,o',cs,e',hb⟩:=(h.fl x hx).2 hl;rw[e] at e';cases e';exact lt_of_some hb):P:=h
def Mp (w:ax)(ch:Nat)(T:List Int)(f:Int->Int):Prop:=
 ∃D:DataW Unit,w.ownsMap prog 3 (plainElem prog 3) ch T.length D/\(∀a:Int,Maps.has D (.int .i64 a)=T.contains a)/\∀a∈T,D.atKey (.int .i64 a) (.lit (.int .i64 0))=.lit (.int .i64 (f a))
theorem Mp.same {w w':ax}{ch:Nat}{T:List Int}{f:Int->Int}(h:Mp w ch T f)(e:w'.heap[ch]?=w.heap[ch]?):Mp w' ch T f:=by obtain⟨D,b,c,d⟩:=h;exact⟨D,ss b e,c,d⟩
theorem Mp.lt {w:ax}{ch:Nat}{T:List Int}{f:Int->Int}(h:Mp w ch T f):ch<w.heap.size:=by obtain⟨D,b,_⟩:=h;exact b.lt
theorem Mp.put {w w':ax}{ch n:Nat}{T:List Int}{f:Int->Int}{a v:Int}{D:DataW Unit}(h1:w.ownsMap prog 3 (plainElem prog 3) ch T.length D)(c:∀a:Int,Maps.has D (.int .i64 a)=T.contains a)(h3:∀a∈T,D.atKey (.int .i64 a) (.lit (.int .i64 0))=.lit (.int .i64 (f a)))
 (ha:a∈T)(d:w'.ownsMap prog 3 (plainElem prog 3) ch n (D.put (.int .i64 a) (.lit (.int .i64 v)))):Mp w' ch T (gz f a v):=by
 have hs:Maps.size (D.put (.int .i64 a) (.lit (.int .i64 v)))<=T.length:=by rw[Maps.size_put (h1.tidy iN),c,aI (by simpa using ha)];exact h1.size_le
 refine⟨_,(su d rfl).mono hs,fun b=>?_,fun b hb=>?_⟩
 ·by_cases e:b=a
  ·subst e;rw[Maps.has_put_same (k:=.int .i64 b) h1.isMap trivial];simp[ha]
  ·rw[Maps.has_put_other (by simpa using e),c]
 ·unfold gz;exact xd
theorem Mp.add {w w':ax}{ch n:Nat}{T:List Int}{a v:Int}{f:Int->Int}{D:DataW Unit}(c:w.ownsMap prog 3 (plainElem prog 3) ch T.length D)(g:∀a:Int,Maps.has D (.int .i64 a)=T.contains a)(i:∀a∈T,D.atKey (.int .i64 a) (.lit (.int .i64 0))=.lit (.int .i64 (f a)))
 (hv:f a=v)(hn:n=T.length+1)(d:w'.ownsMap prog 3 (plainElem prog 3) ch n (D.put (.int .i64 a) (.lit (.int .i64 v)))):Mp w' ch (T++[a]) f:=by
 refine⟨_,by rw[hn] at d;simpa using d,fun b=>?_,fun b hb=>?_⟩
 ·by_cases e:b=a
  ·subst e;rw[Maps.has_put_same (k:=.int .i64 b) c.isMap trivial];simp
  ·rw[Maps.has_put_other (by simpa using e),g];simp[e]
 ·by_cases e:b=a
  ·subst e;rw[Maps.atKey_put_same (k:=.int .i64 b) c.isMap trivial,hv]
  ·rw[Maps.atKey_put_other (by simpa using e)];refine i b ?_;rcases List.mem_append.1 hb with hb|hb
   ·exact hb
   ·simp at hb;exact absurd hb e
structure gj where
 pk:Nat
 ch:Nat
 pw:Nat
 p:Nat
 q:Nat
 pc:Nat
 cO:Nat
 sd:Nat
 nb:Nat
 c:Int
 M:List Int
structure qf (c:gj)(k:ce)(own:Nat->Nat)(s:cj)(cG cr:Value)(w:ax):Prop where
 ar:At w c.p c.q k.N k.O k.y s.g s.ws
 a1:own c.p=1
 a2:own c.q=1
 cd:Cd w c.pc c.cO k.N c.c c.M
 c1:own c.pc=2
 c2:own c.cO=2
 wd:w.heap[c.pw]?=some (.cells #[aj c.p,aj c.pc,aj c.sd,.slice (ak c.nb) 12 12] 55 (0,0))
 w1:own c.pw=3
 rt:w.heap[c.nb]?=some (.cells (s.rs.map (Value.int .i64)).toArray 2 (0,0))
 rl:s.rs.length=12
 r1:own c.nb=4
 cb:w.heap[c.pk]?=some (.cells #[aj c.pw,.map (some c.ch),ah s.nx,cG,cr] 167 (0,0))
 k1:own c.pk=5
 mp:Mp w c.ch k.T s.f
 m1:own c.ch=6
 wr:w.ownsRow 0 3 1 cG s.wk.length (s.wk.map (Value.int .i64))
 dx:∀b,some b=cG.ownBlock->own b=7
 er:w.ownsRow 0 3 1 cr s.ep.length (s.ep.map (Value.int .i64))
 eo:∀b,some b=cr.ownBlock->own b=8
 lt:∀b,own b≠0->b<w.heap.size
section
variable {c:gj}{k:ce}{own:Nat->Nat}{s:cj}{cG cr:Value}{w w':ax}
theorem qf.but (h:qf c k own s cG cr w)(L:Nat->Prop)(hs:w.heap.size<=w'.heap.size)(hk:∀b,b<w.heap.size->own b≠0->¬L (own b)->w'.heap[b]?=w.heap[b]?)
 (f:L 1->At w' c.p c.q k.N k.O k.y s.g s.ws)(g:L 4->w'.heap[c.nb]?=some (.cells (s.rs.map (Value.int .i64)).toArray 2 (0,0)))(hK:L 5->w'.heap[c.pk]?=some (.cells #[aj c.pw,.map (some c.ch),ah s.nx,cG,cr] 167 (0,0)))
 (hM:L 6->Mp w' c.ch k.T s.f)(i:L 7->w'.ownsRow 0 3 1 cG s.wk.length (s.wk.map (Value.int .i64)))(hE:L 8->w'.ownsRow 0 3 1 cr s.ep.length (s.ep.map (Value.int .i64)))(d:¬L 2)(j:¬L 3):qf c k own s cG cr w' where
 ar:=by
  by_cases l:L 1
  ·exact f l
  ·exact h.ar.same (hk _ h.ar.eL (by rw[h.a1];decide) (by rw[h.a1];exact l)) (hk _ h.ar.eM (by rw[h.a2];decide) (by rw[h.a2];exact l))
 a1:=h.a1
 a2:=h.a2
 cd:=h.cd.same (hk _ h.cd.eL (by rw[h.c1];decide) (by rw[h.c1];exact d)) (hk _ h.cd.eM (by rw[h.c2];decide) (by rw[h.c2];exact d))
 c1:=h.c1
 c2:=h.c2
 wd:=(hk _ (lt_of_some h.wd) (by rw[h.w1];decide) (by rw[h.w1];exact j)).trans h.wd
 w1:=h.w1
 rt:=by
  by_cases l:L 4
  ·exact g l
  ·exact(hk _ (lt_of_some h.rt) (by rw[h.r1];decide) (by rw[h.r1];exact l)).trans h.rt
 rl:=h.rl
 r1:=h.r1
 cb:=by exact xj
 k1:=h.k1
 mp:=by
  by_cases l:L 6
  ·exact hM l
  ·exact h.mp.same (hk _ h.mp.lt (by rw[h.m1];decide) (by rw[h.m1];exact l))
 m1:=h.m1
 wr:=by
  by_cases l:L 7
  ·exact i l
  ·exact cH h.wr (fun b e=>hk b (cn h.wr b e).2 (by rw[h.dx b e];decide) (by rw[h.dx b e];exact l))
 dx:=h.dx
 er:=by exact xi
 eo:=h.eo
 lt:=fun b hb=>aM (h.lt b hb) hs
end
def cutV (c:gj)(k:ce)(cG e:Value):dr cj where
 J F s w:=∃own,qf c k own s cG e w/\∀b,F b↔own b≠0
 lt:=by rintro F s w ⟨own,h,d⟩ b hb;exact h.lt b ((d b).1 hb)
 keep:=by rintro F s w w' ⟨own,h,d⟩ hs hk;exact⟨own,h.but (fun _=>False) hs (fun b _ hb _=>hk b ((d b).2 hb)) False.elim False.elim False.elim False.elim False.elim False.elim id id,d⟩
def d7 (c:gj)(k:ce):dr cj where
 J F s w:=∃cG b,(cutV c k cG b).J F s w
 lt:=by
  rintro F s w ⟨cG,b,h⟩
  exact(cutV c k cG b).lt h
 keep:=by rintro F s w w' ⟨cG,b,h⟩ hs hk;exact⟨cG,b,(cutV c k cG b).keep h hs hk⟩
section
variable {c:gj}{k:ce}{cG cr:Value}{F:Nat->Prop}{s:cj}{w w':ax}
theorem iO (h:(cutV c k cG cr).J F s w):At w c.p c.q k.N k.O k.y s.g s.ws/\∀w' g ws,At w' c.p c.q k.N k.O k.y g ws->c_ c.p c.q w w'->(cutV c k cG cr).J F {s with g:=g,ws:=ws} w'/\b8 F w F w':=by
 obtain⟨own,h,f⟩:=h;refine⟨h.ar,fun w' g ws ha d=>⟨⟨own,?_,f⟩,⟨⟨d.os,d.tape,d.output,d.size,fun b hb hn=>d.block b hb (fun e=>hn ((f b).2 (by rw[e,h.a1];decide))) (fun e=>hn ((f b).2 (by rw[e,h.a2];decide)))⟩,fun _ h=>aK h⟩⟩⟩
 have hb:∀b,b<w.heap.size->own b≠0->¬own b=1->_=_:=fun b hb _ hn=>d.block b hb (fun e=>hn (by rw[e];exact h.a1)) (fun e=>hn (by rw[e];exact h.a2))
 exact {
  ar:=ha,a1:=h.a1,a2:=h.a2,c1:=h.c1,c2:=h.c2,w1:=h.w1,rl:=h.rl,r1:=h.r1,k1:=h.k1,m1:=h.m1,dx:=h.dx,eo:=h.eo,lt:=fun b hb=>aM (h.lt b hb) d.size
  cd:=h.cd.same (hb _ h.cd.eL (by rw[h.c1];decide) (by rw[h.c1];decide)) (hb _ h.cd.eM (by rw[h.c2];decide) (by rw[h.c2];decide))
  wd:=(hb _ (lt_of_some h.wd) (by rw[h.w1];decide) (by rw[h.w1];decide)).trans h.wd
  rt:=(hb _ (lt_of_some h.rt) (by rw[h.r1];decide) (by rw[h.r1];decide)).trans h.rt
  cb:=(hb _ (lt_of_some h.cb) (by rw[h.k1];decide) (by rw[h.k1];decide)).trans h.cb
  mp:=h.mp.same (hb _ h.mp.lt (by rw[h.m1];decide) (by rw[h.m1];decide))
  wr:=cH h.wr (fun b e=>hb b (cn h.wr b e).2 (by rw[h.dx b e];decide) (by rw[h.dx b e];decide))
  er:=cH h.er (fun b e=>hb b (cn h.er b e).2 (by rw[h.eo b e];decide) (by rw[h.eo b e];decide))}
theorem xl (h:(cutV c k cG cr).J F s w):Mp w c.ch k.T s.f/\∀w' f,Mp w' c.ch k.T f->Fr (fun b=>b=c.ch) w w'->(cutV c k cG cr).J F {s with f:=f} w'/\b8 F w F w':=by
 obtain⟨own,h,d⟩:=h;refine⟨h.mp,fun w' f hm fr=>⟨⟨own,?_,d⟩,⟨fr.mono (fun b e=>(d b).2 (by rw[e,h.m1];decide)),fun _ h=>aK h⟩⟩⟩
 have hb:∀b,b<w.heap.size->own b≠6->_=_:=fun b hb hn=>fr.block b hb (fun e=>hn (by rw[e];exact h.m1))
 exact {
  mp:=hm,a1:=h.a1,a2:=h.a2,c1:=h.c1,c2:=h.c2,w1:=h.w1,rl:=h.rl,r1:=h.r1,k1:=h.k1,m1:=h.m1,dx:=h.dx,eo:=h.eo,lt:=fun b hb=>aM (h.lt b hb) fr.size
  ar:=h.ar.same (hb _ h.ar.eL (by rw[h.a1];decide)) (hb _ h.ar.eM (by rw[h.a2];decide))
  cd:=h.cd.same (hb _ h.cd.eL (by rw[h.c1];decide)) (hb _ h.cd.eM (by rw[h.c2];decide))
  wd:=(hb _ (lt_of_some h.wd) (by rw[h.w1];decide)).trans h.wd
  rt:=(hb _ (lt_of_some h.rt) (by rw[h.r1];decide)).trans h.rt
  cb:=(hb _ (lt_of_some h.cb) (by rw[h.k1];decide)).trans h.cb
  wr:=cH h.wr (fun b e=>hb b (cn h.wr b e).2 (by rw[h.dx b e];decide))
  er:=cH h.er (fun b e=>hb b (cn h.er b e).2 (by rw[h.eo b e];decide))}
theorem Dv (h:(cutV c k cG cr).J F s w)(i:Nat)(x:Int):(cutV c k cG cr).J F {s with rs:=s.rs.set i x} (w.setCell ⟨c.nb,i,none⟩ (.int .i64 x))/\b8 F w F (w.setCell ⟨c.nb,i,none⟩ (.int .i64 x)):=by
 obtain⟨own,h,d⟩:=h;have fr:Fr (fun b=>b=c.nb) w (w.setCell ⟨c.nb,i,none⟩ (.int .i64 x)):=(Fr.refl _ w).set _ i _ rfl;refine⟨⟨own,?_,d⟩,⟨fr.mono (fun b e=>(d b).2 (by rw[e,h.r1];decide)),fun _ h=>aK h⟩⟩
 have hb:∀b,b<w.heap.size->own b≠4->_=_:=fun b hb hn=>fr.block b hb (fun e=>hn (by rw[e];exact h.r1))
 exact {
  mp:=h.mp.same (hb _ h.mp.lt (by rw[h.m1];decide)),a1:=h.a1,a2:=h.a2,c1:=h.c1,c2:=h.c2,w1:=h.w1,r1:=h.r1,k1:=h.k1,m1:=h.m1,dx:=h.dx,eo:=h.eo,lt:=fun b hb=>aM (h.lt b hb) fr.size
  rl:=by rw[a4];exact h.rl
  ar:=h.ar.same (hb _ h.ar.eL (by rw[h.a1];decide)) (hb _ h.ar.eM (by rw[h.a2];decide))
  cd:=h.cd.same (hb _ h.cd.eL (by rw[h.c1];decide)) (hb _ h.cd.eM (by rw[h.c2];decide))
  wd:=(hb _ (lt_of_some h.wd) (by rw[h.w1];decide)).trans h.wd
  rt:=by simp only [World.setCell,Array.getElem?_modify,if_true,h.rt,Option.map_some];simp[List.map_set]
  cb:=(hb _ (lt_of_some h.cb) (by rw[h.k1];decide)).trans h.cb
  wr:=cH h.wr (fun b e=>hb b (cn h.wr b e).2 (by rw[h.dx b e];decide))
  er:=cH h.er (fun b e=>hb b (cn h.er b e).2 (by rw[h.eo b e];decide))}
theorem d8 (h:(cutV c k cG cr).J F s w):w.cell? (aq c.pk 0)=some (aj c.pw)/\w.cell? (aq c.pk 1)=some (.map (some c.ch))/\w.cell? (aq c.pk 2)=some (ah s.nx)/\w.cell? (aq c.pk 3)=some cG/\w.cell? (aq c.pk 4)=some cr/\
 w.cell? (aq c.pw 0)=some (aj c.p)/\w.cell? (aq c.pw 1)=some (aj c.pc)/\w.cell? (aq c.pw 2)=some (aj c.sd)/\w.cell? (aq c.pw 3)=some (.slice (ak c.nb) 12 12)/\(∀o,w.frozen? (aq c.pk o)=false)/\
 w.ownsRow 0 3 1 cG s.wk.length (s.wk.map (Value.int .i64))/\w.ownsRow 0 3 1 cr s.ep.length (s.ep.map (Value.int .i64))/\Cd w c.pc c.cO k.N c.c c.M/\c.pk<w.heap.size/\c.pw<w.heap.size:=by
 obtain⟨own,h,e⟩:=h;have b:=h.cb;have d:=h.wd;exact⟨by simp[World.cell?,b],by simp[World.cell?,b],by simp[World.cell?,b],by simp[World.cell?,b],by simp[World.cell?,b],by simp[World.cell?,d],by simp[World.cell?,d],by simp[World.cell?,d],by simp[World.cell?,d],fun o=>by simp[World.frozen?,b],h.wr,h.er,h.cd,lt_of_some b,lt_of_some d⟩
theorem xm (h:(cutV c k cG cr).J F s w):s.rs.length=12/\c.nb<w.heap.size/\∀i,i<12->w.cell? (aq c.nb i)=some (ah (s.rs.getD i 0))/\w.frozen? (aq c.nb i)=false:=by
 obtain⟨own,h,b⟩:=h;have hl:=h.rl;refine⟨hl,lt_of_some h.rt,fun i hi=>⟨?_,?_⟩⟩
 ·simp[World.cell?,h.rt,List.getElem?_map,List.getElem?_eq_getElem (show i<s.rs.length by omega),List.getD_eq_getElem?_getD]
 ·simp[World.frozen?,h.rt]
theorem Dw (h:(cutV c k cG cr).J F s w):c.pk≠c.ch/\c.pw≠c.ch:=by
 obtain⟨own,h,d⟩:=h;refine⟨fun e=>?_,fun e=>?_⟩
 ·have b:=h.k1;rw[e,h.m1] at b;omega
 ·have b:=h.w1;rw[e,h.m1] at b;omega
theorem sI (h:(cutV c k cG cr).J F s w){v:Value}(hv:w.cell? (aq c.pk 3)=some v\/w.cell? (aq c.pk 4)=some v):some c.pk≠v.ownBlock/\some c.pw≠v.ownBlock:=by
 obtain⟨own,h,f⟩:=h;have d:=h.cb;have hl:∀b,some b=v.ownBlock->own b=7\/own b=8:=fun b e=>by
  rcases hv with hv|hv
  ·simp[World.cell?,d] at hv;subst hv;exact aK (h.dx b e)
  ·simp[World.cell?,d] at hv;subst hv;exact aJ (h.eo b e)
 refine⟨fun e=>?_,fun e=>?_⟩
 ·have:=hl _ e;rw[h.k1] at this
  omega
 ·have:=hl _ e;rw[h.w1] at this
  omega
theorem Dy (h:(cutV c k cG cr).J F s w)(n:Int):(cutV c k cG cr).J F {s with nx:=n} (w.setCell ⟨c.pk,2,none⟩ (.int .i64 n))/\b8 F w F (w.setCell ⟨c.pk,2,none⟩ (.int .i64 n)):=by
 obtain⟨own,h,d⟩:=h;have fr:Fr (fun b=>b=c.pk) w (w.setCell ⟨c.pk,2,none⟩ (.int .i64 n)):=(Fr.refl _ w).set _ 2 _ rfl;refine⟨⟨own,?_,d⟩,⟨fr.mono (fun b e=>(d b).2 (by rw[e,h.k1];decide)),fun _ h=>aK h⟩⟩
 have hb:∀b,b<w.heap.size->own b≠5->_=_:=fun b hb hn=>fr.block b hb (fun e=>hn (by rw[e];exact h.k1))
 exact {
  mp:=h.mp.same (hb _ h.mp.lt (by rw[h.m1];decide)),a1:=h.a1,a2:=h.a2,c1:=h.c1,c2:=h.c2,w1:=h.w1,r1:=h.r1,k1:=h.k1,m1:=h.m1,dx:=h.dx,eo:=h.eo,lt:=fun b hb=>aM (h.lt b hb) fr.size
  rl:=h.rl
  ar:=h.ar.same (hb _ h.ar.eL (by rw[h.a1];decide)) (hb _ h.ar.eM (by rw[h.a2];decide))
  cd:=h.cd.same (hb _ h.cd.eL (by rw[h.c1];decide)) (hb _ h.cd.eM (by rw[h.c2];decide))
  wd:=(hb _ (lt_of_some h.wd) (by rw[h.w1];decide)).trans h.wd
  rt:=(hb _ (lt_of_some h.rt) (by rw[h.r1];decide)).trans h.rt
  cb:=by simp only [World.setCell,Array.getElem?_modify,if_true,h.cb,Option.map_some];simp
  wr:=cH h.wr (fun b e=>hb b (cn h.wr b e).2 (by rw[h.dx b e];decide))
  er:=cH h.er (fun b e=>hb b (cn h.er b e).2 (by rw[h.eo b e];decide))}
theorem Dz {v0:Value}(h:(cutV c k v0 cr).J F s w){v1:Value}{l:List Int}{w1:ax}(g:Fr (fun b=>some b=v0.ownBlock) w w1)(ho:w1.ownsRow 0 3 1 v1 l.length (l.map (Value.int .i64)))(hn:∀b,some b=v1.ownBlock->some b=v0.ownBlock\/¬F b):
 (cutV c k v1 cr).J (fun b=>F b\/some b=v1.ownBlock) {s with wk:=l} (w1.setCell ⟨c.pk,3,none⟩ v1)/\Fr F w (w1.setCell ⟨c.pk,3,none⟩ v1):=by
 obtain⟨own,h,f⟩:=h;have sz:(w1.setCell ⟨c.pk,3,none⟩ v1).heap.size=w1.heap.size:=by simp[World.setCell]
 have hb1:∀b,b<w.heap.size->own b≠7->_=_:=fun b hb hn=>g.block b hb (fun e=>hn (h.dx b e))
 have hb:∀b,b<w.heap.size->own b≠7->own b≠5->(w1.setCell ⟨c.pk,3,none⟩ v1).heap[b]?=w.heap[b]?:=fun b hb i m=>(aU _ _ _ _ (fun e=>m (by have e:=e;rw[e];exact h.k1))).trans (hb1 b hb i)
 have hnw:∀b,some b=v1.ownBlock->_:=fun b e=>(hn b e).elim (fun e=>aK (h.dx b e)) (fun hl=>aJ (Classical.byContradiction (fun c=>hl ((f b).2 c))))
 have d:∀b j,own b=j->j≠7->j≠0->(if some b=v1.ownBlock then 7 else own b)=j:=fun b j e i h0=>by exact qe
 have n:=fun b e=>(cn ho b e).2;refine⟨⟨fun b=>if some b=v1.ownBlock then 7 else own b,?_,fun b=>?_⟩,?_⟩
 ·exact {
   ar:=h.ar.same (hb _ h.ar.eL (by rw[h.a1];decide) (by rw[h.a1];decide)) (hb _ h.ar.eM (by rw[h.a2];decide) (by rw[h.a2];decide))
   a1:=d _ _ h.a1 aa aa,a2:=d _ _ h.a2 aa aa,c1:=d _ _ h.c1 aa aa,c2:=d _ _ h.c2 aa aa,w1:=d _ _ h.w1 aa aa,r1:=d _ _ h.r1 aa aa,k1:=d _ _ h.k1 aa aa,m1:=d _ _ h.m1 aa aa
   rl:=h.rl
   cd:=h.cd.same (hb _ h.cd.eL (by rw[h.c1];decide) (by rw[h.c1];decide)) (hb _ h.cd.eM (by rw[h.c2];decide) (by rw[h.c2];decide))
   wd:=(hb _ (lt_of_some h.wd) (by rw[h.w1];decide) (by rw[h.w1];decide)).trans h.wd
   rt:=(hb _ (lt_of_some h.rt) (by rw[h.r1];decide) (by rw[h.r1];decide)).trans h.rt
   cb:=by exact qd
   mp:=h.mp.same (hb _ h.mp.lt (by rw[h.m1];decide) (by rw[h.m1];decide))
   wr:=cH ho (fun b e=>aU _ _ _ _ (fun o=>by
    have:=hnw b e;rw[o,h.k1] at this
    omega))
   dx:=fun b e=>by rw[aI e]
   er:=cH h.er (fun b e=>hb b (cn h.er b e).2 (by rw[h.eo b e];decide) (by rw[h.eo b e];decide))
   eo:=fun b e=>d _ _ (h.eo b e) aa aa
   lt:=fun b hb=>by
    rw[sz];by_cases e:some b=v1.ownBlock
    ·exact n b e
    ·rw[aG e] at hb;exact aM (h.lt b hb) g.size}
 ·by_cases e:some b=v1.ownBlock
  ·simp[e]
  ·simp[e,f b]
 ·refine(g.mono (fun b e=>(f b).2 (by rw[h.dx b e];decide))).trans ((Fr.refl (fun b=>b=c.pk) w1).set _ 3 _ rfl) (fun b e=>aK ((f b).2 (by rw[e,h.k1];decide)))
theorem DA {v0:Value}(h:(cutV c k v0 cr).J F s w){v1:Value}{l:List Int}{w1:ax}(f:Fr (fun b=>some b=v0.ownBlock) w w1)(ho:w1.ownsRow 0 3 1 v1 l.length (l.map (Value.int .i64)))(hn:∀b,some b=v1.ownBlock->some b=v0.ownBlock\/w.heap.size<=b):
 ∃d,(cutV c k v1 cr).J d {s with wk:=l} (w1.setCell ⟨c.pk,3,none⟩ v1)/\b8 F w d (w1.setCell ⟨c.pk,3,none⟩ v1):=by
 obtain⟨g,i⟩:=Dz h f ho (fun b e=>(hn b e).imp id (fun m hb=>by have:=(cutV c k v0 cr).lt h b hb;omega))
 obtain⟨own,hm,j⟩:=h;exact⟨_,g,i,fun b hb=>hb.elim aK (fun e=>(hn b e).imp (fun e=>(j b).2 (by rw[hm.dx b e];decide)) id)⟩
theorem xn {v0:Value}(h:(cutV c k cG v0).J F s w){v1:Value}{l:List Int}{w1:ax}(g:Fr (fun b=>some b=v0.ownBlock) w w1)(ho:w1.ownsRow 0 3 1 v1 l.length (l.map (Value.int .i64)))(hn:∀b,some b=v1.ownBlock->some b=v0.ownBlock\/¬F b):
 (cutV c k cG v1).J (fun b=>F b\/some b=v1.ownBlock) {s with ep:=l} (w1.setCell ⟨c.pk,4,none⟩ v1)/\Fr F w (w1.setCell ⟨c.pk,4,none⟩ v1):=by
 obtain⟨own,h,f⟩:=h;have sz:(w1.setCell ⟨c.pk,4,none⟩ v1).heap.size=w1.heap.size:=by simp[World.setCell]
 have hb1:∀b,b<w.heap.size->own b≠8->_=_:=fun b hb hn=>g.block b hb (fun e=>hn (h.eo b e))
 have hb:∀b,b<w.heap.size->own b≠8->own b≠5->(w1.setCell ⟨c.pk,4,none⟩ v1).heap[b]?=w.heap[b]?:=fun b hb i m=>(aU _ _ _ _ (fun e=>m (by have e:=e;rw[e];exact h.k1))).trans (hb1 b hb i)
 have hnw:∀b,some b=v1.ownBlock->_:=fun b e=>(hn b e).elim (fun e=>aK (h.eo b e)) (fun hl=>aJ (Classical.byContradiction (fun c=>hl ((f b).2 c))))
 have d:∀b j,own b=j->j≠8->j≠0->(if some b=v1.ownBlock then 8 else own b)=j:=fun b j e i h0=>by exact qe
 have n:=fun b e=>(cn ho b e).2;refine⟨⟨fun b=>if some b=v1.ownBlock then 8 else own b,?_,fun b=>?_⟩,?_⟩
 ·exact {
   ar:=h.ar.same (hb _ h.ar.eL (by rw[h.a1];decide) (by rw[h.a1];decide)) (hb _ h.ar.eM (by rw[h.a2];decide) (by rw[h.a2];decide))
   a1:=d _ _ h.a1 aa aa,a2:=d _ _ h.a2 aa aa,c1:=d _ _ h.c1 aa aa,c2:=d _ _ h.c2 aa aa,w1:=d _ _ h.w1 aa aa,r1:=d _ _ h.r1 aa aa,k1:=d _ _ h.k1 aa aa,m1:=d _ _ h.m1 aa aa
   rl:=h.rl
   cd:=h.cd.same (hb _ h.cd.eL (by rw[h.c1];decide) (by rw[h.c1];decide)) (hb _ h.cd.eM (by rw[h.c2];decide) (by rw[h.c2];decide))
   wd:=(hb _ (lt_of_some h.wd) (by rw[h.w1];decide) (by rw[h.w1];decide)).trans h.wd
   rt:=(hb _ (lt_of_some h.rt) (by rw[h.r1];decide) (by rw[h.r1];decide)).trans h.rt
   cb:=by exact qd
   mp:=h.mp.same (hb _ h.mp.lt (by rw[h.m1];decide) (by rw[h.m1];decide))
   er:=cH ho (fun b e=>aU _ _ _ _ (fun o=>by
    have:=hnw b e;rw[o,h.k1] at this
    omega))
   eo:=fun b e=>by rw[aI e]
   wr:=cH h.wr (fun b e=>hb b (cn h.wr b e).2 (by rw[h.dx b e];decide) (by rw[h.dx b e];decide))
   dx:=fun b e=>d _ _ (h.dx b e) aa aa
   lt:=fun b hb=>by
    rw[sz];by_cases e:some b=v1.ownBlock
    ·exact n b e
    ·rw[aG e] at hb;exact aM (h.lt b hb) g.size}
 ·by_cases e:some b=v1.ownBlock
  ·simp[e]
  ·simp[e,f b]
 ·refine(g.mono (fun b e=>(f b).2 (by rw[h.eo b e];decide))).trans ((Fr.refl (fun b=>b=c.pk) w1).set _ 4 _ rfl) (fun b e=>aK ((f b).2 (by rw[e,h.k1];decide)))
theorem DB {v0:Value}(h:(cutV c k cG v0).J F s w){v1:Value}{l:List Int}{w1:ax}(f:Fr (fun b=>some b=v0.ownBlock) w w1)(ho:w1.ownsRow 0 3 1 v1 l.length (l.map (Value.int .i64)))(hn:∀b,some b=v1.ownBlock->some b=v0.ownBlock\/w.heap.size<=b):
 ∃d,(cutV c k cG v1).J d {s with ep:=l} (w1.setCell ⟨c.pk,4,none⟩ v1)/\b8 F w d (w1.setCell ⟨c.pk,4,none⟩ v1):=by
 obtain⟨g,i⟩:=xn h f ho (fun b e=>(hn b e).imp id (fun m hb=>by have:=(cutV c k cG v0).lt h b hb;omega))
 obtain⟨own,hm,j⟩:=h;exact⟨_,g,i,fun b hb=>hb.elim aK (fun e=>(hn b e).imp (fun e=>(j b).2 (by rw[hm.eo b e];decide)) id)⟩
end
def eV (N y g:Nat)(ws:List Int)(Q:List b7)(a:Int):List Int:=
 if pk (ld N y g ws a)=5 then ef Q (ew 3 a) else(List.range (iw N y g a (pf (ld N y g ws a))).toNat).map (fun i:Nat=>ld N y g ws (a+1+(i:Int)))
theorem DC (N y g:Nat)(ws:List Int)(Q:List b7)(a:Int):(eV N y g ws Q a).length<=Q.length+12:=by
 unfold eV;split
 ·have:=oU Q (ew 3 a)
  omega
 ·have b:iw N y g a (pf (ld N y g ws a))<=12:=by unfold iw;exact Int.le_trans (Int.min_le_left _ _) (dj _).2
  simp;omega
section
variable {w:ax}{pw p q N O y g:Nat}{ws:List Int}{sd:Nat}{v0:Value}{a1:Option Addr}{k1:Nat}{Q:List b7}
theorem DD (h:mW w pw p q N O y g ws sd v0 a1 k1 Q)(c:Nat)(hk:w.cell? (aq c 0)=some (aj pw))(a:Int)(l0:0<=a)(l1:a<=100000):
 Calls prog 244 #[aj c,ah a,ah (pk (ld N y g ws a)),ah (pf (ld N y g ws a))] w fun e w'=>∃ad cap,e=.returned (.slice ad (eV N y g ws Q a).length cap)/\w'.ownsRow w.heap.size 2 1 (.slice ad (eV N y g ws Q a).length cap) (eV N y g ws Q a).length ((eV N y g ws Q a).map (Value.int .i64))/\aw w w':=by
 obtain⟨S,hi,U,W,X⟩:=info_parts vP;have H:=hide h;have c0:=h.c0;have c2:=h.c2;have C:=aQ w _ c0;have gm:=aQ w _ hk;clear h;by_cases d:pk (ld N y g ws a)=5
 ·have l:eV N y g ws Q a=ef Q (ew 3 a):=by unfold eV;rw[aI d]
  rw[l,d];clear l d;generalize pf (ld N y g ws a)=f;have hd:=(av w).drew;go_enter func244,ntmps244;go_wp2_with fail
  go_region_held3 (fun w'=>w'.cell? (aq c 0)=some (aj pw)/\w'.cell? (aq pw 2)=some (aj sd)) (first|exact⟨hk,c2⟩|exact⟨u0,G⟩|exact⟨Y,ab⟩|go_keep)
   (first
     |(have bd:=b;go_at_call 252;refine(sF _ sd v0 a1 k1 Q (ew 3 a) (H.out.low b).hs (H.out.low b).hp (H.out.low b).hm).mono ?_;rintro e be ⟨ad,cap,rfl,I,t⟩;have bg:=t.size;have Y:=(t.cell (p:=aq c 0) (aM gm u)).trans u0;have ab:=(t.cell (p:=aq pw 2) (aM C u)).trans G)
     |(go_at_call 42;refine(r5 a _).mono ?_;rintro e bi ⟨rfl,ag⟩;have b:=hd.trans ag;have u:=b.size;have u0:=(b.cell (p:=aq c 0) gm).trans hk;have G:=(b.cell (p:=aq pw 2) C).trans c2))
  go_wp2_with fail;go_ret;exact⟨ad,cap,rfl,eT I (fun k e=>aT u (cn I k e).1),b.trans (t.mono u)⟩
 ·have l:eV N y g ws Q a=(List.range (iw N y g a (pf (ld N y g ws a))).toNat).map (fun i:Nat=>ld N y g ws (a+1+(i:Int))):=by unfold eV;rw[aG d]
  rw[l];have ai:iw N y g a (pf (ld N y g ws a))<=12:=by unfold iw;exact Int.le_trans (Int.min_le_left _ _) (dj _).2
  have v:=wM a (pf (ld N y g ws a)) w c0 H.out.ar l0 l1;clear l;generalize iw N y g a (pf (ld N y g ws a))=st at v ai⊢;generalize pf (ld N y g ws a)=f at v⊢;generalize pk (ld N y g ws a)=kd at d⊢;have al:ay (∀w1 x,aw w w1->_):=fun w1 x hb=>jJ x w1 (H.out.low hb).ar;clear H;simp only [List.length_map,List.length_range];go_enter func244,ntmps244;go_wp2_with fail;refine v.mono ?_;clear v;rintro e w1 ⟨rfl,J⟩
  go_wp2_with fail
  go_loopw [9,30] (fun tv iv wr=>∃(j:Nat)(m:Option Addr)(n:Nat),j<=st.toNat/\iv=ah j/\tv=.slice m j n/\wr.ownsRow w.heap.size 2 1 (.slice m j n) j (((List.range j).map (fun i:Nat=>ld N y g ws (a+1+(i:Int)))).map (Value.int .i64))/\aw w wr) (fun _ iv _=>st.toNat-(intOf iv).toNat)
  exact⟨0,none,0,aZ _,rfl,rfl,bc _ _ _ _,J⟩
  ·
    obtain⟨j,m,n,o,rfl,rfl,s,hb⟩:=hrel;clear J;by_cases bl:j<st.toNat
    ·have am:=(hb.cell (p:=aq c 0) gm).trans hk;have an:=(hb.cell (p:=aq pw 0) C).trans c0;have ao:(j:Int)<st:=V;have ap:=hb.size;go_wp2_with fail;refine(al.out wr (a+1+(j:Int)) hb).mono ?_;rintro e ar ⟨rfl,D⟩
     have A:=cH s (fun k e=>D.block k (cn s k e).2)
     have E:=hb.trans (D.mono ap)
     have aB:=E.size;have K:(((List.range (j+1)).map (fun i:Nat=>ld N y g ws (a+1+(i:Int)))).map (Value.int .i64))=(((List.range j).map (fun i:Nat=>ld N y g ws (a+1+(i:Int)))).map (Value.int .i64))++[ah (ld N y g ws (a+1+(j:Int)))]:=by simp[List.range_succ]
     have B:=hide K;clear K s hb D am an;generalize ld N y g ws (a+1+(j:Int))=z at B⊢;generalize ((List.range j).map (fun i:Nat=>ld N y g ws (a+1+(i:Int)))).map (Value.int .i64)=L at A B;go_wp2_with (at_builtin;refine wpList_append_own_at _ rfl _ _ 53 rfl w.heap.size 2 S (ah 0) 1 8 Tryz.underlying53 hi U W X rfl aa (.slice m j n) j L rfl (ga A _) ⟨ar.heap.size,0,none⟩ 1 1 [ah z] rfl rfl ?_ ?_ ?_ ?_ ?_ ?_;(intro j aF o;match j,o with|0,o=>(simp at o;subst o;simp[Addr.add]));(intro aF M;simp at M;subst M;rfl);(unfold maxLen;omega);omega;(simp;omega);intro bn aR F P _ aV;obtain⟨b4,R,a0⟩:=eU F (Nat.succ_pos _);subst a0)
     have a2:aR.ownsRow w.heap.size 2 1 (.slice (ak b4) (j+1) R) (j+1) (((List.range (j+1)).map (fun i:Nat=>ld N y g ws (a+1+(i:Int)))).map (Value.int .i64)):=by rw[B.out];exact F
     have bb:=(E.alloc aB _).grown P (by simp;omega) (fun k e=>(cn A k e.symm).1)
     clear F P aV A E B;go_wp2_with fail;go_roundw;exact⟨j+1,ak b4,R,V,af,rfl,a2,bb⟩
     simp[intOf];omega
    ·obtain rfl:j=st.toNat:=V;have ao:¬((st.toNat:Nat):Int)<st:=V;go_wp2_with fail;go_ret;exact⟨m,n,rfl,by rw[List.map_map] at s;exact s,hb⟩
end
def fE (w0 w:ax)(m:List dT)(w':ax)(b:List dT):Prop:=Kf w0.heap.size w w'/\∀k,fp b k->fp m k\/w.heap.size<=k
theorem fE.refl (w0 w:ax)(m:List dT):fE w0 w m w m:=⟨Kf.refl _ _,fun _ h=>aK h⟩
theorem fE.trans {w0 w w' b:ax}{m d e:List dT}(h:fE w0 w m w' d)(k:fE w0 w' d b e):fE w0 w m b e:=
 ⟨h.1.trans k.1,fun i hi=>(k.2 i hi).elim (h.2 i) (fun c=>aJ (aT h.1.size c))⟩
theorem fE.of {w0 w w':ax}{m:List dT}(h:aw w w'):fE w0 w m w' m:=⟨Kf.of h,fun _ h=>aK h⟩
theorem fE.new {w0 w w' b:ax}{m d:List dT}{X:Nat->Prop}(h:fE w0 w m w' d)(f:Fr X w' b)(g:∀k,X k->w.heap.size<=k):fE w0 w m b d:=
 ⟨⟨f.os.trans h.1.os,f.tape.trans h.1.tape,f.output.trans h.1.output,aT h.1.size f.size,fun k hk hb=>(f.block k (aM hk h.1.size) (fun c=>by have:=g k c;omega)).trans (h.1.low k hk hb),
  fun k i e mm hk j l=>(f.block k (aM (lt_of_some hk) h.1.size) (fun c=>by have:=g k c;have:=lt_of_some hk;omega)).trans (h.1.h9 k i e mm hk j l)⟩,h.2⟩
section
variable {w0 w w':ax}{kb ch pw:Nat}{T:List Int}{s:cQ}{vn:Value}{m:List dT}
theorem Wk.fb (h:Wk w0 w kb ch pw T s vn m)(k:Nat)(hk:fp m k):k<w.heap.size:=by exact xk
theorem Wk.but {X:Nat->Prop}(h:Wk w0 w kb ch pw T s vn m)(f:Fr X w w')(hX:∀k,k<w.heap.size->X k->(∃cs,w.heap[k]?=some (.cells cs 97 (0,0)))/\¬fp m k/\w0.heap.size<=k):Wk w0 w' kb ch pw T s vn m:=by
 obtain⟨D,o1,i,j⟩:=h.mp;have n1:¬X kb:=fun c=>by obtain⟨⟨cs,hc⟩,_⟩:=hX kb (lt_of_some h.blk) c;rw[h.blk] at hc;simp at hc
 have d:¬X ch:=fun c=>by obtain⟨⟨cs,hc⟩,_⟩:=hX ch o1.lt c;obtain⟨l,n,hb,_⟩:=o1;rw[hb] at hc;simp at hc
 refine⟨(f.block kb (lt_of_some h.blk) n1).trans h.blk,h.lo,h.mp.same (f.block ch o1.lt d),cH h.row (fun k hk=>f.block k (cn h.row k hk).2 (fun c=>?_)),h.nd,fun x hx=>?_,h.eH.trans ⟨f.os,f.tape,f.output,f.size,fun k hk=>f.block k (aM hk h.eH.size) (fun c=>by have:=(hX k (aM hk h.eH.size) c).2.2;omega)⟩⟩
 ·obtain⟨⟨cs,hc⟩,_⟩:=hX k (cn h.row k hk).2 c;obtain⟨o,g⟩:=e5 h.row k hk;rw[g] at hc;simp at hc
 ·have hl:=h.fl x hx;exact xg
end
def n6 (w0:ax)(b ch pw:Nat)(T:List Int)(M:cQ->Int->cQ)(n:Nat):Prop:=
 ∀(w:ax)(s:cQ)(d:Value)(m:List dT)(a:Int),Wk w0 w b ch pw T s d m->e9 T s->a∈T->a∉s.1->T.length<=s.1.length+n->
  Calls prog 231 #[aj b,ah a] w fun e w'=>∃f c,e=.returned (ah s.1.length)/\Wk w0 w' b ch pw T (M s a) f c/\fE w0 w m w' c
theorem xo:(prog.info? 97).map (fun i=>(i.zero,i.size,i.bytes))=some (some (.agg #[ah 0,ah 0]),2,16):=ae
section
variable {w0 w:ax}{kb ch pw n:Nat}{T:List Int}{kd:Int->Int}{sh:Int->List Int}{M:cQ->Int->cQ}{s:cQ}{vn:Value}{m:List dT}
theorem DE (h:Wk w0 w kb ch pw T s vn m)(a:Int)(a0:0<=a)(a1:a<1152921504606846976)(d:T.contains a=false):
 Calls prog 198 #[aj kb,ah a] w fun e w'=>∃x,e=.returned (.tuple #[ah x,.bool false])/\w'=w:=by
 obtain⟨c0,c1,c2,lk⟩:=h.cells;obtain⟨D,o1,f,g⟩:=h.mp;have b:=f a;rw[d] at b;have b:=hide b;go_enter func198,ntmps198;go_wp2_with (at_lookup;refine wpList_lookup_own_ok_int _ rfl _ _ 127 rfl 3 3 .i64 iN Tryz.underlying127 Tryz.underlying3 (lW _) ch T.length D rfl o1 _ _ rfl (je a0 a1) ?_;intro c i j;rw[b.out])
 go_ret2;exact⟨c,rfl,rfl⟩
def lX (s:cQ)(a:Int):Int:=if s.1.contains a=true then(s.1.idxOf a:Int) else s.1.length
def lY (M:cQ->Int->cQ)(s:cQ)(a:Int):cQ:=if s.1.contains a=true then s else M s a
theorem DF (hM:n6 w0 kb ch pw T M n)(h:Wk w0 w kb ch pw T s vn m)(ho:e9 T s)(hn:T.length<=s.1.length+n)(a:Int)(a0:0<=a)(a1:a<1152921504606846976)(i:a∈T):
 Calls prog 198 #[aj kb,ah a] w fun e w'=>∃j d,e=.returned (.tuple #[ah (lX s a),.bool true])/\Wk w0 w' kb ch pw T (lY M s a) j d/\fE w0 w m w' d:=by
 have H:=hide h;have u:=hide hM;obtain⟨c0,c1,c2,lk⟩:=h.cells;obtain⟨D,o1,v,x⟩:=h.mp;have p:=je a0 a1;have q:ay (Maps.has D (.int .i64 a)=true):=(v a).trans (by simpa using i)
 have f:=x a i;by_cases b:a∈s.1
 ·rw[Dt b] at f;have g:ay (_=_):=f;have k:lX s a=(s.1.idxOf a:Int):=by unfold lX;rw[aI (by simpa using b)]
  have l:lY M s a=s:=by unfold lY;rw[aI (by simpa using b)]
  rw[k,l];generalize s.1.idxOf a=L at g⊢;go_enter func198,ntmps198;go_wp2_with (at_lookup;refine wpList_lookup_own_ok_int _ rfl _ _ 127 rfl 3 3 .i64 iN Tryz.underlying127 Tryz.underlying3 (lW _) ch T.length D rfl o1 _ _ rfl p ?_;intro c o A;rw[q.out];(have hc:c=(L:Int):=by have:=o.symm.trans g.out;simpa using this);subst hc)
  go_ret2;exact⟨vn,m,rfl,H.out,fE.refl _ _ _⟩
 ·rw[Ds b] at f;have g:ay (_=_):=f;have k:lX s a=s.1.length:=by unfold lX;rw[aG (by simpa using b)]
  have l:lY M s a=M s a:=by unfold lY;rw[aG (by simpa using b)]
  rw[k,l];have P:=u.out w s vn m a H.out ho i b hn;generalize M s a=C at P⊢;generalize s.1.length=L at P⊢;go_enter func198,ntmps198;go_wp2_with (at_lookup;refine wpList_lookup_own_ok_int _ rfl _ _ 127 rfl 3 3 .i64 iN Tryz.underlying127 Tryz.underlying3 (lW _) ch T.length D rfl o1 _ _ rfl p ?_;intro c o A;rw[q.out];(have hc:c=-1:=by have:=o.symm.trans g.out;simpa using this);subst hc)
  refine P.mono ?_;rintro e w1 ⟨j,d,rfl,B,k1⟩
  have t:=dq B k1;go_wp2_with fail;go_ret2;exact⟨j,d,rfl,t.out.1,t.out.2⟩
theorem xp (x:Int)(h:dk x=3):0<=de x/\de x<1152921504606846976:=by
 have h0:dc x=0:=by
  by_cases c:dc x=0
  ·exact c
  ·unfold dk at h;omega
 have b:=(vu x h0).1;rw[h] at b;rw[rZ] at b;unfold rc at b;split at b
 ·omega
 ··omega
theorem DG (hM:n6 w0 kb ch pw T M n)(h:Wk w0 w kb ch pw T s vn m)(ho:e9 T s)(hn:T.length<=s.1.length+n)(x:Int):
 Calls prog 130 #[aj kb,ah x] w fun e w'=>∃O B,e=.returned (.agg #[ah (eg M T s x).1.1,ah (eg M T s x).1.2])/\Wk w0 w' kb ch pw T (eg M T s x).2 O B/\fE w0 w m w' B:=by
 have H:ay (Wk w0 w kb ch pw T s vn m):=h;have C:=au w (.cells #[.int .i64 0,.int .i64 0] 97)
 have D:=aN w (.cells #[.int .i64 0,.int .i64 0] 97)
 have P:=vy x (w.alloc (.cells #[.int .i64 0,.int .i64 0] 97))
 by_cases o:dk x=3
 ·have u:=xp x o;rw[o] at P;cases hT:T.contains (de x)
  ·have ev:eg M T s x=((0,0),s):=by unfold eg;rw[aI o,hT,aG Z]
   rw[ev];generalize de x=a at P u hT;generalize dc x=cc at P;have A:ay (∀w1,aw w w1->Calls prog 198 #[aj kb,ah a] w1 fun e w'=>∃x,e=.returned (.tuple #[ah x,.bool false])/\w'=w1):=fun w1 hb=>DE (H.out.below hb) a u.1 u.2 hT;go_enter func130,ntmps130;go_wp2_with fail;refine P.mono ?_;rintro e w1 ⟨rfl,d⟩
   have g:=(d.block w.heap.size Z).trans D;have q:=C.trans (d.mono Z)
   have E:=d.size;simp at E;have t:=au w1 (.cells #[.int .i64 3,.int .i64 a] 97)
   have j:=q.trans (t.mono V)
   have i:=(t.block w.heap.size V).trans g;clear D g C d;go_wp2_with fail;refine(A.out _ j).mono ?_;rintro e w3 ⟨z,rfl,Q⟩
   rw[<-Q] at i j t;have R:w.heap.size<w3.heap.size:=by rw[Q];simp;omega
   clear Q;have y0:w3.cell? (aq w.heap.size 0)=some (ah 0):=by simp[World.cell?,i]
   have y1:w3.cell? (aq w.heap.size 1)=some (ah 0):=by simp[World.cell?,i]
   have S:w3.frozen? (aq w.heap.size 0)=false:=by simp[World.frozen?,i]
   have U:w3.frozen? (aq w.heap.size 1)=false:=by simp[World.frozen?,i]
   have F:ay (fE w0 w m w3 m):=fE.of j;have G:ay (∀I,Fr (fun k=>k=w.heap.size) w3 I->_):=fun I f=>(H.out.below j).but f (fun k _ e=>by have e:=e;rw[e];exact⟨⟨_,i⟩,fun c=>by have:=H.out.fb _ c;omega,H.out.eH.size⟩)
   clear A i t q j H;go_wp2_with fail;obtain⟨b,hW0⟩:∃b,b=(w3.setCell ⟨w.heap.size,0,none⟩ (.int .i64 0)).setCell ⟨w.heap.size,1,none⟩ (.int .i64 0):=⟨_,rfl⟩
   rw[<-hW0];have g0:b.cell? (aq w.heap.size 0)=some (ah 0):=by exact lq
   have g1:b.cell? (aq w.heap.size 1)=some (ah 0):=by exact xh
   have l:Fr (fun k=>k=w.heap.size) w3 b:=by rw[hW0];exact((Fr.refl (fun k=>k=w.heap.size) w3).set w.heap.size 0 _ rfl).set w.heap.size 1 _ rfl
   exact a3 (v:=.agg #[ah 0,ah 0]) (by simp[results,results130,go_sem,g0,g1]) rfl ⟨vn,m,rfl,G.out b l,F.out.new l (fun k e=>Nat.le_of_eq (Eq.symm e))⟩
  ·have W:de x∈T:=by simpa using hT
   have ev:eg M T s x=((3,lX s (de x)),lY M s (de x)):=by unfold eg lX lY;rw[aI o,aI hT];split<;>rfl
   rw[ev];generalize de x=a at P u W⊢;generalize dc x=cc at P;have A:ay (∀w1,aw w w1->_):=fun w1 hb=>DF hM (H.out.below hb) ho hn a u.1 u.2 W;generalize lX s a=z at A⊢;generalize lY M s a=ad at A⊢;go_enter func130,ntmps130;go_wp2_with fail;refine P.mono ?_;rintro e w1 ⟨rfl,d⟩
   have g:=(d.block w.heap.size Z).trans D;have q:=C.trans (d.mono Z)
   have E:=d.size;simp at E;have t:=au w1 (.cells #[.int .i64 3,.int .i64 a] 97)
   have j:=q.trans (t.mono V)
   have i:=(t.block w.heap.size V).trans g;go_wp2_with fail;refine(A.out _ j).mono ?_;rintro e w3 ⟨O,B,rfl,X,L⟩
   have J:=(L.1.h9 _ _ _ _ i aa aa).trans i;have R:=L.1.size;simp at R;have y0:w3.cell? (aq w.heap.size 0)=some (ah 0):=by simp[World.cell?,J]
   have y1:w3.cell? (aq w.heap.size 1)=some (ah 0):=by simp[World.cell?,J]
   have S:w3.frozen? (aq w.heap.size 0)=false:=by simp[World.frozen?,J]
   have U:w3.frozen? (aq w.heap.size 1)=false:=by simp[World.frozen?,J]
   have Y:¬fp B w.heap.size:=fun c=>(L.2 _ c).elim (fun c=>by have:=H.out.fb _ c;omega) (fun c=>by simp at c;omega)
   have F:=hide ((fE.of j).trans L)
   have G:ay (∀I,Fr (fun k=>k=w.heap.size) w3 I->_):=fun I f=>X.but f (fun k _ e=>by have e:=e;rw[e];exact⟨⟨_,J⟩,Y,H.out.eH.size⟩)
   go_wp2_with fail;obtain⟨b,hW0⟩:∃b,b=(w3.setCell ⟨w.heap.size,0,none⟩ (.int .i64 3)).setCell ⟨w.heap.size,1,none⟩ (.int .i64 z):=⟨_,rfl⟩
   rw[<-hW0];have g0:b.cell? (aq w.heap.size 0)=some (ah 3):=by exact lq
   have g1:b.cell? (aq w.heap.size 1)=some (ah z):=by exact xh
   have l:Fr (fun k=>k=w.heap.size) w3 b:=by rw[hW0];exact((Fr.refl (fun k=>k=w.heap.size) w3).set w.heap.size 0 _ rfl).set w.heap.size 1 _ rfl
   exact a3 (v:=.agg #[ah 3,ah z]) (by simp[results,results130,go_sem,g0,g1]) rfl ⟨O,B,rfl,G.out b l,F.out.new l (fun k e=>Nat.le_of_eq (Eq.symm e))⟩
 ·have ev:eg M T s x=((dk x,de x),s):=by unfold eg;rw[aG o]
  rw[ev];have ab:(dk x !=3)=true:=by simpa using o
  clear ev o hM ho hn;generalize dk x=K at P ab⊢;generalize de x=v at P⊢;generalize dc x=cc at P;go_enter func130,ntmps130;go_wp2_with fail;refine P.mono ?_;clear P;rintro e w1 ⟨rfl,d⟩
  have g:=(d.block w.heap.size Z).trans D;have q:=C.trans (d.mono Z)
  have E:=d.size;simp at E;have y0:w1.cell? (aq w.heap.size 0)=some (ah 0):=by simp[World.cell?,g]
  have y1:w1.cell? (aq w.heap.size 1)=some (ah 0):=by simp[World.cell?,g]
  have S:w1.frozen? (aq w.heap.size 0)=false:=by simp[World.frozen?,g]
  have U:w1.frozen? (aq w.heap.size 1)=false:=by simp[World.frozen?,g]
  have l1:w.heap.size<w1.heap.size:=V;have n1:¬w.heap.size=w1.heap.size:=V;have ag:¬w1.heap.size=w.heap.size:=V;have g:=hide g;clear D C d;go_wp2_with fail;obtain⟨b,hW0⟩:∃b,b=(w1.setCell ⟨w.heap.size,0,none⟩ (.int .i64 K)).setCell ⟨w.heap.size,1,none⟩ (.int .i64 v):=⟨_,rfl⟩
  rw[<-hW0];have g0:b.cell? (aq w.heap.size 0)=some (ah K):=by exact lq
  have g1:b.cell? (aq w.heap.size 1)=some (ah v):=by exact qc
  have l:Fr (fun k=>k=w.heap.size) w1 b:=by rw[hW0];exact((Fr.refl (fun k=>k=w.heap.size) w1).set w.heap.size 0 _ rfl).set w.heap.size 1 _ rfl
  have ai:b.heap.size=w1.heap.size:=by rw[hW0];simp[World.setCell]
  have N:=au b (.cells #[.int .i64 K,.int .i64 v] 97)
  have G:=((H.out.below q).but l (fun k _ e=>by have e:=e;rw[e];exact⟨⟨_,g.out⟩,fun c=>by have:=H.out.fb _ c;omega,H.out.eH.size⟩)).below N;have F:=((fE.of (w0:=w0) (m:=m) q).new l (fun k e=>Nat.le_of_eq (Eq.symm e))).trans (fE.of N)
  have r0:=(N.cell (p:=aq w.heap.size 0) (by show w.heap.size<_;omega)).trans g0;have r1:=(N.cell (p:=aq w.heap.size 1) (by show w.heap.size<_;omega)).trans g1;generalize b.alloc (.cells #[.int .i64 K,.int .i64 v] 97)=al at*;exact a3 (v:=.agg #[ah K,ah v]) (by simp[results,results130,go_sem,r0,r1]) rfl ⟨vn,m,rfl,G,F⟩
end
end Go.Proofs.YtpkjkjhanlbcoaaGreat
