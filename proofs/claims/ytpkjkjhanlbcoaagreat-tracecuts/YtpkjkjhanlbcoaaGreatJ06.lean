import Derived.Test.YtpkjkjhanlbcoaaGreatJ05
open Array renaming getElem?_modify->bL,size->I
open Bool renaming false->K,true->Nc
open Classical renaming byContradiction->mg
open Eq renaming symm->CX
open False renaming elim->rq
open Go renaming Calls->J,Value->bD,info_parts->bV,maxLen->bW,plainElem->pg,wpList_append_own_at->bX,wpList_lookup_own_ok_int->wb
open Go.Ending renaming returned->M6
open Go.IntKind renaming i64->M4
open Go.Obj renaming cells->M5
open Go.Proofs.Tryz renaming prog->Ng
open Go.RowKit renaming Below->C,intOf->bN
open Go.Value renaming agg->bF,bool->bK,int->U,ownBlock->P,slice->M0,tuple->a8
open Go.World renaming cell?->V,frozen?->bO,heap->G,ownsRow->aC,setCell->ay
open Int renaming le_trans->J2,min_le_left->Ls,toNat->Na
open List renaming contains->bR,length->MZ,range->k4
open Nat renaming le_of_eq->tQ,succ_pos->j3
open Option renaming map_some->bS,none->Y,some->Z
namespace Go.Proofs.YtpkjkjhanlbcoaaGreat
set_option maxRecDepth 100000
set_option maxHeartbeats 2000000
open Tryz
open Go.RowKit W Kp cq
theorem l5 {P:Prop}(h:P:=by rw[hW0,aY _ _ _ _ ac];exact bc _ _ _ y0):P:=h
theorem yI {P:Prop}(h:P:=by
 have E2:=hide ((o2 a).trans hbt.symm)
 have E3:aA (bt=Nc->_=_):=fun e=>o3 a (by rw[hbt] at e;simpa using e)
 clear o2 o3 hbt oH HJ;go_wp2_with (at_lookup;refine wb _ rfl _ _ 127 rfl 3 3 M4 jg underlying127 underlying3 (mI _) c.cu (MZ k.T) D rfl o1 _ _ rfl yJ ?_;intro z hat hwc;rw[E2.o];have E4:=hide (fun e=>by have:=hat.symm.trans (E3.o e);simpa using this);clear hat hwc)
 go_ret2;exact⟨z,rfl,E4.o,hb1⟩):P:=h
theorem qW {P:Prop}(h:P:=by go_ret;rw[E2.o.1,E2.o.2];exact⟨_,by simp[hll],⟨_,_,t6.o.1⟩,⟨t6.o.2,fun b hb=>hb.elim (yK.o b) (fun e=>aK (yL.o b e))⟩⟩):P:=h
theorem qX {P:Prop}(h:P:=by rw[hW0];exact bc _ _ _ ((aY w1 ⟨I (G w),0,Y⟩ ⟨I (G w),1,Y⟩ _ ac).trans y1)):P:=h
theorem qY {P:Prop}(h:P:=by
 go_wp2_with fail;refine P.mono ?_;rintro e w1 ⟨v,rfl,hv,hb1⟩
 have hv:=hv trivial;subst hv;go_wp2;go_ret;exact⟨rfl,hb1⟩):P:=h
theorem yM {P:Prop}(h:P:=by
 go_wp2_with fail;refine P.mono ?_;rintro e w1 ⟨v,rfl,hv,hb1⟩
 have hv:=hv trivial;subst hv;go_wp2_with fail;refine(sW v w1).mono ?_;rintro e w2 ⟨rfl,hb2⟩
 go_wp2;go_ret;exact⟨rfl,hb1.trans (hb2.mono hb1.size)⟩):P:=h
theorem yN {P:Prop}(h:P:=by rw[hW0];exact bc _ _ _ ((aY w3 ⟨I (G w),0,Y⟩ ⟨I (G w),1,Y⟩ _ ac).trans y1)):P:=h
theorem yO {P:Prop}(h:P:=by simp only [World.setCell,bL,if_true,((hb1 _ (lt_of_some h.cb) (by grind [cS.k1])).trans h.cb),bS];simp):P:=h
theorem yP {P:Prop}(h:P:=by
 go_wp2_with fail;refine P.mono ?_;rintro e w1 ⟨rfl,hb1⟩
 go_wp2_with fail;go_ret2;exact⟨0,rfl,fun h=>by simp at h,hb1⟩):P:=h
def Mp (w:az)(cu:Nat)(T:List Int)(f:Int->Int):Prop:=
 ∃D:DataW Unit,w.ownsMap Ng 3 (pg Ng 3) cu (MZ T) D/\(∀a:Int,Maps.has D (.int M4 a)=T.contains a)/\∀a∈T,D.atKey (.int M4 a) (.lit (.int M4 0))=.lit (.int M4 (f a))
theorem Mp.same {w w':az}{cu:Nat}{T:List Int}{f:Int->Int}(h:Mp w cu T f)(e:w'.heap[cu]?=w.heap[cu]?):Mp w' cu T f:=by obtain⟨D,b,c,d⟩:=h;exact⟨D,tW b e,c,d⟩
theorem Mp.lt {w:az}{cu:Nat}{T:List Int}{f:Int->Int}(h:Mp w cu T f):cu<I (G w):=by obtain⟨D,b,_⟩:=h;exact b.lt
theorem Mp.put {w w':az}{cu n:Nat}{T:List Int}{f:Int->Int}{a v:Int}{D:DataW Unit}(c:w.ownsMap Ng 3 (pg Ng 3) cu (MZ T) D)(d:∀a:Int,Maps.has D (.int M4 a)=T.contains a)(i:∀a∈T,D.atKey (.int M4 a) (.lit (.int M4 0))=.lit (.int M4 (f a)))
 (ha:a∈T)(g:w'.ownsMap Ng 3 (pg Ng 3) cu n (D.put (.int M4 a) (.lit (.int M4 v)))):Mp w' cu T (hG f a v):=by
 have hs:Maps.size (D.put (.int M4 a) (.lit (.int M4 v)))<=MZ T:=by rw[Maps.size_put (c.tidy jg),d,aJ (by grind)];exact c.size_le
 refine⟨_,(tX g rfl).mono hs,fun b=>?_,fun b hb=>?_⟩
 ·by_cases e:b=a
  ·subst e;rw[Maps.has_put_same (k:=.int M4 b) c.isMap trivial]
   grind
  grind [Maps.has_put_other]
 ·unfold hG;by_cases e:b=a
  ·subst e;rw[Maps.atKey_put_same (k:=.int M4 b) c.isMap trivial,aJ rfl]
  grind [Maps.atKey_put_other]
theorem Mp.add {w w':az}{cu n:Nat}{T:List Int}{a v:Int}{f:Int->Int}{D:DataW Unit}(c:w.ownsMap Ng 3 (pg Ng 3) cu (MZ T) D)(g:∀a:Int,Maps.has D (.int M4 a)=T.contains a)(i:∀a∈T,D.atKey (.int M4 a) (.lit (.int M4 0))=.lit (.int M4 (f a)))
 (hv:f a=v)(hn:n=MZ T+1)(d:w'.ownsMap Ng 3 (pg Ng 3) cu n (D.put (.int M4 a) (.lit (.int M4 v)))):Mp w' cu (T++[a]) f:=by
 refine⟨_,by rw[hn] at d;simpa using d,fun b=>?_,fun b hb=>?_⟩
 ·by_cases e:b=a
  ·subst e;rw[Maps.has_put_same (k:=.int M4 b) c.isMap trivial];simp
  grind [Maps.has_put_other]
 ·by_cases e:b=a
  ·subst e;rw[Maps.atKey_put_same (k:=.int M4 b) c.isMap trivial,hv]
  grind [Maps.atKey_put_other]
structure gZ where
 pk:Nat
 cu:Nat
 pw:Nat
 p:Nat
 q:Nat
 pc:Nat
 cU:Nat
 sd:Nat
 nb:Nat
 c:Int
 M:List Int
structure cS (c:gZ)(k:ck)(own:Nat->Nat)(s:ct)(cL cy:bD)(w:az):Prop where
 ar:At w c.p c.q k.N k.O k.y s.g s.ws
 a1:own c.p=1
 a2:own c.q=1
 cd:Cd w c.pc c.cU k.N c.c c.M
 c1:own c.pc=2
 c2:own c.cU=2
 wd:w.heap[c.pw]?=Z (M5 #[aq c.p,aq c.pc,aq c.sd,M0 (au c.nb) 12 12] 55 (0,0))
 w1:own c.pw=3
 rt:w.heap[c.nb]?=Z (M5 (s.rs.map (Value.int M4)).toArray 2 (0,0))
 rl:MZ s.rs=12
 r1:own c.nb=4
 cb:w.heap[c.pk]?=Z (M5 #[aq c.pw,.map (Z c.cu),ak s.nx,cL,cy] 167 (0,0))
 k1:own c.pk=5
 mp:Mp w c.cu k.T s.f
 m1:own c.cu=6
 wr:aC w 0 3 1 cL (MZ s.wk) (s.wk.map (Value.int M4))
 dF:∀b,Z b=P cL->own b=7
 er:aC w 0 3 1 cy (MZ s.ep) (s.ep.map (Value.int M4))
 eo:∀b,Z b=P cy->own b=8
 lt:∀b,own b≠0->b<I (G w)
section
variable {c:gZ}{k:ck}{own:Nat->Nat}{s:ct}{cL cy:bD}{w w':az}
theorem cS.but (h:cS c k own s cL cy w)(L:Nat->Prop)(hs:I (G w)<=I (G w'))(hk:∀b,b<I (G w)->own b≠0->¬L (own b)->w'.heap[b]?=w.heap[b]?)
 (f:L 1->At w' c.p c.q k.N k.O k.y s.g s.ws)(g:L 4->w'.heap[c.nb]?=Z (M5 (s.rs.map (Value.int M4)).toArray 2 (0,0)))(i:L 5->w'.heap[c.pk]?=Z (M5 #[aq c.pw,.map (Z c.cu),ak s.nx,cL,cy] 167 (0,0)))
 (hM:L 6->Mp w' c.cu k.T s.f)(j:L 7->aC w' 0 3 1 cL (MZ s.wk) (s.wk.map (Value.int M4)))(m:L 8->aC w' 0 3 1 cy (MZ s.ep) (s.ep.map (Value.int M4)))(d:¬L 2)(n:¬L 3):cS c k own s cL cy w' where
 ar:=by
  by_cases l:L 1
  ·grind
  ·exact h.ar.same (hk _ h.ar.fj (by grind [a1]) ((h.a1▸l))) (hk _ h.ar.fp (by grind [a2]) ((h.a2▸l)))
 a1:=h.a1
 a2:=h.a2
 cd:=h.cd.same (hk _ h.cd.fj (by grind [c1]) ((h.c1▸d))) (hk _ h.cd.fp (by grind [c2]) ((h.c2▸d)))
 c1:=h.c1
 c2:=h.c2
 wd:=(by grind [wd,w1])
 w1:=h.w1
 rt:=by grind [rt,r1]
 rl:=h.rl
 r1:=h.r1
 cb:=by grind [cb,k1]
 k1:=h.k1
 mp:=by
  by_cases l:L 6
  ·grind
  ·exact h.mp.same (hk _ h.mp.lt (by grind [m1]) ((h.m1▸l)))
 m1:=h.m1
 wr:=by
  by_cases l:L 7
  ·grind
  ·exact cM h.wr (fun b e=>hk b (cv h.wr b e).2 (by grind [dF]) ((h.dF b e▸l)))
 dF:=h.dF
 er:=by
  by_cases l:L 8
  ·grind
  ·exact cM h.er (fun b e=>hk b (cv h.er b e).2 (by grind [eo]) ((h.eo b e▸l)))
 eo:=h.eo
 lt:=fun b hb=>aO (h.lt b hb) hs
end
def cutV (c:gZ)(k:ck)(cL e:bD):dC ct where
 J F s w:=∃own,cS c k own s cL e w/\∀b,F b↔own b≠0
 lt:=by rintro F s w ⟨own,h,d⟩ b hb;exact h.lt b ((d b).1 hb)
 keep:=by rintro F s w w' ⟨own,h,d⟩ hs hk;exact⟨own,h.but (fun _=>False) hs (fun b _ hb _=>hk b ((d b).2 hb)) rq rq rq rq rq rq id id,d⟩
def eC (c:gZ)(k:ck):dC ct where
 J F s w:=∃cL b,(cutV c k cL b).J F s w
 lt:=by
  rintro F s w ⟨cL,b,h⟩
  exact(cutV c k cL b).lt h
 keep:=by rintro F s w w' ⟨cL,b,h⟩ hs hk;exact⟨cL,b,(cutV c k cL b).keep h hs hk⟩
section
variable {c:gZ}{k:ck}{cL cy:bD}{F:Nat->Prop}{s:ct}{w w':az}
theorem jh (h:(cutV c k cL cy).J F s w):At w c.p c.q k.N k.O k.y s.g s.ws/\∀w' g ws,At w' c.p c.q k.N k.O k.y g ws->dj c.p c.q w w'->(cutV c k cL cy).J F {s with g:=g,ws:=ws} w'/\ch F w F w':=by
 obtain⟨own,h,f⟩:=h;refine⟨h.ar,fun w' g ws ha d=>⟨⟨own,?_,f⟩,⟨⟨d.os,d.tape,d.output,d.size,fun b hb hn=>(by grind [dj.block,cS.a1,cS.a2])⟩,fun _ h=>aM h⟩⟩⟩
 have hb:∀b,b<I (G w)->own b≠0->¬own b=1->_=_:=fun b hb _ hn=>d.block b hb (fun e=>hn ((e▸h.a1))) (fun e=>hn ((e▸h.a2)))
 exact {
  ar:=ha,a1:=h.a1,a2:=h.a2,c1:=h.c1,c2:=h.c2,w1:=h.w1,rl:=h.rl,r1:=h.r1,k1:=h.k1,m1:=h.m1,dF:=h.dF,eo:=h.eo,lt:=fun b hb=>aO (h.lt b hb) d.size
  cd:=h.cd.same (hb _ h.cd.fj (by grind [cS.c1]) (by grind [cS.c1])) (hb _ h.cd.fp (by grind [cS.c2]) (by grind [cS.c2]))
  wd:=(by grind [cS.wd,cS.w1])
  rt:=(by grind [cS.rt,cS.r1])
  cb:=(by grind [cS.cb,cS.k1])
  mp:=h.mp.same (hb _ h.mp.lt (by grind [cS.m1]) (by grind [cS.m1]))
  wr:=cM h.wr (fun b e=>hb b (cv h.wr b e).2 (by grind [cS.dF]) (by grind [cS.dF]))
  er:=cM h.er (fun b e=>hb b (cv h.er b e).2 (by grind [cS.eo]) (by grind [cS.eo]))}
theorem yQ (h:(cutV c k cL cy).J F s w):Mp w c.cu k.T s.f/\∀w' f,Mp w' c.cu k.T f->Fr (fun b=>b=c.cu) w w'->(cutV c k cL cy).J F {s with f:=f} w'/\ch F w F w':=by
 obtain⟨own,h,d⟩:=h;refine⟨h.mp,fun w' f hm fr=>⟨⟨own,?_,d⟩,⟨(by grind [Fr.mono,cS.m1]),fun _ h=>aM h⟩⟩⟩
 have hb:∀b,b<I (G w)->own b≠6->_=_:=fun b hb hn=>fr.block b hb (fun e=>hn ((e▸h.m1)))
 exact {
  mp:=hm,a1:=h.a1,a2:=h.a2,c1:=h.c1,c2:=h.c2,w1:=h.w1,rl:=h.rl,r1:=h.r1,k1:=h.k1,m1:=h.m1,dF:=h.dF,eo:=h.eo,lt:=fun b hb=>aO (h.lt b hb) fr.size
  ar:=h.ar.same (hb _ h.ar.fj (by grind [cS.a1])) (hb _ h.ar.fp (by grind [cS.a2]))
  cd:=h.cd.same (hb _ h.cd.fj (by grind [cS.c1])) (hb _ h.cd.fp (by grind [cS.c2]))
  wd:=(by grind [cS.wd,cS.w1])
  rt:=(by grind [cS.rt,cS.r1])
  cb:=(by grind [cS.cb,cS.k1])
  wr:=cM h.wr (fun b e=>hb b (cv h.wr b e).2 (by grind [cS.dF]))
  er:=cM h.er (fun b e=>hb b (cv h.er b e).2 (by grind [cS.eo]))}
theorem EZ (h:(cutV c k cL cy).J F s w)(i:Nat)(x:Int):(cutV c k cL cy).J F {s with rs:=s.rs.set i x} (ay w ⟨c.nb,i,Y⟩ (U M4 x))/\ch F w F (ay w ⟨c.nb,i,Y⟩ (U M4 x)):=by
 obtain⟨own,h,d⟩:=h;have fr:Fr (fun b=>b=c.nb) w (ay w ⟨c.nb,i,Y⟩ (U M4 x)):=(by grind [Fr.set,Fr.refl])
 refine⟨⟨own,?_,d⟩,⟨(by grind [Fr.mono,cS.r1]),fun _ h=>aM h⟩⟩
 have hb:∀b,b<I (G w)->own b≠4->_=_:=fun b hb hn=>fr.block b hb (fun e=>hn ((e▸h.r1)))
 exact {
  mp:=h.mp.same (hb _ h.mp.lt (by grind [cS.m1])),a1:=h.a1,a2:=h.a2,c1:=h.c1,c2:=h.c2,w1:=h.w1,r1:=h.r1,k1:=h.k1,m1:=h.m1,dF:=h.dF,eo:=h.eo,lt:=fun b hb=>aO (h.lt b hb) fr.size
  rl:=by grind [cS.rl]
  ar:=h.ar.same (hb _ h.ar.fj (by grind [cS.a1])) (hb _ h.ar.fp (by grind [cS.a2]))
  cd:=h.cd.same (hb _ h.cd.fj (by grind [cS.c1])) (hb _ h.cd.fp (by grind [cS.c2]))
  wd:=(by grind [cS.wd,cS.w1])
  rt:=by simp only [World.setCell,bL,if_true,h.rt,bS];simp[List.map_set]
  cb:=(by grind [cS.cb,cS.k1])
  wr:=cM h.wr (fun b e=>hb b (cv h.wr b e).2 (by grind [cS.dF]))
  er:=cM h.er (fun b e=>hb b (cv h.er b e).2 (by grind [cS.eo]))}
theorem eD (h:(cutV c k cL cy).J F s w):V w (av c.pk 0)=Z (aq c.pw)/\V w (av c.pk 1)=Z (.map (Z c.cu))/\V w (av c.pk 2)=Z (ak s.nx)/\V w (av c.pk 3)=Z cL/\V w (av c.pk 4)=Z cy/\
 V w (av c.pw 0)=Z (aq c.p)/\V w (av c.pw 1)=Z (aq c.pc)/\V w (av c.pw 2)=Z (aq c.sd)/\V w (av c.pw 3)=Z (M0 (au c.nb) 12 12)/\(∀o,bO w (av c.pk o)=K)/\
 aC w 0 3 1 cL (MZ s.wk) (s.wk.map (Value.int M4))/\aC w 0 3 1 cy (MZ s.ep) (s.ep.map (Value.int M4))/\Cd w c.pc c.cU k.N c.c c.M/\c.pk<I (G w)/\c.pw<I (G w):=by
 obtain⟨own,h,e⟩:=h;have b:=h.cb;have d:=h.wd;exact⟨by simp[World.cell?,b],by simp[World.cell?,b],by simp[World.cell?,b],by simp[World.cell?,b],by simp[World.cell?,b],by simp[World.cell?,d],by simp[World.cell?,d],by simp[World.cell?,d],by simp[World.cell?,d],fun o=>by simp[World.frozen?,b],h.wr,h.er,h.cd,lt_of_some b,lt_of_some d⟩
theorem yR (h:(cutV c k cL cy).J F s w):MZ s.rs=12/\c.nb<I (G w)/\∀i,i<12->V w (av c.nb i)=Z (ak (s.rs.getD i 0))/\bO w (av c.nb i)=K:=by
 obtain⟨own,h,b⟩:=h;have hl:=h.rl;refine⟨hl,lt_of_some h.rt,fun i hi=>⟨?_,?_⟩⟩
 ·simp[World.cell?,h.rt,List.getElem?_map,List.getElem?_eq_getElem (show i<MZ s.rs by omega),List.getD_eq_getElem?_getD]
 ·simp[World.frozen?,h.rt]
theorem E0 (h:(cutV c k cL cy).J F s w):c.pk≠c.cu/\c.pw≠c.cu:=by
 obtain⟨own,h,b⟩:=h
 grind [cS.k1,cS.m1,cS.w1]
theorem t7 (h:(cutV c k cL cy).J F s w){v:bD}(hv:V w (av c.pk 3)=Z v\/V w (av c.pk 4)=Z v):Z c.pk≠P v/\Z c.pw≠P v:=by
 obtain⟨own,h,f⟩:=h;have d:=h.cb;have hl:∀b,Z b=P v->own b=7\/own b=8:=fun b e=>by
  rcases hv with hv|hv
  ·simp[World.cell?,d] at hv
   grind [cS.dF]
  ·simp[World.cell?,d] at hv
   grind [cS.eo]
 grind [cS.k1,cS.w1]
theorem E5 (h:(cutV c k cL cy).J F s w)(n:Int):(cutV c k cL cy).J F {s with nx:=n} (ay w ⟨c.pk,2,Y⟩ (U M4 n))/\ch F w F (ay w ⟨c.pk,2,Y⟩ (U M4 n)):=by
 obtain⟨own,h,d⟩:=h;have fr:Fr (fun b=>b=c.pk) w (ay w ⟨c.pk,2,Y⟩ (U M4 n)):=(by grind [Fr.set,Fr.refl])
 refine⟨⟨own,?_,d⟩,⟨(by grind [Fr.mono,cS.k1]),fun _ h=>aM h⟩⟩
 have hb:∀b,b<I (G w)->own b≠5->_=_:=fun b hb hn=>fr.block b hb (fun e=>hn ((e▸h.k1)))
 exact {
  mp:=h.mp.same (hb _ h.mp.lt (by grind [cS.m1])),a1:=h.a1,a2:=h.a2,c1:=h.c1,c2:=h.c2,w1:=h.w1,r1:=h.r1,k1:=h.k1,m1:=h.m1,dF:=h.dF,eo:=h.eo,lt:=fun b hb=>aO (h.lt b hb) fr.size
  rl:=h.rl
  ar:=h.ar.same (hb _ h.ar.fj (by grind [cS.a1])) (hb _ h.ar.fp (by grind [cS.a2]))
  cd:=h.cd.same (hb _ h.cd.fj (by grind [cS.c1])) (hb _ h.cd.fp (by grind [cS.c2]))
  wd:=(by grind [cS.wd,cS.w1])
  rt:=(by grind [cS.rt,cS.r1])
  cb:=by simp only [World.setCell,bL,if_true,h.cb,bS];simp
  wr:=cM h.wr (fun b e=>hb b (cv h.wr b e).2 (by grind [cS.dF]))
  er:=cM h.er (fun b e=>hb b (cv h.er b e).2 (by grind [cS.eo]))}
theorem E6 {v0:bD}(h:(cutV c k v0 cy).J F s w){v1:bD}{l:List Int}{w1:az}(f:Fr (fun b=>Z b=P v0) w w1)(ho:aC w1 0 3 1 v1 (MZ l) (l.map (Value.int M4)))(hn:∀b,Z b=P v1->Z b=P v0\/¬F b):
 (cutV c k v1 cy).J (fun b=>F b\/Z b=P v1) {s with wk:=l} (ay w1 ⟨c.pk,3,Y⟩ v1)/\Fr F w (ay w1 ⟨c.pk,3,Y⟩ v1):=by
 obtain⟨own,h,g⟩:=h;have sz:I (G (ay w1 ⟨c.pk,3,Y⟩ v1))=I (G w1):=by simp_all
 have hb1:∀b,b<I (G w)->own b≠7->_=_:=fun b hb hn=>f.block b hb (fun e=>hn (h.dF b e))
 have hb:∀b,b<I (G w)->own b≠7->own b≠5->(ay w1 ⟨c.pk,3,Y⟩ v1).heap[b]?=w.heap[b]?:=fun b hb i n=>(by grind [cS.k1,aX])
 have m:∀b,Z b=P v1->_:=fun b e=>(hn b e).elim (fun e=>aM (h.dF b e)) (fun hl=>aK (mg (fun c=>hl ((g b).2 c))))
 have d:∀b j,own b=j->j≠7->j≠0->(if Z b=P v1 then 7 else own b)=j:=fun b j e i h0=>(aI (fun c=>by rcases m b c with c|c<;>omega)▸e)
 have o:=fun b e=>(cv ho b e).2;refine⟨⟨fun b=>if Z b=P v1 then 7 else own b,?_,fun b=>?_⟩,?_⟩
 ·exact {
   ar:=h.ar.same (hb _ h.ar.fj (by grind [cS.a1]) (by grind [cS.a1])) (hb _ h.ar.fp (by grind [cS.a2]) (by grind [cS.a2]))
   a1:=d _ _ h.a1 ae ae,a2:=d _ _ h.a2 ae ae,c1:=d _ _ h.c1 ae ae,c2:=d _ _ h.c2 ae ae,w1:=d _ _ h.w1 ae ae,r1:=d _ _ h.r1 ae ae,k1:=d _ _ h.k1 ae ae,m1:=d _ _ h.m1 ae ae
   rl:=h.rl
   cd:=h.cd.same (hb _ h.cd.fj (by grind [cS.c1]) (by grind [cS.c1])) (hb _ h.cd.fp (by grind [cS.c2]) (by grind [cS.c2]))
   wd:=(by grind [cS.wd,cS.w1])
   rt:=(hb _ (lt_of_some h.rt) (by rw[h.r1];decide) (by rw[h.r1];decide)).trans h.rt
   cb:=by exact yO
   mp:=h.mp.same (hb _ h.mp.lt (by grind [cS.m1]) (by grind [cS.m1]))
   wr:=(by grind [cM,cS.k1,aX])
   dF:=fun b e=>by grind
   er:=cM h.er (fun b e=>hb b (cv h.er b e).2 (by grind [cS.eo]) (by grind [cS.eo]))
   eo:=fun b e=>(by grind [cS.eo])
   lt:=fun b hb=>by grind [cS.lt,Fr.size,aO]}
 ·grind
 grind [Fr.mono,cS.dF,Fr.set,cS.k1]
theorem E7 {v0:bD}(h:(cutV c k v0 cy).J F s w){v1:bD}{l:List Int}{w1:az}(f:Fr (fun b=>Z b=P v0) w w1)(ho:aC w1 0 3 1 v1 (MZ l) (l.map (Value.int M4)))(hn:∀b,Z b=P v1->Z b=P v0\/I (G w)<=b):
 ∃d,(cutV c k v1 cy).J d {s with wk:=l} (ay w1 ⟨c.pk,3,Y⟩ v1)/\ch F w d (ay w1 ⟨c.pk,3,Y⟩ v1):=by
 obtain⟨g,i⟩:=E6 h f ho (fun b e=>(hn b e).imp id (fun j hb=>by have:=(cutV c k v0 cy).lt h b hb;omega))
 obtain⟨own,hm,m⟩:=h;exact⟨_,g,i,fun b hb=>(by grind [cS.dF])⟩
theorem yS {v0:bD}(h:(cutV c k cL v0).J F s w){v1:bD}{l:List Int}{w1:az}(f:Fr (fun b=>Z b=P v0) w w1)(ho:aC w1 0 3 1 v1 (MZ l) (l.map (Value.int M4)))(hn:∀b,Z b=P v1->Z b=P v0\/¬F b):
 (cutV c k cL v1).J (fun b=>F b\/Z b=P v1) {s with ep:=l} (ay w1 ⟨c.pk,4,Y⟩ v1)/\Fr F w (ay w1 ⟨c.pk,4,Y⟩ v1):=by
 obtain⟨own,h,g⟩:=h;have sz:I (G (ay w1 ⟨c.pk,4,Y⟩ v1))=I (G w1):=by simp_all
 have hb1:∀b,b<I (G w)->own b≠8->_=_:=fun b hb hn=>f.block b hb (fun e=>hn (h.eo b e))
 have hb:∀b,b<I (G w)->own b≠8->own b≠5->(ay w1 ⟨c.pk,4,Y⟩ v1).heap[b]?=w.heap[b]?:=fun b hb i n=>(by grind [cS.k1,aX])
 have m:∀b,Z b=P v1->_:=fun b e=>(hn b e).elim (fun e=>aM (h.eo b e)) (fun hl=>aK (mg (fun c=>hl ((g b).2 c))))
 have d:∀b j,own b=j->j≠8->j≠0->(if Z b=P v1 then 8 else own b)=j:=fun b j e i h0=>(aI (fun c=>by rcases m b c with c|c<;>omega)▸e)
 have o:=fun b e=>(cv ho b e).2;refine⟨⟨fun b=>if Z b=P v1 then 8 else own b,?_,fun b=>?_⟩,?_⟩
 ·exact {
   ar:=h.ar.same (hb _ h.ar.fj (by grind [cS.a1]) (by grind [cS.a1])) (hb _ h.ar.fp (by grind [cS.a2]) (by grind [cS.a2]))
   a1:=d _ _ h.a1 ae ae,a2:=d _ _ h.a2 ae ae,c1:=d _ _ h.c1 ae ae,c2:=d _ _ h.c2 ae ae,w1:=d _ _ h.w1 ae ae,r1:=d _ _ h.r1 ae ae,k1:=d _ _ h.k1 ae ae,m1:=d _ _ h.m1 ae ae
   rl:=h.rl
   cd:=h.cd.same (hb _ h.cd.fj (by grind [cS.c1]) (by grind [cS.c1])) (hb _ h.cd.fp (by grind [cS.c2]) (by grind [cS.c2]))
   wd:=(by grind [cS.wd,cS.w1])
   rt:=(hb _ (lt_of_some h.rt) (by rw[h.r1];decide) (by rw[h.r1];decide)).trans h.rt
   cb:=by exact yO
   mp:=h.mp.same (hb _ h.mp.lt (by grind [cS.m1]) (by grind [cS.m1]))
   er:=(by grind [cM,cS.k1,aX])
   eo:=fun b e=>by grind
   wr:=cM h.wr (fun b e=>hb b (cv h.wr b e).2 (by grind [cS.dF]) (by grind [cS.dF]))
   dF:=fun b e=>(by grind [cS.dF])
   lt:=fun b hb=>by grind [cS.lt,Fr.size,aO]}
 ·grind
 grind [Fr.mono,cS.eo,Fr.set,cS.k1]
theorem E8 {v0:bD}(h:(cutV c k cL v0).J F s w){v1:bD}{l:List Int}{w1:az}(f:Fr (fun b=>Z b=P v0) w w1)(ho:aC w1 0 3 1 v1 (MZ l) (l.map (Value.int M4)))(hn:∀b,Z b=P v1->Z b=P v0\/I (G w)<=b):
 ∃d,(cutV c k cL v1).J d {s with ep:=l} (ay w1 ⟨c.pk,4,Y⟩ v1)/\ch F w d (ay w1 ⟨c.pk,4,Y⟩ v1):=by
 obtain⟨g,i⟩:=yS h f ho (fun b e=>(hn b e).imp id (fun j hb=>by have:=(cutV c k cL v0).lt h b hb;omega))
 obtain⟨own,hm,m⟩:=h;exact⟨_,g,i,fun b hb=>(by grind [cS.eo])⟩
end
def ft (N y g:Nat)(ws:List Int)(Q:List cf)(a:Int):List Int:=
 if pk (ld N y g ws a)=5 then eK Q (ew 3 a) else(k4 (Na (iZ N y g a (pf (ld N y g ws a))))).map (fun i:Nat=>ld N y g ws (a+1+(i:Int)))
theorem E9 (N y g:Nat)(ws:List Int)(Q:List cf)(a:Int):MZ (ft N y g ws Q a)<=MZ Q+12:=by
 unfold ft;split
 ·have:=pJ Q (ew 3 a)
  omega
 ·have b:iZ N y g a (pf (ld N y g ws a))<=12:=by unfold iZ;exact J2 (Ls _ _) (dv _).2
  simp;omega
section
variable {w:az}{pw p q N O y g:Nat}{ws:List Int}{sd:Nat}{v0:bD}{a1:Option Addr}{k1:Nat}{Q:List cf}
theorem E_ (h:nF w pw p q N O y g ws sd v0 a1 k1 Q)(c:Nat)(hk:V w (av c 0)=Z (aq pw))(a:Int)(l0:0<=a)(l1:a<=100000):
 J Ng 244 #[aq c,ak a,ak (pk (ld N y g ws a)),ak (pf (ld N y g ws a))] w fun e w'=>∃ad cap,e=M6 (M0 ad (MZ (ft N y g ws Q a)) cap)/\aC w' (I (G w)) 2 1 (M0 ad (MZ (ft N y g ws Q a)) cap) (MZ (ft N y g ws Q a)) ((ft N y g ws Q a).map (Value.int M4))/\C (I (G w)) w w':=by
 obtain⟨aF,hi,aR,aV,a0⟩:=bV w_;have H:=hide h;have c0:=h.c0;have c2:=h.c2;have W:=aT w _ c0;have g6:=aT w _ hk;clear h;by_cases d:pk (ld N y g ws a)=5
 ·have l:ft N y g ws Q a=eK Q (ew 3 a):=by unfold ft;rw[aJ d]
  rw[l,d];clear l d;generalize pf (ld N y g ws a)=f;have hd:=(ax w).drew;go_enter func244,ntmps244;go_wp2_with fail
  go_region_held3 (fun w'=>V w' (av c 0)=Z (aq pw)/\V w' (av pw 2)=Z (aq sd)) (first|exact⟨hk,c2⟩|exact⟨u0,al⟩|exact⟨a2,a3⟩|go_keep)
   (first
     |(have bx:=b;go_at_call 252;refine(t5 _ sd v0 a1 k1 Q (ew 3 a) (H.o.low b).hs (H.o.low b).hp (H.o.low b).hm).mono ?_;rintro e b0 ⟨ad,cap,rfl,am,t⟩;have b1:=t.size;have a2:=(t.cell (p:=av c 0) (aO g6 v)).trans u0;have a3:=(t.cell (p:=av pw 2) (aO W v)).trans al)
     |(go_at_call 42;refine(sW a _).mono ?_;rintro e b2 ⟨rfl,a4⟩;have b:=hd.trans a4;have v:=b.size;have u0:=(b.cell (p:=av c 0) g6).trans hk;have al:=(b.cell (p:=av pw 2) W).trans c2))
  go_wp2_with fail;go_ret;exact⟨ad,cap,rfl,fq am (fun k e=>aU v (cv am k e).1),b.trans (t.mono v)⟩
 ·have l:ft N y g ws Q a=(k4 (Na (iZ N y g a (pf (ld N y g ws a))))).map (fun i:Nat=>ld N y g ws (a+1+(i:Int))):=by unfold ft;rw[aI d]
  rw[l];have ba:iZ N y g a (pf (ld N y g ws a))<=12:=by unfold iZ;exact J2 (Ls _ _) (dv _).2
  have B:=yb a (pf (ld N y g ws a)) w c0 H.o.ar l0 l1;clear l;generalize iZ N y g a (pf (ld N y g ws a))=st at B ba⊢;generalize pf (ld N y g ws a)=f at B⊢;generalize pk (ld N y g ws a)=kd at d⊢;have bb:aA (∀w1 x,C (I (G w)) w w1->_):=fun w1 x hb=>ki x w1 (H.o.low hb).ar;clear H;simp only [List.length_map,List.length_range];go_enter func244,ntmps244;go_wp2_with fail;refine B.mono ?_;clear B;rintro e w1 ⟨rfl,an⟩
  go_wp2_with fail
  go_loopw [9,30] (fun tv iv wr=>∃(j:Nat)(m:Option Addr)(n:Nat),j<=Na st/\iv=ak j/\tv=M0 m j n/\aC wr (I (G w)) 2 1 (M0 m j n) j (((k4 j).map (fun i:Nat=>ld N y g ws (a+1+(i:Int)))).map (Value.int M4))/\C (I (G w)) w wr) (fun _ iv _=>Na st-Na (bN iv))
  exact⟨0,Y,0,a5 _,rfl,rfl,bf _ _ _ _,an⟩
  ·
    obtain⟨j,m,n,o,rfl,rfl,s,hb⟩:=hrel;clear an;by_cases b3:j<Na st
    ·have bd:=(hb.cell (p:=av c 0) g6).trans hk;have be:=(hb.cell (p:=av pw 0) W).trans c0;have bg:(j:Int)<st:=aa;have bi:=hb.size;go_wp2_with fail;refine(bb.o wr (a+1+(j:Int)) hb).mono ?_;rintro e bl ⟨rfl,ab⟩
     have F:=cM s (fun k e=>ab.block k (cv s k e).2)
     have ag:=hb.trans (ab.mono bi)
     have bn:=ag.size;have ao:(((k4 (j+1)).map (fun i:Nat=>ld N y g ws (a+1+(i:Int)))).map (Value.int M4))=(((k4 j).map (fun i:Nat=>ld N y g ws (a+1+(i:Int)))).map (Value.int M4))++[ak (ld N y g ws (a+1+(j:Int)))]:=by simp[List.range_succ]
     have S:=hide ao;clear ao s hb ab bd be;generalize ld N y g ws (a+1+(j:Int))=z at S⊢;generalize ((k4 j).map (fun i:Nat=>ld N y g ws (a+1+(i:Int)))).map (Value.int M4)=L at F S;go_wp2_with (at_builtin;refine bX _ rfl _ _ 53 rfl (I (G w)) 2 aF (ak 0) 1 8 underlying53 hi aR aV a0 rfl ae (M0 m j n) j L rfl (fC F _) ⟨I (G bl),0,Y⟩ 1 1 [ak z] rfl rfl ?_ ?_ ?_ ?_ ?_ ?_;(intro j u o;match j,o with|0,o=>(simp at o;subst o;simp[Addr.add]));(intro u ap;simp at ap;subst ap;rfl);(unfold bW;omega);omega;(simp;omega);intro b5 bo ai ar _ bp;obtain⟨b4,aB,br⟩:=eW ai (j3 _);subst br)
     have bs:aC bo (I (G w)) 2 1 (M0 (au b4) (j+1) aB) (j+1) (((k4 (j+1)).map (fun i:Nat=>ld N y g ws (a+1+(i:Int)))).map (Value.int M4)):=by rw[S.o];exact ai
     have bt:=(ag.alloc bn _).grown ar (by simp;omega) (fun k e=>(cv F k e.symm).1)
     clear ai ar bp F ag S;go_wp2_with fail;go_roundw;exact⟨j+1,au b4,aB,aa,aj,rfl,bs,bt⟩
     simp[bN];omega
    ·obtain rfl:j=Na st:=aa;have bg:¬((Na st:Nat):Int)<st:=aa;go_wp2_with fail;go_ret;exact⟨m,n,rfl,by rw[List.map_map] at s;exact s,hb⟩
end
def f4 (w0 w:az)(m:List d6)(w':az)(b:List d6):Prop:=Kf (I (G w0)) w w'/\∀k,fT b k->fT m k\/I (G w)<=k
theorem f4.refl (w0 w:az)(m:List d6):f4 w0 w m w m:=⟨Kf.refl _ _,fun _ h=>aM h⟩
theorem f4.trans {w0 w w' b:az}{m d e:List d6}(h:f4 w0 w m w' d)(k:f4 w0 w' d b e):f4 w0 w m b e:=
 ⟨h.1.trans k.1,fun i hi=>(k.2 i hi).elim (h.2 i) (fun c=>aK (aU h.1.size c))⟩
theorem f4.of {w0 w w':az}{m:List d6}(h:C (I (G w)) w w'):f4 w0 w m w' m:=⟨Kf.of h,fun _ h=>aM h⟩
theorem f4.new {w0 w w' b:az}{m d:List d6}{X:Nat->Prop}(h:f4 w0 w m w' d)(f:Fr X w' b)(g:∀k,X k->I (G w)<=k):f4 w0 w m b d:=
 ⟨⟨f.os.trans h.1.os,f.tape.trans h.1.tape,f.output.trans h.1.output,aU h.1.size f.size,fun k hk hb=>(f.block k (aO hk h.1.size) (fun c=>by have:=g k c;omega)).trans (h.1.low k hk hb),
  fun k i e mm hk j l=>(f.block k (aO (lt_of_some hk) h.1.size) (fun c=>by have:=g k c;have:=lt_of_some hk;omega)).trans (h.1.df k i e mm hk j l)⟩,h.2⟩
section
variable {w0 w w':az}{kb cu pw:Nat}{T:List Int}{s:cX}{vn:bD}{m:List d6}
theorem Wk.fb (h:Wk w0 w kb cu pw T s vn m)(k:Nat)(hk:fT m k):k<I (G w):=by obtain⟨x,d,hl,o,e⟩:=hk;obtain⟨b,o',f,c,hb⟩:=(h.fl x d).2 hl;rw[e] at c;cases c;exact lt_of_some hb
theorem Wk.but {X:Nat->Prop}(h:Wk w0 w kb cu pw T s vn m)(f:Fr X w w')(g:∀k,k<I (G w)->X k->(∃d,w.heap[k]?=Z (M5 d 97 (0,0)))/\¬fT m k/\I (G w0)<=k):Wk w0 w' kb cu pw T s vn m:=by
 obtain⟨D,o1,t,u⟩:=h.mp;have n1:¬X kb:=fun c=>by obtain⟨⟨d,hc⟩,_⟩:=g kb (lt_of_some h.blk) c;rw[h.blk] at hc;simp at hc
 have p:¬X cu:=fun c=>by obtain⟨⟨d,hc⟩,_⟩:=g cu o1.lt c;obtain⟨v,B,hb,_⟩:=o1;rw[hb] at hc;simp at hc
 refine⟨(f.block kb (lt_of_some h.blk) n1).trans h.blk,h.lo,h.mp.same (f.block cu o1.lt p),cM h.row (fun k hk=>f.block k (cv h.row k hk).2 (fun c=>?_)),h.nd,fun x l=>?_,h.eX.trans ⟨f.os,f.tape,f.output,f.size,fun k hk=>f.block k (aO hk h.eX.size) (fun c=>by have:=(g k (aO hk h.eX.size) c).2.2;omega)⟩⟩
 ·obtain⟨⟨d,hc⟩,_⟩:=g k (cv h.row k hk).2 c;obtain⟨F,q⟩:=fF h.row k hk;rw[q] at hc;simp at hc
 ·have hl:=h.fl x l;have hk:0<MZ x.2.2.2->∀b,x.2.1=Z b->w'.heap[b.block]?=w.heap[b.block]?:=fun hp b e=>by obtain⟨n,j,d,i,hb⟩:=hl.2 hp;have o:=e;rw[i] at o;cases o;exact f.block _ (lt_of_some hb) (fun c=>(g _ (lt_of_some hb) c).2.1 ⟨x,l,hp,j,i⟩)
  refine⟨hl.1.keep f.size hk,fun hp=>?_⟩
  obtain⟨n,j,d,i,hb⟩:=hl.2 hp;exact⟨n,j,d,i,(hk hp _ i).trans hb⟩
end
def oI (w0:az)(b cu pw:Nat)(T:List Int)(M:cX->Int->cX)(n:Nat):Prop:=
 ∀(w:az)(s:cX)(d:bD)(m:List d6)(a:Int),Wk w0 w b cu pw T s d m->fB T s->a∈T->a∉s.1->MZ T<=MZ s.1+n->
  J Ng 231 #[aq b,ak a] w fun e w'=>∃f c,e=M6 (ak (MZ s.1))/\Wk w0 w' b cu pw T (M s a) f c/\f4 w0 w m w' c
theorem yT:(prog.info? 97).map (fun i=>(i.zero,i.size,i.bytes))=Z (Z (bF #[ak 0,ak 0]),2,16):=ah
section
variable {w0 w:az}{kb cu pw n:Nat}{T:List Int}{M:cX->Int->cX}{s:cX}{vn:bD}{m:List d6}
theorem Fa (h:Wk w0 w kb cu pw T s vn m)(a:Int)(a0:0<=a)(a1:a<1152921504606846976)(d:bR T a=K):
 J Ng 198 #[aq kb,ak a] w fun e w'=>∃x,e=M6 (a8 #[ak x,bK K])/\w'=w:=by
 obtain⟨c0,c1,c2,lk⟩:=h.cells;obtain⟨D,o1,f,g⟩:=h.mp;have b:=f a;rw[d] at b;have b:=hide b;go_enter func198,ntmps198;go_wp2_with (at_lookup;refine wb _ rfl _ _ 127 rfl 3 3 M4 jg underlying127 underlying3 (mI _) cu (MZ T) D rfl o1 _ _ rfl (jL a0 a1) ?_;intro c i j;rw[b.o])
 go_ret2;exact⟨c,rfl,rfl⟩
def mJ (s:cX)(a:Int):Int:=if bR s.1 a=Nc then(s.1.idxOf a:Int) else MZ s.1
def mK (M:cX->Int->cX)(s:cX)(a:Int):cX:=if bR s.1 a=Nc then s else M s a
theorem Fc (hM:oI w0 kb cu pw T M n)(h:Wk w0 w kb cu pw T s vn m)(ho:fB T s)(hn:MZ T<=MZ s.1+n)(a:Int)(a0:0<=a)(a1:a<1152921504606846976)(i:a∈T):
 J Ng 198 #[aq kb,ak a] w fun e w'=>∃j d,e=M6 (a8 #[ak (mJ s a),.bool Nc])/\Wk w0 w' kb cu pw T (mK M s a) j d/\f4 w0 w m w' d:=by
 have H:=hide h;have u:=hide hM;obtain⟨c0,c1,c2,lk⟩:=h.cells;obtain⟨D,o1,v,x⟩:=h.mp;have p:=jL a0 a1;have q:aA (Maps.has D (.int M4 a)=Nc):=(v a).trans (by simpa using i)
 have f:=x a i;by_cases b:a∈s.1
 ·rw[EX b] at f;have g:aA (_=_):=f;have k:mJ s a=(s.1.idxOf a:Int):=by unfold mJ;rw[aJ (by simpa using b)]
  have l:mK M s a=s:=by unfold mK;rw[aJ (by simpa using b)]
  rw[k,l];generalize s.1.idxOf a=L at g⊢;go_enter func198,ntmps198;go_wp2_with (at_lookup;refine wb _ rfl _ _ 127 rfl 3 3 M4 jg underlying127 underlying3 (mI _) cu (MZ T) D rfl o1 _ _ rfl p ?_;intro c o B;rw[q.o];(have hc:c=(L:Int):=by have:=o.symm.trans g.o;simpa using this);subst hc)
  go_ret2;exact⟨vn,m,rfl,H.o,f4.refl _ _ _⟩
 ·rw[EW b] at f;have g:aA (_=_):=f;have k:mJ s a=MZ s.1:=by unfold mJ;rw[aI (by simpa using b)]
  have l:mK M s a=M s a:=by unfold mK;rw[aI (by simpa using b)]
  rw[k,l];have P:=u.o w s vn m a H.o ho i b hn;generalize M s a=N at P⊢;generalize MZ s.1=L at P⊢;go_enter func198,ntmps198;go_wp2_with (at_lookup;refine wb _ rfl _ _ 127 rfl 3 3 M4 jg underlying127 underlying3 (mI _) cu (MZ T) D rfl o1 _ _ rfl p ?_;intro c o B;rw[q.o];(have hc:c=-1:=by have:=o.symm.trans g.o;simpa using this);subst hc)
  refine P.mono ?_;rintro e w1 ⟨j,d,rfl,F,k1⟩
  have t:=c8 F k1;go_wp2_with fail;go_ret2;exact⟨j,d,rfl,t.o.1,t.o.2⟩
theorem yU (x:Int)(h:dk x=3):0<=dr x/\dr x<1152921504606846976:=by
 have h0:dc x=0:=by
  by_cases c:dc x=0
  ·exact c
  ·unfold dk at h;omega
 have b:=(wL x h0).1;rw[h] at b;rw[sU] at b;unfold rc at b;split at b
 ·omega
 ··omega
theorem Fe (hM:oI w0 kb cu pw T M n)(h:Wk w0 w kb cu pw T s vn m)(ho:fB T s)(hn:MZ T<=MZ s.1+n)(x:Int):
 J Ng 130 #[aq kb,ak x] w fun e w'=>∃ao N,e=M6 (bF #[ak (eL M T s x).1.1,ak (eL M T s x).1.2])/\Wk w0 w' kb cu pw T (eL M T s x).2 ao N/\f4 w0 w m w' N:=by
 have H:aA (Wk w0 w kb cu pw T s vn m):=h;have S:=aw w (M5 #[U M4 0,U M4 0] 97)
 have W:=aP w (M5 #[U M4 0,U M4 0] 97)
 have P:=wO x (w.alloc (M5 #[U M4 0,U M4 0] 97))
 by_cases o:dk x=3
 ·have B:=yU x o;rw[o] at P;cases hT:bR T (dr x)
  ·have ev:eL M T s x=((0,0),s):=by unfold eL;rw[aJ o,hT,aI ac]
   rw[ev];generalize dr x=a at P B hT;generalize dc x=cc at P;have F:aA (∀w1,C (I (G w)) w w1->J Ng 198 #[aq kb,ak a] w1 fun e w'=>∃x,e=M6 (a8 #[ak x,bK K])/\w'=w1):=fun w1 hb=>Fa (H.o.below hb) a B.1 B.2 hT;go_enter func130,ntmps130;go_wp2_with fail;refine P.mono ?_;rintro e w1 ⟨rfl,d⟩
   have g:=(d.block (I (G w)) ac).trans W;have q:=S.trans (d.mono ac)
   have ab:=d.size;simp at ab;have t:=aw w1 (M5 #[U M4 3,U M4 a] 97)
   have j:=q.trans (t.mono aa)
   have i:=(t.block (I (G w)) aa).trans g;clear W g S d;go_wp2_with fail;refine(F.o _ j).mono ?_;rintro e w3 ⟨z,rfl,ap⟩
   rw[<-ap] at i j t;have ar:I (G w)<I (G w3):=by rw[ap];simp;omega
   clear ap;have y0:V w3 (av (I (G w)) 0)=Z (ak 0):=aD i
   have y1:V w3 (av (I (G w)) 1)=Z (ak 0):=aD i
   have aB:bO w3 (av (I (G w)) 0)=K:=aE i
   have aF:bO w3 (av (I (G w)) 1)=K:=aE i
   have ad:aA (f4 w0 w m w3 m):=f4.of j;have ag:aA (∀ai,Fr (fun k=>k=I (G w)) w3 ai->_):=fun ai f=>(H.o.below j).but f (fun k _ e=>by have e:=e;rw[e];exact⟨⟨_,i⟩,fun c=>by have:=H.o.fb _ c;omega,H.o.eX.size⟩)
   clear F i t q j H;go_wp2_with fail;obtain⟨b,hW0⟩:∃b,b=ay (ay w3 ⟨I (G w),0,Y⟩ (U M4 0)) ⟨I (G w),1,Y⟩ (U M4 0):=⟨_,rfl⟩
   rw[<-hW0];have g0:V b (av (I (G w)) 0)=Z (ak 0):=by exact l5
   have g1:V b (av (I (G w)) 1)=Z (ak 0):=by exact yN
   have l:Fr (fun k=>k=I (G w)) w3 b:=by rw[hW0];exact((Fr.refl (fun k=>k=I (G w)) w3).set (I (G w)) 0 _ rfl).set (I (G w)) 1 _ rfl
   exact a6 (v:=bF #[ak 0,ak 0]) (by simp[results,results130,go_sem,g0,g1]) rfl ⟨vn,m,rfl,ag.o b l,ad.o.new l (fun k e=>tQ (CX e))⟩
  ·have aR:dr x∈T:=by simpa using hT
   have ev:eL M T s x=((3,mJ s (dr x)),mK M s (dr x)):=by unfold eL mJ mK;rw[aJ o,aJ hT];split<;>rfl
   rw[ev];generalize dr x=a at P B aR⊢;generalize dc x=cc at P;have F:aA (∀w1,C (I (G w)) w w1->_):=fun w1 hb=>Fc hM (H.o.below hb) ho hn a B.1 B.2 aR;generalize mJ s a=z at F⊢;generalize mK M s a=a2 at F⊢;go_enter func130,ntmps130;go_wp2_with fail;refine P.mono ?_;rintro e w1 ⟨rfl,d⟩
   have g:=(d.block (I (G w)) ac).trans W;have q:=S.trans (d.mono ac)
   have ab:=d.size;simp at ab;have t:=aw w1 (M5 #[U M4 3,U M4 a] 97)
   have j:=q.trans (t.mono aa)
   have i:=(t.block (I (G w)) aa).trans g;go_wp2_with fail;refine(F.o _ j).mono ?_;rintro e w3 ⟨ao,N,rfl,aV,am⟩
   have al:=(am.1.df _ _ _ _ i ae ae).trans i;have ar:=am.1.size;simp at ar;have y0:V w3 (av (I (G w)) 0)=Z (ak 0):=aD al
   have y1:V w3 (av (I (G w)) 1)=Z (ak 0):=aD al
   have aB:bO w3 (av (I (G w)) 0)=K:=aE al
   have aF:bO w3 (av (I (G w)) 1)=K:=aE al
   have a0:¬fT N (I (G w)):=fun c=>(am.2 _ c).elim (fun c=>by have:=H.o.fb _ c;omega) (fun c=>by simp at c;omega)
   have ad:=hide ((f4.of j).trans am)
   have ag:aA (∀ai,Fr (fun k=>k=I (G w)) w3 ai->_):=fun ai f=>aV.but f (fun k _ e=>by have e:=e;rw[e];exact⟨⟨_,al⟩,a0,H.o.eX.size⟩)
   go_wp2_with fail;obtain⟨b,hW0⟩:∃b,b=ay (ay w3 ⟨I (G w),0,Y⟩ (U M4 3)) ⟨I (G w),1,Y⟩ (U M4 z):=⟨_,rfl⟩
   rw[<-hW0];have g0:V b (av (I (G w)) 0)=Z (ak 3):=by exact l5
   have g1:V b (av (I (G w)) 1)=Z (ak z):=by exact yN
   have l:Fr (fun k=>k=I (G w)) w3 b:=by rw[hW0];exact((Fr.refl (fun k=>k=I (G w)) w3).set (I (G w)) 0 _ rfl).set (I (G w)) 1 _ rfl
   exact a6 (v:=bF #[ak 3,ak z]) (by simp[results,results130,go_sem,g0,g1]) rfl ⟨ao,N,rfl,ag.o b l,ad.o.new l (fun k e=>tQ (CX e))⟩
 ·have ev:eL M T s x=((dk x,dr x),s):=by unfold eL;rw[aI o]
  rw[ev];have a1:(dk x !=3)=Nc:=by simpa using o
  clear ev o hM ho hn;generalize dk x=u at P a1⊢;generalize dr x=v at P⊢;generalize dc x=cc at P;go_enter func130,ntmps130;go_wp2_with fail;refine P.mono ?_;clear P;rintro e w1 ⟨rfl,d⟩
  have g:=(d.block (I (G w)) ac).trans W;have q:=S.trans (d.mono ac)
  have ab:=d.size;simp at ab;have y0:V w1 (av (I (G w)) 0)=Z (ak 0):=aD g
  have y1:V w1 (av (I (G w)) 1)=Z (ak 0):=aD g
  have aB:bO w1 (av (I (G w)) 0)=K:=aE g
  have aF:bO w1 (av (I (G w)) 1)=K:=aE g
  have l1:I (G w)<I (G w1):=aa;have n1:¬I (G w)=I (G w1):=aa;have a3:¬I (G w1)=I (G w):=aa;have g:=hide g;clear W S d;go_wp2_with fail;obtain⟨b,hW0⟩:∃b,b=ay (ay w1 ⟨I (G w),0,Y⟩ (U M4 u)) ⟨I (G w),1,Y⟩ (U M4 v):=⟨_,rfl⟩
  rw[<-hW0];have g0:V b (av (I (G w)) 0)=Z (ak u):=by exact l5
  have g1:V b (av (I (G w)) 1)=Z (ak v):=by exact qX
  have l:Fr (fun k=>k=I (G w)) w1 b:=by rw[hW0];exact((Fr.refl (fun k=>k=I (G w)) w1).set (I (G w)) 0 _ rfl).set (I (G w)) 1 _ rfl
  have a4:I (G b)=I (G w1):=by rw[hW0];simp[World.setCell]
  have an:=aw b (M5 #[U M4 u,U M4 v] 97)
  have ag:=((H.o.below q).but l (fun k _ e=>by have e:=e;rw[e];exact⟨⟨_,g.o⟩,fun c=>by have:=H.o.fb _ c;omega,H.o.eX.size⟩)).below an;have ad:=((f4.of (w0:=w0) (m:=m) q).new l (fun k e=>tQ (CX e))).trans (f4.of an)
  have r0:=(an.cell (p:=av (I (G w)) 0) (by show I (G w)<_;omega)).trans g0;have r1:=(an.cell (p:=av (I (G w)) 1) (by show I (G w)<_;omega)).trans g1;generalize b.alloc (M5 #[U M4 u,U M4 v] 97)=ba at*;exact a6 (v:=bF #[ak u,ak v]) (by simp[results,results130,go_sem,r0,r1]) rfl ⟨vn,m,rfl,ag,ad⟩
end
theorem t8 {x:Int}(h:de x=Nc):0<=cr x/\cr x<1152921504606846976:=by rw[my x h];unfold de at h;simp at h;exact yU x h.2
section
variable {c:gZ}{k:ck}{cL cy:bD}{F:Nat->Prop}{s:ct}{w:az}
theorem yV (h:(cutV c k cL cy).J F s w)(x:Int):
 Calls Ng 227 #[aq c.pk,ak x] w fun e w'=>∃v,e=M6 (a8 #[ak v,.bool (k.cQ x)])/\(k.cQ x=Nc->v=s.f (cr x))/\C (I (G w)) w w':=by
 have HJ:=hide h;have P:=om x w;cases ha:de x
 ·rw[ha] at P;have b:k.cQ x=K:=by unfold ck.cQ;rw[ha];rfl
  rw[b];go_enter func227,ntmps227;exact yP
 ·have b:k.cQ x=k.T.contains (cr x):=by unfold ck.cQ;rw[ha];rfl
  have d:=t8 ha;rw[b];rw[ha] at P;generalize cr x=a at P d⊢;have yJ:=jL d.1 d.2;obtain⟨bt,hbt⟩:∃bt,bt=k.T.contains a:=⟨_,rfl⟩
  rw[<-hbt];go_enter func227,ntmps227;go_wp2_with fail;refine P.mono ?_;clear P;rintro e w1 ⟨rfl,hb1⟩
  have oH:=(cutV c k cL cy).below HJ.o hb1;obtain⟨c0,c1,_⟩:=eD oH;obtain⟨⟨D,o1,o2,o3⟩,_⟩:=yQ oH;exact yI
theorem oJ (h:(cutV c k cL cy).J F s w)(x:Int):
 Calls Ng 189 #[aq c.pk,ak x] w fun e w'=>e=M6 (bK (k.ls s x))/\C (I (G w)) w w':=by
 have P:=yV h x;cases hy:k.cQ x
 ·have b:k.ls s x=K:=by unfold ck.ls;rw[hy];rfl
  rw[b];rw[hy] at P;go_enter func189,ntmps189;go_wp2_with fail;refine P.mono ?_;rintro e w1 ⟨v,rfl,_,hb1⟩
  go_wp2;go_ret;exact⟨rfl,hb1⟩
 ·have b:k.ls s x=(s.f (cr x)==-1):=by unfold ck.ls;rw[hy];rfl
  rw[b];rw[hy] at P;go_enter func189,ntmps189;exact qY
theorem qZ (h:(cutV c k cL cy).J F s w)(x:Int):
 Calls Ng 190 #[aq c.pk,ak x] w fun e w'=>e=M6 (ak (k.nw s x))/\C (I (G w)) w w':=by
 have P:=yV h x;cases hy:k.cQ x
 ·have b:k.nw s x=x:=by unfold ck.nw;rw[hy];simp
  rw[b];rw[hy] at P;go_enter func190,ntmps190;go_wp2_with fail;refine P.mono ?_;rintro e w1 ⟨v,rfl,_,hb1⟩
  go_wp2_with fail;go_ret;exact⟨rfl,hb1⟩
 ·rw[hy] at P;by_cases d:s.f (cr x)=-1
  ·have b:k.nw s x=x:=by unfold ck.nw;rw[hy,d];simp
   rw[b];rw[d] at P;go_enter func190,ntmps190;exact qY
  ·have b:k.nw s x=ew 3 (s.f (cr x)):=by unfold ck.nw;rw[hy,aJ (by simp[d])]
   rw[b];generalize s.f (cr x)=a at P d⊢;go_enter func190,ntmps190;exact yM
theorem q6 (h:(cutV c k cL cy).J F s w)(i:CI k s)(x:Int):
 Calls Ng 182 #[aq c.pk,ak x] w fun e w'=>e=M6 (ak (k.br s x).1)/\(cutV c k cL cy).J F (k.br s x).2 w'/\ch F w F w':=by
 have p:aA ((cutV c k cL cy).J F s w):=h;have P:=oJ h x;clear h;cases hl:k.ls s x
 ·have m:k.br s x=(k.nw s x,s):=by unfold ck.br;rw[hl];rfl
  rw[m];rw[hl] at P;go_enter func182,ntmps182;go_wp2_with fail;refine P.mono ?_;clear P;rintro e w1 ⟨rfl,d⟩
  have S:=(cutV c k cL cy).below p.o d;have W:=qZ S x;clear S;go_wp2_with fail;refine W.mono ?_;rintro e n ⟨rfl,j⟩
  have hb:=d.trans (j.mono d.size)
  clear W d j;go_wp2_with fail;go_ret;exact⟨rfl,(cutV c k cL cy).below p.o hb,ch.of hb⟩
 ·have m:k.br s x=(k.nw (k.cp s (cr x)) x,k.cp s (cr x)):=by unfold ck.br;rw[aJ hl]
  rw[m];obtain⟨l1,l2,ba⟩:=ck.nE hl;have ab:=t8 l1;have q:=om x;rw[hl] at P;rw[l1] at q;have ad:=jL ab.1 ab.2;have E:aA (k.cp s (cr x)={s with g:=km k.N k.O k.y s.g s.ws (cr x),ws:=kn k.N k.O k.y s.g s.ws (cr x),f:=hG s.f (cr x) (nz k.N k.O k.y s.g s.ws (cr x))}):=rfl;have n1:=i.hN';have bn:=i.hO;have bo:=i.hg;have bp:=i.tl;have ag:(Lit.int M4 (nz k.N k.O k.y s.g s.ws (cr x))).wf=Nc:=by
   unfold nz;split
   ·exact WalkArith.wf_i64 ⟨aa,aa⟩
   ·decide
  have hv:=nG _ ag;generalize k.cp s (cr x)=s2 at E⊢;clear i m hl l1 ba ag;generalize cr x=a at*;go_enter func182,ntmps182;go_wp2_with fail;refine P.mono ?_;clear P;rintro e w1 ⟨rfl,d⟩
  go_wp2_with fail;refine(q w1).mono ?_;rintro e n ⟨rfl,j⟩
  have hb:=d.trans (j.mono d.size)
  have u:=(cutV c k cL cy).below p.o hb;obtain⟨c0,c1,_,_,_,c5,_⟩:=eD u;have ai:=(cutV c k cL cy).below u (aH _ n).drew;obtain⟨bb,al⟩:=jh ai;have v:aA (_/\_):=⟨hb,al⟩
  have C:=x8 a n.drew bb;clear d j hb q al ai u;go_wp2_with fail
  go_region_held3 (fun w'=>V w' (av c.pk 0)=Z (aq c.pw)/\V w' (av c.pk 1)=Z (.map (Z c.cu))/\V w' (av c.pw 0)=Z (aq c.p)) (go_keep)
   (first
     |(go_at_call 165;refine C.mono ?_;clear C;rintro e am ⟨rfl,an,ao⟩;obtain⟨o,ap⟩:=v.o.2 am _ _ an ao;obtain⟨ar,aB,_,_,_,aF,_⟩:=eD o;obtain⟨n4,bd⟩:=E0 o;obtain⟨⟨D,o1,aR,a0⟩,hM⟩:=yQ o;obtain⟨B,be,a1,l⟩:=o1.update (t:=127) (e:=3) jg underlying127 (by unfold bW;omega) ad hv;have bg:=l.cell ar (by simpa using n4);have bi:=l.cell aB (by simpa using n4);have bl:=l.cell aF (by simpa using bd);obtain⟨a2,a3⟩:=hM B _ (Mp.put o1 aR a0 l2 a1) ((Fr.refl _ am).grown l (fun b e=>aM (by cases e;rfl)));have N:aA ((cutV c k cL cy).J F s2 B/\ch F w F B):=⟨(by rw[E.o];exact a2),(((ch.of v.o.1).below (aH _ n).drew).trans ap).trans a3⟩;clear an ao o ap o1 aR a0 hM a1 l a2 a3))
  clear bg bi bl ar aB aF be c0 c1 c5 E hv ad v;go_wp2_with fail;refine(qZ N.o.1 x).mono ?_;rintro e br ⟨rfl,a4⟩
  go_wp2_with fail;go_ret;exact⟨rfl,(cutV c k cL cy).below N.o.1 a4,N.o.2.below a4⟩
theorem q7 (h:(cutV c k cL cy).J F s w)(m:CI k s)(a:Int):
 Calls Ng 226 #[aq c.pk,ak a] w fun e w'=>e=M6 (a8 #[])/\(cutV c k cL cy).J F (k.kf s a) w'/\ch F w F w':=by
 have d:=(cutV c k cL cy).below h (aH _ w).drew;obtain⟨c0,_,_,_,_,c5,_⟩:=eD h;obtain⟨n,_⟩:=jh d;have L:=ki a w.drew n;have ag:aA (CI k s):=m;have o:aA ((cutV c k cL cy).J F s w.drew):=d;have E:aA (k.kf s a=k.st (k.br s (k.ld s a)).2 a (k.br s (k.ld s a)).1):=rfl;have p:ld k.N k.y s.g s.ws a=k.ld s a:=rfl;rw[p] at L;generalize k.kf s a=s2 at E⊢;generalize k.ld s a=x at E L;clear h m d n p;go_enter func226,ntmps226
 go_region_held3 (fun w'=>V w' (av c.pk 0)=Z (aq c.pw)/\V w' (av c.pw 0)=Z (aq c.p)) (go_keep)
  (first
    |(go_at_call 98;refine L.mono ?_;clear L;rintro e q ⟨rfl,t⟩;have f:=(cutV c k cL cy).below o.o t;obtain⟨u,_,_,_,_,v,_⟩:=eD f;have B:aA ((cutV c k cL cy).J F s q/\ch F w F q):=⟨f,(ch.of (aH _ w).drew).below t⟩;clear f o)
    |(go_at_call 182;refine(q6 B.o.1 ag.o x).mono ?_;rintro e ai ⟨rfl,g,N⟩;obtain⟨u,_,_,_,_,v,_⟩:=eD g;obtain⟨S,b⟩:=jh g;have i:aA (_/\_/\_):=⟨B.o.2.trans N,S,b⟩;clear g N S b)
    |(go_at_call 93;refine(lW a (k.br s x).1 ai i.o.2.1).mono ?_;rintro e j ⟨rfl,b,W⟩;obtain⟨l,ab⟩:=i.o.2.2 j _ _ b W;obtain⟨u,_,_,_,_,v,_⟩:=eD l;have ad:aA ((cutV c k cL cy).J F s2 j/\ch F w F j):=⟨(by rw[E.o];exact l),i.o.1.trans ab⟩;clear b W l ab))
 go_wp2_with fail;go_end0;exact⟨rfl,ad.o.1,ad.o.2⟩
end
section
variable {c:gZ}{k:ck}{F:Nat->Prop}{s:ct}{w:az}
theorem Ff {a:Int}(h:pk (k.ld s a)=1\/pk (k.ld s a)=2):k.lk s a=k.gQ s a (Na (pf (k.ld s a))):=by unfold ck.lk;rw[aJ h]
theorem Fg {a:Int}(h:pk (k.ld s a)=3):k.lk s a=k.kf {s with wk:=s.wk++[a]} (a+2):=by unfold ck.lk;rw[aI aa,aJ h]
theorem Fh {a:Int}(h:pk (k.ld s a)=4):k.lk s a={s with ep:=s.ep++[a]}:=by unfold ck.lk;rw[aI aa,aI aa,aJ h]
theorem Fi {a:Int}(d:pk (k.ld s a)≠1)(e:pk (k.ld s a)≠2)(b:pk (k.ld s a)≠3)(c:pk (k.ld s a)≠4):k.lk s a=s:=by unfold ck.lk;rw[aI aa,aI b,aI c]
theorem yW (h:(eC c k).J F s w)(p:CI k s)(a:Int)(a0:(k.N:Int)<=a)(a1:a<=2000)(hk:pk (k.ld s a)=1\/pk (k.ld s a)=2):
 Calls Ng 185 #[aq c.pk,ak a] w fun e w'=>∃f,e=M6 (ak (1+pf (k.ld s a)))/\(eC c k).J f (k.lk s a) w'/\ch F w f w':=by
 rw[Ff hk];obtain⟨cL,b,h⟩:=h;obtain⟨c0,_,_,_,_,c5,_⟩:=eD h;obtain⟨t,_⟩:=jh h;have L:=gO a w t;have u:ld k.N k.y s.g s.ws a=k.ld s a:=rfl;rw[u] at L;have hp:=dv (k.ld s a)
 have v:=hide p;have d:aA ((cutV c k cL b).J F s w):=h;generalize pf (k.ld s a)=n at L hp⊢;obtain⟨m,rfl⟩:∃m:Nat,n=m:=⟨Na n,aa⟩
 rw[Int.toNat_natCast];generalize pc (k.ld s a)=q at L;rcases hk with hk|hk
 all_goals
  rw[hk] at L;go_enter func185,ntmps185;go_wp2_with fail;refine L.mono ?_;rintro e w1 ⟨rfl,g⟩
  have x:=(cutV c k cL b).below d.o g;have B:ch F w F w1:=ch.of g;go_wp2_with fail
  go_loopw [27] (fun iv wr=>∃(j:Nat),j<=m/\iv=ak j/\(cutV c k cL b).J F (k.gQ s a j) wr/\ch F w F wr) (fun iv _=>m-Na (bN iv))
  exact⟨0,a5 _,rfl,x,B⟩
  ·
    obtain⟨j,W,rfl,i,l⟩:=hrel;by_cases ab:j<m
    ·have d:=c8 i l;go_wp2_with fail;refine(q7 d.o.1 (v.o.gQ a0 j).1 (a+1+j)).mono ?_;rintro e ad ⟨rfl,N,S⟩
     have o:=c8 N (d.o.2.trans S)
     go_wp2_with fail;go_roundw;exact⟨j+1,aa,aj,o.o.1,o.o.2⟩
     simp[bN];omega
    ·obtain rfl:j=m:=aa;go_wp2_with fail;go_ret;exact⟨F,rfl,⟨cL,b,i⟩,l⟩
theorem Fj (h:(eC c k).J F s w)(a:Int)(g:pk (k.ld s a)≠1)(i:pk (k.ld s a)≠2)(j:pk (k.ld s a)≠3)(l:pk (k.ld s a)≠4):
 Calls Ng 185 #[aq c.pk,ak a] w fun e w'=>∃b,e=M6 (ak (1+pf (k.ld s a)))/\(eC c k).J b (k.lk s a) w'/\ch F w b w':=by
 rw[Fi g i j l];obtain⟨cL,d,h⟩:=h;obtain⟨c0,_,_,_,_,c5,_⟩:=eD h;obtain⟨m,_⟩:=jh h;have L:=gO a w m;have n:ld k.N k.y s.g s.ws a=k.ld s a:=rfl;rw[n] at L;have hp:=dv (k.ld s a)
 go_enter func185,ntmps185;go_wp2_with fail;refine L.mono ?_;rintro e w1 ⟨rfl,f⟩
 go_wp2;go_ret;exact⟨F,rfl,⟨cL,d,(cutV c k cL d).below (hide h).o f⟩,ch.of f⟩
theorem Fk (h:(eC c k).J F s w)(a:Int)(a1:MZ s.ep<=10000)(i:pk (k.ld s a)=4):
 Calls Ng 185 #[aq c.pk,ak a] w fun e w'=>∃d,e=M6 (ak (1+pf (k.ld s a)))/\(eC c k).J d (k.lk s a) w'/\ch F w d w':=by
 rw[Fh i];obtain⟨S,hi,W,ab,ag⟩:=bV kk;obtain⟨cL,m,h⟩:=h;obtain⟨c0,_,_,_,_,c5,_⟩:=eD h;obtain⟨ai,_⟩:=jh h;have L:=gO a w ai;have al:ld k.N k.y s.g s.ws a=k.ld s a:=rfl;rw[al] at L;have hp:=dv (k.ld s a)
 have am:aA ((cutV c k cL m).J F s w):=h;rw[i] at L;generalize pf (k.ld s a)=n at L hp⊢;generalize pc (k.ld s a)=q at L;go_enter func185,ntmps185;go_wp2_with fail;refine L.mono ?_;rintro e w1 ⟨rfl,o⟩
 have g:=(cutV c k cL m).below am.o o;obtain⟨a2,_,_,a3,p,a4,_,_,_,an,_,er,_,lk,_⟩:=eD g;obtain⟨ao,_⟩:=t7 g (aK p)
 obtain⟨ad,cap,rfl⟩:=eZ er;have ap:=an 4;have t:aA ((cutV c k cL (M0 ad (MZ s.ep) cap)).J F s w1/\ch F w F w1):=⟨g,ch.of o⟩
 go_wp2_with (at_builtin;refine bX _ rfl _ _ 74 rfl 0 3 S (ak 0) 1 8 underlying74 hi W ab ag rfl ae (M0 ad (MZ s.ep) cap) (MZ s.ep) (s.ep.map (Value.int M4)) rfl (fC er _) ⟨I (G w1),0,Y⟩ 1 1 [ak a] rfl rfl ?_ ?_ ?_ ?_ ?_ ?_;(intro j u f;match j,f with|0,f=>(simp at f;subst f;simp[Addr.add]));(intro u v;simp at v;subst v;rfl);(unfold bW;omega);(first|omega|simp);(first|omega|(simp;done)|(simp;omega));intro ba bb x B _ ar;obtain⟨b4,aB,aF⟩:=eW x (j3 _);subst aF;have N:=(B.block c.pk (by simp;omega) ao).trans (aS _ _ _ lk);have g4:=(aQ (a:=⟨c.pk,4,Y⟩) N).trans p;have bd:=(World.frozen?_of_block (a:=⟨c.pk,4,Y⟩) N).trans ap)
 go_ret;obtain⟨d,aR,aV⟩:=E8 t.o.1 (((Fr.refl _ w1).alloc _).grown B (fun b e=>aM e.symm)) (v1:=M0 (au b4) (MZ s.ep+1) aB) (l:=s.ep++[a]) (by simpa using x) (fun b e=>by
  have a0:=ar.imp id (fun e=>by simpa[Value.ownBlock] using e)
  simp[Value.ownBlock] at e;subst e;exact a0.imp id (fun e=>by omega))
 exact⟨d,rfl,⟨_,_,aR⟩,t.o.2.trans aV⟩
theorem Fl (h:(eC c k).J F s w)(ab:CI k s)(a:Int)(a0:(k.N:Int)<=a)(a1:a<=2000)(bg:MZ s.wk<=10000)(m:pk (k.ld s a)=3):
 Calls Ng 185 #[aq c.pk,ak a] w fun e w'=>∃d,e=M6 (ak (1+pf (k.ld s a)))/\(eC c k).J d (k.lk s a) w'/\ch F w d w':=by
 rw[Fg m];obtain⟨ag,hi,ai,al,am⟩:=bV kk;obtain⟨cL,g,h⟩:=h;obtain⟨c0,_,_,_,_,c5,_⟩:=eD h;obtain⟨an,_⟩:=jh h;have L:=gO a w an;have ao:ld k.N k.y s.g s.ws a=k.ld s a:=rfl;rw[ao] at L;have hp:=dv (k.ld s a)
 have ap:aA ((cutV c k cL g).J F s w):=h;have ar:aA (CI k {s with wk:=s.wk++[a]}):=ab.yH a0 a1;rw[m] at L;generalize pf (k.ld s a)=n at L hp⊢;generalize pc (k.ld s a)=q at L;go_enter func185,ntmps185;go_wp2_with fail;refine L.mono ?_;rintro e w1 ⟨rfl,o⟩
 have i:=(cutV c k cL g).below ap.o o;obtain⟨bi,_,_,p,bl,bn,_,_,_,aB,er,_,_,lk,_⟩:=eD i;obtain⟨aF,_⟩:=t7 i (aM p)
 obtain⟨ad,cap,rfl⟩:=eZ er;have aR:=aB 3;have t:aA ((cutV c k (M0 ad (MZ s.wk) cap) g).J F s w1/\ch F w F w1):=⟨i,ch.of o⟩
 go_wp2_with (at_builtin;refine bX _ rfl _ _ 74 rfl 0 3 ag (ak 0) 1 8 underlying74 hi ai al am rfl ae (M0 ad (MZ s.wk) cap) (MZ s.wk) (s.wk.map (Value.int M4)) rfl (fC er _) ⟨I (G w1),0,Y⟩ 1 1 [ak a] rfl rfl ?_ ?_ ?_ ?_ ?_ ?_;(intro j u f;match j,f with|0,f=>(simp at f;subst f;simp[Addr.add]));(intro u v;simp at v;subst v;rfl);(unfold bW;omega);(first|omega|simp);(first|omega|(simp;done)|(simp;omega));intro bo bp x B _ aV;obtain⟨b4,a2,a3⟩:=eW x (j3 _);subst a3;have N:=(B.block c.pk (by simp;omega) aF).trans (aS _ _ _ lk);have g4:=(aQ (a:=⟨c.pk,3,Y⟩) N).trans p;have br:=(World.frozen?_of_block (a:=⟨c.pk,3,Y⟩) N).trans aR)
 obtain⟨d,a4,ba⟩:=E7 t.o.1 (((Fr.refl _ w1).alloc _).grown B (fun b e=>aM e.symm)) (v1:=M0 (au b4) (MZ s.wk+1) a2) (l:=s.wk++[a]) (by simpa using x) (fun b e=>by
  have bb:=aV.imp id (fun e=>by simpa[Value.ownBlock] using e)
  simp[Value.ownBlock] at e;subst e;exact bb.imp id (fun e=>by omega))
 have S:=c8 a4 (t.o.2.trans ba)
 refine(q7 S.o.1 ar.o (a+2)).mono ?_;rintro e bs ⟨rfl,bd,be⟩
 have W:=c8 bd (S.o.2.trans be)
 go_wp2_with fail;go_ret;exact⟨d,rfl,⟨_,_,W.o.1⟩,W.o.2⟩
theorem yX (h:(eC c k).J F s w)(b:CI k s)(a:Int)(a0:(k.N:Int)<=a)(a1:a<=2000)(l:MZ s.wk<=10000)(m:MZ s.ep<=10000):
 Calls Ng 185 #[aq c.pk,ak a] w fun e w'=>∃d,e=M6 (ak (1+pf (k.ld s a)))/\(eC c k).J d (k.lk s a) w'/\ch F w d w':=by
 by_cases f:pk (k.ld s a)=1
 ·exact yW h b a a0 a1 (aM f)
 by_cases g:pk (k.ld s a)=2
 ·exact yW h b a a0 a1 (aK g)
 by_cases i:pk (k.ld s a)=3
 ·exact Fl h b a a0 a1 l i
 by_cases j:pk (k.ld s a)=4
 ·exact Fk h a m j
 exact Fj h a f g i j
def q8 (w:az)(p:Nat):Int:=match V w (av p 2) with
 |some (U _ v)=>v
 |_=>0
theorem t9 {p:Nat}{v:Int}(h:V w (av p 2)=Z (ak v)):q8 w p=v:=by unfold q8;rw[h]
theorem Fp (h:(eC c k).J F s w)(d:CI k s)(hB:eB k s):
 Calls Ng 186 #[aq c.pk] w fun e w'=>∃x,e=M6 (a8 #[])/\(eC c k).J x (k.lb (k.O+1) s) w'/\ch F w x w':=by
 have an:aA (CI k s/\eB k s):=⟨d,hB⟩
 have n0:=d.hO;have n1:=d.hN';have bd:=d.iw;clear d hB;go_enter func186,ntmps186;go_wp2_with fail
 go_loopw [] (fun wr=>∃(n:Nat)(f:Nat->Prop)(s1:ct),(eC c k).J f s1 wr/\aA (CI k s1/\eB k s1)/\ch F w f wr/\aA (k.lb n s1=k.lb (k.O+1) s)/\(k.N:Int)+k.O-s1.nx<n) (fun wr=>Na (2000-q8 wr c.pk))
 case atStart=>exact⟨k.O+1,F,s,h,an,ch.refl _ _,rfl,aa⟩
 case round=>
  obtain⟨n,f,s1,⟨cL,i,j⟩,b,B,l,hn⟩:=hrel;obtain⟨c0,_,c2,_,_,c5,_,_,_,N,_⟩:=eD j;have ao:=t9 c2;have ap:=N 2;obtain⟨S,_⟩:=jh ((cutV c k cL i).below j (aH _ wr).drew)
  have L:=nu s1.nx wr.drew S;have o:aA (_/\_):=⟨j,B⟩
  clear j B S N;go_wp2_with fail
  go_region_held3 (fun w'=>V w' (av c.pk 0)=Z (aq c.pw)/\V w' (av c.pk 2)=Z (ak s1.nx)/\V w' (av c.pw 0)=Z (aq c.p)) (go_keep)
   (first
     |(go_at_call 96;refine L.mono ?_;clear L;rintro e p ⟨rfl,W⟩;have q:=(cutV c k cL i).below ((cutV c k cL i).below o.o.1 (aH _ wr).drew) W;obtain⟨ar,_,aB,_,_,aF,_,_,_,ab,_⟩:=eD q;have aR:=ab 2;have g:aA ((eC c k).J f s1 p/\_):=⟨⟨cL,i,q⟩,(o.o.2.below (aH _ wr).drew).below W⟩;clear q o ab c0 c2 c5 ap))
  cases hb:hB k.N s1.g s1.nx
  ·go_wp2_with fail;go_end0;have e:k.lb n s1=s1:=by
    cases n with
    |zero=>rfl
    |succ n=>unfold ck.lb;rw[hb];rfl
   rw[<-l.o,e];exact⟨f,rfl,g.o.1,g.o.2⟩
  ·have b1:=jU hb;have b2:=b.o.1.hg;have b3:=b.o.1.iw;have b4:=b.o.2.wk;have b5:=b.o.2.ep;obtain⟨n,rfl⟩:∃m,n=m+1:=⟨n-1,aa⟩
   have hp:=dv (k.ld s1 s1.nx)
   have aV:aA (k.lb n {k.lk s1 s1.nx with nx:=s1.nx+(1+pf (k.ld s1 s1.nx))}=k.lb (k.O+1) s):=by
    have:=l.o;unfold ck.lb at this
    rw[aJ hb] at this
    exact this
   have a0:aA (_/\_):=⟨(b.o.1.lu hb).1,eB.lu b.o.1 hb b.o.2⟩
   have a1:=(b.o.1.lk (a:=s1.nx) b3 aa).2.nx;have L:=yX ((eC c k).below g.o.1 (aH _ p).drew) b.o.1 s1.nx b3 aa aa aa;generalize pf (k.ld s1 s1.nx)=m at*;generalize k.lk s1 s1.nx=s2 at*;clear hb b4 b5 l;have be:IntKind.i64.wrap (s1.nx+(1+m))=s1.nx+(1+m):=by rw[bA];omega
   go_wp2_with fail
   go_region_with (go_at_call 185;refine L.mono ?_;rintro e bg ⟨a2,rfl,⟨bi,bl,t⟩,ad⟩;obtain⟨a3,_,ag,_,_,a4,_,_,_,ai,_⟩:=eD t;rw[a1] at ag;have v2:=ai 2;have u:aA (_/\_):=⟨t,(g.o.2.below (aH _ p).drew).trans ad⟩;clear t ad ai)
   all_goals
    obtain⟨v,al⟩:=E5 u.o.1 (s1.nx+(1+m))
    obtain⟨_,_,ba,_⟩:=eD v;have bb:=t9 ba;have am:aA (_/\_):=⟨v,u.o.2.trans al⟩
    clear v al u a3 ag a4 v2 L ar aB aF aR g;go_wp2_with fail;go_roundw
    case rel=>exact⟨n,a2,_,⟨_,_,am.o.1⟩,a0,am.o.2,aV,by show(k.N:Int)+k.O-(s1.nx+(1+m))<n;omega⟩
    case measure=>
     rw[bb,ao];show Na (2000-(s1.nx+(1+m)))<_;omega
theorem Fq (h:(eC c k).J F s w)(aB:CI k s)(hB:eB k s):
 Calls Ng 187 #[aq c.pk] w fun e w'=>∃bg,e=M6 (bK (k.kv s).1)/\(eC c k).J bg (k.kv s).2 w'/\ch F w bg w':=by
 obtain⟨ce,hi,cf,cg,ci⟩:=bV kk;obtain⟨cL,cr,h⟩:=h;obtain⟨c0,_,_,_,c4,c5,_,_,_,cs,_,er,_,lk,_⟩:=eD h;obtain⟨cu,_⟩:=t7 h (aK c4)
 obtain⟨ad,cap,rfl⟩:=eZ er;have bi:=hide aB;have cw:=hide h;have cx:=hB.ep;have bl:=aB.iJ;have bn:=hide bl;have bo:aA (k.kv s=(decide (MZ (k.d8 s s.ep).1<MZ s.ep),{(k.d8 s s.ep).2 with ep:=(k.d8 s s.ep).1})):=rfl;have cy:(0:Int)<=k.N:=aa;clear aB hB bl;go_enter func187,ntmps187;go_wp2_with fail
 go_loopw [3,12] (fun vr iv wr=>∃(j:Nat)(R:List Int)(s1:ct)(ar:Option Addr)(d:Nat)(g:Nat->Prop),j<=MZ s.ep/\iv=ak j/\aA (k.d8 s (s.ep.take j)=(R,s1))/\vr=M0 ar (MZ R) d/\aC wr (I (G w)) 3 1 (M0 ar (MZ R) d) (MZ R) (R.map (Value.int M4))/\(cutV c k cL (M0 ad (MZ s.ep) cap)).J g s1 wr/\ch F w g wr/\aA (∀b,Z b=(Value.slice ar (MZ R) d).ownBlock->¬g b)/\aA (CI k s1/\ed k s s1)) (fun _ iv _=>MZ s.ep-Na (bN iv))
 exact⟨0,[],s,Y,0,F,a5 _,rfl,rfl,rfl,bf _ _ _ _,h,ch.refl _ _,fun b e=>by simp[Value.ownBlock] at e,⟨bi.o,ed.refl _ _⟩⟩
 ·
   obtain⟨j,R,s1,ar,d,g,v,rfl,B,rfl,i,o,m,N,S⟩:=hrel;obtain⟨bp,_,_,_,br,bs,_,_,_,aF,_,W,_,cz,_⟩:=eD o;have bt:=aF 4;have cj:=S.o.2.ep;rw[cj] at W;have cA:MZ R<=10000:=by have ab:=(bi.o.d8 (s.ep.take j) (fun a ha=>(bn.o a (List.mem_of_mem_take ha)).1)).2.2.1;rw[B.o] at ab;simp at ab;omega
   by_cases am:j<MZ s.ep
   ·obtain⟨p,q,cl,cB,hc⟩:=hZ W aa;have aR:=hc j am;subst cl;have bx:s.ep.getD j 0∈s.ep:=by rw[aL,aN am];exact a9 am
    have cm:=bn.o _ bx;have aV:aA (k.d8 s (s.ep.take (j+1))=k.cV (R,s1) (s.ep.getD j 0)):=by
     show _=_;rw[g9 s.ep j am 0];unfold ck.d8;rw[List.foldl_append];have:=B.o;unfold ck.d8 at this
     rw[this];rfl
    generalize s.ep.getD j 0=a at aR cm aV;obtain⟨b0,_⟩:=jh o;have L:=ki (a+1) wr b0;have b1:ld k.N k.y s1.g s1.ws (a+1)=k.ld s1 (a+1):=rfl;rw[b1] at L;have n:=c8 o m;have cC:=m.fr.size;have cn:aA (∀b,Z b=(Value.slice ar (MZ R) d).ownBlock->b<I (G wr)):=fun b e=>(cv i b e).2;clear hc bx o m b0 b1 aF;cases hls:k.ls s1 (k.ld s1 (a+1))
    ·have a0:aA (k.d8 s (s.ep.take (j+1))=(R,k.kf (k.kf s1 (a+1)) (a+2))):=by show _=_;rw[aV.o];unfold ck.cV;rw[hls];rfl
     generalize k.ld s1 (a+1)=x at L hls;go_wp2_with fail;refine L.mono ?_;clear L;rintro e w1 ⟨rfl,f⟩
     have P:=oJ ((cutV c k cL (M0 (Z ⟨p,q,Y⟩) (MZ s.ep) cap)).below n.o.1 f) x;rw[hls] at P;clear aR bp bs br bt W;go_wp2_with fail;refine P.mono ?_;clear P;rintro e b2 ⟨rfl,ag⟩
     have hb:=f.trans (ag.mono f.size)
     clear f ag;go_wp2_with fail;refine(q7 ((cutV c k cL (M0 (Z ⟨p,q,Y⟩) (MZ s.ep) cap)).below n.o.1 hb) S.o.1 (a+1)).mono ?_;rintro e cD ⟨rfl,b3,b5⟩
     obtain⟨ai,al⟩:=S.o.1.kf (a:=a+1) aa;have t:=ja b3 ((ch.of hb).trans b5) ai al;clear b3 b5 ai al hb;go_wp2_with fail;refine(q7 t.o.1 t.o.2.2.1 (a+2)).mono ?_;rintro e a1 ⟨rfl,an,ao⟩
     obtain⟨ai,al⟩:=t.o.2.2.1.kf (a:=a+2) aa;have a2:=t.o.2.1.trans ao;have ap:=ja an (n.o.2.trans a2) ai ((S.o.2.trans t.o.2.2.2).trans al)
     have a3:=iF i a2.fr (fun b e=>N.o b e)
     clear an ao ai al a2 i t;go_wp2_with fail;go_roundw;exact⟨j+1,R,_,ar,d,g,aa,aj,a0,rfl,a3,ap.o.1,ap.o.2.1,N,⟨ap.o.2.2.1,ap.o.2.2.2⟩⟩
     simp[bN];omega
    ·have a0:aA (k.d8 s (s.ep.take (j+1))=(R++[a],s1)):=by show _=_;rw[aV.o];unfold ck.cV;rw[aJ hls]
     generalize k.ld s1 (a+1)=x at L hls;go_wp2_with fail;refine L.mono ?_;clear L;rintro e w1 ⟨rfl,f⟩
     have P:=oJ ((cutV c k cL (M0 (Z ⟨p,q,Y⟩) (MZ s.ep) cap)).below n.o.1 f) x;rw[hls] at P;clear aR bp bs br bt W;go_wp2_with fail;refine P.mono ?_;clear P;rintro e b2 ⟨rfl,ag⟩
     have hb:=f.trans (ag.mono f.size)
     have a4:=cM i (fun b e=>hb.block b (cn.o b e))
     have cE:=hb.size;clear f ag;go_wp2_with (at_builtin;refine bX _ rfl _ _ 74 rfl (I (G w)) 3 ce (ak 0) 1 8 underlying74 hi cf cg ci rfl ae (M0 ar (MZ R) d) (MZ R) (R.map (Value.int M4)) rfl (fC a4 _) ⟨I (G b2),0,Y⟩ 1 1 [ak a] rfl rfl ?_ ?_ ?_ ?_ ?_ ?_;(intro j u v;match j,v with|0,v=>(simp at v;subst v;simp[Addr.add]));(intro u b6;simp at b6;subst b6;rfl);(unfold bW;omega);omega;(simp;omega);intro cF a1 ba bb _ ca;obtain⟨b4,bd,co⟩:=eW ba (j3 _);subst co)
     have a3:aC a1 (I (G w)) 3 1 (M0 (au b4) (MZ (R++[a])) bd) (MZ (R++[a])) ((R++[a]).map (Value.int M4)):=by simpa using ba
     have be:=(cutV c k cL (M0 (Z ⟨p,q,Y⟩) (MZ s.ep) cap)).below n.o.1 hb;have an:=qB (cutV c k cL (M0 (Z ⟨p,q,Y⟩) (MZ s.ep) cap)) be bb (fun b e=>N.o b e)
     have ao:ch F w g a1:=⟨((n.o.2.below hb).fr.alloc _).grown bb (fun b e=>aK (cv a4 b e.symm).1),n.o.2.sub⟩
     have cp:aA (∀b,Z b=(Value.slice (au b4) (MZ (R++[a])) bd).ownBlock->¬g b):=fun b e cb=>by
      have cq:=ca.imp id (fun e=>by simpa[Value.ownBlock] using e)
      simp[Value.ownBlock] at e;subst e;rcases cq with e|e
      ·exact N.o _ e cb
      ·have:=(cutV c k cL (M0 (Z ⟨p,q,Y⟩) (MZ s.ep) cap)).lt be _ cb;omega
     clear be ba bb ca a4 i hb;go_wp2_with fail;go_roundw;exact⟨j+1,R++[a],s1,au b4,bd,g,aa,aj,a0,ac,a3,an,ao,cp,S⟩
     simp[bN];omega
   ·obtain rfl:j=MZ s.ep:=aa;rw[bk] at B;obtain⟨cc,cd⟩:=yS o (v1:=M0 ar (MZ R) d) (l:=R) (Fr.refl _ wr) (fq i (fun _ _=>a5 _)) (fun b e=>aK (N.o b e))
    have t6:=c8 cc (m.fr.trans cd m.sub)
    have yL:aA (∀b,Z b=(Value.slice ar (MZ R) d).ownBlock->I (G w)<=b):=fun b e=>(cv i b e).1;have yK:=hide m.sub;have E2:aA ((k.kv s).1=decide (MZ R<MZ s.ep)/\(k.kv s).2={s1 with ep:=R}):=by have ab:=bo.o;rw[B.o] at ab;rw[ab];exact⟨rfl,rfl⟩
    clear cc cd o m i W B bo aF;by_cases hll:MZ R<MZ s.ep
    ·go_wp2_with fail;exact qW
    ·go_wp2_with fail;exact qW
end
theorem q9 {w:az}{base size n g cap:Nat}{e:TypeId}{b:List bD}(h:aC w base e size (M0 (au g) n cap) n b)(i:Nat)(u:bD):aC (ay w ⟨g,i,Y⟩ u) base e size (M0 (au g) n cap) n (b.set i u):=by
 refine⟨by rw[bh];exact h.1,?_⟩
 rcases h.2 with⟨hv,_⟩|⟨l,m,c,hv,hb,hg,d,f,j,k⟩
 ·simp at hv
 ·obtain⟨rfl,rfl⟩:=hv;refine aK ⟨g,cap,c.setIfInBounds i u,rfl,hb,?_,d,f,by rw[Array.size_setIfInBounds];exact j,?_⟩
  ·simp only [World.setCell,bL,if_true,hg,bS];rfl
  ·rw[Array.toList_setIfInBounds,List.take_set,k]
theorem t_:∀(l:List cf)(i:Nat)(g z:Int),ev (l.set i (g,z))=((ev l).set (i*2) (ak g)).set (i*2+1) (ak z)
 |[],_,_,_=>rfl
 |e::l,0,g,z=>by simp[ev]
 |e::l,i+1,g,z=>by
  have b:ev (e::l)=ak e.1::ak e.2::ev l:=by simp[ev]
  have c:ev ((e::l).set (i+1) (g,z))=ak e.1::ak e.2::ev (l.set i (g,z)):=by simp[ev]
  rw[b,c,(t_ l i g z),show(i+1)*2=i*2+1+1 by omega];simp
theorem yY {ag:Type}(o:dC ag)(p:Nat)(vr:bD):qU (di o p vr) where
 yy:=by
  rintro F s w ⟨N,ad,cap,S,c,j,l,d,m,n,t⟩ w1 q a1 c1 hb x;have d:F p:=d;have lp:=lt_of_some c;have f:∀k,k≠p->(ay w1 ⟨p,1,Y⟩ (M0 a1 (MZ q) c1)).heap[k]?=w1.heap[k]?:=fun k hk=>aX _ _ _ _ hk;have hs:I (G (ay w1 ⟨p,1,Y⟩ (M0 a1 (MZ q) c1)))=I (G w1):=by simp[World.setCell]
  have ao:=hb.size;refine⟨N,a1,c1,o.keep (o.below S hb) (by show I (G w1)<=I (G (ay w1 ⟨p,1,Y⟩ _));rw[hs];exact aG _) (fun k h=>f k (fun e=>m (by rw[<-e];exact h))),?_,fq (cM x (fun k e=>f k (by have:=(cv x k e).1;omega))) (fun _ _=>a5 _),fun k h=>aM (l k h),aM d,m,fun k e=>?_,fun k h=>?_⟩
  ·have ai:=(hb.block p lp).trans c;show(ay w1 ⟨p,1,Y⟩ _).heap[p]?=_;simp only [World.setCell,bL,if_true,ai,bS];simp;rfl
  ·exact⟨aK e,fun h=>by have ap:=t k (l k h);have:=(cv x k e).1;omega⟩
  ·show k<I (G (ay w1 ⟨p,1,Y⟩ _));rw[hs];rcases h with h|h
   ·have:=t k h;omega
   ·exact(cv x k h).2
 yz:=by
  rintro F s w ⟨N,al,W,S,c,j,l,d,m,n,t⟩ ad cap hp i hi g z;have hp:w.heap[p]?=Z (M5 #[vr,M0 ad (MZ s.2) cap] 153 (0,0)):=hp;have hi:i<MZ s.2:=hi;have he:=c.symm.trans hp;obtain⟨rfl,rfl⟩:=he;obtain⟨b,rfl⟩:∃b,al=Z _:=by
   rcases j.2 with⟨_,h0⟩|⟨am,ar,an,hv,_⟩
   ·omega
   ·simp at hv;exact⟨am,hv.1⟩
  obtain⟨an,B⟩:=fF j b rfl;have ab:b≠p:=fun e=>by rw[e,c] at B;simp at B
  have f:∀(u v:bD) k,k≠b->(ay (ay w ⟨b,0+i*2,Y⟩ u) ⟨b,0+i*2+1,Y⟩ v).heap[k]?=w.heap[k]?:=fun u v k hk=>(aX _ _ _ _ hk).trans (aX _ _ _ _ hk)
  have hs:∀(u v:bD),I (G (ay (ay w ⟨b,0+i*2,Y⟩ u) ⟨b,0+i*2+1,Y⟩ v))=I (G w):=fun u v=>by simp[World.setCell]
  refine⟨b,0,rfl,(n b rfl).1,ab,by simp[World.frozen?,B],by simp[World.frozen?,B],N,au b,W,o.keep S (by rw[hs];exact aG _) (fun k h=>f _ _ k (fun e=>(n b rfl).2 (by rw[<-e];exact h))),?_,?_,l,d,m,?_,?_⟩
  ·show((w.setCell _ _).setCell _ _).heap[p]?=Z (M5 #[vr,M0 (au b) (MZ (s.2.set i (g,z))) W] 153 (0,0))
   rw[bh];exact(f _ _ p (Ne.symm ab)).trans c
  ·show aC ((w.setCell _ _).setCell _ _) 0 103 2 (M0 (au b) (MZ (s.2.set i (g,z))) W) (MZ (s.2.set i (g,z))) (ev (s.2.set i (g,z)))
   rw[bh,t_,Nat.zero_add];exact q9 (q9 j (i*2) _) _ _
  ·intro k e;exact n k e
  ·intro k h;rw[hs];exact t k h
end Go.Proofs.YtpkjkjhanlbcoaaGreat
