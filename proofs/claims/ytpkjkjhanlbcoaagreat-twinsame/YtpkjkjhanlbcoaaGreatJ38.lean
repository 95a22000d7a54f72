import Derived.Test.YtpkjkjhanlbcoaaGreatJ37
namespace Go.Proofs.YtpkjkjhanlbcoaaGreat
set_option maxRecDepth 100000
set_option maxHeartbeats 8000000
open Tryz
open Go.RowKit W Kp cf
theorem Az {P:Prop}(h:P:=by rw[World.cell?_setCell_far _ _ _ _ (fun e=>hn e.symm),World.cell?_setCell_far _ _ _ _ (fun e=>hn e.symm)];exact h):P:=h
section
variable {bY rb:Nat}{b_ bZ:Int}{F:Nat->Prop}{s:ck}{w:ax}{g:gO}
theorem IX (g:gO)(b_ bZ:Int)(s:ck)(m:Int):(s.room g b_ bZ m).2.T.length=s.T.length:=by
 unfold ck.room;split
 ·rfl
 ·unfold ck.cut;split
  ·rfl
  ·exact jD _ _ _
theorem uE {kd:Int}{fl:List (Int×Int)}{ad:Option Addr}{cap:Nat}(h:(cx bY b_ bZ rb).J F s w)(hv:fH s)(aB:dR s.T s.wt (g s.T s.wt))(g0:-1000000<=bZ)(g1:bZ<=1000000)(bp:-1000000<=b_)(m1:b_<=1000000)(hl:fl.length<=12)(O:ir w ad fl cap):
 Calls prog 206 #[aj bY,ah kd,.slice ad fl.length cap] w fun e w'=>∃d,e=.returned (.tuple #[.agg #[ah (s.bZ g b_ bZ kd fl).1.1,ah (s.bZ g b_ bZ kd fl).1.2],ah (s.bZ g b_ bZ kd fl).2.1])/\(cx bY b_ bZ rb).J d (s.bZ g b_ bZ kd fl).2.2 w'/\b8 F w d w':=by
 have br:ay (∀b,F b->_):=fun b hb=>(cx bY b_ bZ rb).lt h b hb;have fS:=br.out;have bs:=IX g b_ bZ s (1+(fl.length:Int))
 have bt:=hv.tl;have bx:ay (∀j:ax,aw w j->∀tb a1 c1,j.heap[w.heap.size]?=some (.cells #[ah 0,ah 0] 97 (0,0))->j.heap[tb]?=some (.cells #[ah kd,.slice a1 fl.length c1] 220 (0,0))->w.heap.size<=tb->j.ownsRow (w.heap.size+1) 97 2 (.slice a1 fl.length c1) fl.length (ev fl)->
  Calls prog 238 #[aj bY,ah (1+(fl.length:Int))] j fun e f=>e=.returned (ah (s.room g b_ bZ (1+(fl.length:Int))).1)/\f.heap[w.heap.size]?=some (.cells #[ah 0,ah 0] 97 (0,0))/\f.heap[tb]?=some (.cells #[ah kd,.slice a1 fl.length c1] 220 (0,0))/\f.ownsRow (w.heap.size+1) 97 2 (.slice a1 fl.length c1) fl.length (ev fl)/\
   ay (∃d,(cx bY b_ bZ rb).J d (s.room g b_ bZ (1+(fl.length:Int))).2 f/\b8 F w d f/\¬d w.heap.size/\¬d tb/\∀k,some k=(Value.slice a1 fl.length c1).ownBlock->¬d k)):=fun j hb tb a1 c1 H ag ht hr=>by
  refine(IU ((cx bY b_ bZ rb).below h hb) hv aB g0 g1 bp m1).mono ?_;rintro e f ⟨d,rfl,I,tn⟩
  have ai:∀b,w.heap.size<=b->b<j.heap.size->¬d b:=fun b p C c=>by
   rcases tn.sub b c with q|q
   ·have:=fS b q;omega
   ·omega
  have kp:∀b,w.heap.size<=b->b<j.heap.size->_=_:=fun b p C=>tn.fr.block b C (fun q=>by have:=fS b q;omega)
  exact⟨rfl,(kp _ bW (lt_of_some H)).trans H,(kp _ ht (lt_of_some ag)).trans ag,cH hr (fun k e=>kp k (by have:=(cn hr k e).1;omega) (cn hr k e).2),d,I,(b8.of hb).trans tn,ai _ bW (lt_of_some H),ai _ ht (lt_of_some ag),fun k e=>ai k (by have:=(cn hr k e).1;omega) (cn hr k e).2⟩
 have Q:ay (∀(w1:ax)(a1:Option Addr)(c1:Nat),w1.ownsRow (w.alloc (.cells #[.int .i64 0,.int .i64 0] 97)).heap.size 97 2 (.slice a1 fl.length c1) fl.length (ev fl)->Below (w.alloc (.cells #[.int .i64 0,.int .i64 0] 97)).heap.size (w.alloc (.cells #[.int .i64 0,.int .i64 0] 97)) w1->
  ∀j,Below (w1.alloc (.cells #[.int .i64 kd,.slice a1 fl.length c1] 220)).heap.size (w1.alloc (.cells #[.int .i64 kd,.slice a1 fl.length c1] 220)) j->Calls prog 238 #[aj bY,ah (1+(fl.length:Int))] j fun e f=>e=.returned (ah (s.room g b_ bZ (1+(fl.length:Int))).1)/\f.heap[w.heap.size]?=some (.cells #[ah 0,ah 0] 97 (0,0))/\f.heap[w1.heap.size]?=some (.cells #[ah kd,.slice a1 fl.length c1] 220 (0,0))/\w.heap.size<w1.heap.size/\ay (f.ownsRow (w.heap.size+1) 97 2 (.slice a1 fl.length c1) fl.length (ev fl))/\
   ay (∃d,(cx bY b_ bZ rb).J d (s.room g b_ bZ (1+(fl.length:Int))).2 f/\b8 F w d f/\¬d w.heap.size/\¬d w1.heap.size/\∀k,some k=(Value.slice a1 fl.length c1).ownBlock->¬d k)):=fun w1 a1 c1 hr hb j u=>by
  have b0:=hb.size;have b1:=u.size;simp at b0 b1 hr;refine(bx.out j (((((aH _ w).alloc bW _).trans (hb.mono Z)).alloc V _).trans (u.mono (by simp;omega))) w1.heap.size a1 c1 ((u.block _ (by simp;omega)).trans ((aS _ _ _ V).trans ((hb.block _ Z).trans (aN w _)))) ((u.block _ Z).trans (aN w1 _)) V (cH hr (fun k e=>(u.block k (by have:=(cn hr k e).2;simp;omega)).trans (aS _ _ _ (cn hr k e).2)))).mono ?_;rintro e f ⟨rfl,A,B,b2,b3⟩
  exact⟨rfl,A,B,V,b2,b3⟩
 have P:=IW (w.alloc (.cells #[.int .i64 0,.int .i64 0] 97)) ad fl cap ⟨O.lp.below (bX.alloc bW _),O.le,O.nil⟩ V;have aF:∀(k:Int)(a:Option Addr)(n c:Nat),n<=12->∀w:ax,_:=fun k a n c hn w=>uv k a n c V w;have aR:=hide aF;have al:ay (s.bZ g b_ bZ kd fl=if(s.room g b_ bZ (1+(fl.length:Int))).1=0 then((3,((s.room g b_ bZ (1+(fl.length:Int))).2.T.length:Int)),0,(s.room g b_ bZ (1+(fl.length:Int))).2.put kd fl) else((0,0),(s.room g b_ bZ (1+(fl.length:Int))).1,(s.room g b_ bZ (1+(fl.length:Int))).2)):=rfl;generalize s.bZ g b_ bZ kd fl=R at*;generalize (s.room g b_ bZ (1+(fl.length:Int))).1=rc at*;generalize (s.room g b_ bZ (1+(fl.length:Int))).2=s2 at*;have cv:(1+(fl.length:Int))<=13:=V;have cw:s2.T.length<=10000:=V;clear aF h hv aB O fS bs bt;by_cases aV:rc=0
 ·subst aV;have J:ay (R=((3,(s2.T.length:Int)),0,s2.put kd fl)):=al.out.trans (aI rfl)
  clear al;go_enter func206,ntmps206;go_wp2_with fail;refine P.mono ?_;clear P;rintro e w1 ⟨a1,c1,rfl,K,L⟩
  have M:ay (_):=Q.out w1 a1 c1 K L;clear K L Q;have P:=aR.out kd a1 fl.length c1 hl (w1.alloc (.cells #[.int .i64 kd,.slice a1 fl.length c1] 220))
  go_wp2_with fail;refine P.mono ?_;clear P;rintro e j ⟨rfl,u⟩
  have P:=M.out j u;clear M u;go_wp2_with fail;refine P.mono ?_;clear P;rintro e f ⟨rfl,A,B,b4,E,S⟩
  have a0:ay (f.cell? (aq bY 3)=some (ah s2.T.length)/\∀m,aw f m->∃mb i,((m.alloc (.cells #[.int .i64 3,.int .i64 s2.T.length] 97)).cell? (aq bY 2)=some (.map (some mb))/\(m.alloc (.cells #[.int .i64 3,.int .i64 s2.T.length] 97)).cell? (aq bY 3)=some (ah s2.T.length)/\(m.alloc (.cells #[.int .i64 3,.int .i64 s2.T.length] 97)).cell? (aq w1.heap.size 0)=some (ah kd)/\(m.alloc (.cells #[.int .i64 3,.int .i64 s2.T.length] 97)).cell? (aq w1.heap.size 1)=some (.slice a1 fl.length c1))/\
   (Instr.mapUpdate 184 (.map (some mb)) (ah s2.T.length) (.agg #[ah kd,.slice a1 fl.length c1])).run prog (m.alloc (.cells #[.int .i64 3,.int .i64 s2.T.length] 97)).drew=.ok () i/\
   (i.cell? (aq bY 2)=some (.map (some mb))/\i.cell? (aq bY 3)=some (ah s2.T.length)/\i.cell? (aq w1.heap.size 0)=some (ah kd)/\i.cell? (aq w1.heap.size 1)=some (.slice a1 fl.length c1)/\(∀o,i.frozen? (aq bY o)=false))/\
   (i.cell? (aq m.heap.size 0)=some (ah 3)/\i.cell? (aq m.heap.size 1)=some (ah s2.T.length))/\i.heap[w.heap.size]?=some (.cells #[ah 0,ah 0] 97 (0,0))/\(bY≠w.heap.size/\bY≠m.heap.size/\m.heap.size≠w.heap.size)/\
   ay (∃d,(cx bY b_ bZ rb).J d (s2.put kd fl) (((i.setCell ⟨bY,3,none⟩ (.int .i64 (s2.T.length+1))).setCell ⟨w.heap.size,0,none⟩ (.int .i64 3)).setCell ⟨w.heap.size,1,none⟩ (.int .i64 s2.T.length))/\b8 F w d (((i.setCell ⟨bY,3,none⟩ (.int .i64 (s2.T.length+1))).setCell ⟨w.heap.size,0,none⟩ (.int .i64 3)).setCell ⟨w.heap.size,1,none⟩ (.int .i64 s2.T.length)))):=by
   obtain⟨d,⟨l,gv,b5,U⟩,tn,n1,b6,a2⟩:=S.out;have c:=gv.cells;refine⟨c.2.2.2.1,fun m N=>?_⟩
   have b7:=c.2.2.2.2.2.2.2.2;have cy:=tn.fr.size;have bb:=N.size;have D:aw f (m.alloc (.cells #[.int .i64 3,.int .i64 s2.T.length] 97)):=N.alloc bb _;have b9:=gv.below D;have ca:=b9.cells;have cb:=(D.block w1.heap.size (lt_of_some B)).trans B;obtain⟨cc,cd,_,_⟩:=di cb;obtain⟨i,am,hM,gr⟩:=(gv.below D.drew).g2.mp.put (t:=184) (e:=220) Tryz.underlying184 (by have:=gv.g2.mn;omega) (x:=s2.T.length) V V (.agg #[ah kd,.slice a1 fl.length c1])
   have W:∀b,¬d b->l.own b=0:=fun b hb=>by
    cases e:l.own b
    ·rfl
    ·exact absurd ((U b).2 (by rw[e];omega)) hb
   have an:=W _ n1;have o1:=W _ b6;have bd:bY≠l.mb:=fun e=>by have p:=gv.bo;rw[e,gv.g2.dp] at p;omega
   have be:w.heap.size≠l.mb:=fun e=>by rw[e,gv.g2.dp] at an;omega
   have ce:w1.heap.size≠l.mb:=fun e=>by rw[e,gv.g2.dp] at o1;omega
   have ao:bY≠w.heap.size:=fun e=>by have p:=gv.bo;rw[e,an] at p;omega
   have lm:_:=gv.lt _ (by rw[gv.g2.dp];decide)
   have l0:=lt_of_some A;have l1:=lt_of_some B;have k5:∀b,b<m.heap.size+1->b≠l.mb->_=_:=fun b hb hn=>gr.block b (by simp;omega) (fun e=>hn (Option.some.inj e))
   have G:∀b,b<f.heap.size->b≠l.mb->_=_:=fun b hb hn=>(k5 b V hn).trans (D.block b hb)
   have X:=(G bY b7 bd).trans gv.blk;have cf:=(k5 m.heap.size V V).trans (aN m _)
   obtain⟨bg,y1,_,_⟩:=di cf;obtain⟨cg,t3,_,_⟩:=di ((G _ l1 ce).trans B)
   have bi:i.heap.size=(((i.setCell ⟨bY,3,none⟩ (.int .i64 (s2.T.length+1))).setCell ⟨w.heap.size,0,none⟩ (.int .i64 3)).setCell ⟨w.heap.size,1,none⟩ (.int .i64 s2.T.length)).heap.size:=Z;have ch:_:=aT (aT bb Z) gr.size;have Y:∀b,b≠bY->b≠w.heap.size->(((i.setCell ⟨bY,3,none⟩ (.int .i64 (s2.T.length+1))).setCell ⟨w.heap.size,0,none⟩ (.int .i64 3)).setCell ⟨w.heap.size,1,none⟩ (.int .i64 s2.T.length)).heap[b]?=i.heap[b]?:=fun b p C=>(aU _ _ _ _ C).trans ((aU _ _ _ _ C).trans (aU _ _ _ _ p))
   refine⟨l.mb,i,⟨ca.2.2.1,ca.2.2.2.1,cc,cd⟩,am,⟨by simp[World.cell?,X],by simp[World.cell?,X],cg,t3,fun o=>by simp[World.frozen?,X]⟩,⟨bg,y1⟩,(G _ l0 be).trans A,⟨ao,V,V⟩,?_⟩
   obtain⟨bl,ci,cj,ck⟩:=gv.new (kd:=kd) (fl:=fl) (a:=a1) (cp:=c1) (aT ch (Nat.le_of_eq bi)) (fun b h0 p C=>(Y b (fun e=>p (by rw[e];exact gv.bo)) (fun e=>h0 (by rw[e];exact an))).trans (G b (gv.lt b h0) (fun e=>C (by rw[e];exact gv.g2.dp)))) (by
    rw[aU _ _ _ _ ao,aU _ _ _ _ ao];simp only [World.setCell,Array.getElem?_modify,if_true,X,Option.map_some];rfl) (hM.same (Y _ bd.symm be.symm)) (cH (eT E.out (fun k e=>aZ _)) (fun k e=>by
     have ok:=W k (a2 k e)
     have hk:=cn E.out k e;exact(Y k (fun q=>by have p:=gv.bo;rw[<-q,ok] at p;omega) V).trans (G k hk.2 (fun q=>by have p:=gv.g2.dp;rw[<-q,ok] at p;omega)))) (fun k e=>W k (a2 k e))
   refine⟨fun b=>bl.own b≠0,⟨bl,ci,ck.trans b5,fun _=>Iff.rfl⟩,⟨⟨?_,?_,?_,by rw[<-bi];omega,fun k hk hn=>?_⟩,fun b hb=>?_⟩⟩
   ·exact(show _=i.os from rfl).trans (gr.os.trans (D.os.trans tn.fr.os))
   ·exact(show _=i.tape from rfl).trans (gr.tape.trans (D.tape.trans tn.fr.tape))
   ·exact(show _=i.output from rfl).trans (gr.output.trans (D.output.trans tn.fr.output))
   ·have bn:∀b,d b->b<w.heap.size->F b:=fun b p C=>(tn.sub b p).resolve_right V;exact(Y k (fun e=>hn (bn k ((U k).2 (by rw[e,gv.bo];decide)) hk)) V).trans ((G k V (fun e=>hn (bn k ((U k).2 (by rw[e,gv.g2.dp];decide)) hk))).trans (tn.fr.block k hk hn))
   ·rcases cj b hb with q|q
    ·exact tn.sub b ((U b).2 q)
    ·exact aJ (by have:=(cn E.out b q).1;omega)
  clear E S A B;obtain⟨cl,ab⟩:=a0.out;have ab:ay (_):=ab;clear a0;have P:=ow s2.T.length f;go_wp2_with fail;refine P.mono ?_;clear P;rintro e m ⟨rfl,N⟩
  obtain⟨mb,i,⟨cm,co,q0,q1⟩,am,⟨cq,cz,v0,v1,bo⟩,⟨bg,y1⟩,ap,⟨cr,cA,cB⟩,cs⟩:=ab.out m N;have cC:=bo 3;obtain⟨ct,H,cu,lw⟩:=di ap;have ar:ay (_=_):=ap;clear N ab ap cl bo;go_wp2_with fail
  go_region_held3 (fun w'=>w'.cell? (aq bY 2)=some (.map (some mb))/\w'.cell? (aq bY 3)=some (ah s2.T.length)/\w'.cell? (aq w1.heap.size 0)=some (ah kd)/\w'.cell? (aq w1.heap.size 1)=some (.slice a1 fl.length c1)) (go_keep) (fail)
  all_goals
   clear cm co q0 q1 am cq v0 v1;go_wp2_with fail;obtain⟨r0,r1,_,_⟩:=di (gy (v1:=ah 3) (v2:=ah s2.T.length) ((aU i ⟨bY,3,none⟩ (ah (s2.T.length+1)) w.heap.size cr.symm).trans ar.out))
   obtain⟨d,I,tn⟩:=cs.out;exact a3 (v:=.tuple #[.agg #[ah 3,ah s2.T.length],ah 0]) (by simp[results,results206,go_sem,r0,r1]) rfl ⟨d,by rw[J.out],by rw[J.out];exact I,tn⟩
 ·have J:=hide (al.out.trans (aG aV))
  go_enter func206,ntmps206;go_wp2_with fail;refine P.mono ?_;clear P;rintro e w1 ⟨a1,c1,rfl,K,L⟩
  have M:ay (_):=Q.out w1 a1 c1 K L;clear K L Q;have P:=aR.out kd a1 fl.length c1 hl (w1.alloc (.cells #[.int .i64 kd,.slice a1 fl.length c1] 220))
  go_wp2_with fail;refine P.mono ?_;clear P;rintro e j ⟨rfl,u⟩
  have P:=M.out j u;clear M u;go_wp2_with fail;refine P.mono ?_;clear P;rintro e f ⟨rfl,A,B,b4,E,S⟩
  obtain⟨ct,H,cu,lw⟩:=di A;have ar:ay (_=_):=A;clear A B E;go_wp2_with fail;obtain⟨r0,r1,_,_⟩:=di (gy (v1:=ah 0) (v2:=ah 0) ar.out)
  obtain⟨d,I,tn,n1,_⟩:=S.out;exact a3 (v:=.tuple #[.agg #[ah 0,ah 0],ah rc]) (by simp[results,results206,go_sem,r0,r1]) rfl ⟨d,by rw[J.out],by rw[J.out];exact(cx bY b_ bZ rb).set2 I n1 _ _,tn.set2 bW _ _⟩
end
theorem IY {P:Program}(w:ax)(c g ty b:TypeId)(d a:Option Addr)(e j f k:Nat)(l:P.underlying c=some (.slice b))(hs:(P.info? b).map (·.size)=some 2)(hn:Nat.min f e=0):
 (Builtin.copy_ #[c,g] ty #[.slice d e j,.slice a f k]).run P w=.ok (goInt 0) w:=by
 cases hq:P.info? b with
 |none=>simp[hq] at hs
 |some i=>
  have hl:∀(x:Addr),(loadCells x 0).run P w=.ok #[] w:=fun x=>by simpa using run_loadCells_list (P:=P) w x [] Z
  cases d<;>cases a<;>simp[Builtin.copy_,run_underlying l,Builtin.lenOf,Builtin.firstCells,sizeOf,typeInfo,hq,hn,storeCells,hl]
theorem IZ {P:Program}(w:ax)(e l ty d:TypeId)(g o f m:Nat)(a:Addr)(k p:Nat)(c:Array Value)(t:TypeId)(b:List Value)(n:Nat)
 (q:P.underlying e=some (.slice d))(hs:(P.info? d).map (·.size)=some 2)
 (hg:w.heap[g]?=some (.cells c t (0,0)))(hm:n=Nat.min k f)(hn:b.length=n*2)
 (s:∀j v,b[j]?=some v->w.cell? (a.add j)=some v)(u:o+b.length<=c.size)(x:∀v∈b,v.oneCell'=true):
 (Builtin.copy_ #[e,l] ty #[.slice (some ⟨g,o,none⟩) f m,.slice (some a) k p]).run P w=
   .ok (goInt n) (w.setRow g (c.toList.take o++b++c.toList.drop (o+b.length)).toArray):=by
 have hl:=run_loadCells_list (P:=P) w a b s;have A:=run_storeCells_at P g o t b 0 c w hg (by simpa using u) x;rw[hn] at hl;cases hq:P.info? d with
 |none=>simp[hq] at hs
 |some i=>
  have hi:i.size=2:=by simpa[hq] using hs
  simp[Builtin.copy_,run_underlying q,Builtin.lenOf,Builtin.firstCells,sizeOf,typeInfo,hq,hi,<-hm,hl,A]
theorem AA {P:Program}{ops:Array Oper}{o:Oper}{a:Act}{w:ax}{K:Act->ax->Prop}{Q:Exit->Act->ax->Prop}{E:Prop}(C:o.guard=none)(x s:Operand)(c l d:TypeId)
 (ho:o.op=.call {callee:=.builtin .copy,args:=#[x,s],argTypes:=#[c,l]})(A:P.underlying c=some (.slice d))(B:(P.info? d).map (·.size)=some 2)
 (m sp:Option Addr)(e p f q:Nat)(hd:a.eval x=.slice m e p)(hs:a.eval s=.slice sp f q)
 (g i:Nat)(k:List Value)(t:TypeId)(hg:w.heap[g]?=some (.cells k.toArray t (0,0)))(b:List Value)(n:Nat)(hm:n=Nat.min f e)(hn:b.length=n*2)
 (D:0<n->m=some ⟨g,i,none⟩/\∃ad,sp=some ad/\∀j v,b[j]?=some v->w.cell? (ad.add j)=some v)
 (F:i+b.length<=k.length)(G:∀v∈b,v.oneCell'=true)
 (h:∀w',k4 w w' g k i b->K (a.put o.dst (goInt n)) w'):
 if Region.wanted o (yielded ops a.tmps)=true then Oper.wp P o a w K Q else E:=by
 rw[aI (show Region.wanted o (yielded ops a.tmps)=true by simp[Region.wanted,C])];rcases Nat.eq_zero_or_pos n with h0|h0
 ·subst h0;have H:b=[]:=List.eq_nil_of_length_eq_zero V;subst H;have u:=IY (P:=P) w c l o.type d m sp e p f q A B hm.symm;unfold Oper.wp;simp[execOp,ho,resolve,invoke,builtin,hd,hs,u,Result.andThen];exact h w (aK ⟨rfl,rfl⟩)
 ·obtain⟨I,ad,J,L⟩:=D h0;subst I J;have u:=IZ (P:=P) w c l o.type d g i e p ad f q k.toArray t b n A B hg hm hn L (by simpa using F) G;unfold Oper.wp;simp[execOp,ho,resolve,invoke,builtin,hd,hs,u,Result.andThen];exact h _ (aJ (by simp[splice]))
theorem I0 {P:Program}{ops:Array Oper}{q:List Oper}{o:Oper}{a:Act}{w:ax}{Q:Exit->Act->ax->Prop}(e:o.guard=none)(f s:Operand)(i u k:TypeId)
 (ho:o.op=.call {callee:=.builtin .copy,args:=#[f,s],argTypes:=#[i,u]})(B:P.underlying i=some (.slice k))(C:(P.info? k).map (·.size)=some 2)
 (l sp:Option Addr)(m x p A:Nat)(hd:a.eval f=.slice l m x)(hs:a.eval s=.slice sp p A)
 (g c:Nat)(d:List Value)(t:TypeId)(hg:w.heap[g]?=some (.cells d.toArray t (0,0)))(b:List Value)(n:Nat)(hm:n=Nat.min p m)(hn:b.length=n*2)
 (D:0<n->l=some ⟨g,c,none⟩/\∃ad,sp=some ad/\∀j v,b[j]?=some v->w.cell? (ad.add j)=some v)
 (F:c+b.length<=d.length)(G:∀v∈b,v.oneCell'=true)
 (h:∀w',k4 w w' g d c b->wpList P ops Q q (a.put o.dst (goInt n)) w'):wpList P ops Q (o::q) a w:=
 wpList_plain e fun K H=>by
  have:=AA (P:=P) (ops:=#[]) (o:=o) (a:=a) (w:=w) (K:=K) (Q:=Q) (E:=False) e f s i u k ho B C l sp m x p A hd hs g c d t hg b n hm hn D F G (fun w' hw=>H _ _ (h w' hw))
  rwa [aI (show Region.wanted o (yielded #[] a.tmps)=true by simp[Region.wanted,e])] at this
theorem I1 (c:Nat)(hc:c<=12)(w:ax):Calls prog 223 #[.int .u64 1,.int .u64 c] w fun e w'=>e=.returned (.tuple #[.int .u64 0,.int .u64 c])/\w'=w:=by exact zE
theorem I2 (c:Nat)(hc:c<=12)(w:ax):Calls prog 167 #[.int .u64 1,.int .u64 c] w fun e w'=>e=.returned (.tuple #[.int .u64 0,.int .u64 c])/\w'=w:=by have P:=I1 c hc w;exact zF
def gw (c:Nat)(v:Int×Int)(n:Nat):List (Int×Int):=List.replicate n v++List.replicate (c-n) (0,0)
theorem AB (c:Nat)(v:Int×Int)(n:Nat)(h:n<=c):(gw c v n).length=c:=by simp[gw];omega
theorem kS (n:Nat)(v:Int×Int):(ev (List.replicate n v)).length=n*2:=by rw[kB,List.length_replicate]
theorem I3 (c:Nat)(v:Int×Int)(n m:Nat)(h:n+m<=c):splice (ev (gw c v n)) (n*2) (ev (List.replicate m v))=ev (gw c v (n+m)):=by
 unfold splice gw;have b:(List.replicate (c-n) ((0:Int),(0:Int)))=List.replicate m (0,0)++List.replicate (c-(n+m)) (0,0):=by
  rw[List.replicate_append_replicate]
  congr 1
  omega
 have d:List.drop (n*2+m*2) (ev (List.replicate n v)++(ev (List.replicate m ((0:Int),(0:Int)))++ev (List.replicate (c-(n+m)) (0,0))))=ev (List.replicate (c-(n+m)) (0,0)):=by rw[<-ba];exact List.drop_left' (by rw[aX,kS,kS])
 rw[iV,List.take_left' (kS n v),kS,b,iV,d,<-List.replicate_append_replicate,iV,iV,ba]
theorem I4 (c:Nat)(v:Int×Int)(n m:Nat)(hm:m<=n):∃r,ev (gw c v n)=ev (List.replicate m v)++r:=by
 refine⟨ev (List.replicate (n-m) v)++ev (List.replicate (c-n) (0,0)),?_⟩
 unfold gw;rw[<-ba,<-iV,List.replicate_append_replicate,<-iV]
 congr 3
 omega
theorem I5 {c:Nat}{w:ax}{nb n:Nat}{v:Int×Int}(hr:w.heap[nb]?=some (.cells (ev (gw c v n)).toArray 97 (0,0)))(m:Nat)(hm:m<=n):∀j b,(ev (List.replicate m v))[j]?=some b->w.cell? ((⟨nb,0,none⟩:Addr).add j)=some b:=by
 intro j b d;obtain⟨r,e⟩:=I4 c v n m hm;have f:=(List.getElem?_eq_some_iff.1 d).1;rw[Addr.add_lit];have:(ev (gw c v n))[j]?=some b:=by rw[e,List.getElem?_append_left f];exact d
 rw[Nat.zero_add];simp[World.cell?,hr,this]
theorem AC {c:Nat}{w w':ax}{nb n m B:Nat}{v:Int×Int}(b:k4 w w' nb (ev (gw c v n)) (n*2) (ev (List.replicate m v)))(hr:w.heap[nb]?=some (.cells (ev (gw c v n)).toArray 97 (0,0)))(h:n+m<=c)(hB:B<=nb):w'.heap[nb]?=some (.cells (ev (gw c v (n+m))).toArray 97 (0,0))/\Below B w w':=by
 rcases b with⟨h0,rfl⟩|rfl
 ·have:=congrArg List.length h0;rw[kS] at this
  simp only [List.length_nil] at this
  obtain rfl:m=0:=V;exact⟨hr,aH _ _⟩
 ·rw[I3 c v n m h];exact⟨setRow_heap w nb _ _ _ _ hr,⟨rfl,rfl,rfl,by simp[World.setRow],fun k hk=>setRow_other w nb k _ V⟩⟩
theorem AD:(prog.info? 97).map (·.size)=some 2:=ae
theorem I6 {w:ax}{b k n:Nat}(hn:n<=12)(h:w.ownsRow b 97 2 (.slice (ak k) n n) n (madeCells (Value.agg #[ah 0,ah 0]).cells (n*2)).toList):
 w.heap[k]?=some (.cells (ev (List.replicate n (0,0))).toArray 97 (0,0)):=by
 obtain⟨j,d⟩:=h;rcases d with⟨e,_⟩|⟨m,cap,c,hv,hb,f,o,p,q,g⟩
 ·cases e
 ·cases hv;rw[f];have:c.toList=ev (List.replicate n (0,0)):=by rw[<-List.take_of_length_le (l:=c.toList) (i:=n*2) (by simp;omega),g];rcases(show n=0\/n=1\/n=2\/n=3\/n=4\/n=5\/n=6\/n=7\/n=8\/n=9\/n=10\/n=11\/n=12 by omega) with rfl|rfl|rfl|rfl|rfl|rfl|rfl|rfl|rfl|rfl|rfl|rfl|rfl<;>kernel_rfl
  rw[<-this]
theorem I7 {w:ax}{b:Nat}{v:Int×Int}{m:Nat}(hm:m<=1)(h0:w.cell? (aq b 0)=some (ah v.1))(e:w.cell? (aq b 1)=some (ah v.2)):∀j d,(ev (List.replicate m v))[j]?=some d->w.cell? ((⟨b,0,none⟩:Addr).add j)=some d:=by
 intro j d c;have f:=(List.getElem?_eq_some_iff.1 c).1;rw[kS] at f;obtain rfl:m=1:=V
 match j,c with
 |0,c=>simp[ev] at c;rw[<-c];simpa[Addr.add] using h0
 |1,c=>simp[ev] at c;rw[<-c];simpa[Addr.add] using e
 |j+2,_=>omega
theorem AE (w:ax)(b c:Nat)(v:Int×Int)(A:c<=12)(C:w.cell? (aq b 0)=some (ah v.1))(Q:w.cell? (aq b 1)=some (ah v.2)):
 Calls prog 131 #[.slice (ak b) 1 1,ah c] w fun e w'=>∃nb,e=.returned (.slice (ak nb) c c)/\w.heap.size<=nb/\w'.heap[nb]?=some (.cells (ev (List.replicate c v)).toArray 97 (0,0))/\aw w w':=by
 obtain⟨D,hi,R,S,U⟩:=info_parts rA;have lb:=aQ w _ C;dsimp only at lb;have E:=I2 c A w;have W:ay (gw c v c=List.replicate c v):=by show _=_;simp[gw]
 have c1:(c:Int)<=12:=V;go_enter func131,ntmps131;go_wp2_with fail;refine E.mono ?_;clear E;rintro e w0 ⟨rfl,hw⟩
 have hw:=hw.symm;subst hw
 go_upto_region 7 with(at_make;refine wpList_make_full _ rfl _ _ 57 rfl w.heap.size 97 D (.agg #[ah 0,ah 0]) 2 Tryz.underlying57 hi R S .i64 .i64 _ _ c rfl rfl V V (by rw[U];omega) (by unfold maxLen;omega) bW ?_;intro w1 F G)
 have hr:w1.heap[w.heap.size]?=some (.cells (ev (gw c v 0)).toArray 97 (0,0)):=by have X:=I6 A F;simpa[gw] using X
 have k:aw w w1:=(aH _ w).grown G bW (fun _ h=>by cases h)
 have H:=(k.cell (p:=aq b 0) lb).trans C;have I:=(k.cell (p:=aq b 1) lb).trans Q;clear F G;have q:Nat.min 1 c<=1:=Nat.min_le_left _ _;have d:Nat.min 1 c<=c:=Nat.min_le_right _ _;have l:0<c->1<=Nat.min 1 c:=fun h=>by simp only [Nat.min_def];split<;>omega
 have f:ay (∀j g,(ev (List.replicate (Nat.min 1 c) v))[j]?=some g->w1.cell? ((⟨b,0,none⟩:Addr).add j)=some g):=I7 q H I;have s:ay (w1.heap[w.heap.size]?=some (.cells (ev (gw c v 0)).toArray 97 (0,0))):=hr;have i:ay (0*2+(ev (List.replicate (Nat.min 1 c) v)).length<=(ev (gw c v 0)).length):=by show _<=_;rw[kS,kB,AB c v 0 V];omega
 clear H I hr;go_wp2_with (refine I0 rfl _ _ 57 57 97 rfl Tryz.underlying57 AD (ak w.heap.size) (ak b) c c 1 1 rfl rfl w.heap.size (0*2) (ev (gw c v 0)) 97 s.out (ev (List.replicate (Nat.min 1 c) v)) (Nat.min 1 c) rfl (kS _ _) (fun _=>⟨rfl,_,rfl,f.out⟩) i.out (nP _) ?_;intro al J)
 obtain⟨t,K⟩:=AC (B:=w.heap.size) J s.out V bW
 rw[Nat.zero_add] at t;have L:=k.trans K;have u:ay (Nat.min 1 c<=c/\(0<c->1<=Nat.min 1 c)):=⟨d,l⟩
 clear J f s i k K q d l;generalize Nat.min 1 c=Y at*
 go_loopw [8] (fun nv wr=>∃n:Nat,(0<c->1<=n)/\n<=c/\nv=ah n/\ay (wr.heap[w.heap.size]?=some (.cells (ev (gw c v n)).toArray 97 (0,0)))/\aw w wr) (fun nv _=>c-(intOf nv).toNat)
 case atStart=>exact⟨Y,u.out.2,u.out.1,rfl,t,L⟩
 case round=>
  clear t L u;obtain⟨n,n1,ab,rfl,x,hb⟩:=hrel;by_cases am:n<c
  ·have n1:=n1 V;obtain⟨m,hm,q,d,l⟩:∃m,m=Nat.min n (c-n)/\0<m/\n+m<=c/\m<=n:=⟨_,rfl,by simp only [Nat.min_def];split<;>omega,by simp only [Nat.min_def];split<;>omega,by simp only [Nat.min_def];split<;>omega⟩
   have o:ay (wr.drew.heap[w.heap.size]?=some (.cells (ev (gw c v n)).toArray 97 (0,0))):=x.out;have f:ay (∀j g,(ev (List.replicate m v))[j]?=some g->wr.drew.cell? ((⟨w.heap.size,0,none⟩:Addr).add j)=some g):=I5 o.out m l;have i:ay (n*2+(ev (List.replicate m v)).length<=(ev (gw c v n)).length):=by show _<=_;rw[kS,kB,AB c v n ab];omega
   have an:¬c=n:=V;have D:(0:Int)<=(n:Int):=V;have ao:(n:Int)<=(c:Int):=V;have ap:(n:Int)<(c:Int):=V;clear x;go_wp2_with fail
   go_region_law (refine AA rfl (.tmp 41) (.tmp 44) 57 57 97 rfl Tryz.underlying57 AD (some ⟨w.heap.size,n*2,none⟩) (ak w.heap.size) (c-n) (c-n) n c ?_ ?_ w.heap.size (n*2) (ev (gw c v n)) 97 o.out (ev (List.replicate m v)) m hm (kS _ _) (fun _=>⟨rfl,_,rfl,f.out⟩) i.out (nP _) ?_;(simp[Act.eval,Act.put]);(simp[Act.eval,Act.put]);intro ad M)
   obtain⟨N,O⟩:=AC (B:=w.heap.size) M o.out d bW
   have ag:ay (ad.heap[w.heap.size]?=some (.cells (ev (gw c v (n+m))).toArray 97 (0,0))):=N;have ai:=hb.drew.trans O;have hw:IntKind.i64.wrap ((n:Int)+(m:Int))=((n+m:Nat):Int):=by rw[bk];omega
   clear N O M o f i hb;simp[Act.put,go_sem,Exit.inBlock];rw[<-hm,hw];refine⟨⟨_,_,_,_,_,_,_,_,_,_,_,_,_,_,?rel,rfl⟩,?measure⟩
   case rel=>exact⟨n+m,fun _=>V,d,rfl,ag,ai⟩
   case measure=>simp[intOf];omega
  ·obtain rfl:n=c:=V;have P:=x.out;rw[W.out] at P;go_wp2_with fail;go_ret;exact⟨w.heap.size,rfl,aD _,P,hb⟩
section
variable {bY rb:Nat}{b_ bZ:Int}{F:Nat->Prop}{s:ck}{w:ax}{g:gO}
theorem I8 (g:List Bool->List Bool)(s:ck)(bZ:Int)(mj:Bool):(s.cut g bZ mj).rs=s.rs:=by unfold ck.cut;split<;>rfl
theorem AF (g:gO)(b_ bZ:Int)(s:ck)(m:Int):(s.room g b_ bZ m).2.rs=s.rs:=by
 unfold ck.room;split
 ·rfl
 ·exact I8 _ _ _ _
theorem uF (g:gO)(b_ bZ:Int)(s:ck)(kd:Int)(fl:List _):(s.bZ g b_ bZ kd fl).2.2.rs=s.rs:=by
 unfold ck.bZ;split
 ·exact AF _ _ _ _ _
 ·exact AF _ _ _ _ _
theorem I9 (s:ck)(v:Int×Int):(s.pop v).2.2.rs=s.rs:=by
 unfold ck.pop;split
 ·split<;>rfl
 ·rfl
theorem jY (h:(cx bY b_ bZ rb).J F s w):w.cell? (aq bY 6)=some (.slice (ak rb) 12 12)/\(∀i,i<12->w.cell? (aq rb (i*2))=some (ah (s.rs.getD i (0,0)).1)/\w.cell? (aq rb (i*2+1))=some (ah (s.rs.getD i (0,0)).2))/\F bY/\F rb:=by obtain⟨l,h,rfl,b⟩:=h;have c:=h.g4.cells.2.2;exact⟨h.cells.2.2.2.2.2.2.1,fun i hi=>⟨(c i hi).1,(c i hi).2.1⟩,(b _).2 (by rw[h.bo];decide),(b _).2 (by rw[h.g4.ro];decide)⟩
theorem ff {w:ax}{b c o:Nat}{x v0 v1:Value}(hn:b≠c)(h:w.cell? (aq b o)=some x):((w.setCell ⟨c,0,none⟩ v0).setCell ⟨c,1,none⟩ v1).cell? (aq b o)=some x:=by exact Az
theorem uG (h:(cx bY b_ bZ rb).J F s w)(hv:fH s)(C:dR s.T s.wt (g s.T s.wt))(g0:-1000000<=bZ)(g1:bZ<=1000000)(S:-1000000<=b_)(m1:b_<=1000000)(R I n:Int){k kd:Int}(hk:k=4/\kd=1\/k=6/\kd=3\/k=7/\kd=4)(A B:Nat)(o:A<12)(hB:B<12):
 Calls prog 136 #[aj bY,dK k R A B I n] w fun e w'=>∃d,e=.returned (.tuple #[.agg #[ah (s.bZ g b_ bZ kd [s.rs.getD A (0,0),s.rs.getD B (0,0)]).1.1,ah (s.bZ g b_ bZ kd [s.rs.getD A (0,0),s.rs.getD B (0,0)]).1.2],ah (s.bZ g b_ bZ kd [s.rs.getD A (0,0),s.rs.getD B (0,0)]).2.1])/\(cx bY b_ bZ rb).J d (s.bZ g b_ bZ kd [s.rs.getD A (0,0),s.rs.getD B (0,0)]).2.2 w'/\b8 F w d w':=by
 have fS:∀b,F b->b<w.heap.size:=fun b hb=>(cx bY b_ bZ rb).lt h b hb;have p:aw w ((w.alloc (cz k R A B I n)).alloc (.cells #[.int .i64 0,.int .i64 0] 97)):=(bX.alloc bW _).alloc Z _;have q:((w.alloc (cz k R A B I n)).alloc (.cells #[.int .i64 0,.int .i64 0] 97)).heap[w.heap.size]?=some (cz k R A B I n):=(aS _ _ _ Z).trans (aN w _)
 have D:=iR w (cz k R A B I n) (.cells #[.int .i64 0,.int .i64 0] 97)
 obtain⟨U,rt,E,G⟩:=jY ((cx bY b_ bZ rb).below h p)
 obtain⟨W,X⟩:=rt A o;obtain⟨Y,ab⟩:=rt B hB;obtain⟨q0,q1,ag,q3,ai,al⟩:=eu q;have a2:=fS _ E;have bb:=fS _ G;have H:((w.alloc (cz k R A B I n)).alloc (.cells #[.int .i64 0,.int .i64 0] 97)).heap.size=w.heap.size+1+1:=Z;have t:Calls prog 206 #[aj bY,ah kd,.slice (ak (w.heap.size+1+1)) 2 2] (((w.alloc (cz k R A B I n)).alloc (.cells #[.int .i64 0,.int .i64 0] 97)).drew.alloc (.cells #[.int .i64 (s.rs.getD A (0,0)).1,.int .i64 (s.rs.getD A (0,0)).2,.int .i64 (s.rs.getD B (0,0)).1,.int .i64 (s.rs.getD B (0,0)).2] 97)) fun e c=>∃d,e=.returned (.tuple #[.agg #[ah (s.bZ g b_ bZ kd [s.rs.getD A (0,0),s.rs.getD B (0,0)]).1.1,ah (s.bZ g b_ bZ kd [s.rs.getD A (0,0),s.rs.getD B (0,0)]).1.2],ah (s.bZ g b_ bZ kd [s.rs.getD A (0,0),s.rs.getD B (0,0)]).2.1])/\
  (c.cell? (aq bY 6)=some (.slice (ak rb) 12 12)/\c.cell? (aq rb (A*2))=some (ah (s.rs.getD A (0,0)).1)/\c.cell? (aq rb (A*2+1))=some (ah (s.rs.getD A (0,0)).2)/\c.cell? (aq rb (B*2))=some (ah (s.rs.getD B (0,0)).1)/\c.cell? (aq rb (B*2+1))=some (ah (s.rs.getD B (0,0)).2)/\c.cell? (aq w.heap.size 2)=some (ah A)/\c.cell? (aq w.heap.size 3)=some (ah B))/\
  c.heap[w.heap.size+1]?=some (.cells #[ah 0,ah 0] 97 (0,0))/\ay ((cx bY b_ bZ rb).J d (s.bZ g b_ bZ kd [s.rs.getD A (0,0),s.rs.getD B (0,0)]).2.2 c/\b8 F w d c/\¬d (w.heap.size+1)):=by
  have b1:aw w (((w.alloc (cz k R A B I n)).alloc (.cells #[.int .i64 0,.int .i64 0] 97)).drew.alloc (.cells #[.int .i64 (s.rs.getD A (0,0)).1,.int .i64 (s.rs.getD A (0,0)).2,.int .i64 (s.rs.getD B (0,0)).1,.int .i64 (s.rs.getD B (0,0)).2] 97)):=p.drew.alloc (by simp;omega) _;have u:(((w.alloc (cz k R A B I n)).alloc (.cells #[.int .i64 0,.int .i64 0] 97)).drew.alloc (.cells #[.int .i64 (s.rs.getD A (0,0)).1,.int .i64 (s.rs.getD A (0,0)).2,.int .i64 (s.rs.getD B (0,0)).1,.int .i64 (s.rs.getD B (0,0)).2] 97)).heap.size=w.heap.size+1+1+1:=Z;have hn:=aN ((w.alloc (cz k R A B I n)).alloc (.cells #[.int .i64 0,.int .i64 0] 97)).drew (.cells #[.int .i64 (s.rs.getD A (0,0)).1,.int .i64 (s.rs.getD A (0,0)).2,.int .i64 (s.rs.getD B (0,0)).1,.int .i64 (s.rs.getD B (0,0)).2] 97)
  have J:((w.alloc (cz k R A B I n)).alloc (.cells #[.int .i64 0,.int .i64 0] 97)).drew.heap.size=w.heap.size+1+1:=H;rw[J] at hn;refine(uE (g:=g) (kd:=kd) (fl:=[s.rs.getD A (0,0),s.rs.getD B (0,0)]) (ad:=ak (w.heap.size+1+1)) (cap:=2) ((cx bY b_ bZ rb).below h b1) hv C g0 g1 S m1 Z ⟨fun _=>⟨w.heap.size+1+1,0,rfl,by rw[u];omega,fun i hi=>?_⟩,Z,fun e=>by cases e⟩).mono ?_
  ·have hi:i<2:=hi;rcases(show i=0\/i=1 by omega) with rfl|rfl<;>simp only [World.cell?,hn]<;>exact⟨rfl,rfl⟩
  ·rintro e c ⟨d,rfl,K,tn⟩
   obtain⟨l,j,_,_⟩:=jY K;rw[uF] at j;have kp:∀b,w.heap.size<=b->b<w.heap.size+1+1->c.heap[b]?=((w.alloc (cz k R A B I n)).alloc (.cells #[.int .i64 0,.int .i64 0] 97)).heap[b]?:=fun b bd be=>(tn.fr.block b (by rw[u];omega) (fun f=>by have:=fS b f;omega)).trans (aS ((w.alloc (cz k R A B I n)).alloc (.cells #[.int .i64 0,.int .i64 0] 97)).drew _ b (by rw[J];omega))
   have am:=(kp _ bW V).trans q;obtain⟨_,_,an,ao,_,_⟩:=eu am;refine⟨d,rfl,⟨l,(j A o).1,(j A o).2,(j B hB).1,(j B hB).2,an,ao⟩,(kp _ V V).trans D,K,(b8.of b1).trans tn,fun f=>?_⟩
   rcases tn.sub _ f with f|f
   ·have:=fS _ f;omega
   ·rw[u] at f;omega
 generalize s.bZ g b_ bZ kd [s.rs.getD A (0,0),s.rs.getD B (0,0)]=gr at*;obtain⟨⟨v0,v1⟩,cd,bg⟩:=gr;dsimp only at t⊢;generalize (s.rs.getD A (0,0)).1=a0 at*;generalize (s.rs.getD A (0,0)).2=a1 at*;generalize (s.rs.getD B (0,0)).1=ap at*;generalize (s.rs.getD B (0,0)).2=ar at*;have bi:(0:Int)<=(A:Int):=V;have bl:(A:Int)<12:=V;have bn:(0:Int)<=(B:Int):=V;have bo:(B:Int)<12:=V;have aB:bY≠w.heap.size+1:=V;have m:rb≠w.heap.size+1:=V;have nx:w.heap.size≠w.heap.size+1:=V;clear h hv C p q D rt fS E G q0 q1 ai al H;rcases hk with⟨rfl,rfl⟩|⟨rfl,rfl⟩|⟨rfl,rfl⟩
 all_goals
  go_enter func136,ntmps136;go_wp2_with fail
  go_region_held3 (fun w'=>w'.cell? (aq bY 6)=some (.slice (ak rb) 12 12)/\w'.cell? (aq rb (A*2))=some (ah a0)/\w'.cell? (aq rb (A*2+1))=some (ah a1)/\w'.cell? (aq rb (B*2))=some (ah ap)/\w'.cell? (aq rb (B*2+1))=some (ah ar)/\w'.cell? (aq w.heap.size 2)=some (ah A)/\w'.cell? (aq w.heap.size 3)=some (ah B)) (first|exact⟨ff aB L,ff m M,ff m N,ff m O,ff m P,ff nx l,ff nx Q⟩|(go_keep;done))
   (first|(go_at_call 206;refine t.mono ?_;clear t;rintro e c ⟨d,rfl,⟨L,M,N,O,P,l,Q⟩,y1,x⟩;obtain⟨r0,r1,bp,lw⟩:=di y1;have aF:ay (_=_):=y1;clear y1 U W X Y ab ag q3))
  all_goals
   clear L M N O P l Q ‹_/\_›;go_wp2_with fail;obtain⟨aR,aV,_,_⟩:=di (gy (v1:=ah v0) (v2:=ah v1) aF.out)
   exact a3 (v:=.tuple #[.agg #[ah v0,ah v1],ah cd]) (by simp[results,results136,go_sem,aR,aV]) rfl ⟨d,rfl,dr.set2 _ x.out.1 x.out.2.2 _ _,x.out.2.1.set2 (Nat.le_succ _) _ _⟩
end
end Go.Proofs.YtpkjkjhanlbcoaaGreat
