import Derived.Test.YtpkjkjhanlbcoaaGreatJ19
open Array renaming size->MB
open Bool renaming true->D
open Classical renaming byContradiction->lT
open Go renaming Addr->bI,Calls->J,TypeId->bU,Value->bj,splice->nC
open Go.Ending renaming returned->MD
open Go.IntKind renaming i64->MC,u64->r4
open Go.Obj renaming cells->ME
open Go.Proofs.Tryz renaming prog->O
open Go.RowKit renaming Below->C
open Go.Value renaming agg->bF,int->U,slice->H,tuple->a6
open Go.World renaming alloc->bE,cell?->V,heap->G,ownsRow->aC,setCell->ay
open Int renaming eq_ofNat_of_zero_le->bG,toNat->M
open List renaming getD->X,getElem?_eq_some_iff->rT,length->L,length_replicate->hW,replicate->MQ,replicate_append_replicate->pq
open Nat renaming le_succ->mq,min->pg,min_def->tQ,zero_add->bZ
open Option renaming none->Y,some->Z
open Option.some renaming inj->p4
namespace Go.Proofs.YtpkjkjhanlbcoaaGreat
set_option maxRecDepth 100000
set_option maxHeartbeats 8000000
open Tryz
open Go.RowKit W Kp cq
theorem Bm {P:Prop}(h:P:=by rw[World.cell?_setCell_far _ _ _ _ (fun e=>hn e.symm),World.cell?_setCell_far _ _ _ _ (fun e=>hn e.symm)];exact h):P:=h
section
variable {ce rb:Nat}{cj b_:Int}{F:Nat->Prop}{s:cn}{w:az}{g:eg}
theorem JY (g:eg)(cj b_:Int)(s:cn)(m:Int):L (s.room g cj b_ m).2.T=L s.T:=by
 unfold cn.room;split
 ·rfl
 ·unfold cn.cut;split
  ·rfl
  ·exact jF _ _ _
theorem vx {kd:Int}{fl:List (Int×Int)}{ad:Option bI}{cap:Nat}(h:(cG ce cj b_ rb).J F s w)(hv:fD s)(bo:dz s.T s.wt (g s.T s.wt))(g0:-1000000<=b_)(g1:b_<=1000000)(cc:-1000000<=cj)(m1:cj<=1000000)(hl:L fl<=12)(aB:iP w ad fl cap):
 Calls O 206 #[aq ce,ak kd,H ad (L fl) cap] w fun e w'=>∃d,e=MD (a6 #[bF #[ak (s.b_ g cj b_ kd fl).1.1,ak (s.b_ g cj b_ kd fl).1.2],ak (s.b_ g cj b_ kd fl).2.1])/\(cG ce cj b_ rb).J d (s.b_ g cj b_ kd fl).2.2 w'/\ch F w d w':=by
 have cd:aA (∀b,F b->_):=fun b hb=>(cG ce cj b_ rb).lt h b hb;have f9:=cd.o;have cf:=JY g cj b_ s (1+(L fl:Int))
 have cg:=hv.tl;have ci:aA (∀j:az,C (MB (G w)) w j->∀tb a1 c1,j.heap[MB (G w)]?=Z (ME #[ak 0,ak 0] 97 (0,0))->j.heap[tb]?=Z (ME #[ak kd,H a1 (L fl) c1] 220 (0,0))->MB (G w)<=tb->aC j (MB (G w)+1) 97 2 (H a1 (L fl) c1) (L fl) (ev fl)->
  Calls O 238 #[aq ce,ak (1+(L fl:Int))] j fun e f=>e=MD (ak (s.room g cj b_ (1+(L fl:Int))).1)/\f.heap[MB (G w)]?=Z (ME #[ak 0,ak 0] 97 (0,0))/\f.heap[tb]?=Z (ME #[ak kd,H a1 (L fl) c1] 220 (0,0))/\aC f (MB (G w)+1) 97 2 (H a1 (L fl) c1) (L fl) (ev fl)/\
   aA (∃d,(cG ce cj b_ rb).J d (s.room g cj b_ (1+(L fl:Int))).2 f/\ch F w d f/\¬d (MB (G w))/\¬d tb/\∀k,Z k=(Value.slice a1 (L fl) c1).ownBlock->¬d k)):=fun j hb tb a1 c1 ai ba ht hr=>by
  refine(JV ((cG ce cj b_ rb).below h hb) hv bo g0 g1 cc m1).mono ?_;rintro e f ⟨d,rfl,al,tn⟩
  have bb:∀b,MB (G w)<=b->b<MB (G j)->¬d b:=fun b p S c=>by
   rcases tn.sub b c with q|q
   ·have:=f9 b q;omega
   ·omega
  have kp:∀b,MB (G w)<=b->b<MB (G j)->_=_:=fun b p S=>tn.fr.block b S (fun q=>by have:=f9 b q;omega)
  exact⟨rfl,(kp _ b8 (lt_of_some ai)).trans ai,(kp _ ht (lt_of_some ba)).trans ba,cM hr (fun k e=>kp k (by have:=(cv hr k e).1;omega) (cv hr k e).2),d,al,(ch.of hb).trans tn,bb _ b8 (lt_of_some ai),bb _ ht (lt_of_some ba),fun k e=>bb k (by have:=(cv hr k e).1;omega) (cv hr k e).2⟩
 have aF:aA (∀(w1:az)(a1:Option bI)(c1:Nat),aC w1 (MB (G (bE w (ME #[U MC 0,U MC 0] 97)))) 97 2 (H a1 (L fl) c1) (L fl) (ev fl)->C (MB (G (bE w (ME #[U MC 0,U MC 0] 97)))) (bE w (ME #[U MC 0,U MC 0] 97)) w1->
  ∀j,C (MB (G (bE w1 (ME #[U MC kd,H a1 (L fl) c1] 220)))) (bE w1 (ME #[U MC kd,H a1 (L fl) c1] 220)) j->Calls O 238 #[aq ce,ak (1+(L fl:Int))] j fun e f=>e=MD (ak (s.room g cj b_ (1+(L fl:Int))).1)/\f.heap[MB (G w)]?=Z (ME #[ak 0,ak 0] 97 (0,0))/\f.heap[MB (G w1)]?=Z (ME #[ak kd,H a1 (L fl) c1] 220 (0,0))/\MB (G w)<MB (G w1)/\aA (aC f (MB (G w)+1) 97 2 (H a1 (L fl) c1) (L fl) (ev fl))/\
   aA (∃d,(cG ce cj b_ rb).J d (s.room g cj b_ (1+(L fl:Int))).2 f/\ch F w d f/\¬d (MB (G w))/\¬d (MB (G w1))/\∀k,Z k=(Value.slice a1 (L fl) c1).ownBlock->¬d k)):=fun w1 a1 c1 hr hb j u=>by
  have ck:=hb.size;have cl:=u.size;simp at ck cl hr;refine(ci.o j (((((aH _ w).alloc b8 _).trans (hb.mono ac)).alloc aa _).trans (u.mono (by simp;omega))) (MB (G w1)) a1 c1 ((u.block _ (by simp;omega)).trans ((aS _ _ _ aa).trans ((hb.block _ ac).trans (aP w _)))) ((u.block _ ac).trans (aP w1 _)) aa (cM hr (fun k e=>(u.block k (by have:=(cv hr k e).2;simp;omega)).trans (aS _ _ _ (cv hr k e).2)))).mono ?_;rintro e f ⟨rfl,B,N,cm,cn⟩
  exact⟨rfl,B,N,aa,cm,cn⟩
 have P:=JX (bE w (ME #[U MC 0,U MC 0] 97)) ad fl cap ⟨aB.lp.below (b9.alloc b8 _),aB.le,aB.nil⟩ aa;have bp:∀(k:Int)(a:Option bI)(n c:Nat),n<=12->∀w:az,_:=fun k a n c hn w=>vm k a n c aa w;have br:=hide bp;have bd:aA (s.b_ g cj b_ kd fl=if(s.room g cj b_ (1+(L fl:Int))).1=0 then((3,(L (s.room g cj b_ (1+(L fl:Int))).2.T:Int)),0,(s.room g cj b_ (1+(L fl:Int))).2.put kd fl) else((0,0),(s.room g cj b_ (1+(L fl:Int))).1,(s.room g cj b_ (1+(L fl:Int))).2)):=rfl;generalize s.b_ g cj b_ kd fl=R at*;generalize (s.room g cj b_ (1+(L fl:Int))).1=rc at*;generalize (s.room g cj b_ (1+(L fl:Int))).2=s2 at*;have cP:(1+(L fl:Int))<=13:=aa;have cQ:L s2.T<=10000:=aa;clear bp h hv bo aB f9 cf cg;by_cases bs:rc=0
 ·subst bs;have am:aA (R=((3,(L s2.T:Int)),0,s2.put kd fl)):=bd.o.trans (aJ rfl)
  clear bd;go_enter func206,ntmps206;go_wp2_with fail;refine P.mono ?_;clear P;rintro e w1 ⟨a1,c1,rfl,an,ao⟩
  have ap:aA (_):=aF.o w1 a1 c1 an ao;clear an ao aF;have P:=br.o kd a1 (L fl) c1 hl (bE w1 (ME #[U MC kd,H a1 (L fl) c1] 220))
  go_wp2_with fail;refine P.mono ?_;clear P;rintro e j ⟨rfl,u⟩
  have P:=ap.o j u;clear ap u;go_wp2_with fail;refine P.mono ?_;clear P;rintro e f ⟨rfl,B,N,co,ab,aR⟩
  have bt:aA (V f (av ce 3)=Z (ak (L s2.T))/\∀m,C (MB (G f)) f m->∃mb i,(V (bE m (ME #[U MC 3,U MC (L s2.T)] 97)) (av ce 2)=Z (.map (Z mb))/\V (bE m (ME #[U MC 3,U MC (L s2.T)] 97)) (av ce 3)=Z (ak (L s2.T))/\V (bE m (ME #[U MC 3,U MC (L s2.T)] 97)) (av (MB (G w1)) 0)=Z (ak kd)/\V (bE m (ME #[U MC 3,U MC (L s2.T)] 97)) (av (MB (G w1)) 1)=Z (H a1 (L fl) c1))/\
   (Instr.mapUpdate 184 (.map (Z mb)) (ak (L s2.T)) (bF #[ak kd,H a1 (L fl) c1])).run O (bE m (ME #[U MC 3,U MC (L s2.T)] 97)).drew=.ok () i/\
   (V i (av ce 2)=Z (.map (Z mb))/\V i (av ce 3)=Z (ak (L s2.T))/\V i (av (MB (G w1)) 0)=Z (ak kd)/\V i (av (MB (G w1)) 1)=Z (H a1 (L fl) c1)/\(∀o,i.frozen? (av ce o)=false))/\
   (V i (av (MB (G m)) 0)=Z (ak 3)/\V i (av (MB (G m)) 1)=Z (ak (L s2.T)))/\i.heap[MB (G w)]?=Z (ME #[ak 0,ak 0] 97 (0,0))/\(ce≠MB (G w)/\ce≠MB (G m)/\MB (G m)≠MB (G w))/\
   aA (∃d,(cG ce cj b_ rb).J d (s2.put kd fl) (ay (ay (ay i ⟨ce,3,Y⟩ (U MC (L s2.T+1))) ⟨MB (G w),0,Y⟩ (U MC 3)) ⟨MB (G w),1,Y⟩ (U MC (L s2.T)))/\ch F w d (ay (ay (ay i ⟨ce,3,Y⟩ (U MC (L s2.T+1))) ⟨MB (G w),0,Y⟩ (U MC 3)) ⟨MB (G w),1,Y⟩ (U MC (L s2.T))))):=by
   obtain⟨d,⟨l,gv,cq,aV⟩,tn,n1,cr,bx⟩:=aR.o;have c:=gv.cells;refine⟨c.2.2.2.1,fun m ar=>?_⟩
   have cs:=c.2.2.2.2.2.2.2.2;have cR:=tn.fr.size;have b0:=ar.size;have W:C (MB (G f)) f (bE m (ME #[U MC 3,U MC (L s2.T)] 97)):=ar.alloc b0 _;have ct:=gv.below W;have ca:=ct.cells;have cu:=(W.block (MB (G w1)) (lt_of_some N)).trans N;obtain⟨cw,cx,_,_⟩:=dt cu;obtain⟨i,be,hM,gr⟩:=(gv.below W.drew).g2.mp.put (t:=184) (e:=220) underlying184 (by have:=gv.g2.mn;omega) (x:=L s2.T) aa aa (bF #[ak kd,H a1 (L fl) c1])
   have a0:∀b,¬d b->l.own b=0:=fun b hb=>by
    cases e:l.own b
    ·rfl
    ·exact absurd ((aV b).2 (by rw[e];omega)) hb
   have bg:=a0 _ n1;have o1:=a0 _ cr;have b1:ce≠l.mb:=fun e=>by have p:=gv.bo;rw[e,gv.g2.dy] at p;omega
   have b2:MB (G w)≠l.mb:=fun e=>by rw[e,gv.g2.dy] at bg;omega
   have cy:MB (G w1)≠l.mb:=fun e=>by rw[e,gv.g2.dy] at o1;omega
   have bi:ce≠MB (G w):=fun e=>by have p:=gv.bo;rw[e,bg] at p;omega
   have lm:_:=gv.lt _ (by rw[gv.g2.dy];decide)
   have l0:=lt_of_some B;have l1:=lt_of_some N;have k5:∀b,b<MB (G m)+1->b≠l.mb->_=_:=fun b hb hn=>gr.block b (by simp;omega) (fun e=>hn (p4 e))
   have ag:∀b,b<MB (G f)->b≠l.mb->_=_:=fun b hb hn=>(k5 b aa hn).trans (W.block b hb)
   have a2:=(ag ce cs b1).trans gv.blk;have cz:=(k5 (MB (G m)) aa aa).trans (aP m _)
   obtain⟨b3,y1,_,_⟩:=dt cz;obtain⟨cA,t3,_,_⟩:=dt ((ag _ l1 cy).trans N)
   have b4:MB (G i)=MB (G (ay (ay (ay i ⟨ce,3,Y⟩ (U MC (L s2.T+1))) ⟨MB (G w),0,Y⟩ (U MC 3)) ⟨MB (G w),1,Y⟩ (U MC (L s2.T)))):=ac;have cB:_:=aU (aU b0 ac) gr.size;have a3:∀b,b≠ce->b≠MB (G w)->(ay (ay (ay i ⟨ce,3,Y⟩ (U MC (L s2.T+1))) ⟨MB (G w),0,Y⟩ (U MC 3)) ⟨MB (G w),1,Y⟩ (U MC (L s2.T))).heap[b]?=i.heap[b]?:=fun b p S=>(aX _ _ _ _ S).trans ((aX _ _ _ _ S).trans (aX _ _ _ _ p))
   refine⟨l.mb,i,⟨ca.2.2.1,ca.2.2.2.1,cw,cx⟩,be,⟨by simp[World.cell?,a2],by simp[World.cell?,a2],cA,t3,fun o=>by simp[World.frozen?,a2]⟩,⟨b3,y1⟩,(ag _ l0 b2).trans B,⟨bi,aa,aa⟩,?_⟩
   obtain⟨b5,cC,cD,cE⟩:=gv.new (kd:=kd) (fl:=fl) (a:=a1) (cp:=c1) (aU cB (Nat.le_of_eq b4)) (fun b h0 p S=>(a3 b (fun e=>p (by rw[e];exact gv.bo)) (fun e=>h0 (by rw[e];exact bg))).trans (ag b (gv.lt b h0) (fun e=>S (by rw[e];exact gv.g2.dy)))) (by
    rw[aX _ _ _ _ bi,aX _ _ _ _ bi];simp only [World.setCell,Array.getElem?_modify,if_true,a2,Option.map_some];rfl) (hM.same (a3 _ b1.symm b2.symm)) (cM (ff ab.o (fun k e=>a5 _)) (fun k e=>by
     have ok:=a0 k (bx k e)
     have hk:=cv ab.o k e;exact(a3 k (fun q=>by have p:=gv.bo;rw[<-q,ok] at p;omega) aa).trans (ag k hk.2 (fun q=>by have p:=gv.g2.dy;rw[<-q,ok] at p;omega)))) (fun k e=>a0 k (bx k e))
   refine⟨fun b=>b5.own b≠0,⟨b5,cC,cE.trans cq,fun _=>Iff.rfl⟩,⟨⟨?_,?_,?_,by rw[<-b4];omega,fun k hk hn=>?_⟩,fun b hb=>?_⟩⟩
   ·exact(show _=i.os from rfl).trans (gr.os.trans (W.os.trans tn.fr.os))
   ·exact(show _=i.tape from rfl).trans (gr.tape.trans (W.tape.trans tn.fr.tape))
   ·exact(show _=i.output from rfl).trans (gr.output.trans (W.output.trans tn.fr.output))
   ·have b6:∀b,d b->b<MB (G w)->F b:=fun b p S=>(tn.sub b p).resolve_right aa;exact(a3 k (fun e=>hn (b6 k ((aV k).2 (by rw[e,gv.bo];decide)) hk)) aa).trans ((ag k aa (fun e=>hn (b6 k ((aV k).2 (by rw[e,gv.g2.dy];decide)) hk))).trans (tn.fr.block k hk hn))
   ·rcases cD b hb with q|q
    ·exact tn.sub b ((aV b).2 q)
    ·exact aK (by have:=(cv ab.o b q).1;omega)
  clear ab aR B N;obtain⟨cF,a4⟩:=bt.o;have a4:aA (_):=a4;clear bt;have P:=oT (L s2.T) f;go_wp2_with fail;refine P.mono ?_;clear P;rintro e m ⟨rfl,ar⟩
  obtain⟨mb,i,⟨cH,cI,q0,q1⟩,be,⟨cJ,cS,v0,v1,cb⟩,⟨b3,y1⟩,bl,⟨cK,cT,cU⟩,cL⟩:=a4.o m ar;have cV:=cb 3;obtain⟨cN,ai,cO,lw⟩:=dt bl;have bn:aA (_=_):=bl;clear ar a4 bl cF cb;go_wp2_with fail
  go_region_held3 (fun w'=>V w' (av ce 2)=Z (.map (Z mb))/\V w' (av ce 3)=Z (ak (L s2.T))/\V w' (av (MB (G w1)) 0)=Z (ak kd)/\V w' (av (MB (G w1)) 1)=Z (H a1 (L fl) c1)) (go_keep) (fail)
  all_goals
   clear cH cI q0 q1 be cJ v0 v1;go_wp2_with fail;obtain⟨r0,r1,_,_⟩:=dt (g6 (v1:=ak 3) (v2:=ak (L s2.T)) ((aX i ⟨ce,3,Y⟩ (ak (L s2.T+1)) (MB (G w)) cK.symm).trans bn.o))
   obtain⟨d,al,tn⟩:=cL.o;exact a7 (v:=a6 #[bF #[ak 3,ak (L s2.T)],ak 0]) (by simp[results,results206,go_sem,r0,r1]) rfl ⟨d,by rw[am.o],by rw[am.o];exact al,tn⟩
 ·have am:=hide (bd.o.trans (aI bs))
  go_enter func206,ntmps206;go_wp2_with fail;refine P.mono ?_;clear P;rintro e w1 ⟨a1,c1,rfl,an,ao⟩
  have ap:aA (_):=aF.o w1 a1 c1 an ao;clear an ao aF;have P:=br.o kd a1 (L fl) c1 hl (bE w1 (ME #[U MC kd,H a1 (L fl) c1] 220))
  go_wp2_with fail;refine P.mono ?_;clear P;rintro e j ⟨rfl,u⟩
  have P:=ap.o j u;clear ap u;go_wp2_with fail;refine P.mono ?_;clear P;rintro e f ⟨rfl,B,N,co,ab,aR⟩
  obtain⟨cN,ai,cO,lw⟩:=dt B;have bn:aA (_=_):=B;clear B N ab;go_wp2_with fail;obtain⟨r0,r1,_,_⟩:=dt (g6 (v1:=ak 0) (v2:=ak 0) bn.o)
  obtain⟨d,al,tn,n1,_⟩:=aR.o;exact a7 (v:=a6 #[bF #[ak 0,ak 0],ak rc]) (by simp[results,results206,go_sem,r0,r1]) rfl ⟨d,by rw[am.o],by rw[am.o];exact(cG ce cj b_ rb).set2 al n1 _ _,tn.set2 b8 _ _⟩
end
theorem JZ {P:Program}(w:az)(c g ty b:bU)(d a:Option bI)(e j f k:Nat)(l:P.underlying c=Z (.slice b))(hs:(P.info? b).map (·.size)=Z 2)(hn:pg f e=0):
 (Builtin.copy_ #[c,g] ty #[.slice d e j,.slice a f k]).run P w=.ok (goInt 0) w:=by
 cases hq:P.info? b with
 |none=>simp[hq] at hs
 |some i=>
  have hl:∀(x:bI),(loadCells x 0).run P w=.ok #[] w:=fun x=>by simpa using run_loadCells_list (P:=P) w x [] ac
  cases d<;>cases a<;>simp[Builtin.copy_,run_underlying l,Builtin.lenOf,Builtin.firstCells,sizeOf,typeInfo,hq,hn,storeCells,hl]
theorem J0 {P:Program}(w:az)(e l ty d:bU)(g o f m:Nat)(a:bI)(k p:Nat)(c:Array bj)(t:bU)(b:List bj)(n:Nat)
 (q:P.underlying e=Z (.slice d))(hs:(P.info? d).map (·.size)=Z 2)
 (hg:w.heap[g]?=Z (ME c t (0,0)))(hm:n=pg k f)(hn:b.length=n*2)
 (s:∀j v,b[j]?=Z v->V w (a.add j)=Z v)(u:o+b.length<=c.size)(x:∀v∈b,v.oneCell'=D):
 (Builtin.copy_ #[e,l] ty #[.slice (Z ⟨g,o,Y⟩) f m,.slice (Z a) k p]).run P w=
   .ok (goInt n) (w.setRow g (c.toList.take o++b++c.toList.drop (o+b.length)).toArray):=by
 have hl:=run_loadCells_list (P:=P) w a b s;have B:=run_storeCells_at P g o t b 0 c w hg (by simpa using u) x;rw[hn] at hl;cases hq:P.info? d with
 |none=>simp[hq] at hs
 |some i=>
  have hi:i.size=2:=by simpa[hq] using hs
  simp[Builtin.copy_,run_underlying q,Builtin.lenOf,Builtin.firstCells,sizeOf,typeInfo,hq,hi,<-hm,hl,B]
theorem Bn {P:Program}{ops:Array Oper}{o:Oper}{a:Act}{w:az}{K:Act->az->Prop}{Q:Exit->Act->az->Prop}{E:Prop}(N:o.guard=Y)(x s:Operand)(c l d:bU)
 (ho:o.op=.call {callee:=.builtin .copy,args:=#[x,s],argTypes:=#[c,l]})(B:P.underlying c=Z (.slice d))(F:(P.info? d).map (·.size)=Z 2)
 (m sp:Option bI)(e p f q:Nat)(hd:a.eval x=.slice m e p)(hs:a.eval s=.slice sp f q)
 (g i:Nat)(k:List bj)(t:bU)(hg:w.heap[g]?=Z (ME k.toArray t (0,0)))(b:List bj)(n:Nat)(hm:n=pg f e)(hn:b.length=n*2)
 (S:0<n->m=Z ⟨g,i,Y⟩/\∃ad,sp=Z ad/\∀j v,b[j]?=Z v->V w (ad.add j)=Z v)
 (W:i+b.length<=k.length)(ab:∀v∈b,v.oneCell'=D)
 (h:∀w',lQ w w' g k i b->K (a.put o.dst (goInt n)) w'):
 if Region.wanted o (yielded ops a.tmps)=D then Oper.wp P o a w K Q else E:=by
 rw[aJ (show Region.wanted o (yielded ops a.tmps)=D by simp[Region.wanted,N])];rcases Nat.eq_zero_or_pos n with h0|h0
 ·subst h0;have ag:b=[]:=List.eq_nil_of_length_eq_zero aa;subst ag;have u:=JZ (P:=P) w c l o.type d m sp e p f q B F hm.symm;unfold Oper.wp;simp[execOp,ho,resolve,invoke,builtin,hd,hs,u,Result.andThen];exact h w (aM ⟨rfl,rfl⟩)
 ·obtain⟨ai,ad,al,am⟩:=S h0;subst ai al;have u:=J0 (P:=P) w c l o.type d g i e p ad f q k.toArray t b n B F hg hm hn am (by simpa using W) ab;unfold Oper.wp;simp[execOp,ho,resolve,invoke,builtin,hd,hs,u,Result.andThen];exact h _ (aK (by simp[nC]))
theorem J3 {P:Program}{ops:Array Oper}{q:List Oper}{o:Oper}{a:Act}{w:az}{Q:Exit->Act->az->Prop}(e:o.guard=Y)(f s:Operand)(i u k:bU)
 (ho:o.op=.call {callee:=.builtin .copy,args:=#[f,s],argTypes:=#[i,u]})(F:P.underlying i=Z (.slice k))(N:(P.info? k).map (·.size)=Z 2)
 (l sp:Option bI)(m x p B:Nat)(hd:a.eval f=.slice l m x)(hs:a.eval s=.slice sp p B)
 (g c:Nat)(d:List bj)(t:bU)(hg:w.heap[g]?=Z (ME d.toArray t (0,0)))(b:List bj)(n:Nat)(hm:n=pg p m)(hn:b.length=n*2)
 (S:0<n->l=Z ⟨g,c,Y⟩/\∃ad,sp=Z ad/\∀j v,b[j]?=Z v->V w (ad.add j)=Z v)
 (W:c+b.length<=d.length)(ab:∀v∈b,v.oneCell'=D)
 (h:∀w',lQ w w' g d c b->wpList P ops Q q (a.put o.dst (goInt n)) w'):wpList P ops Q (o::q) a w:=
 wpList_plain e fun K ag=>by
  have:=Bn (P:=P) (ops:=#[]) (o:=o) (a:=a) (w:=w) (K:=K) (Q:=Q) (E:=False) e f s i u k ho F N l sp m x p B hd hs g c d t hg b n hm hn S W ab (fun w' hw=>ag _ _ (h w' hw))
  rwa [aJ (show Region.wanted o (yielded #[] a.tmps)=D by simp[Region.wanted,e])] at this
theorem J4 (c:Nat)(hc:c<=12)(w:az):J O 223 #[U r4 1,U r4 c] w fun e w'=>e=MD (a6 #[U r4 0,U r4 c])/\w'=w:=by exact Ak
theorem J5 (c:Nat)(hc:c<=12)(w:az):J O 167 #[U r4 1,U r4 c] w fun e w'=>e=MD (a6 #[U r4 0,U r4 c])/\w'=w:=by have P:=J4 c hc w;exact Al
def gW (c:Nat)(v:Int×Int)(n:Nat):List (Int×Int):=MQ n v++MQ (c-n) (0,0)
theorem Bo (c:Nat)(v:Int×Int)(n:Nat)(h:n<=c):L (gW c v n)=c:=by simp[gW];omega
theorem lA (n:Nat)(v:Int×Int):L (ev (MQ n v))=n*2:=by rw[kZ,hW]
theorem J6 (c:Nat)(v:Int×Int)(n m:Nat)(h:n+m<=c):nC (ev (gW c v n)) (n*2) (ev (MQ m v))=ev (gW c v (n+m)):=by
 unfold nC gW;have b:(MQ (c-n) ((0:Int),(0:Int)))=MQ m (0,0)++MQ (c-(n+m)) (0,0):=by
  rw[pq]
  congr 1
  omega
 have d:List.drop (n*2+m*2) (ev (MQ n v)++(ev (MQ m ((0:Int),(0:Int)))++ev (MQ (c-(n+m)) (0,0))))=ev (MQ (c-(n+m)) (0,0)):=by rw[<-bA];exact List.drop_left' (by rw[a8,lA,lA])
 rw[jg,List.take_left' (lA n v),lA,b,jg,d,<-pq,jg,jg,bA]
theorem J7 (c:Nat)(v:Int×Int)(n m:Nat)(hm:m<=n):∃r,ev (gW c v n)=ev (MQ m v)++r:=by
 refine⟨ev (MQ (n-m) v)++ev (MQ (c-n) (0,0)),?_⟩
 unfold gW;rw[<-bA,<-jg,pq,<-jg]
 congr 3
 omega
theorem J8 {c:Nat}{w:az}{nb n:Nat}{v:Int×Int}(hr:w.heap[nb]?=Z (ME (ev (gW c v n)).toArray 97 (0,0)))(m:Nat)(hm:m<=n):∀j u,(ev (MQ m v))[j]?=Z u->V w ((⟨nb,0,Y⟩:bI).add j)=Z u:=by
 intro j u b;obtain⟨r,e⟩:=J7 c v n m hm;have d:=(rT.1 b).1;rw[Addr.add_lit];have:(ev (gW c v n))[j]?=Z u:=by rw[e,List.getElem?_append_left d];exact b
 rw[bZ];simp[World.cell?,hr,this]
theorem Bp {c:Nat}{w w':az}{nb n m B:Nat}{v:Int×Int}(b:lQ w w' nb (ev (gW c v n)) (n*2) (ev (MQ m v)))(hr:w.heap[nb]?=Z (ME (ev (gW c v n)).toArray 97 (0,0)))(h:n+m<=c)(hB:B<=nb):w'.heap[nb]?=Z (ME (ev (gW c v (n+m))).toArray 97 (0,0))/\C B w w':=by
 rcases b with⟨h0,rfl⟩|rfl
 ·have:=congrArg L h0;rw[lA] at this
  simp only [List.length_nil] at this
  obtain rfl:m=0:=aa;exact⟨hr,aH _ _⟩
 ·rw[J6 c v n m h];exact⟨setRow_heap w nb _ _ _ _ hr,⟨rfl,rfl,rfl,by simp[World.setRow],fun k hk=>setRow_other w nb k _ aa⟩⟩
theorem Bq:(prog.info? 97).map (·.size)=Z 2:=ah
theorem J9 {w:az}{b k n:Nat}(hn:n<=12)(h:aC w b 97 2 (H (au k) n n) n (madeCells (Value.agg #[ak 0,ak 0]).cells (n*2)).toList):
 w.heap[k]?=Z (ME (ev (MQ n (0,0))).toArray 97 (0,0)):=by
 obtain⟨j,d⟩:=h;rcases d with⟨e,_⟩|⟨m,cap,c,hv,hb,f,o,p,q,g⟩
 ·cases e
 ·cases hv;rw[f];have:c.toList=ev (MQ n (0,0)):=by rw[<-List.take_of_length_le (l:=c.toList) (i:=n*2) (by simp;omega),g];rcases(show n=0\/n=1\/n=2\/n=3\/n=4\/n=5\/n=6\/n=7\/n=8\/n=9\/n=10\/n=11\/n=12 by omega) with rfl|rfl|rfl|rfl|rfl|rfl|rfl|rfl|rfl|rfl|rfl|rfl|rfl<;>kernel_rfl
  rw[<-this]
theorem J_ {w:az}{b:Nat}{v:Int×Int}{m:Nat}(hm:m<=1)(h0:V w (av b 0)=Z (ak v.1))(d:V w (av b 1)=Z (ak v.2)):∀j u,(ev (MQ m v))[j]?=Z u->V w ((⟨b,0,Y⟩:bI).add j)=Z u:=by
 intro j u c;have e:=(rT.1 c).1;rw[lA] at e;obtain rfl:m=1:=aa
 match j,c with
 |0,c=>simp[ev] at c;rw[<-c];simpa[Addr.add] using h0
 |1,c=>simp[ev] at c;rw[<-c];simpa[Addr.add] using d
 |j+2,_=>omega
theorem Br (w:az)(b c:Nat)(v:Int×Int)(F:c<=12)(N:V w (av b 0)=Z (ak v.1))(aF:V w (av b 1)=Z (ak v.2)):
 J O 131 #[H (au b) 1 1,ak c] w fun e w'=>∃nb,e=MD (H (au nb) c c)/\MB (G w)<=nb/\w'.heap[nb]?=Z (ME (ev (MQ c v)).toArray 97 (0,0))/\C (MB (G w)) w w':=by
 obtain⟨S,hi,aR,aV,a0⟩:=info_parts r_;have lb:=aT w _ N;dsimp only at lb;have W:=J5 c F w;have a1:aA (gW c v c=MQ c v):=by show _=_;simp[gW]
 have c1:(c:Int)<=12:=aa;go_enter func131,ntmps131;go_wp2_with fail;refine W.mono ?_;clear W;rintro e w0 ⟨rfl,hw⟩
 have hw:=hw.symm;subst hw
 go_upto_region 7 with(at_make;refine wpList_make_full _ rfl _ _ 57 rfl (MB (G w)) 97 S (bF #[ak 0,ak 0]) 2 underlying57 hi aR aV MC MC _ _ c rfl rfl aa aa (by rw[a0];omega) (by unfold maxLen;omega) b8 ?_;intro w1 ab ad)
 have hr:w1.heap[MB (G w)]?=Z (ME (ev (gW c v 0)).toArray 97 (0,0)):=by have a2:=J9 F ab;simpa[gW] using a2
 have i:C (MB (G w)) w w1:=(aH _ w).grown ad b8 (fun _ h=>by cases h)
 have ag:=(i.cell (p:=av b 0) lb).trans N;have ai:=(i.cell (p:=av b 1) lb).trans aF;clear ab ad;have o:pg 1 c<=1:=Nat.min_le_left _ _;have d:pg 1 c<=c:=Nat.min_le_right _ _;have k:0<c->1<=pg 1 c:=fun h=>by simp only [tQ];split<;>omega
 have f:aA (∀j u,(ev (MQ (pg 1 c) v))[j]?=Z u->V w1 ((⟨b,0,Y⟩:bI).add j)=Z u):=J_ o ag ai;have q:aA (w1.heap[MB (G w)]?=Z (ME (ev (gW c v 0)).toArray 97 (0,0))):=hr;have g:aA (0*2+L (ev (MQ (pg 1 c) v))<=L (ev (gW c v 0))):=by show _<=_;rw[lA,kZ,Bo c v 0 aa];omega
 clear ag ai hr;go_wp2_with (refine J3 rfl _ _ 57 57 97 rfl underlying57 Bq (au (MB (G w))) (au b) c c 1 1 rfl rfl (MB (G w)) (0*2) (ev (gW c v 0)) 97 q.o (ev (MQ (pg 1 c) v)) (pg 1 c) rfl (lA _ _) (fun _=>⟨rfl,_,rfl,f.o⟩) g.o (oe _) ?_;intro be al)
 obtain⟨s,am⟩:=Bp (B:=MB (G w)) al q.o aa b8
 rw[bZ] at s;have an:=i.trans am;have t:aA (pg 1 c<=c/\(0<c->1<=pg 1 c)):=⟨d,k⟩
 clear al f q g i am o d k;generalize pg 1 c=a3 at*
 go_loopw [8] (fun nv wr=>∃n:Nat,(0<c->1<=n)/\n<=c/\nv=ak n/\aA (wr.heap[MB (G w)]?=Z (ME (ev (gW c v n)).toArray 97 (0,0)))/\C (MB (G w)) w wr) (fun nv _=>c-M (intOf nv))
 case atStart=>exact⟨a3,t.o.2,t.o.1,rfl,s,an⟩
 case round=>
  clear s an t;obtain⟨n,n1,a4,rfl,x,hb⟩:=hrel;by_cases bg:n<c
  ·have n1:=n1 aa;obtain⟨m,hm,o,d,k⟩:∃m,m=pg n (c-n)/\0<m/\n+m<=c/\m<=n:=⟨_,rfl,by simp only [tQ];split<;>omega,by simp only [tQ];split<;>omega,by simp only [tQ];split<;>omega⟩
   have l:aA (wr.drew.heap[MB (G w)]?=Z (ME (ev (gW c v n)).toArray 97 (0,0))):=x.o;have f:aA (∀j u,(ev (MQ m v))[j]?=Z u->V wr.drew ((⟨MB (G w),0,Y⟩:bI).add j)=Z u):=J8 l.o m k;have g:aA (n*2+L (ev (MQ m v))<=L (ev (gW c v n))):=by show _<=_;rw[lA,kZ,Bo c v n a4];omega
   have bi:¬c=n:=aa;have S:(0:Int)<=(n:Int):=aa;have bl:(n:Int)<=(c:Int):=aa;have bn:(n:Int)<(c:Int):=aa;clear x;go_wp2_with fail
   go_region_law (refine Bn rfl (.tmp 41) (.tmp 44) 57 57 97 rfl underlying57 Bq (Z ⟨MB (G w),n*2,Y⟩) (au (MB (G w))) (c-n) (c-n) n c ?_ ?_ (MB (G w)) (n*2) (ev (gW c v n)) 97 l.o (ev (MQ m v)) m hm (lA _ _) (fun _=>⟨rfl,_,rfl,f.o⟩) g.o (oe _) ?_;(simp[Act.eval,Act.put]);(simp[Act.eval,Act.put]);intro ba ao)
   obtain⟨ap,ar⟩:=Bp (B:=MB (G w)) ao l.o d b8
   have bb:aA (ba.heap[MB (G w)]?=Z (ME (ev (gW c v (n+m))).toArray 97 (0,0))):=ap;have bd:=hb.drew.trans ar;have hw:IntKind.i64.wrap ((n:Int)+(m:Int))=((n+m:Nat):Int):=by rw[bw];omega
   clear ap ar ao l f g hb;simp[Act.put,go_sem,Exit.inBlock];rw[<-hm,hw];refine⟨⟨_,_,_,_,_,_,_,_,_,_,_,_,_,_,?rel,rfl⟩,?measure⟩
   case rel=>exact⟨n+m,fun _=>aa,d,rfl,bb,bd⟩
   case measure=>simp[intOf];omega
  ·obtain rfl:n=c:=aa;have aB:=x.o;rw[a1.o] at aB;go_wp2_with fail;go_ret;exact⟨MB (G w),rfl,aG _,aB,hb⟩
section
variable {ce rb:Nat}{cj b_:Int}{F:Nat->Prop}{s:cn}{w:az}{g:eg}
theorem Ka (g:List Bool->List Bool)(s:cn)(b_:Int)(mj:Bool):(s.cut g b_ mj).rs=s.rs:=by unfold cn.cut;split<;>rfl
theorem Bt (g:eg)(cj b_:Int)(s:cn)(m:Int):(s.room g cj b_ m).2.rs=s.rs:=by
 unfold cn.room;split
 ·rfl
 ·exact Ka _ _ _ _
theorem vy (g:eg)(cj b_:Int)(s:cn)(kd:Int)(fl:List _):(s.b_ g cj b_ kd fl).2.2.rs=s.rs:=by
 unfold cn.b_;split
 ·exact Bt _ _ _ _ _
 ·exact Bt _ _ _ _ _
theorem Kb (s:cn)(v:Int×Int):(s.pop v).2.2.rs=s.rs:=by
 unfold cn.pop;split
 ·split<;>rfl
 ·rfl
theorem kw (h:(cG ce cj b_ rb).J F s w):V w (av ce 6)=Z (H (au rb) 12 12)/\(∀i,i<12->V w (av rb (i*2))=Z (ak (X s.rs i (0,0)).1)/\V w (av rb (i*2+1))=Z (ak (X s.rs i (0,0)).2))/\F ce/\F rb:=by obtain⟨l,h,rfl,b⟩:=h;have c:=h.g4.cells.2.2;exact⟨h.cells.2.2.2.2.2.2.1,fun i hi=>⟨(c i hi).1,(c i hi).2.1⟩,(b _).2 (by rw[h.bo];decide),(b _).2 (by rw[h.g4.ro];decide)⟩
theorem fG {w:az}{b c o:Nat}{x v0 v1:bj}(hn:b≠c)(h:V w (av b o)=Z x):V (ay (ay w ⟨c,0,Y⟩ v0) ⟨c,1,Y⟩ v1) (av b o)=Z x:=by exact Bm
theorem vz (h:(cG ce cj b_ rb).J F s w)(hv:fD s)(N:dz s.T s.wt (g s.T s.wt))(g0:-1000000<=b_)(g1:b_<=1000000)(aF:-1000000<=cj)(m1:cj<=1000000)(R I n:Int){k kd:Int}(hk:k=4/\kd=1\/k=6/\kd=3\/k=7/\kd=4)(A B:Nat)(o:A<12)(hB:B<12):
 Calls O 136 #[aq ce,d_ k R A B I n] w fun e w'=>∃d,e=MD (a6 #[bF #[ak (s.b_ g cj b_ kd [X s.rs A (0,0),X s.rs B (0,0)]).1.1,ak (s.b_ g cj b_ kd [X s.rs A (0,0),X s.rs B (0,0)]).1.2],ak (s.b_ g cj b_ kd [X s.rs A (0,0),X s.rs B (0,0)]).2.1])/\(cG ce cj b_ rb).J d (s.b_ g cj b_ kd [X s.rs A (0,0),X s.rs B (0,0)]).2.2 w'/\ch F w d w':=by
 have f9:∀b,F b->b<MB (G w):=fun b hb=>(cG ce cj b_ rb).lt h b hb;have p:C (MB (G w)) w (bE (w.alloc (cH k R A B I n)) (ME #[U MC 0,U MC 0] 97)):=(b9.alloc b8 _).alloc ac _;have q:(bE (w.alloc (cH k R A B I n)) (ME #[U MC 0,U MC 0] 97)).heap[MB (G w)]?=Z (cH k R A B I n):=(aS _ _ _ ac).trans (aP w _)
 have S:=hZ w (cH k R A B I n) (ME #[U MC 0,U MC 0] 97)
 obtain⟨aR,rt,W,ab⟩:=kw ((cG ce cj b_ rb).below h p)
 obtain⟨aV,a2⟩:=rt A o;obtain⟨a3,a4⟩:=rt B hB;obtain⟨q0,q1,ba,q3,bb,bd⟩:=es q;have bt:=f9 _ W;have bx:=f9 _ ab;have ag:MB (G (bE (w.alloc (cH k R A B I n)) (ME #[U MC 0,U MC 0] 97)))=MB (G w)+1+1:=ac;have t:Calls O 206 #[aq ce,ak kd,H (au (MB (G w)+1+1)) 2 2] (bE (bE (w.alloc (cH k R A B I n)) (ME #[U MC 0,U MC 0] 97)).drew (ME #[U MC (X s.rs A (0,0)).1,U MC (X s.rs A (0,0)).2,U MC (X s.rs B (0,0)).1,U MC (X s.rs B (0,0)).2] 97)) fun e c=>∃d,e=MD (a6 #[bF #[ak (s.b_ g cj b_ kd [X s.rs A (0,0),X s.rs B (0,0)]).1.1,ak (s.b_ g cj b_ kd [X s.rs A (0,0),X s.rs B (0,0)]).1.2],ak (s.b_ g cj b_ kd [X s.rs A (0,0),X s.rs B (0,0)]).2.1])/\
  (V c (av ce 6)=Z (H (au rb) 12 12)/\V c (av rb (A*2))=Z (ak (X s.rs A (0,0)).1)/\V c (av rb (A*2+1))=Z (ak (X s.rs A (0,0)).2)/\V c (av rb (B*2))=Z (ak (X s.rs B (0,0)).1)/\V c (av rb (B*2+1))=Z (ak (X s.rs B (0,0)).2)/\V c (av (MB (G w)) 2)=Z (ak A)/\V c (av (MB (G w)) 3)=Z (ak B))/\
  c.heap[MB (G w)+1]?=Z (ME #[ak 0,ak 0] 97 (0,0))/\aA ((cG ce cj b_ rb).J d (s.b_ g cj b_ kd [X s.rs A (0,0),X s.rs B (0,0)]).2.2 c/\ch F w d c/\¬d (MB (G w)+1)):=by
  have b1:C (MB (G w)) w (bE (bE (w.alloc (cH k R A B I n)) (ME #[U MC 0,U MC 0] 97)).drew (ME #[U MC (X s.rs A (0,0)).1,U MC (X s.rs A (0,0)).2,U MC (X s.rs B (0,0)).1,U MC (X s.rs B (0,0)).2] 97)):=p.drew.alloc (by simp;omega) _;have u:MB (G (bE (bE (w.alloc (cH k R A B I n)) (ME #[U MC 0,U MC 0] 97)).drew (ME #[U MC (X s.rs A (0,0)).1,U MC (X s.rs A (0,0)).2,U MC (X s.rs B (0,0)).1,U MC (X s.rs B (0,0)).2] 97)))=MB (G w)+1+1+1:=ac;have hn:=aP (bE (w.alloc (cH k R A B I n)) (ME #[U MC 0,U MC 0] 97)).drew (ME #[U MC (X s.rs A (0,0)).1,U MC (X s.rs A (0,0)).2,U MC (X s.rs B (0,0)).1,U MC (X s.rs B (0,0)).2] 97)
  have ai:MB (G (bE (w.alloc (cH k R A B I n)) (ME #[U MC 0,U MC 0] 97)).drew)=MB (G w)+1+1:=ag;rw[ai] at hn;refine(vx (g:=g) (kd:=kd) (fl:=[X s.rs A (0,0),X s.rs B (0,0)]) (ad:=au (MB (G w)+1+1)) (cap:=2) ((cG ce cj b_ rb).below h b1) hv N g0 g1 aF m1 ac ⟨fun _=>⟨MB (G w)+1+1,0,rfl,by rw[u];omega,fun i hi=>?_⟩,ac,fun e=>by cases e⟩).mono ?_
  ·have hi:i<2:=hi;rcases(show i=0\/i=1 by omega) with rfl|rfl<;>simp only [World.cell?,hn]<;>exact⟨rfl,rfl⟩
  ·rintro e c ⟨d,rfl,al,tn⟩
   obtain⟨l,j,_,_⟩:=kw al;rw[vy] at j;have kp:∀b,MB (G w)<=b->b<MB (G w)+1+1->c.heap[b]?=(bE (w.alloc (cH k R A B I n)) (ME #[U MC 0,U MC 0] 97)).heap[b]?:=fun b b0 b2=>(tn.fr.block b (by rw[u];omega) (fun f=>by have:=f9 b f;omega)).trans (aS (bE (w.alloc (cH k R A B I n)) (ME #[U MC 0,U MC 0] 97)).drew _ b (by rw[ai];omega))
   have be:=(kp _ b8 aa).trans q;obtain⟨_,_,bg,bi,_,_⟩:=es be;refine⟨d,rfl,⟨l,(j A o).1,(j A o).2,(j B hB).1,(j B hB).2,bg,bi⟩,(kp _ aa aa).trans S,al,(ch.of b1).trans tn,fun f=>?_⟩
   rcases tn.sub _ f with f|f
   ·have:=f9 _ f;omega
   ·rw[u] at f;omega
 generalize s.b_ g cj b_ kd [X s.rs A (0,0),X s.rs B (0,0)]=gr at*;obtain⟨⟨v0,v1⟩,cd,b3⟩:=gr;dsimp only at t⊢;generalize (X s.rs A (0,0)).1=a0 at*;generalize (X s.rs A (0,0)).2=a1 at*;generalize (X s.rs B (0,0)).1=bl at*;generalize (X s.rs B (0,0)).2=bn at*;have b4:(0:Int)<=(A:Int):=aa;have b5:(A:Int)<12:=aa;have b6:(0:Int)<=(B:Int):=aa;have ca:(B:Int)<12:=aa;have bo:ce≠MB (G w)+1:=aa;have m:rb≠MB (G w)+1:=aa;have nx:MB (G w)≠MB (G w)+1:=aa;clear h hv N p q S rt f9 W ab q0 q1 bb bd ag;rcases hk with⟨rfl,rfl⟩|⟨rfl,rfl⟩|⟨rfl,rfl⟩
 all_goals
  go_enter func136,ntmps136;go_wp2_with fail
  go_region_held3 (fun w'=>V w' (av ce 6)=Z (H (au rb) 12 12)/\V w' (av rb (A*2))=Z (ak a0)/\V w' (av rb (A*2+1))=Z (ak a1)/\V w' (av rb (B*2))=Z (ak bl)/\V w' (av rb (B*2+1))=Z (ak bn)/\V w' (av (MB (G w)) 2)=Z (ak A)/\V w' (av (MB (G w)) 3)=Z (ak B)) (first|exact⟨fG bo am,fG m an,fG m ao,fG m ap,fG m ar,fG nx l,fG nx aB⟩|(go_keep;done))
   (first|(go_at_call 206;refine t.mono ?_;clear t;rintro e c ⟨d,rfl,⟨am,an,ao,ap,ar,l,aB⟩,y1,x⟩;obtain⟨r0,r1,cb,lw⟩:=dt y1;have bp:aA (_=_):=y1;clear y1 aR aV a2 a3 a4 ba q3))
  all_goals
   clear am an ao ap ar l aB ‹_/\_›;go_wp2_with fail;obtain⟨br,bs,_,_⟩:=dt (g6 (v1:=ak v0) (v2:=ak v1) bp.o)
   exact a7 (v:=a6 #[bF #[ak v0,ak v1],ak cd]) (by simp[results,results136,go_sem,br,bs]) rfl ⟨d,rfl,dA.set2 _ x.o.1 x.o.2.2 _ _,x.o.2.1.set2 (mq _) _ _⟩
end
section
variable {ce rb:Nat}{cj b_:Int}{F F':Nat->Prop}{s S2:cn}{w W1 w2:az}{k R A B I n:Int}
abbrev hG (w:az)(k R A B I n:Int):az:=bE (w.alloc (cH k R A B I n)) (ME #[U MC 0,U MC 0] 97)
theorem l9 (h:(cG ce cj b_ rb).J F s w)(k R A B I n:Int):C (MB (G w)) w (hG w k R A B I n)/\(hG w k R A B I n).heap[MB (G w)]?=Z (cH k R A B I n)/\(hG w k R A B I n).heap[MB (G w)+1]?=Z (ME #[ak 0,ak 0] 97 (0,0))/\V (hG w k R A B I n) (av ce 6)=Z (H (au rb) 12 12)/\
 (∀i,i<12->V (hG w k R A B I n) (av rb (i*2))=Z (ak (X s.rs i (0,0)).1)/\V (hG w k R A B I n) (av rb (i*2+1))=Z (ak (X s.rs i (0,0)).2))/\ce≠MB (G w)+1/\rb≠MB (G w)+1:=by
 have b:C (MB (G w)) w (hG w k R A B I n):=(b9.alloc b8 _).alloc ac _;obtain⟨c,rt,d,e⟩:=kw ((cG ce cj b_ rb).below h b)
 have l1:=(cG ce cj b_ rb).lt h _ d;have l2:=(cG ce cj b_ rb).lt h _ e;exact⟨b,(aS _ _ _ ac).trans (aP w _),hZ w _ _,c,rt,aa,aa⟩
theorem oW (h:(cG ce cj b_ rb).J F s w)(b1:C (MB (G w)) w W1)(e:W1.heap[MB (G w)]?=Z (cH k R A B I n))(d:W1.heap[MB (G w)+1]?=Z (ME #[ak 0,ak 0] 97 (0,0)))(f:(cG ce cj b_ rb).J F' S2 w2)(tn:ch F W1 F' w2)(g:S2.rs=s.rs):
 (V w2 (av ce 6)=Z (H (au rb) 12 12)/\(∀i,i<12->V w2 (av rb (i*2))=Z (ak (X s.rs i (0,0)).1)/\V w2 (av rb (i*2+1))=Z (ak (X s.rs i (0,0)).2))/\w2.heap[MB (G w)]?=Z (cH k R A B I n))/\
 w2.heap[MB (G w)+1]?=Z (ME #[ak 0,ak 0] 97 (0,0))/\aA ((cG ce cj b_ rb).J F' S2 w2/\ch F w F' w2/\¬F' (MB (G w)+1)):=by
 have f9:∀b,F b->_:=fun b hb=>(cG ce cj b_ rb).lt h b hb;obtain⟨j,rt,_,_⟩:=kw f;rw[g] at rt;have kp:∀b,MB (G w)<=b->b<MB (G W1)->_=_:=fun b m l=>tn.fr.block b l (fun c=>by have:=f9 b c;omega)
 refine⟨⟨j,rt,(kp _ b8 (lt_of_some e)).trans e⟩,(kp _ (mq _) (lt_of_some d)).trans d,f,(ch.of b1).trans tn,fun c=>?_⟩
 have l1:=lt_of_some d;rcases tn.sub _ c with c|c
 ·have:=f9 _ c;omega
 ·omega
theorem vA (hv:fD s)(hl:L s.rs=12){A:Nat}(b:A<12):(X s.rs A (0,0)).1=3->0<=(X s.rs A (0,0)).2/\cA s.T (M (X s.rs A (0,0)).2):=hv.rv _ (getD_in aa)
theorem vB (h:(cG ce cj b_ rb).J F s w):L s.rs=12:=by obtain⟨l,h,_⟩:=h;exact h.g4.rl
def cn.gt (s:cn)(v:Int×Int)(I:Int):(Int×Int)×Int×cn:=((if s.fc v I=0 then X (X s.T (M v.2) t0).2.1 (M I) (0,0) else(0,0)),s.fc v I,s)
def cn.ln (s:cn)(v:Int×Int):(Int×Int)×Int×cn:=if jq s.T v=D then((1,(L (X s.T (M v.2) t0).2.1:Int)),0,s) else((0,0),2,s)
theorem Kc (s:cn)(v:Int×Int)(I:Int):(s.gt v I).2.2=s:=rfl
theorem Kd (s:cn)(v:Int×Int):(s.ln v).2.2=s:=by unfold cn.ln;split<;>rfl
theorem Ke (h:(cG ce cj b_ rb).J F s w)(v:Int×Int)(i:Int)(hv:v.1=3->0<=v.2/\cA s.T (M v.2))(g:L s.T<=10000):
 Calls O 201 #[aq ce,bF #[ak v.1,ak v.2],ak i] w fun e w'=>∃F',e=MD (a6 #[bF #[ak (s.gt v i).1.1,ak (s.gt v i).1.2],ak (s.gt v i).2.1])/\(cG ce cj b_ rb).J F' (s.gt v i).2.2 w'/\ch F w F' w':=by
 have p:=h;obtain⟨l,h,_,_⟩:=h;have j:∀(a b c:Int),(s.gt v i).1=(a,b)->(s.gt v i).2.1=c->∀(e:Ending)(w':az),(e=MD (a6 #[bF #[ak a,ak b],ak c])/\C (MB (G w)) w w')->∃F',e=MD (a6 #[bF #[ak (s.gt v i).1.1,ak (s.gt v i).1.2],ak (s.gt v i).2.1])/\(cG ce cj b_ rb).J F' (s.gt v i).2.2 w'/\ch F w F' w':=by
  rintro a b c q t e w' ⟨rfl,hb⟩
  rw[q,t,Kc];exact⟨F,rfl,(cG ce cj b_ rb).below p hb,ch.of hb⟩
 by_cases k:v.1=3/\(X s.T (M v.2) t0).1≠5
 ·obtain⟨f,n⟩:=k;have hd:=jh.2 ⟨f,n⟩
  have o:=hv f;by_cases hi:i<0\/(L (X s.T (M v.2) t0).2.1:Int)<=i
  ·have d:s.fc v i=1:=by unfold cn.fc;rw[aJ hd,aJ hi]
   rw[f];exact(AV h v.2 i o g n hi).mono (j 0 0 1 (by unfold cn.gt;rw[d];rfl) d)
  ·have d:s.fc v i=0:=by unfold cn.fc;rw[aJ hd,aI hi]
   obtain⟨m,rfl⟩:=bG (a:=i) aa;rw[f];exact(AW h v.2 m o g n aa).mono (j _ _ 0 (by unfold cn.gt;rw[d];rfl) d)
 ·have d:s.fc v i=2:=by unfold cn.fc;rw[aI (fun c=>k (jh.1 c))]
  exact(AU h v i hv g (fun f=>lT (fun c=>k ⟨f,c⟩))).mono (j 0 0 2 (by unfold cn.gt;rw[d];rfl) d)
theorem Kh (h:(cG ce cj b_ rb).J F s w)(v:Int×Int)(hv:v.1=3->0<=v.2/\cA s.T (M v.2))(f:L s.T<=10000):
 Calls O 208 #[aq ce,bF #[ak v.1,ak v.2]] w fun e w'=>∃F',e=MD (a6 #[bF #[ak (s.ln v).1.1,ak (s.ln v).1.2],ak (s.ln v).2.1])/\(cG ce cj b_ rb).J F' (s.ln v).2.2 w'/\ch F w F' w':=by
 have g:=h;obtain⟨l,h,_,_⟩:=h;by_cases d:v.1=3/\(X s.T (M v.2) t0).1≠5
 ·obtain⟨b,i⟩:=d;have e:s.ln v=((1,(L (X s.T (M v.2) t0).2.1:Int)),0,s):=aJ (jh.2 ⟨b,i⟩)
  rw[e,b];refine(IQ h v.2 (hv b) f i).mono ?_;rintro e w' ⟨rfl,hb⟩
  exact⟨F,rfl,(cG ce cj b_ rb).below g hb,ch.of hb⟩
 ·have e:s.ln v=((0,0),2,s):=aI (fun c=>d (jh.1 c))
  rw[e];refine(IP h v hv f (fun b=>lT (fun c=>d ⟨b,c⟩))).mono ?_;rintro e w' ⟨rfl,hb⟩
  exact⟨F,rfl,(cG ce cj b_ rb).below g hb,ch.of hb⟩
end
section
variable {ce rb:Nat}{cj b_:Int}{F:Nat->Prop}{s:cn}{w:az}
theorem Ki (h:(cG ce cj b_ rb).J F s w)(hv:fD s)(R B I n:Int)(A:Nat)(f:A<12):
 Calls O 136 #[aq ce,d_ 10 R A B I n] w fun e w'=>∃b,e=MD (a6 #[bF #[ak (s.pop (X s.rs A (0,0))).1.1,ak (s.pop (X s.rs A (0,0))).1.2],ak (s.pop (X s.rs A (0,0))).2.1])/\(cG ce cj b_ rb).J b (s.pop (X s.rs A (0,0))).2.2 w'/\ch F w b w':=by
 obtain⟨i,g,j,t,rt,u,k⟩:=l9 h 10 R A B I n;have hd:=i.drew;have P:=Jm ((cG ce cj b_ rb).below h hd) (X s.rs A (0,0)) (vA hv (vB h) f) hv.tl (aU hv.wl ae)
 have x:Calls O 207 #[aq ce,bF #[ak (X s.rs A (0,0)).1,ak (X s.rs A (0,0)).2]] (hG w 10 R A B I n).drew fun e c=>∃b,e=MD (a6 #[bF #[ak (s.pop (X s.rs A (0,0))).1.1,ak (s.pop (X s.rs A (0,0))).1.2],ak (s.pop (X s.rs A (0,0))).2.1])/\
  (V c (av ce 6)=Z (H (au rb) 12 12)/\V c (av rb (A*2))=Z (ak (X s.rs A (0,0)).1)/\V c (av rb (A*2+1))=Z (ak (X s.rs A (0,0)).2)/\V c (av (MB (G w)) 2)=Z (ak A))/\
  c.heap[MB (G w)+1]?=Z (ME #[ak 0,ak 0] 97 (0,0))/\aA ((cG ce cj b_ rb).J b (s.pop (X s.rs A (0,0))).2.2 c/\ch F w b c/\¬b (MB (G w)+1)):=by
  refine P.mono ?_;rintro e c ⟨b,rfl,N,tn⟩
  obtain⟨⟨S,l,W⟩,y1,d⟩:=oW h hd g j N tn (Kb _ _)
  obtain⟨_,_,ab,_,ar,_⟩:=es W;exact⟨b,rfl,⟨S,(l A f).1,(l A f).2,ab⟩,y1,d⟩
 obtain⟨ad,ag⟩:=rt A f;obtain⟨q0,q1,ai,q3,al,am⟩:=es g;generalize s.pop (X s.rs A (0,0))=gr at*;obtain⟨⟨v0,v1⟩,cd,aB⟩:=gr;generalize (X s.rs A (0,0)).1=a0 at*;generalize (X s.rs A (0,0)).2=a1 at*;have aF:(A:Int)<12:=aa;have nx:MB (G w)≠MB (G w)+1:=aa;clear h hv i hd g j rt q0 q1 q3 al am;go_enter func136,ntmps136;go_wp2_with fail
 go_region_held3 (fun w'=>V w' (av ce 6)=Z (H (au rb) 12 12)/\V w' (av rb (A*2))=Z (ak a0)/\V w' (av rb (A*2+1))=Z (ak a1)/\V w' (av (MB (G w)) 2)=Z (ak A)) (first|exact⟨fG u m,fG k o,fG k p,fG nx q⟩|(go_keep;done))
  (first|(go_at_call 207;refine x.mono ?_;rintro e c ⟨b,rfl,⟨m,o,p,q⟩,y1,d⟩;obtain⟨r0,r1,aR,lw⟩:=dt y1;have an:aA (_=_):=y1;clear y1 t ad ag ai))
 all_goals
  clear m o p q ‹_/\_›;go_wp2_with fail;obtain⟨ao,ap,_,_⟩:=dt (g6 (v1:=ak v0) (v2:=ak v1) an.o)
  exact a7 (v:=a6 #[bF #[ak v0,ak v1],ak cd]) (by simp[results,results136,go_sem,ao,ap]) rfl ⟨b,rfl,dA.set2 _ d.o.1 d.o.2.2 _ _,d.o.2.1.set2 (mq _) _ _⟩
theorem Kj (h:(cG ce cj b_ rb).J F s w)(hv:fD s)(R B I n:Int)(A:Nat)(f:A<12):
 Calls O 136 #[aq ce,d_ 11 R A B I n] w fun e w'=>∃b,e=MD (a6 #[bF #[ak (s.gt (X s.rs A (0,0)) I).1.1,ak (s.gt (X s.rs A (0,0)) I).1.2],ak (s.gt (X s.rs A (0,0)) I).2.1])/\(cG ce cj b_ rb).J b (s.gt (X s.rs A (0,0)) I).2.2 w'/\ch F w b w':=by
 obtain⟨j,g,k,N,rt,S,l⟩:=l9 h 11 R A B I n;have m:=vA hv (vB h) f;have hd:C (MB (G w)) w (hG w 11 R A B I n).drew:=j.drew;have P:=Ke ((cG ce cj b_ rb).below h hd) (X s.rs A (0,0)) I m hv.tl;have i:Calls O 201 #[aq ce,bF #[ak (X s.rs A (0,0)).1,ak (X s.rs A (0,0)).2],ak I] (hG w 11 R A B I n).drew fun e c=>∃b,e=MD (a6 #[bF #[ak (s.gt (X s.rs A (0,0)) I).1.1,ak (s.gt (X s.rs A (0,0)) I).1.2],ak (s.gt (X s.rs A (0,0)) I).2.1])/\
  (V c (av ce 6)=Z (H (au rb) 12 12)/\V c (av rb (A*2))=Z (ak (X s.rs A (0,0)).1)/\V c (av rb (A*2+1))=Z (ak (X s.rs A (0,0)).2)/\V c (av (MB (G w)) 2)=Z (ak A)/\V c (av (MB (G w)) 4)=Z (ak I))/\
  c.heap[MB (G w)+1]?=Z (ME #[ak 0,ak 0] 97 (0,0))/\aA ((cG ce cj b_ rb).J b (s.gt (X s.rs A (0,0)) I).2.2 c/\ch F w b c/\¬b (MB (G w)+1)):=by
  refine P.mono ?_;rintro e c ⟨b,rfl,W,tn⟩
  obtain⟨⟨ab,o,ad⟩,y1,d⟩:=oW h hd g k W tn rfl;obtain⟨_,_,ag,_,ai,_⟩:=es ad;exact⟨b,rfl,⟨ab,(o A f).1,(o A f).2,ag,ai⟩,y1,d⟩
 clear P;obtain⟨al,am⟩:=rt A f;obtain⟨q0,q1,an,q3,ao,ap⟩:=es g;generalize s.gt (X s.rs A (0,0)) I=gr at*;obtain⟨⟨v0,v1⟩,cd,aR⟩:=gr;dsimp only at i⊢;generalize (X s.rs A (0,0)).1=a0 at*;generalize (X s.rs A (0,0)).2=a1 at*;have aV:(0:Int)<=(A:Int):=aa;have a2:(A:Int)<12:=aa;have nx:MB (G w)≠MB (G w)+1:=aa;clear h hv j hd g k rt m q0 q1 q3 ap;go_enter func136,ntmps136;go_wp2_with fail
 go_region_held3 (fun w'=>V w' (av ce 6)=Z (H (au rb) 12 12)/\V w' (av rb (A*2))=Z (ak a0)/\V w' (av rb (A*2+1))=Z (ak a1)/\V w' (av (MB (G w)) 2)=Z (ak A)/\V w' (av (MB (G w)) 4)=Z (ak I)) (first|exact⟨fG S p,fG l q,fG l t,fG nx u,fG nx x⟩|(go_keep;done))
  (first|(go_at_call 201;refine i.mono ?_;clear i;rintro e c ⟨b,rfl,⟨p,q,t,u,x⟩,y1,d⟩;obtain⟨r0,r1,a3,lw⟩:=dt y1;have ar:aA (_=_):=y1;clear y1 N al am an ao))
 all_goals
  clear p q t u x ‹_/\_›;go_wp2_with fail;obtain⟨aB,aF,_,_⟩:=dt (g6 (v1:=ak v0) (v2:=ak v1) ar.o)
  exact a7 (v:=a6 #[bF #[ak v0,ak v1],ak cd]) (by simp[results,results136,go_sem,aB,aF]) rfl ⟨b,rfl,dA.set2 _ d.o.1 d.o.2.2 _ _,d.o.2.1.set2 (mq _) _ _⟩
theorem Kk (h:(cG ce cj b_ rb).J F s w)(hv:fD s)(R B I n:Int)(A:Nat)(f:A<12):
 Calls O 136 #[aq ce,d_ 13 R A B I n] w fun e w'=>∃b,e=MD (a6 #[bF #[ak (s.ln (X s.rs A (0,0))).1.1,ak (s.ln (X s.rs A (0,0))).1.2],ak (s.ln (X s.rs A (0,0))).2.1])/\(cG ce cj b_ rb).J b (s.ln (X s.rs A (0,0))).2.2 w'/\ch F w b w':=by
 obtain⟨i,g,j,t,rt,u,k⟩:=l9 h 13 R A B I n;have hd:=i.drew;have P:=Kh ((cG ce cj b_ rb).below h hd) (X s.rs A (0,0)) (vA hv (vB h) f) hv.tl;have x:Calls O 208 #[aq ce,bF #[ak (X s.rs A (0,0)).1,ak (X s.rs A (0,0)).2]] (hG w 13 R A B I n).drew fun e c=>∃b,e=MD (a6 #[bF #[ak (s.ln (X s.rs A (0,0))).1.1,ak (s.ln (X s.rs A (0,0))).1.2],ak (s.ln (X s.rs A (0,0))).2.1])/\
  (V c (av ce 6)=Z (H (au rb) 12 12)/\V c (av rb (A*2))=Z (ak (X s.rs A (0,0)).1)/\V c (av rb (A*2+1))=Z (ak (X s.rs A (0,0)).2)/\V c (av (MB (G w)) 2)=Z (ak A))/\
  c.heap[MB (G w)+1]?=Z (ME #[ak 0,ak 0] 97 (0,0))/\aA ((cG ce cj b_ rb).J b (s.ln (X s.rs A (0,0))).2.2 c/\ch F w b c/\¬b (MB (G w)+1)):=by
  refine P.mono ?_;rintro e c ⟨b,rfl,N,tn⟩
  obtain⟨⟨S,l,W⟩,y1,d⟩:=oW h hd g j N tn (by rw[Kd])
  obtain⟨_,_,ab,_,ar,_⟩:=es W;exact⟨b,rfl,⟨S,(l A f).1,(l A f).2,ab⟩,y1,d⟩
 obtain⟨ad,ag⟩:=rt A f;obtain⟨q0,q1,ai,q3,al,am⟩:=es g;generalize s.ln (X s.rs A (0,0))=gr at*;obtain⟨⟨v0,v1⟩,cd,aB⟩:=gr;generalize (X s.rs A (0,0)).1=a0 at*;generalize (X s.rs A (0,0)).2=a1 at*;have aF:(A:Int)<12:=aa;have nx:MB (G w)≠MB (G w)+1:=aa;clear h hv i hd g j rt q0 q1 q3 al am;go_enter func136,ntmps136;go_wp2_with fail
 go_region_held3 (fun w'=>V w' (av ce 6)=Z (H (au rb) 12 12)/\V w' (av rb (A*2))=Z (ak a0)/\V w' (av rb (A*2+1))=Z (ak a1)/\V w' (av (MB (G w)) 2)=Z (ak A)) (first|exact⟨fG u m,fG k o,fG k p,fG nx q⟩|(go_keep;done))
  (first|(go_at_call 208;refine x.mono ?_;rintro e c ⟨b,rfl,⟨m,o,p,q⟩,y1,d⟩;obtain⟨r0,r1,aR,lw⟩:=dt y1;have an:aA (_=_):=y1;clear y1 t ad ag ai))
 all_goals
  clear m o p q ‹_/\_›;go_wp2_with fail;obtain⟨ao,ap,_,_⟩:=dt (g6 (v1:=ak v0) (v2:=ak v1) an.o)
  exact a7 (v:=a6 #[bF #[ak v0,ak v1],ak cd]) (by simp[results,results136,go_sem,ao,ap]) rfl ⟨b,rfl,dA.set2 _ d.o.1 d.o.2.2 _ _,d.o.2.1.set2 (mq _) _ _⟩
end
section
variable {ce rb:Nat}{cj b_:Int}{F:Nat->Prop}{s:cn}{w:az}{g:eg}
theorem Kl (h:(cG ce cj b_ rb).J F s w)(R A B I n:Int):
 Calls O 136 #[aq ce,d_ 1 R A B I n] w fun e w'=>e=MD (a6 #[bF #[ak 1,ak n],ak 0])/\C (MB (G w)) w w':=by
 obtain⟨d,g,f,_⟩:=l9 h 1 R A B I n;obtain⟨q0,q1,l,q3,m,o⟩:=es g;have i:aA (∀b,C (MB (G (hG w 1 R A B I n))) (hG w 1 R A B I n) b->_/\_):=fun b hb=>⟨(hb.block _ (lt_of_some f)).trans f,d.trans (hb.mono d.size)⟩
 go_enter func136,ntmps136;go_wp2_with fail;refine(rQ n (hG w 1 R A B I n)).mono ?_;rintro e b ⟨rfl,hb⟩
 have c:aA (_):=i.o b hb;obtain⟨r0,r1,p,lw⟩:=dt c.o.1;go_wp2_with fail;obtain⟨j,k,_,_⟩:=dt (g6 (v1:=ak 1) (v2:=ak n) c.o.1)
 exact a7 (v:=a6 #[bF #[ak 1,ak n],ak 0]) (by simp[results,results136,go_sem,j,k]) rfl ⟨rfl,(c.o.2.setCell ac _).setCell ac _⟩
theorem Km (h:(cG ce cj b_ rb).J F s w)(R A B I n:Int):
 Calls O 136 #[aq ce,d_ 2 R A B I n] w fun e w'=>e=MD (a6 #[bF #[ak 0,ak 0],ak 0])/\C (MB (G w)) w w':=by
 obtain⟨b,c,d,_⟩:=l9 h 2 R A B I n;obtain⟨q0,q1,g,q3,i,j⟩:=es c;have f:=hide b;obtain⟨r0,r1,k,lw⟩:=dt d;go_enter func136,ntmps136;go_wp2_with fail;exact a7 (v:=a6 #[bF #[ak 0,ak 0],ak 0]) (by simp[results,results136,go_sem]) rfl ⟨rfl,f.o⟩
theorem Kn (h:(cG ce cj b_ rb).J F s w)(hv:fD s)(j:dz s.T s.wt (g s.T s.wt))(g0:-1000000<=b_)(g1:b_<=1000000)(k:-1000000<=cj)(m1:cj<=1000000)(R A B I n:Int):
 Calls O 136 #[aq ce,d_ 8 R A B I n] w fun e w'=>∃b,e=MD (a6 #[bF #[ak (s.b_ g cj b_ 5 []).1.1,ak (s.b_ g cj b_ 5 []).1.2],ak (s.b_ g cj b_ 5 []).2.1])/\(cG ce cj b_ rb).J b (s.b_ g cj b_ 5 []).2.2 w'/\ch F w b w':=by
 obtain⟨f,i,l,_⟩:=l9 h 8 R A B I n;obtain⟨q0,q1,u,q3,x,N⟩:=es i;have m:Calls O 206 #[aq ce,ak 5,H Y 0 0] (hG w 8 R A B I n) fun e c=>∃b,e=MD (a6 #[bF #[ak (s.b_ g cj b_ 5 []).1.1,ak (s.b_ g cj b_ 5 []).1.2],ak (s.b_ g cj b_ 5 []).2.1])/\
  c.heap[MB (G w)+1]?=Z (ME #[ak 0,ak 0] 97 (0,0))/\aA ((cG ce cj b_ rb).J b (s.b_ g cj b_ 5 []).2.2 c/\ch F w b c/\¬b (MB (G w)+1)):=by
  refine(vx (g:=g) (kd:=5) (fl:=[]) (ad:=Y) (cap:=0) ((cG ce cj b_ rb).below h f) hv j g0 g1 k m1 ac ⟨fun h=>absurd h ac,aG _,fun _=>⟨rfl,rfl⟩⟩).mono ?_;rintro e c ⟨b,rfl,o,tn⟩
  obtain⟨_,y1,d⟩:=oW h f i l o tn (vy _ _ _ _ _ _)
  exact⟨b,rfl,y1,d⟩
 generalize s.b_ g cj b_ 5 []=gr at*;obtain⟨⟨v0,v1⟩,cd,S⟩:=gr;go_enter func136,ntmps136;go_wp2_with fail;refine m.mono ?_;rintro e c ⟨b,rfl,y1,d⟩
 obtain⟨r0,r1,W,lw⟩:=dt y1;have p:aA (_=_):=y1;go_wp2_with fail;obtain⟨q,t,_,_⟩:=dt (g6 (v1:=ak v0) (v2:=ak v1) p.o)
 exact a7 (v:=a6 #[bF #[ak v0,ak v1],ak cd]) (by simp[results,results136,go_sem,q,t]) rfl ⟨b,rfl,dA.set2 _ d.o.1 d.o.2.2 _ _,d.o.2.1.set2 (mq _) _ _⟩
theorem Ko (h:(cG ce cj b_ rb).J F s w)(R B I n:Int)(A:Nat)(b:A<12):
 Calls O 136 #[aq ce,d_ 3 R A B I n] w fun e w'=>e=MD (a6 #[bF #[ak (X s.rs A (0,0)).1,ak (X s.rs A (0,0)).2],ak 0])/\C (MB (G w)) w w':=by
 obtain⟨k,c,d,W,rt,ab,ad⟩:=l9 h 3 R A B I n;obtain⟨ag,ai⟩:=rt A b;obtain⟨q0,q1,al,q3,l,m⟩:=es c;obtain⟨o,f,g,i⟩:=kw h;have q:=(cG ce cj b_ rb).lt h _ g;have j:=(cG ce cj b_ rb).lt h _ i;have b2:C (MB (G w)) w (bE (w.alloc (cH 3 R A B I n)) (ME #[U MC (X s.rs A (0,0)).1,U MC (X s.rs A (0,0)).2] 97)):=(b9.alloc b8 _).alloc ac _;have m1:=(b2.cell (p:=av ce 6) q).trans o;have t:=(b2.cell (p:=av rb (A*2)) j).trans (f A b).1;have u:=(b2.cell (p:=av rb (A*2+1)) j).trans (f A b).2;have x:V (bE (w.alloc (cH 3 R A B I n)) (ME #[U MC (X s.rs A (0,0)).1,U MC (X s.rs A (0,0)).2] 97)) (av (MB (G w)) 2)=Z (ak A):=(es ((aS _ _ _ ac).trans (aP w _))).2.2.1;have N:=hide b2.drew;have S:=i4 m1 t u x;obtain⟨r0,r1,am,lw⟩:=dt d;generalize (X s.rs A (0,0)).1=a0 at*;generalize (X s.rs A (0,0)).2=a1 at*;have an:(0:Int)<=(A:Int):=aa;have ao:(A:Int)<12:=aa;clear h k c d rt q1 q3 l m g i;go_enter func136,ntmps136;go_wp2_with fail
 go_region_held3 (fun w'=>V w' (av ce 6)=Z (H (au rb) 12 12)/\V w' (av rb (A*2))=Z (ak a0)/\V w' (av rb (A*2+1))=Z (ak a1)/\V w' (av (MB (G w)) 2)=Z (ak A)) (first|exact S.o|(go_keep;done)) (fail)
 all_goals
  go_wp2_with fail;exact a7 (v:=a6 #[bF #[ak a0,ak a1],ak 0]) (by simp[results,results136,go_sem]) rfl ⟨rfl,N.o⟩
theorem Kq (h:(cG ce cj b_ rb).J F s w)(R I n:Int)(A B:Nat)(i:A<12)(hB:B<12):
 Calls O 136 #[aq ce,d_ 14 R A B I n] w fun e w'=>e=MD (a6 #[bF #[ak 1,ak (if X s.rs A (0,0)=X s.rs B (0,0) then 1 else 0)],ak 0])/\C (MB (G w)) w w':=by
 obtain⟨c,j,l,N,rt,S,d⟩:=l9 h 14 R A B I n;have m:Calls O 209 #[bF #[ak (X s.rs A (0,0)).1,ak (X s.rs A (0,0)).2],bF #[ak (X s.rs B (0,0)).1,ak (X s.rs B (0,0)).2]] (hG w 14 R A B I n).drew fun e b=>e=MD (bF #[ak 1,ak (if X s.rs A (0,0)=X s.rs B (0,0) then 1 else 0)])/\
  (V b (av ce 6)=Z (H (au rb) 12 12)/\V b (av rb (A*2))=Z (ak (X s.rs A (0,0)).1)/\V b (av rb (A*2+1))=Z (ak (X s.rs A (0,0)).2)/\V b (av rb (B*2))=Z (ak (X s.rs B (0,0)).1)/\V b (av rb (B*2+1))=Z (ak (X s.rs B (0,0)).2)/\V b (av (MB (G w)) 2)=Z (ak A)/\V b (av (MB (G w)) 3)=Z (ak B))/\
  aA (b.heap[MB (G w)+1]?=Z (ME #[ak 0,ak 0] 97 (0,0))/\C (MB (G w)) w b):=by
  refine(IR _ _ _).mono ?_;rintro e b ⟨rfl,hb⟩
  obtain⟨⟨f,g,W⟩,y1,aV⟩:=oW h c.drew j l ((cG ce cj b_ rb).below ((cG ce cj b_ rb).below h c.drew) hb) (ch.of hb) rfl;obtain⟨_,_,ab,ad,_,_⟩:=es W;exact⟨rfl,⟨f,(g A i).1,(g A i).2,(g B hB).1,(g B hB).2,ab,ad⟩,y1,c.drew.trans (hb.mono c.drew.size)⟩
 obtain⟨ag,ai⟩:=rt A i;obtain⟨al,am⟩:=rt B hB;obtain⟨q0,q1,an,q3,ao,ap⟩:=es j;generalize (if X s.rs A (0,0)=X s.rs B (0,0) then(1:Int) else 0)=v1 at*;generalize (X s.rs A (0,0)).1=a0 at*;generalize (X s.rs A (0,0)).2=a1 at*;generalize (X s.rs B (0,0)).1=ar at*;generalize (X s.rs B (0,0)).2=aB at*;have a2:(0:Int)<=(A:Int):=aa;have a3:(A:Int)<12:=aa;have a4:(0:Int)<=(B:Int):=aa;have ba:(B:Int)<12:=aa;have nx:MB (G w)≠MB (G w)+1:=aa;clear h c j l rt q1 ao ap;go_enter func136,ntmps136;go_wp2_with fail
 go_region_held3 (fun w'=>V w' (av ce 6)=Z (H (au rb) 12 12)/\V w' (av rb (A*2))=Z (ak a0)/\V w' (av rb (A*2+1))=Z (ak a1)/\V w' (av rb (B*2))=Z (ak ar)/\V w' (av rb (B*2+1))=Z (ak aB)/\V w' (av (MB (G w)) 2)=Z (ak A)/\V w' (av (MB (G w)) 3)=Z (ak B)) (first|exact⟨fG S o,fG d p,fG d q,fG d t,fG d u,fG nx f,fG nx x⟩|(go_keep;done))
  (first|(go_at_call 209;refine m.mono ?_;clear m;rintro e b ⟨rfl,⟨o,p,q,t,u,f,x⟩,k⟩;obtain⟨r0,r1,bb,lw⟩:=dt k.o.1;clear N ag ai al am an q3))
 all_goals
  clear o p q t u f x ‹_/\_›;go_wp2_with fail;obtain⟨aF,aR,_,_⟩:=dt (g6 (v1:=ak 1) (v2:=ak v1) k.o.1)
  exact a7 (v:=a6 #[bF #[ak 1,ak v1],ak 0]) (by simp[results,results136,go_sem,aF,aR]) rfl ⟨rfl,(k.o.2.setCell ac _).setCell ac _⟩
theorem Kr (h:(cG ce cj b_ rb).J F s w)(hv:fD s)(x:dz s.T s.wt (g s.T s.wt))(g0:-1000000<=b_)(g1:b_<=1000000)(aR:-1000000<=cj)(m1:cj<=1000000)(R B I:Int)(A n:Nat)(j:A<12)(hn:n<=12):
 Calls O 136 #[aq ce,d_ 5 R A B I n] w fun e w'=>∃c,e=MD (a6 #[bF #[ak (s.b_ g cj b_ 2 (MQ n (X s.rs A (0,0)))).1.1,ak (s.b_ g cj b_ 2 (MQ n (X s.rs A (0,0)))).1.2],ak (s.b_ g cj b_ 2 (MQ n (X s.rs A (0,0)))).2.1])/\(cG ce cj b_ rb).J c (s.b_ g cj b_ 2 (MQ n (X s.rs A (0,0)))).2.2 w'/\ch F w c w':=by
 obtain⟨N,m,o,aV,rt,a2,S⟩:=l9 h 5 R A B I n;have l:MB (G (hG w 5 R A B I n).drew)=MB (G w)+1+1:=by simp[World.drew]
 have p:Calls O 131 #[H (au (MB (G w)+1+1)) 1 1,ak n] (bE (hG w 5 R A B I n).drew (ME #[U MC (X s.rs A (0,0)).1,U MC (X s.rs A (0,0)).2] 97)) fun e d=>∃nb,e=MD (H (au nb) n n)/\
  (V d (av ce 6)=Z (H (au rb) 12 12)/\V d (av rb (A*2))=Z (ak (X s.rs A (0,0)).1)/\V d (av rb (A*2+1))=Z (ak (X s.rs A (0,0)).2)/\V d (av (MB (G w)) 2)=Z (ak A)/\V d (av (MB (G w)) 5)=Z (ak n))/\
  Calls O 206 #[aq ce,ak 2,H (au nb) n n] d fun e f=>∃c,e=MD (a6 #[bF #[ak (s.b_ g cj b_ 2 (MQ n (X s.rs A (0,0)))).1.1,ak (s.b_ g cj b_ 2 (MQ n (X s.rs A (0,0)))).1.2],ak (s.b_ g cj b_ 2 (MQ n (X s.rs A (0,0)))).2.1])/\
  (V f (av ce 6)=Z (H (au rb) 12 12)/\V f (av rb (A*2))=Z (ak (X s.rs A (0,0)).1)/\V f (av rb (A*2+1))=Z (ak (X s.rs A (0,0)).2)/\V f (av (MB (G w)) 2)=Z (ak A)/\V f (av (MB (G w)) 5)=Z (ak n))/\
  f.heap[MB (G w)+1]?=Z (ME #[ak 0,ak 0] 97 (0,0))/\aA ((cG ce cj b_ rb).J c (s.b_ g cj b_ 2 (MQ n (X s.rs A (0,0)))).2.2 f/\ch F w c f/\¬c (MB (G w)+1)):=by
  have b1:C (MB (G w)) w (bE (hG w 5 R A B I n).drew (ME #[U MC (X s.rs A (0,0)).1,U MC (X s.rs A (0,0)).2] 97)):=N.drew.alloc (by rw[l];omega) _;have W:=aP (hG w 5 R A B I n).drew (ME #[U MC (X s.rs A (0,0)).1,U MC (X s.rs A (0,0)).2] 97)
  rw[l] at W;obtain⟨z0,a3,_,_⟩:=dt W;refine(Br _ (MB (G w)+1+1) n (X s.rs A (0,0)) hn z0 a3).mono ?_;rintro e d ⟨nb,rfl,b5,q,ab⟩
  have b2:C (MB (G w)) w d:=b1.trans (ab.mono b1.size)
  have l0:MB (G w)+1<MB (G (hG w 5 R A B I n)):=lt_of_some o;have ag:∀b,b<MB (G w)+1+1->d.heap[b]?=(hG w 5 R A B I n).heap[b]?:=fun b hb=>(ab.block b (by simp;omega)).trans (aS (hG w 5 R A B I n).drew _ b (by rw[l];exact hb))
  have ai:=(ag _ aa).trans m;have y1:=(ag (MB (G w)+1) aa).trans o;have al:=(cG ce cj b_ rb).below h b2;obtain⟨e6,sa,_,_⟩:=kw al;obtain⟨_,_,a4,_,_,ba⟩:=es ai;refine⟨nb,rfl,⟨e6,(sa A j).1,(sa A j).2,a4,ba⟩,?_⟩
  have t:L (MQ n (X s.rs A (0,0)))=n:=hW;have P:=vx (g:=g) (kd:=2) (fl:=MQ n (X s.rs A (0,0))) (ad:=au nb) (cap:=n) al hv x g0 g1 aR m1 (by rw[t];exact hn) ⟨fun _=>⟨nb,0,rfl,lt_of_some q,fun i hi=>by
   obtain⟨k1,u⟩:=ob _ i hi;constructor
   ·simp only [World.cell?,q,bZ];simpa using k1
   ·simp only [World.cell?,q,bZ];simpa using u⟩,by rw[t];exact aG _,fun e=>by cases e⟩
  rw[t] at P;refine P.mono ?_;rintro e f ⟨c,rfl,bb,tn⟩
  obtain⟨⟨bd,am,be⟩,bg,k⟩:=oW h b2 ai y1 bb tn (vy _ _ _ _ _ _)
  obtain⟨_,_,bi,_,_,bl⟩:=es be;exact⟨c,rfl,⟨bd,(am A j).1,(am A j).2,bi,bl⟩,bg,k⟩
 obtain⟨bn,bo⟩:=rt A j;obtain⟨q0,q1,bp,q3,br,bs⟩:=es m;generalize s.b_ g cj b_ 2 (MQ n (X s.rs A (0,0)))=gr at*;obtain⟨⟨v0,v1⟩,cd,b6⟩:=gr;dsimp only at p⊢;generalize (X s.rs A (0,0)).1=a0 at*;generalize (X s.rs A (0,0)).2=a1 at*;have ca:(0:Int)<=(A:Int):=aa;have cb:(A:Int)<12:=aa;have cc:(n:Int)<=12:=aa;have nx:MB (G w)≠MB (G w)+1:=aa;clear h hv x N m o rt q1 q3 br l;go_enter func136,ntmps136;go_wp2_with fail
 go_region_held3 (fun w'=>V w' (av ce 6)=Z (H (au rb) 12 12)/\V w' (av rb (A*2))=Z (ak a0)/\V w' (av rb (A*2+1))=Z (ak a1)/\V w' (av (MB (G w)) 2)=Z (ak A)/\V w' (av (MB (G w)) 5)=Z (ak n)) (first|exact⟨fG a2 an,fG S ao,fG S ap,fG nx ar,fG nx aB⟩|(go_keep;done))
  (first|(go_at_call 131;refine p.mono ?_;clear p;rintro e d ⟨nb,rfl,⟨k1,u,bt,bx,k5⟩,aF⟩;clear aV bn bo bp bs)|(go_at_call 206;refine aF.mono ?_;clear aF;rintro e f ⟨c,rfl,⟨an,ao,ap,ar,aB⟩,y1,k⟩;obtain⟨r0,r1,cf,lw⟩:=dt y1;have b0:aA (_=_):=y1;clear y1 k1 u bt bx k5))
 all_goals
  clear an ao ap ar aB ‹_/\_›;go_wp2_with fail;obtain⟨b3,b4,_,_⟩:=dt (g6 (v1:=ak v0) (v2:=ak v1) b0.o)
  exact a7 (v:=a6 #[bF #[ak v0,ak v1],ak cd]) (by simp[results,results136,go_sem,b3,b4]) rfl ⟨c,rfl,dA.set2 _ k.o.1 k.o.2.2 _ _,k.o.2.1.set2 (mq _) _ _⟩
end
theorem Ks {R A B n:Int}(h:d5 5 R A B n=0):0<=n/\n<=12:=by
 have b:il 5 n=0:=by
  unfold d5 at h;rw[aI ae] at h;split at h
  ·omega
  ·exact h
 unfold il at b;rw[aI ae,aJ rfl] at b;unfold hc at b
 ·split at b<;>omega
section
variable {ce rb:Nat}{cj b_:Int}{F:Nat->Prop}{s:cn}{w:az}{g:eg}
theorem Kt (h:(cG ce cj b_ rb).J F s w)(hv:fD s)(c:dz s.T s.wt (g s.T s.wt))(g0:-1000000<=b_)(g1:b_<=1000000)(d:-1000000<=cj)(m1:cj<=1000000)(k R A B I n:Int)(hk:d5 k R A B n=0)(l:k≠9)(o:k≠12)(p:k≠15)(e16:k≠16):
 Calls O 136 #[aq ce,d_ k R A B I n] w fun e w'=>∃f,e=MD (a6 #[bF #[ak (s.rt g cj b_ k (M A) (M B) I n).1.1,ak (s.rt g cj b_ k (M A) (M B) I n).1.2],ak (s.rt g cj b_ k (M A) (M B) I n).2.1])/\(cG ce cj b_ rb).J f (s.rt g cj b_ k (M A) (M B) I n).2.2 w'/\ch F w f w':=by
 have two:∀k,dj k=7->d5 k R A B n=0->∃a b:Nat,A=a/\B=b/\a<12/\b<12:=fun k i hc=>by
  have q:=lO hc (aK (aK i))
  have v:=mv hc (aK i)
  exact⟨M A,M B,aa,aa,aa,aa⟩
 have one:∀k,dj k=3->d5 k R A B n=0->∃a:Nat,A=a/\a<12:=fun k i hc=>by
  have q:=lO hc (aM i)
  exact⟨M A,aa,aa⟩
 have low:∀(t:(Int×Int)×Int×cn),t.2.2=s->∀(e:Ending)(w':az),(e=MD (a6 #[bF #[ak t.1.1,ak t.1.2],ak t.2.1])/\C (MB (G w)) w w')->∃f,e=MD (a6 #[bF #[ak t.1.1,ak t.1.2],ak t.2.1])/\(cG ce cj b_ rb).J f t.2.2 w'/\ch F w f w':=by
  rintro t u e w' ⟨rfl,hb⟩
  rw[u];exact⟨F,rfl,(cG ce cj b_ rb).below h hb,ch.of hb⟩
 have no:(k<1\/16<k)->False:=fun j=>by unfold d5 at hk;rw[aJ (qz j)] at hk;omega
 rcases qy k with rfl|rfl|rfl|rfl|rfl|rfl|rfl|rfl|rfl|rfl|rfl|rfl|rfl|rfl|rfl|rfl|j
 ·have e:s.rt g cj b_ 1 (M A) (M B) I n=((1,n),0,s):=by simp[cn.rt]
  rw[e];exact(Kl h R A B I n).mono (low ((1,n),0,s) rfl)
 ·have e:s.rt g cj b_ 2 (M A) (M B) I n=((0,0),0,s):=by simp[cn.rt]
  rw[e];exact(Km h R A B I n).mono (low ((0,0),0,s) rfl)
 ·obtain⟨a,rfl,ha⟩:=one 3 ae hk;have e:s.rt g cj b_ 3 (M (a:Int)) (M B) I n=(X s.rs a (0,0),0,s):=by simp[cn.rt]
  rw[e];exact(Ko h R B I n a ha).mono (low (X s.rs a (0,0),0,s) rfl)
 ·obtain⟨a,b,rfl,rfl,ha,hb⟩:=two 4 ae hk;have e:s.rt g cj b_ 4 (M (a:Int)) (M (b:Int)) I n=s.b_ g cj b_ 1 [X s.rs a (0,0),X s.rs b (0,0)]:=by simp[cn.rt]
  rw[e];exact vz h hv c g0 g1 d m1 R I n (aM ⟨rfl,rfl⟩) a b ha hb
 ·obtain⟨a,rfl,ha⟩:=one 5 ae hk;have hn:=Ks hk;obtain⟨m,rfl⟩:=bG hn.1;have e:s.rt g cj b_ 5 (M (a:Int)) (M B) I m=s.b_ g cj b_ 2 (MQ m (X s.rs a (0,0))):=by simp[cn.rt]
  rw[e];exact Kr h hv c g0 g1 d m1 R B I a m ha aa
 ·obtain⟨a,b,rfl,rfl,ha,hb⟩:=two 6 ae hk;have e:s.rt g cj b_ 6 (M (a:Int)) (M (b:Int)) I n=s.b_ g cj b_ 3 [X s.rs a (0,0),X s.rs b (0,0)]:=by simp[cn.rt]
  rw[e];exact vz h hv c g0 g1 d m1 R I n (aK (aM ⟨rfl,rfl⟩)) a b ha hb
 ·obtain⟨a,b,rfl,rfl,ha,hb⟩:=two 7 ae hk;have e:s.rt g cj b_ 7 (M (a:Int)) (M (b:Int)) I n=s.b_ g cj b_ 4 [X s.rs a (0,0),X s.rs b (0,0)]:=by simp[cn.rt]
  rw[e];exact vz h hv c g0 g1 d m1 R I n (aK (aK ⟨rfl,rfl⟩)) a b ha hb
 ·have e:s.rt g cj b_ 8 (M A) (M B) I n=s.b_ g cj b_ 5 []:=by simp[cn.rt]
  rw[e];exact Kn h hv c g0 g1 d m1 R A B I n
 ·exact absurd rfl l
 ·obtain⟨a,rfl,ha⟩:=one 10 ae hk;have e:s.rt g cj b_ 10 (M (a:Int)) (M B) I n=s.pop (X s.rs a (0,0)):=by simp[cn.rt]
  rw[e];exact Ki h hv R B I n a ha
 ·obtain⟨a,rfl,ha⟩:=one 11 ae hk;have e:s.rt g cj b_ 11 (M (a:Int)) (M B) I n=s.gt (X s.rs a (0,0)) I:=by simp[cn.rt,cn.gt]
  rw[e];exact Kj h hv R B I n a ha
 ·exact absurd rfl o
 ·obtain⟨a,rfl,ha⟩:=one 13 ae hk;have e:s.rt g cj b_ 13 (M (a:Int)) (M B) I n=s.ln (X s.rs a (0,0)):=by simp[cn.rt,cn.ln]
  rw[e];exact Kk h hv R B I n a ha
 ·obtain⟨a,b,rfl,rfl,ha,hb⟩:=two 14 ae hk;have e:s.rt g cj b_ 14 (M (a:Int)) (M (b:Int)) I n=((1,if X s.rs a (0,0)=X s.rs b (0,0) then 1 else 0),0,s):=by simp[cn.rt]
  rw[e];exact(Kq h R I n a b ha hb).mono (low ((1,if X s.rs a (0,0)=X s.rs b (0,0) then 1 else 0),0,s) rfl)
 ·exact absurd rfl p
 ·exact absurd rfl e16
 ·exact(no j).elim
end
section
variable {ce rb:Nat}{cj b_:Int}{F:Nat->Prop}{w:az}
theorem Ku (k R A B I n:Int)(hc:d5 k R A B n≠0):
 J O 68 #[aq ce,d_ k R A B I n] w fun e w'=>e=MD (ak (d5 k R A B n))/\C (MB (G w)) w w':=by
 have c:=jS k R A B I n (w.alloc (cH k R A B I n))
 have b:=hide (aw w (cH k R A B I n))
 go_enter func68,ntmps68;go_wp2_with fail;refine c.mono ?_;rintro e w1 ⟨rfl,d⟩
 have f:=b.o.trans (d.mono b.o.size)
 go_wp2_with fail;go_ret;exact⟨rfl,f⟩
theorem Bu (k R A B I n:Int)(hk:k=15\/k=16)(hc:d5 k R A B n=0)(cd:Int)(d:cn)
 (v:k=15->∀w',C (MB (G w)) w w'->Calls O 134 #[aq ce] w' fun e b=>∃F2,e=MD (ak cd)/\(cG ce cj b_ rb).J F2 d b/\ch F w' F2 b)(x:k=16->∀w',C (MB (G w)) w w'->Calls O 135 #[aq ce] w' fun e b=>∃F2,e=MD (ak cd)/\(cG ce cj b_ rb).J F2 d b/\ch F w' F2 b):
 Calls O 68 #[aq ce,d_ k R A B I n] w fun e w'=>∃p,e=MD (ak cd)/\(cG ce cj b_ rb).J p d w'/\ch F w p w':=by
 have q:=aw w (cH k R A B I n)
 have s:=aP w (ME #[U MC k,U MC R,U MC A,U MC B,U MC I,U MC n] 44)
 have f:=jS k R A B I n (w.alloc (cH k R A B I n))
 rw[hc] at f;have t:aA (∀w1,C (MB (G (w.alloc (cH k R A B I n)))) (w.alloc (cH k R A B I n)) w1->_/\w1.heap[MB (G w)]?=Z (cH k R A B I n)):=fun w1 hb=>⟨q.trans (hb.mono q.size),(hb.block _ (lt_of_some s)).trans s⟩
 rcases hk with rfl|rfl
 ·have g:aA (_):=v rfl;go_enter func68,ntmps68;go_wp2_with fail;refine f.mono ?_;rintro e w1 ⟨rfl,i⟩
  obtain⟨c,j⟩:=t.o w1 i;obtain⟨q0,q1,N,q3,S,W⟩:=es j;have P:=g.o w1 c;have l:aA (ch F w F w1):=ch.of c;go_wp2_with fail;refine P.mono ?_;rintro e u ⟨F2,rfl,m,o⟩
  have HF:aA (_/\ch F w F2 u):=⟨m,l.o.trans o⟩
  exact nO
 ·have g:aA (_):=x rfl;go_enter func68,ntmps68;go_wp2_with fail;refine f.mono ?_;rintro e w1 ⟨rfl,i⟩
  obtain⟨c,j⟩:=t.o w1 i;obtain⟨q0,q1,N,q3,S,W⟩:=es j;have P:=g.o w1 c;have l:aA (ch F w F w1):=ch.of c;go_wp2_with fail;refine P.mono ?_;rintro e u ⟨F2,rfl,m,o⟩
  have HF:=c8 m (l.o.trans o)
  exact nO
end
end Go.Proofs.YtpkjkjhanlbcoaaGreat
