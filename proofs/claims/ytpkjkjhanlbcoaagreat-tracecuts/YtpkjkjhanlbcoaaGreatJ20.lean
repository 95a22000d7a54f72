import Derived.Test.YtpkjkjhanlbcoaaGreatJ19
open Array renaming size->M3
open Bool renaming true->D
open Classical renaming byContradiction->mg
open Go renaming Addr->bG,Calls->J,TypeId->bU,Value->bD,splice->nS
open Go.Ending renaming returned->M6
open Go.IntKind renaming i64->M4,u64->sQ
open Go.Obj renaming cells->M5
open Go.Proofs.Tryz renaming prog->O
open Go.RowKit renaming Below->C
open Go.Value renaming agg->bF,int->U,slice->H,tuple->a8
open Go.World renaming alloc->bj,cell?->V,heap->G,ownsRow->aC,setCell->ay
open Int renaming eq_ofNat_of_zero_le->bH,toNat->M
open List renaming getD->X,getElem?_eq_some_iff->rT,length->L,length_replicate->hV,replicate->Ni,replicate_append_replicate->p0
open Nat renaming le_succ->nC,min->pq,min_def->tV,zero_add->b7
open Option renaming none->Y,some->Z
open Option.some renaming inj->qo
namespace Go.Proofs.YtpkjkjhanlbcoaaGreat
set_option maxRecDepth 100000
set_option maxHeartbeats 8000000
open Tryz
open Go.RowKit W Kp cq
theorem BK {P:Prop}(h:P:=by rw[World.cell?_setCell_far _ _ _ _ (fun e=>hn e.symm),World.cell?_setCell_far _ _ _ _ (fun e=>hn e.symm)];exact h):P:=h
section
variable {ce rb:Nat}{cj b_:Int}{F:Nat->Prop}{s:cn}{w:az}{g:eg}
theorem Kq (g:eg)(cj b_:Int)(s:cn)(m:Int):L (s.room g cj b_ m).2.T=L s.T:=by
 unfold cn.room;split
 ·rfl
 ·unfold cn.cut;split
  ·rfl
  ·exact jK _ _ _
theorem vJ {kd:Int}{fl:List (Int×Int)}{ad:Option bG}{cap:Nat}(h:(cG ce cj b_ rb).J F s w)(hv:fK s)(bo:dB s.T s.wt (g s.T s.wt))(g0:-1000000<=b_)(g1:b_<=1000000)(cc:-1000000<=cj)(m1:cj<=1000000)(hl:L fl<=12)(aB:iU w ad fl cap):
 Calls O 206 #[aq ce,ak kd,H ad (L fl) cap] w fun e w'=>∃d,e=M6 (a8 #[bF #[ak (s.b_ g cj b_ kd fl).1.1,ak (s.b_ g cj b_ kd fl).1.2],ak (s.b_ g cj b_ kd fl).2.1])/\(cG ce cj b_ rb).J d (s.b_ g cj b_ kd fl).2.2 w'/\ch F w d w':=by
 have cd:aA (∀b,F b->_):=fun b hb=>(cG ce cj b_ rb).lt h b hb;have gm:=cd.o;have cf:=Kq g cj b_ s (1+(L fl:Int))
 have cg:=hv.tl;have ci:aA (∀j:az,C (M3 (G w)) w j->∀tb a1 c1,j.heap[M3 (G w)]?=Z (M5 #[ak 0,ak 0] 97 (0,0))->j.heap[tb]?=Z (M5 #[ak kd,H a1 (L fl) c1] 220 (0,0))->M3 (G w)<=tb->aC j (M3 (G w)+1) 97 2 (H a1 (L fl) c1) (L fl) (ev fl)->
  Calls O 238 #[aq ce,ak (1+(L fl:Int))] j fun e f=>e=M6 (ak (s.room g cj b_ (1+(L fl:Int))).1)/\f.heap[M3 (G w)]?=Z (M5 #[ak 0,ak 0] 97 (0,0))/\f.heap[tb]?=Z (M5 #[ak kd,H a1 (L fl) c1] 220 (0,0))/\aC f (M3 (G w)+1) 97 2 (H a1 (L fl) c1) (L fl) (ev fl)/\
   aA (∃d,(cG ce cj b_ rb).J d (s.room g cj b_ (1+(L fl:Int))).2 f/\ch F w d f/\¬d (M3 (G w))/\¬d tb/\∀k,Z k=(Value.slice a1 (L fl) c1).ownBlock->¬d k)):=fun j hb tb a1 c1 ai ba ht hr=>by
  refine(Km ((cG ce cj b_ rb).below h hb) hv bo g0 g1 cc m1).mono ?_;rintro e f ⟨d,rfl,al,tn⟩
  have bb:∀b,M3 (G w)<=b->b<M3 (G j)->¬d b:=fun b p S c=>by
   rcases tn.sub b c with q|q
   ·have:=gm b q;omega
   ·omega
  have kp:∀b,M3 (G w)<=b->b<M3 (G j)->_=_:=fun b p S=>tn.fr.block b S (fun q=>by have:=gm b q;omega)
  exact⟨rfl,(kp _ b8 (lt_of_some ai)).trans ai,(kp _ ht (lt_of_some ba)).trans ba,cM hr (fun k e=>kp k (by have:=(cv hr k e).1;omega) (cv hr k e).2),d,al,(ch.of hb).trans tn,bb _ b8 (lt_of_some ai),bb _ ht (lt_of_some ba),fun k e=>bb k (by have:=(cv hr k e).1;omega) (cv hr k e).2⟩
 have aF:aA (∀(w1:az)(a1:Option bG)(c1:Nat),aC w1 (M3 (G (bj w (M5 #[U M4 0,U M4 0] 97)))) 97 2 (H a1 (L fl) c1) (L fl) (ev fl)->C (M3 (G (bj w (M5 #[U M4 0,U M4 0] 97)))) (bj w (M5 #[U M4 0,U M4 0] 97)) w1->
  ∀j,C (M3 (G (bj w1 (M5 #[U M4 kd,H a1 (L fl) c1] 220)))) (bj w1 (M5 #[U M4 kd,H a1 (L fl) c1] 220)) j->Calls O 238 #[aq ce,ak (1+(L fl:Int))] j fun e f=>e=M6 (ak (s.room g cj b_ (1+(L fl:Int))).1)/\f.heap[M3 (G w)]?=Z (M5 #[ak 0,ak 0] 97 (0,0))/\f.heap[M3 (G w1)]?=Z (M5 #[ak kd,H a1 (L fl) c1] 220 (0,0))/\M3 (G w)<M3 (G w1)/\aA (aC f (M3 (G w)+1) 97 2 (H a1 (L fl) c1) (L fl) (ev fl))/\
   aA (∃d,(cG ce cj b_ rb).J d (s.room g cj b_ (1+(L fl:Int))).2 f/\ch F w d f/\¬d (M3 (G w))/\¬d (M3 (G w1))/\∀k,Z k=(Value.slice a1 (L fl) c1).ownBlock->¬d k)):=fun w1 a1 c1 hr hb j u=>by
  have ck:=hb.size;have cl:=u.size;simp at ck cl hr;refine(ci.o j (((((aH _ w).alloc b8 _).trans (hb.mono ac)).alloc aa _).trans (u.mono (by simp;omega))) (M3 (G w1)) a1 c1 ((u.block _ (by simp;omega)).trans ((aS _ _ _ aa).trans ((hb.block _ ac).trans (aP w _)))) ((u.block _ ac).trans (aP w1 _)) aa (cM hr (fun k e=>(u.block k (by have:=(cv hr k e).2;simp;omega)).trans (aS _ _ _ (cv hr k e).2)))).mono ?_;rintro e f ⟨rfl,B,N,cm,cn⟩
  exact⟨rfl,B,N,aa,cm,cn⟩
 have P:=Ko (bj w (M5 #[U M4 0,U M4 0] 97)) ad fl cap ⟨aB.lp.below (b9.alloc b8 _),aB.le,aB.nil⟩ aa;have bp:∀(k:Int)(a:Option bG)(n c:Nat),n<=12->∀w:az,_:=fun k a n c hn w=>vC k a n c aa w;have br:=hide bp;have bd:aA (s.b_ g cj b_ kd fl=if(s.room g cj b_ (1+(L fl:Int))).1=0 then((3,(L (s.room g cj b_ (1+(L fl:Int))).2.T:Int)),0,(s.room g cj b_ (1+(L fl:Int))).2.put kd fl) else((0,0),(s.room g cj b_ (1+(L fl:Int))).1,(s.room g cj b_ (1+(L fl:Int))).2)):=rfl;generalize s.b_ g cj b_ kd fl=R at*;generalize (s.room g cj b_ (1+(L fl:Int))).1=rc at*;generalize (s.room g cj b_ (1+(L fl:Int))).2=s2 at*;have cP:(1+(L fl:Int))<=13:=aa;have cQ:L s2.T<=10000:=aa;clear bp h hv bo aB gm cf cg;by_cases bs:rc=0
 ·subst bs;have am:aA (R=((3,(L s2.T:Int)),0,s2.put kd fl)):=bd.o.trans (aJ rfl)
  clear bd;go_enter func206,ntmps206;go_wp2_with fail;refine P.mono ?_;clear P;rintro e w1 ⟨a1,c1,rfl,an,ao⟩
  have ap:aA (_):=aF.o w1 a1 c1 an ao;clear an ao aF;have P:=br.o kd a1 (L fl) c1 hl (bj w1 (M5 #[U M4 kd,H a1 (L fl) c1] 220))
  go_wp2_with fail;refine P.mono ?_;clear P;rintro e j ⟨rfl,u⟩
  have P:=ap.o j u;clear ap u;go_wp2_with fail;refine P.mono ?_;clear P;rintro e f ⟨rfl,B,N,co,ab,aR⟩
  have bt:aA (V f (av ce 3)=Z (ak (L s2.T))/\∀m,C (M3 (G f)) f m->∃mb i,(V (bj m (M5 #[U M4 3,U M4 (L s2.T)] 97)) (av ce 2)=Z (.map (Z mb))/\V (bj m (M5 #[U M4 3,U M4 (L s2.T)] 97)) (av ce 3)=Z (ak (L s2.T))/\V (bj m (M5 #[U M4 3,U M4 (L s2.T)] 97)) (av (M3 (G w1)) 0)=Z (ak kd)/\V (bj m (M5 #[U M4 3,U M4 (L s2.T)] 97)) (av (M3 (G w1)) 1)=Z (H a1 (L fl) c1))/\
   (Instr.mapUpdate 184 (.map (Z mb)) (ak (L s2.T)) (bF #[ak kd,H a1 (L fl) c1])).run O (bj m (M5 #[U M4 3,U M4 (L s2.T)] 97)).drew=.ok () i/\
   (V i (av ce 2)=Z (.map (Z mb))/\V i (av ce 3)=Z (ak (L s2.T))/\V i (av (M3 (G w1)) 0)=Z (ak kd)/\V i (av (M3 (G w1)) 1)=Z (H a1 (L fl) c1)/\(∀o,i.frozen? (av ce o)=false))/\
   (V i (av (M3 (G m)) 0)=Z (ak 3)/\V i (av (M3 (G m)) 1)=Z (ak (L s2.T)))/\i.heap[M3 (G w)]?=Z (M5 #[ak 0,ak 0] 97 (0,0))/\(ce≠M3 (G w)/\ce≠M3 (G m)/\M3 (G m)≠M3 (G w))/\
   aA (∃d,(cG ce cj b_ rb).J d (s2.put kd fl) (ay (ay (ay i ⟨ce,3,Y⟩ (U M4 (L s2.T+1))) ⟨M3 (G w),0,Y⟩ (U M4 3)) ⟨M3 (G w),1,Y⟩ (U M4 (L s2.T)))/\ch F w d (ay (ay (ay i ⟨ce,3,Y⟩ (U M4 (L s2.T+1))) ⟨M3 (G w),0,Y⟩ (U M4 3)) ⟨M3 (G w),1,Y⟩ (U M4 (L s2.T))))):=by
   obtain⟨d,⟨l,gv,cq,aV⟩,tn,n1,cr,bx⟩:=aR.o;have c:=gv.cells;refine⟨c.2.2.2.1,fun m ar=>?_⟩
   have cs:=c.2.2.2.2.2.2.2.2;have cR:=tn.fr.size;have b0:=ar.size;have W:C (M3 (G f)) f (bj m (M5 #[U M4 3,U M4 (L s2.T)] 97)):=ar.alloc b0 _;have ct:=gv.below W;have ca:=ct.cells;have cu:=(W.block (M3 (G w1)) (lt_of_some N)).trans N;obtain⟨cw,cx,_,_⟩:=du cu;obtain⟨i,be,hM,gr⟩:=(gv.below W.drew).g2.mp.put (t:=184) (e:=220) underlying184 (by have:=gv.g2.mn;omega) (x:=L s2.T) aa aa (bF #[ak kd,H a1 (L fl) c1])
   have a0:∀b,¬d b->l.own b=0:=fun b hb=>by
    cases e:l.own b
    ·rfl
    ·exact absurd ((aV b).2 (by rw[e];omega)) hb
   have bg:=a0 _ n1;have o1:=a0 _ cr;have b1:ce≠l.mb:=fun e=>by have p:=gv.bo;rw[e,gv.g2.dz] at p;omega
   have b2:M3 (G w)≠l.mb:=fun e=>by rw[e,gv.g2.dz] at bg;omega
   have cy:M3 (G w1)≠l.mb:=fun e=>by rw[e,gv.g2.dz] at o1;omega
   have bi:ce≠M3 (G w):=fun e=>by have p:=gv.bo;rw[e,bg] at p;omega
   have lm:_:=gv.lt _ (by rw[gv.g2.dz];decide)
   have l0:=lt_of_some B;have l1:=lt_of_some N;have k5:∀b,b<M3 (G m)+1->b≠l.mb->_=_:=fun b hb hn=>gr.block b (by simp;omega) (fun e=>hn (qo e))
   have ag:∀b,b<M3 (G f)->b≠l.mb->_=_:=fun b hb hn=>(k5 b aa hn).trans (W.block b hb)
   have a2:=(ag ce cs b1).trans gv.blk;have cz:=(k5 (M3 (G m)) aa aa).trans (aP m _)
   obtain⟨b3,y1,_,_⟩:=du cz;obtain⟨cA,t3,_,_⟩:=du ((ag _ l1 cy).trans N)
   have b4:M3 (G i)=M3 (G (ay (ay (ay i ⟨ce,3,Y⟩ (U M4 (L s2.T+1))) ⟨M3 (G w),0,Y⟩ (U M4 3)) ⟨M3 (G w),1,Y⟩ (U M4 (L s2.T)))):=ac;have cB:_:=aU (aU b0 ac) gr.size;have a3:∀b,b≠ce->b≠M3 (G w)->(ay (ay (ay i ⟨ce,3,Y⟩ (U M4 (L s2.T+1))) ⟨M3 (G w),0,Y⟩ (U M4 3)) ⟨M3 (G w),1,Y⟩ (U M4 (L s2.T))).heap[b]?=i.heap[b]?:=fun b p S=>(aX _ _ _ _ S).trans ((aX _ _ _ _ S).trans (aX _ _ _ _ p))
   refine⟨l.mb,i,⟨ca.2.2.1,ca.2.2.2.1,cw,cx⟩,be,⟨by simp[World.cell?,a2],by simp[World.cell?,a2],cA,t3,fun o=>by simp[World.frozen?,a2]⟩,⟨b3,y1⟩,(ag _ l0 b2).trans B,⟨bi,aa,aa⟩,?_⟩
   obtain⟨b5,cC,cD,cE⟩:=gv.new (kd:=kd) (fl:=fl) (a:=a1) (cp:=c1) (aU cB (Nat.le_of_eq b4)) (fun b h0 p S=>(a3 b (fun e=>p (by rw[e];exact gv.bo)) (fun e=>h0 (by rw[e];exact bg))).trans (ag b (gv.lt b h0) (fun e=>S (by rw[e];exact gv.g2.dz)))) (by
    rw[aX _ _ _ _ bi,aX _ _ _ _ bi];simp only [World.setCell,Array.getElem?_modify,if_true,a2,Option.map_some];rfl) (hM.same (a3 _ b1.symm b2.symm)) (cM (fq ab.o (fun k e=>a5 _)) (fun k e=>by
     have ok:=a0 k (bx k e)
     have hk:=cv ab.o k e;exact(a3 k (fun q=>by have p:=gv.bo;rw[<-q,ok] at p;omega) aa).trans (ag k hk.2 (fun q=>by have p:=gv.g2.dz;rw[<-q,ok] at p;omega)))) (fun k e=>a0 k (bx k e))
   refine⟨fun b=>b5.own b≠0,⟨b5,cC,cE.trans cq,fun _=>Iff.rfl⟩,⟨⟨?_,?_,?_,by rw[<-b4];omega,fun k hk hn=>?_⟩,fun b hb=>?_⟩⟩
   ·exact(show _=i.os from rfl).trans (gr.os.trans (W.os.trans tn.fr.os))
   ·exact(show _=i.tape from rfl).trans (gr.tape.trans (W.tape.trans tn.fr.tape))
   ·exact(show _=i.output from rfl).trans (gr.output.trans (W.output.trans tn.fr.output))
   ·have b6:∀b,d b->b<M3 (G w)->F b:=fun b p S=>(tn.sub b p).resolve_right aa;exact(a3 k (fun e=>hn (b6 k ((aV k).2 (by rw[e,gv.bo];decide)) hk)) aa).trans ((ag k aa (fun e=>hn (b6 k ((aV k).2 (by rw[e,gv.g2.dz];decide)) hk))).trans (tn.fr.block k hk hn))
   ·rcases cD b hb with q|q
    ·exact tn.sub b ((aV b).2 q)
    ·exact aK (by have:=(cv ab.o b q).1;omega)
  clear ab aR B N;obtain⟨cF,a4⟩:=bt.o;have a4:aA (_):=a4;clear bt;have P:=o4 (L s2.T) f;go_wp2_with fail;refine P.mono ?_;clear P;rintro e m ⟨rfl,ar⟩
  obtain⟨mb,i,⟨cH,cI,q0,q1⟩,be,⟨cJ,cS,v0,v1,cb⟩,⟨b3,y1⟩,bl,⟨cK,cT,cU⟩,cL⟩:=a4.o m ar;have cV:=cb 3;obtain⟨cN,ai,cO,lw⟩:=du bl;have bn:aA (_=_):=bl;clear ar a4 bl cF cb;go_wp2_with fail
  go_region_held3 (fun w'=>V w' (av ce 2)=Z (.map (Z mb))/\V w' (av ce 3)=Z (ak (L s2.T))/\V w' (av (M3 (G w1)) 0)=Z (ak kd)/\V w' (av (M3 (G w1)) 1)=Z (H a1 (L fl) c1)) (go_keep) (fail)
  all_goals
   clear cH cI q0 q1 be cJ v0 v1;go_wp2_with fail;obtain⟨r0,r1,_,_⟩:=du (hD (v1:=ak 3) (v2:=ak (L s2.T)) ((aX i ⟨ce,3,Y⟩ (ak (L s2.T+1)) (M3 (G w)) cK.symm).trans bn.o))
   obtain⟨d,al,tn⟩:=cL.o;exact a6 (v:=a8 #[bF #[ak 3,ak (L s2.T)],ak 0]) (by simp[results,results206,go_sem,r0,r1]) rfl ⟨d,by rw[am.o],by rw[am.o];exact al,tn⟩
 ·have am:=hide (bd.o.trans (aI bs))
  go_enter func206,ntmps206;go_wp2_with fail;refine P.mono ?_;clear P;rintro e w1 ⟨a1,c1,rfl,an,ao⟩
  have ap:aA (_):=aF.o w1 a1 c1 an ao;clear an ao aF;have P:=br.o kd a1 (L fl) c1 hl (bj w1 (M5 #[U M4 kd,H a1 (L fl) c1] 220))
  go_wp2_with fail;refine P.mono ?_;clear P;rintro e j ⟨rfl,u⟩
  have P:=ap.o j u;clear ap u;go_wp2_with fail;refine P.mono ?_;clear P;rintro e f ⟨rfl,B,N,co,ab,aR⟩
  obtain⟨cN,ai,cO,lw⟩:=du B;have bn:aA (_=_):=B;clear B N ab;go_wp2_with fail;obtain⟨r0,r1,_,_⟩:=du (hD (v1:=ak 0) (v2:=ak 0) bn.o)
  obtain⟨d,al,tn,n1,_⟩:=aR.o;exact a6 (v:=a8 #[bF #[ak 0,ak 0],ak rc]) (by simp[results,results206,go_sem,r0,r1]) rfl ⟨d,by rw[am.o],by rw[am.o];exact(cG ce cj b_ rb).set2 al n1 _ _,tn.set2 b8 _ _⟩
end
theorem Kr {P:Program}(w:az)(c g ty b:bU)(d a:Option bG)(e j f k:Nat)(l:P.underlying c=Z (.slice b))(hs:(P.info? b).map (·.size)=Z 2)(hn:pq f e=0):
 (Builtin.copy_ #[c,g] ty #[.slice d e j,.slice a f k]).run P w=.ok (goInt 0) w:=by
 cases hq:P.info? b with
 |none=>simp[hq] at hs
 |some i=>
  have hl:∀(x:bG),(loadCells x 0).run P w=.ok #[] w:=fun x=>by simpa using run_loadCells_list (P:=P) w x [] ac
  cases d<;>cases a<;>simp[Builtin.copy_,run_underlying l,Builtin.lenOf,Builtin.firstCells,sizeOf,typeInfo,hq,hn,storeCells,hl]
theorem Ks {P:Program}(w:az)(e l ty d:bU)(g o f m:Nat)(a:bG)(k p:Nat)(c:Array bD)(t:bU)(b:List bD)(n:Nat)
 (q:P.underlying e=Z (.slice d))(hs:(P.info? d).map (·.size)=Z 2)
 (hg:w.heap[g]?=Z (M5 c t (0,0)))(hm:n=pq k f)(hn:b.length=n*2)
 (s:∀j v,b[j]?=Z v->V w (a.add j)=Z v)(u:o+b.length<=c.size)(x:∀v∈b,v.oneCell'=D):
 (Builtin.copy_ #[e,l] ty #[.slice (Z ⟨g,o,Y⟩) f m,.slice (Z a) k p]).run P w=
   .ok (goInt n) (w.setRow g (c.toList.take o++b++c.toList.drop (o+b.length)).toArray):=by
 have hl:=run_loadCells_list (P:=P) w a b s;have B:=run_storeCells_at P g o t b 0 c w hg (by simpa using u) x;rw[hn] at hl;cases hq:P.info? d with
 |none=>simp[hq] at hs
 |some i=>
  have hi:i.size=2:=by simpa[hq] using hs
  simp[Builtin.copy_,run_underlying q,Builtin.lenOf,Builtin.firstCells,sizeOf,typeInfo,hq,hi,<-hm,hl,B]
theorem BL {P:Program}{ops:Array Oper}{o:Oper}{a:Act}{w:az}{K:Act->az->Prop}{Q:Exit->Act->az->Prop}{E:Prop}(N:o.guard=Y)(x s:Operand)(c l d:bU)
 (ho:o.op=.call {callee:=.builtin .copy,args:=#[x,s],argTypes:=#[c,l]})(B:P.underlying c=Z (.slice d))(F:(P.info? d).map (·.size)=Z 2)
 (m sp:Option bG)(e p f q:Nat)(hd:a.eval x=.slice m e p)(hs:a.eval s=.slice sp f q)
 (g i:Nat)(k:List bD)(t:bU)(hg:w.heap[g]?=Z (M5 k.toArray t (0,0)))(b:List bD)(n:Nat)(hm:n=pq f e)(hn:b.length=n*2)
 (S:0<n->m=Z ⟨g,i,Y⟩/\∃ad,sp=Z ad/\∀j v,b[j]?=Z v->V w (ad.add j)=Z v)
 (W:i+b.length<=k.length)(ab:∀v∈b,v.oneCell'=D)
 (h:∀w',lX w w' g k i b->K (a.put o.dst (goInt n)) w'):
 if Region.wanted o (yielded ops a.tmps)=D then Oper.wp P o a w K Q else E:=by
 rw[aJ (show Region.wanted o (yielded ops a.tmps)=D by simp[Region.wanted,N])];rcases Nat.eq_zero_or_pos n with h0|h0
 ·subst h0;have ag:b=[]:=List.eq_nil_of_length_eq_zero aa;subst ag;have u:=Kr (P:=P) w c l o.type d m sp e p f q B F hm.symm;unfold Oper.wp;simp[execOp,ho,resolve,invoke,builtin,hd,hs,u,Result.andThen];exact h w (aM ⟨rfl,rfl⟩)
 ·obtain⟨ai,ad,al,am⟩:=S h0;subst ai al;have u:=Ks (P:=P) w c l o.type d g i e p ad f q k.toArray t b n B F hg hm hn am (by simpa using W) ab;unfold Oper.wp;simp[execOp,ho,resolve,invoke,builtin,hd,hs,u,Result.andThen];exact h _ (aK (by simp[nS]))
theorem Kt {P:Program}{ops:Array Oper}{q:List Oper}{o:Oper}{a:Act}{w:az}{Q:Exit->Act->az->Prop}(e:o.guard=Y)(f s:Operand)(i u k:bU)
 (ho:o.op=.call {callee:=.builtin .copy,args:=#[f,s],argTypes:=#[i,u]})(F:P.underlying i=Z (.slice k))(N:(P.info? k).map (·.size)=Z 2)
 (l sp:Option bG)(m x p B:Nat)(hd:a.eval f=.slice l m x)(hs:a.eval s=.slice sp p B)
 (g c:Nat)(d:List bD)(t:bU)(hg:w.heap[g]?=Z (M5 d.toArray t (0,0)))(b:List bD)(n:Nat)(hm:n=pq p m)(hn:b.length=n*2)
 (S:0<n->l=Z ⟨g,c,Y⟩/\∃ad,sp=Z ad/\∀j v,b[j]?=Z v->V w (ad.add j)=Z v)
 (W:c+b.length<=d.length)(ab:∀v∈b,v.oneCell'=D)
 (h:∀w',lX w w' g d c b->wpList P ops Q q (a.put o.dst (goInt n)) w'):wpList P ops Q (o::q) a w:=
 wpList_plain e fun K ag=>by
  have:=BL (P:=P) (ops:=#[]) (o:=o) (a:=a) (w:=w) (K:=K) (Q:=Q) (E:=False) e f s i u k ho F N l sp m x p B hd hs g c d t hg b n hm hn S W ab (fun w' hw=>ag _ _ (h w' hw))
  rwa [aJ (show Region.wanted o (yielded #[] a.tmps)=D by simp[Region.wanted,e])] at this
theorem Ku (c:Nat)(hc:c<=12)(w:az):J O 223 #[U sQ 1,U sQ c] w fun e w'=>e=M6 (a8 #[U sQ 0,U sQ c])/\w'=w:=by exact AI
theorem Kw (c:Nat)(hc:c<=12)(w:az):J O 167 #[U sQ 1,U sQ c] w fun e w'=>e=M6 (a8 #[U sQ 0,U sQ c])/\w'=w:=by have P:=Ku c hc w;exact AJ
def g8 (c:Nat)(v:Int×Int)(n:Nat):List (Int×Int):=Ni n v++Ni (c-n) (0,0)
theorem BM (c:Nat)(v:Int×Int)(n:Nat)(h:n<=c):L (g8 c v n)=c:=by simp[g8];omega
theorem lI (n:Nat)(v:Int×Int):L (ev (Ni n v))=n*2:=by rw[lh,hV]
theorem Kx (c:Nat)(v:Int×Int)(n m:Nat)(h:n+m<=c):nS (ev (g8 c v n)) (n*2) (ev (Ni m v))=ev (g8 c v (n+m)):=by
 unfold nS g8;have b:(Ni (c-n) ((0:Int),(0:Int)))=Ni m (0,0)++Ni (c-(n+m)) (0,0):=by
  rw[p0]
  congr 1
  omega
 have d:List.drop (n*2+m*2) (ev (Ni n v)++(ev (Ni m ((0:Int),(0:Int)))++ev (Ni (c-(n+m)) (0,0))))=ev (Ni (c-(n+m)) (0,0)):=by rw[<-bw];exact List.drop_left' (by rw[a7,lI,lI])
 rw[jp,List.take_left' (lI n v),lI,b,jp,d,<-p0,jp,jp,bw]
theorem Ky (c:Nat)(v:Int×Int)(n m:Nat)(hm:m<=n):∃r,ev (g8 c v n)=ev (Ni m v)++r:=by
 refine⟨ev (Ni (n-m) v)++ev (Ni (c-n) (0,0)),?_⟩
 unfold g8;rw[<-bw,<-jp,p0,<-jp]
 congr 3
 omega
theorem Kz {c:Nat}{w:az}{nb n:Nat}{v:Int×Int}(hr:w.heap[nb]?=Z (M5 (ev (g8 c v n)).toArray 97 (0,0)))(m:Nat)(hm:m<=n):∀j u,(ev (Ni m v))[j]?=Z u->V w ((⟨nb,0,Y⟩:bG).add j)=Z u:=by
 intro j u b;obtain⟨r,e⟩:=Ky c v n m hm;have d:=(rT.1 b).1;rw[Addr.add_lit];have:(ev (g8 c v n))[j]?=Z u:=by rw[e,List.getElem?_append_left d];exact b
 rw[b7];simp[World.cell?,hr,this]
theorem BN {c:Nat}{w w':az}{nb n m B:Nat}{v:Int×Int}(b:lX w w' nb (ev (g8 c v n)) (n*2) (ev (Ni m v)))(hr:w.heap[nb]?=Z (M5 (ev (g8 c v n)).toArray 97 (0,0)))(h:n+m<=c)(hB:B<=nb):w'.heap[nb]?=Z (M5 (ev (g8 c v (n+m))).toArray 97 (0,0))/\C B w w':=by
 rcases b with⟨h0,rfl⟩|rfl
 ·have:=congrArg L h0;rw[lI] at this
  simp only [List.length_nil] at this
  obtain rfl:m=0:=aa;exact⟨hr,aH _ _⟩
 ·rw[Kx c v n m h];exact⟨setRow_heap w nb _ _ _ _ hr,⟨rfl,rfl,rfl,by simp[World.setRow],fun k hk=>setRow_other w nb k _ aa⟩⟩
theorem BO:(prog.info? 97).map (·.size)=Z 2:=ah
theorem KB {w:az}{b k n:Nat}(hn:n<=12)(h:aC w b 97 2 (H (au k) n n) n (madeCells (Value.agg #[ak 0,ak 0]).cells (n*2)).toList):
 w.heap[k]?=Z (M5 (ev (Ni n (0,0))).toArray 97 (0,0)):=by
 obtain⟨j,d⟩:=h;rcases d with⟨e,_⟩|⟨m,cap,c,hv,hb,f,o,p,q,g⟩
 ·cases e
 ·cases hv;rw[f];have:c.toList=ev (Ni n (0,0)):=by rw[<-List.take_of_length_le (l:=c.toList) (i:=n*2) (by simp;omega),g];rcases(show n=0\/n=1\/n=2\/n=3\/n=4\/n=5\/n=6\/n=7\/n=8\/n=9\/n=10\/n=11\/n=12 by omega) with rfl|rfl|rfl|rfl|rfl|rfl|rfl|rfl|rfl|rfl|rfl|rfl|rfl<;>kernel_rfl
  rw[<-this]
theorem KC {w:az}{b:Nat}{v:Int×Int}{m:Nat}(hm:m<=1)(h0:V w (av b 0)=Z (ak v.1))(d:V w (av b 1)=Z (ak v.2)):∀j u,(ev (Ni m v))[j]?=Z u->V w ((⟨b,0,Y⟩:bG).add j)=Z u:=by
 intro j u c;have e:=(rT.1 c).1;rw[lI] at e;obtain rfl:m=1:=aa
 match j,c with
 |0,c=>simp[ev] at c;rw[<-c];simpa[Addr.add] using h0
 |1,c=>simp[ev] at c;rw[<-c];simpa[Addr.add] using d
 |j+2,_=>omega
theorem BP (w:az)(b c:Nat)(v:Int×Int)(F:c<=12)(N:V w (av b 0)=Z (ak v.1))(aF:V w (av b 1)=Z (ak v.2)):
 J O 131 #[H (au b) 1 1,ak c] w fun e w'=>∃nb,e=M6 (H (au nb) c c)/\M3 (G w)<=nb/\w'.heap[nb]?=Z (M5 (ev (Ni c v)).toArray 97 (0,0))/\C (M3 (G w)) w w':=by
 obtain⟨S,hi,aR,aV,a0⟩:=info_parts sr;have lb:=aT w _ N;dsimp only at lb;have W:=Kw c F w;have a1:aA (g8 c v c=Ni c v):=by show _=_;simp[g8]
 have c1:(c:Int)<=12:=aa;go_enter func131,ntmps131;go_wp2_with fail;refine W.mono ?_;clear W;rintro e w0 ⟨rfl,hw⟩
 have hw:=hw.symm;subst hw
 go_upto_region 7 with(at_make;refine wpList_make_full _ rfl _ _ 57 rfl (M3 (G w)) 97 S (bF #[ak 0,ak 0]) 2 underlying57 hi aR aV M4 M4 _ _ c rfl rfl aa aa (by rw[a0];omega) (by unfold maxLen;omega) b8 ?_;intro w1 ab ad)
 have hr:w1.heap[M3 (G w)]?=Z (M5 (ev (g8 c v 0)).toArray 97 (0,0)):=by have a2:=KB F ab;simpa[g8] using a2
 have i:C (M3 (G w)) w w1:=(aH _ w).grown ad b8 (fun _ h=>by cases h)
 have ag:=(i.cell (p:=av b 0) lb).trans N;have ai:=(i.cell (p:=av b 1) lb).trans aF;clear ab ad;have o:pq 1 c<=1:=Nat.min_le_left _ _;have d:pq 1 c<=c:=Nat.min_le_right _ _;have k:0<c->1<=pq 1 c:=fun h=>by simp only [tV];split<;>omega
 have f:aA (∀j u,(ev (Ni (pq 1 c) v))[j]?=Z u->V w1 ((⟨b,0,Y⟩:bG).add j)=Z u):=KC o ag ai;have q:aA (w1.heap[M3 (G w)]?=Z (M5 (ev (g8 c v 0)).toArray 97 (0,0))):=hr;have g:aA (0*2+L (ev (Ni (pq 1 c) v))<=L (ev (g8 c v 0))):=by show _<=_;rw[lI,lh,BM c v 0 aa];omega
 clear ag ai hr;go_wp2_with (refine Kt rfl _ _ 57 57 97 rfl underlying57 BO (au (M3 (G w))) (au b) c c 1 1 rfl rfl (M3 (G w)) (0*2) (ev (g8 c v 0)) 97 q.o (ev (Ni (pq 1 c) v)) (pq 1 c) rfl (lI _ _) (fun _=>⟨rfl,_,rfl,f.o⟩) g.o (ot _) ?_;intro be al)
 obtain⟨s,am⟩:=BN (B:=M3 (G w)) al q.o aa b8
 rw[b7] at s;have an:=i.trans am;have t:aA (pq 1 c<=c/\(0<c->1<=pq 1 c)):=⟨d,k⟩
 clear al f q g i am o d k;generalize pq 1 c=a3 at*
 go_loopw [8] (fun nv wr=>∃n:Nat,(0<c->1<=n)/\n<=c/\nv=ak n/\aA (wr.heap[M3 (G w)]?=Z (M5 (ev (g8 c v n)).toArray 97 (0,0)))/\C (M3 (G w)) w wr) (fun nv _=>c-M (intOf nv))
 case atStart=>exact⟨a3,t.o.2,t.o.1,rfl,s,an⟩
 case round=>
  clear s an t;obtain⟨n,n1,a4,rfl,x,hb⟩:=hrel;by_cases bg:n<c
  ·have n1:=n1 aa;obtain⟨m,hm,o,d,k⟩:∃m,m=pq n (c-n)/\0<m/\n+m<=c/\m<=n:=⟨_,rfl,by simp only [tV];split<;>omega,by simp only [tV];split<;>omega,by simp only [tV];split<;>omega⟩
   have l:aA (wr.drew.heap[M3 (G w)]?=Z (M5 (ev (g8 c v n)).toArray 97 (0,0))):=x.o;have f:aA (∀j u,(ev (Ni m v))[j]?=Z u->V wr.drew ((⟨M3 (G w),0,Y⟩:bG).add j)=Z u):=Kz l.o m k;have g:aA (n*2+L (ev (Ni m v))<=L (ev (g8 c v n))):=by show _<=_;rw[lI,lh,BM c v n a4];omega
   have bi:¬c=n:=aa;have S:(0:Int)<=(n:Int):=aa;have bl:(n:Int)<=(c:Int):=aa;have bn:(n:Int)<(c:Int):=aa;clear x;go_wp2_with fail
   go_region_law (refine BL rfl (.tmp 41) (.tmp 44) 57 57 97 rfl underlying57 BO (Z ⟨M3 (G w),n*2,Y⟩) (au (M3 (G w))) (c-n) (c-n) n c ?_ ?_ (M3 (G w)) (n*2) (ev (g8 c v n)) 97 l.o (ev (Ni m v)) m hm (lI _ _) (fun _=>⟨rfl,_,rfl,f.o⟩) g.o (ot _) ?_;(simp[Act.eval,Act.put]);(simp[Act.eval,Act.put]);intro ba ao)
   obtain⟨ap,ar⟩:=BN (B:=M3 (G w)) ao l.o d b8
   have bb:aA (ba.heap[M3 (G w)]?=Z (M5 (ev (g8 c v (n+m))).toArray 97 (0,0))):=ap;have bd:=hb.drew.trans ar;have hw:IntKind.i64.wrap ((n:Int)+(m:Int))=((n+m:Nat):Int):=by rw[bA];omega
   clear ap ar ao l f g hb;simp[Act.put,go_sem,Exit.inBlock];rw[<-hm,hw];refine⟨⟨_,_,_,_,_,_,_,_,_,_,_,_,_,_,?rel,rfl⟩,?measure⟩
   case rel=>exact⟨n+m,fun _=>aa,d,rfl,bb,bd⟩
   case measure=>simp[intOf];omega
  ·obtain rfl:n=c:=aa;have aB:=x.o;rw[a1.o] at aB;go_wp2_with fail;go_ret;exact⟨M3 (G w),rfl,aG _,aB,hb⟩
section
variable {ce rb:Nat}{cj b_:Int}{F:Nat->Prop}{s:cn}{w:az}{g:eg}
theorem KD (g:List Bool->List Bool)(s:cn)(b_:Int)(mj:Bool):(s.cut g b_ mj).rs=s.rs:=by unfold cn.cut;split<;>rfl
theorem BQ (g:eg)(cj b_:Int)(s:cn)(m:Int):(s.room g cj b_ m).2.rs=s.rs:=by
 unfold cn.room;split
 ·rfl
 ·exact KD _ _ _ _
theorem vK (g:eg)(cj b_:Int)(s:cn)(kd:Int)(fl:List _):(s.b_ g cj b_ kd fl).2.2.rs=s.rs:=by
 unfold cn.b_;split
 ·exact BQ _ _ _ _ _
 ·exact BQ _ _ _ _ _
theorem KE (s:cn)(v:Int×Int):(s.pop v).2.2.rs=s.rs:=by
 unfold cn.pop;split
 ·split<;>rfl
 ·rfl
theorem kD (h:(cG ce cj b_ rb).J F s w):V w (av ce 6)=Z (H (au rb) 12 12)/\(∀i,i<12->V w (av rb (i*2))=Z (ak (X s.rs i (0,0)).1)/\V w (av rb (i*2+1))=Z (ak (X s.rs i (0,0)).2))/\F ce/\F rb:=by obtain⟨l,h,rfl,b⟩:=h;have c:=h.g4.cells.2.2;exact⟨h.cells.2.2.2.2.2.2.1,fun i hi=>⟨(c i hi).1,(c i hi).2.1⟩,(b _).2 (by rw[h.bo];decide),(b _).2 (by rw[h.g4.ro];decide)⟩
theorem fN {w:az}{b c o:Nat}{x v0 v1:bD}(hn:b≠c)(h:V w (av b o)=Z x):V (ay (ay w ⟨c,0,Y⟩ v0) ⟨c,1,Y⟩ v1) (av b o)=Z x:=by exact BK
theorem vL (h:(cG ce cj b_ rb).J F s w)(hv:fK s)(N:dB s.T s.wt (g s.T s.wt))(g0:-1000000<=b_)(g1:b_<=1000000)(aF:-1000000<=cj)(m1:cj<=1000000)(R I n:Int){k kd:Int}(hk:k=4/\kd=1\/k=6/\kd=3\/k=7/\kd=4)(A B:Nat)(o:A<12)(hB:B<12):
 Calls O 136 #[aq ce,eb k R A B I n] w fun e w'=>∃d,e=M6 (a8 #[bF #[ak (s.b_ g cj b_ kd [X s.rs A (0,0),X s.rs B (0,0)]).1.1,ak (s.b_ g cj b_ kd [X s.rs A (0,0),X s.rs B (0,0)]).1.2],ak (s.b_ g cj b_ kd [X s.rs A (0,0),X s.rs B (0,0)]).2.1])/\(cG ce cj b_ rb).J d (s.b_ g cj b_ kd [X s.rs A (0,0),X s.rs B (0,0)]).2.2 w'/\ch F w d w':=by
 have gm:∀b,F b->b<M3 (G w):=fun b hb=>(cG ce cj b_ rb).lt h b hb;have p:C (M3 (G w)) w (bj (w.alloc (cH k R A B I n)) (M5 #[U M4 0,U M4 0] 97)):=(b9.alloc b8 _).alloc ac _;have q:(bj (w.alloc (cH k R A B I n)) (M5 #[U M4 0,U M4 0] 97)).heap[M3 (G w)]?=Z (cH k R A B I n):=(aS _ _ _ ac).trans (aP w _)
 have S:=gH w (cH k R A B I n) (M5 #[U M4 0,U M4 0] 97)
 obtain⟨aR,rt,W,ab⟩:=kD ((cG ce cj b_ rb).below h p)
 obtain⟨aV,a2⟩:=rt A o;obtain⟨a3,a4⟩:=rt B hB;obtain⟨q0,q1,ba,q3,bb,bd⟩:=ez q;have bt:=gm _ W;have bx:=gm _ ab;have ag:M3 (G (bj (w.alloc (cH k R A B I n)) (M5 #[U M4 0,U M4 0] 97)))=M3 (G w)+1+1:=ac;have t:Calls O 206 #[aq ce,ak kd,H (au (M3 (G w)+1+1)) 2 2] (bj (bj (w.alloc (cH k R A B I n)) (M5 #[U M4 0,U M4 0] 97)).drew (M5 #[U M4 (X s.rs A (0,0)).1,U M4 (X s.rs A (0,0)).2,U M4 (X s.rs B (0,0)).1,U M4 (X s.rs B (0,0)).2] 97)) fun e c=>∃d,e=M6 (a8 #[bF #[ak (s.b_ g cj b_ kd [X s.rs A (0,0),X s.rs B (0,0)]).1.1,ak (s.b_ g cj b_ kd [X s.rs A (0,0),X s.rs B (0,0)]).1.2],ak (s.b_ g cj b_ kd [X s.rs A (0,0),X s.rs B (0,0)]).2.1])/\
  (V c (av ce 6)=Z (H (au rb) 12 12)/\V c (av rb (A*2))=Z (ak (X s.rs A (0,0)).1)/\V c (av rb (A*2+1))=Z (ak (X s.rs A (0,0)).2)/\V c (av rb (B*2))=Z (ak (X s.rs B (0,0)).1)/\V c (av rb (B*2+1))=Z (ak (X s.rs B (0,0)).2)/\V c (av (M3 (G w)) 2)=Z (ak A)/\V c (av (M3 (G w)) 3)=Z (ak B))/\
  c.heap[M3 (G w)+1]?=Z (M5 #[ak 0,ak 0] 97 (0,0))/\aA ((cG ce cj b_ rb).J d (s.b_ g cj b_ kd [X s.rs A (0,0),X s.rs B (0,0)]).2.2 c/\ch F w d c/\¬d (M3 (G w)+1)):=by
  have b1:C (M3 (G w)) w (bj (bj (w.alloc (cH k R A B I n)) (M5 #[U M4 0,U M4 0] 97)).drew (M5 #[U M4 (X s.rs A (0,0)).1,U M4 (X s.rs A (0,0)).2,U M4 (X s.rs B (0,0)).1,U M4 (X s.rs B (0,0)).2] 97)):=p.drew.alloc (by simp;omega) _;have u:M3 (G (bj (bj (w.alloc (cH k R A B I n)) (M5 #[U M4 0,U M4 0] 97)).drew (M5 #[U M4 (X s.rs A (0,0)).1,U M4 (X s.rs A (0,0)).2,U M4 (X s.rs B (0,0)).1,U M4 (X s.rs B (0,0)).2] 97)))=M3 (G w)+1+1+1:=ac;have hn:=aP (bj (w.alloc (cH k R A B I n)) (M5 #[U M4 0,U M4 0] 97)).drew (M5 #[U M4 (X s.rs A (0,0)).1,U M4 (X s.rs A (0,0)).2,U M4 (X s.rs B (0,0)).1,U M4 (X s.rs B (0,0)).2] 97)
  have ai:M3 (G (bj (w.alloc (cH k R A B I n)) (M5 #[U M4 0,U M4 0] 97)).drew)=M3 (G w)+1+1:=ag;rw[ai] at hn;refine(vJ (g:=g) (kd:=kd) (fl:=[X s.rs A (0,0),X s.rs B (0,0)]) (ad:=au (M3 (G w)+1+1)) (cap:=2) ((cG ce cj b_ rb).below h b1) hv N g0 g1 aF m1 ac ⟨fun _=>⟨M3 (G w)+1+1,0,rfl,by rw[u];omega,fun i hi=>?_⟩,ac,fun e=>by cases e⟩).mono ?_
  ·have hi:i<2:=hi;rcases(show i=0\/i=1 by omega) with rfl|rfl<;>simp only [World.cell?,hn]<;>exact⟨rfl,rfl⟩
  ·rintro e c ⟨d,rfl,al,tn⟩
   obtain⟨l,j,_,_⟩:=kD al;rw[vK] at j;have kp:∀b,M3 (G w)<=b->b<M3 (G w)+1+1->c.heap[b]?=(bj (w.alloc (cH k R A B I n)) (M5 #[U M4 0,U M4 0] 97)).heap[b]?:=fun b b0 b2=>(tn.fr.block b (by rw[u];omega) (fun f=>by have:=gm b f;omega)).trans (aS (bj (w.alloc (cH k R A B I n)) (M5 #[U M4 0,U M4 0] 97)).drew _ b (by rw[ai];omega))
   have be:=(kp _ b8 aa).trans q;obtain⟨_,_,bg,bi,_,_⟩:=ez be;refine⟨d,rfl,⟨l,(j A o).1,(j A o).2,(j B hB).1,(j B hB).2,bg,bi⟩,(kp _ aa aa).trans S,al,(ch.of b1).trans tn,fun f=>?_⟩
   rcases tn.sub _ f with f|f
   ·have:=gm _ f;omega
   ·rw[u] at f;omega
 generalize s.b_ g cj b_ kd [X s.rs A (0,0),X s.rs B (0,0)]=gr at*;obtain⟨⟨v0,v1⟩,cd,b3⟩:=gr;dsimp only at t⊢;generalize (X s.rs A (0,0)).1=a0 at*;generalize (X s.rs A (0,0)).2=a1 at*;generalize (X s.rs B (0,0)).1=bl at*;generalize (X s.rs B (0,0)).2=bn at*;have b4:(0:Int)<=(A:Int):=aa;have b5:(A:Int)<12:=aa;have b6:(0:Int)<=(B:Int):=aa;have ca:(B:Int)<12:=aa;have bo:ce≠M3 (G w)+1:=aa;have m:rb≠M3 (G w)+1:=aa;have nx:M3 (G w)≠M3 (G w)+1:=aa;clear h hv N p q S rt gm W ab q0 q1 bb bd ag;rcases hk with⟨rfl,rfl⟩|⟨rfl,rfl⟩|⟨rfl,rfl⟩
 all_goals
  go_enter func136,ntmps136;go_wp2_with fail
  go_region_held3 (fun w'=>V w' (av ce 6)=Z (H (au rb) 12 12)/\V w' (av rb (A*2))=Z (ak a0)/\V w' (av rb (A*2+1))=Z (ak a1)/\V w' (av rb (B*2))=Z (ak bl)/\V w' (av rb (B*2+1))=Z (ak bn)/\V w' (av (M3 (G w)) 2)=Z (ak A)/\V w' (av (M3 (G w)) 3)=Z (ak B)) (first|exact⟨fN bo am,fN m an,fN m ao,fN m ap,fN m ar,fN nx l,fN nx aB⟩|(go_keep;done))
   (first|(go_at_call 206;refine t.mono ?_;clear t;rintro e c ⟨d,rfl,⟨am,an,ao,ap,ar,l,aB⟩,y1,x⟩;obtain⟨r0,r1,cb,lw⟩:=du y1;have bp:aA (_=_):=y1;clear y1 aR aV a2 a3 a4 ba q3))
  all_goals
   clear am an ao ap ar l aB ‹_/\_›;go_wp2_with fail;obtain⟨br,bs,_,_⟩:=du (hD (v1:=ak v0) (v2:=ak v1) bp.o)
   exact a6 (v:=a8 #[bF #[ak v0,ak v1],ak cd]) (by simp[results,results136,go_sem,br,bs]) rfl ⟨d,rfl,dC.set2 _ x.o.1 x.o.2.2 _ _,x.o.2.1.set2 (nC _) _ _⟩
end
section
variable {ce rb:Nat}{cj b_:Int}{F F':Nat->Prop}{s S2:cn}{w W1 w2:az}{k R A B I n:Int}
abbrev hQ (w:az)(k R A B I n:Int):az:=bj (w.alloc (cH k R A B I n)) (M5 #[U M4 0,U M4 0] 97)
theorem mx (h:(cG ce cj b_ rb).J F s w)(k R A B I n:Int):C (M3 (G w)) w (hQ w k R A B I n)/\(hQ w k R A B I n).heap[M3 (G w)]?=Z (cH k R A B I n)/\(hQ w k R A B I n).heap[M3 (G w)+1]?=Z (M5 #[ak 0,ak 0] 97 (0,0))/\V (hQ w k R A B I n) (av ce 6)=Z (H (au rb) 12 12)/\
 (∀i,i<12->V (hQ w k R A B I n) (av rb (i*2))=Z (ak (X s.rs i (0,0)).1)/\V (hQ w k R A B I n) (av rb (i*2+1))=Z (ak (X s.rs i (0,0)).2))/\ce≠M3 (G w)+1/\rb≠M3 (G w)+1:=by
 have b:C (M3 (G w)) w (hQ w k R A B I n):=(b9.alloc b8 _).alloc ac _;obtain⟨c,rt,d,e⟩:=kD ((cG ce cj b_ rb).below h b)
 have l1:=(cG ce cj b_ rb).lt h _ d;have l2:=(cG ce cj b_ rb).lt h _ e;exact⟨b,(aS _ _ _ ac).trans (aP w _),gH w _ _,c,rt,aa,aa⟩
theorem o7 (h:(cG ce cj b_ rb).J F s w)(b1:C (M3 (G w)) w W1)(e:W1.heap[M3 (G w)]?=Z (cH k R A B I n))(d:W1.heap[M3 (G w)+1]?=Z (M5 #[ak 0,ak 0] 97 (0,0)))(f:(cG ce cj b_ rb).J F' S2 w2)(tn:ch F W1 F' w2)(g:S2.rs=s.rs):
 (V w2 (av ce 6)=Z (H (au rb) 12 12)/\(∀i,i<12->V w2 (av rb (i*2))=Z (ak (X s.rs i (0,0)).1)/\V w2 (av rb (i*2+1))=Z (ak (X s.rs i (0,0)).2))/\w2.heap[M3 (G w)]?=Z (cH k R A B I n))/\
 w2.heap[M3 (G w)+1]?=Z (M5 #[ak 0,ak 0] 97 (0,0))/\aA ((cG ce cj b_ rb).J F' S2 w2/\ch F w F' w2/\¬F' (M3 (G w)+1)):=by
 have gm:∀b,F b->_:=fun b hb=>(cG ce cj b_ rb).lt h b hb;obtain⟨j,rt,_,_⟩:=kD f;rw[g] at rt;have kp:∀b,M3 (G w)<=b->b<M3 (G W1)->_=_:=fun b m l=>tn.fr.block b l (fun c=>by have:=gm b c;omega)
 refine⟨⟨j,rt,(kp _ b8 (lt_of_some e)).trans e⟩,(kp _ (nC _) (lt_of_some d)).trans d,f,(ch.of b1).trans tn,fun c=>?_⟩
 have l1:=lt_of_some d;rcases tn.sub _ c with c|c
 ·have:=gm _ c;omega
 ·omega
theorem vM (hv:fK s)(hl:L s.rs=12){A:Nat}(b:A<12):(X s.rs A (0,0)).1=3->0<=(X s.rs A (0,0)).2/\cA s.T (M (X s.rs A (0,0)).2):=hv.rv _ (getD_in aa)
theorem vN (h:(cG ce cj b_ rb).J F s w):L s.rs=12:=by obtain⟨l,h,_⟩:=h;exact h.g4.rl
def cn.gt (s:cn)(v:Int×Int)(I:Int):(Int×Int)×Int×cn:=((if s.fc v I=0 then X (X s.T (M v.2) t0).2.1 (M I) (0,0) else(0,0)),s.fc v I,s)
def cn.ln (s:cn)(v:Int×Int):(Int×Int)×Int×cn:=if jy s.T v=D then((1,(L (X s.T (M v.2) t0).2.1:Int)),0,s) else((0,0),2,s)
theorem KF (s:cn)(v:Int×Int)(I:Int):(s.gt v I).2.2=s:=rfl
theorem KG (s:cn)(v:Int×Int):(s.ln v).2.2=s:=by unfold cn.ln;split<;>rfl
theorem KH (h:(cG ce cj b_ rb).J F s w)(v:Int×Int)(i:Int)(hv:v.1=3->0<=v.2/\cA s.T (M v.2))(g:L s.T<=10000):
 Calls O 201 #[aq ce,bF #[ak v.1,ak v.2],ak i] w fun e w'=>∃F',e=M6 (a8 #[bF #[ak (s.gt v i).1.1,ak (s.gt v i).1.2],ak (s.gt v i).2.1])/\(cG ce cj b_ rb).J F' (s.gt v i).2.2 w'/\ch F w F' w':=by
 have p:=h;obtain⟨l,h,_,_⟩:=h;have j:∀(a b c:Int),(s.gt v i).1=(a,b)->(s.gt v i).2.1=c->∀(e:Ending)(w':az),(e=M6 (a8 #[bF #[ak a,ak b],ak c])/\C (M3 (G w)) w w')->∃F',e=M6 (a8 #[bF #[ak (s.gt v i).1.1,ak (s.gt v i).1.2],ak (s.gt v i).2.1])/\(cG ce cj b_ rb).J F' (s.gt v i).2.2 w'/\ch F w F' w':=by
  rintro a b c q t e w' ⟨rfl,hb⟩
  rw[q,t,KF];exact⟨F,rfl,(cG ce cj b_ rb).below p hb,ch.of hb⟩
 by_cases k:v.1=3/\(X s.T (M v.2) t0).1≠5
 ·obtain⟨f,n⟩:=k;have hd:=jq.2 ⟨f,n⟩
  have o:=hv f;by_cases hi:i<0\/(L (X s.T (M v.2) t0).2.1:Int)<=i
  ·have d:s.fc v i=1:=by unfold cn.fc;rw[aJ hd,aJ hi]
   rw[f];exact(Bk h v.2 i o g n hi).mono (j 0 0 1 (by unfold cn.gt;rw[d];rfl) d)
  ·have d:s.fc v i=0:=by unfold cn.fc;rw[aJ hd,aI hi]
   obtain⟨m,rfl⟩:=bH (a:=i) aa;rw[f];exact(Bl h v.2 m o g n aa).mono (j _ _ 0 (by unfold cn.gt;rw[d];rfl) d)
 ·have d:s.fc v i=2:=by unfold cn.fc;rw[aI (fun c=>k (jq.1 c))]
  exact(Bj h v i hv g (fun f=>mg (fun c=>k ⟨f,c⟩))).mono (j 0 0 2 (by unfold cn.gt;rw[d];rfl) d)
theorem KI (h:(cG ce cj b_ rb).J F s w)(v:Int×Int)(hv:v.1=3->0<=v.2/\cA s.T (M v.2))(f:L s.T<=10000):
 Calls O 208 #[aq ce,bF #[ak v.1,ak v.2]] w fun e w'=>∃F',e=M6 (a8 #[bF #[ak (s.ln v).1.1,ak (s.ln v).1.2],ak (s.ln v).2.1])/\(cG ce cj b_ rb).J F' (s.ln v).2.2 w'/\ch F w F' w':=by
 have g:=h;obtain⟨l,h,_,_⟩:=h;by_cases d:v.1=3/\(X s.T (M v.2) t0).1≠5
 ·obtain⟨b,i⟩:=d;have e:s.ln v=((1,(L (X s.T (M v.2) t0).2.1:Int)),0,s):=aJ (jq.2 ⟨b,i⟩)
  rw[e,b];refine(Je h v.2 (hv b) f i).mono ?_;rintro e w' ⟨rfl,hb⟩
  exact⟨F,rfl,(cG ce cj b_ rb).below g hb,ch.of hb⟩
 ·have e:s.ln v=((0,0),2,s):=aI (fun c=>d (jq.1 c))
  rw[e];refine(Jd h v hv f (fun b=>mg (fun c=>d ⟨b,c⟩))).mono ?_;rintro e w' ⟨rfl,hb⟩
  exact⟨F,rfl,(cG ce cj b_ rb).below g hb,ch.of hb⟩
end
section
variable {ce rb:Nat}{cj b_:Int}{F:Nat->Prop}{s:cn}{w:az}
theorem KJ (h:(cG ce cj b_ rb).J F s w)(hv:fK s)(R B I n:Int)(A:Nat)(f:A<12):
 Calls O 136 #[aq ce,eb 10 R A B I n] w fun e w'=>∃b,e=M6 (a8 #[bF #[ak (s.pop (X s.rs A (0,0))).1.1,ak (s.pop (X s.rs A (0,0))).1.2],ak (s.pop (X s.rs A (0,0))).2.1])/\(cG ce cj b_ rb).J b (s.pop (X s.rs A (0,0))).2.2 w'/\ch F w b w':=by
 obtain⟨i,g,j,t,rt,u,k⟩:=mx h 10 R A B I n;have hd:=i.drew;have P:=JN ((cG ce cj b_ rb).below h hd) (X s.rs A (0,0)) (vM hv (vN h) f) hv.tl (aU hv.wl ae)
 have x:Calls O 207 #[aq ce,bF #[ak (X s.rs A (0,0)).1,ak (X s.rs A (0,0)).2]] (hQ w 10 R A B I n).drew fun e c=>∃b,e=M6 (a8 #[bF #[ak (s.pop (X s.rs A (0,0))).1.1,ak (s.pop (X s.rs A (0,0))).1.2],ak (s.pop (X s.rs A (0,0))).2.1])/\
  (V c (av ce 6)=Z (H (au rb) 12 12)/\V c (av rb (A*2))=Z (ak (X s.rs A (0,0)).1)/\V c (av rb (A*2+1))=Z (ak (X s.rs A (0,0)).2)/\V c (av (M3 (G w)) 2)=Z (ak A))/\
  c.heap[M3 (G w)+1]?=Z (M5 #[ak 0,ak 0] 97 (0,0))/\aA ((cG ce cj b_ rb).J b (s.pop (X s.rs A (0,0))).2.2 c/\ch F w b c/\¬b (M3 (G w)+1)):=by
  refine P.mono ?_;rintro e c ⟨b,rfl,N,tn⟩
  obtain⟨⟨S,l,W⟩,y1,d⟩:=o7 h hd g j N tn (KE _ _)
  obtain⟨_,_,ab,_,ar,_⟩:=ez W;exact⟨b,rfl,⟨S,(l A f).1,(l A f).2,ab⟩,y1,d⟩
 obtain⟨ad,ag⟩:=rt A f;obtain⟨q0,q1,ai,q3,al,am⟩:=ez g;generalize s.pop (X s.rs A (0,0))=gr at*;obtain⟨⟨v0,v1⟩,cd,aB⟩:=gr;generalize (X s.rs A (0,0)).1=a0 at*;generalize (X s.rs A (0,0)).2=a1 at*;have aF:(A:Int)<12:=aa;have nx:M3 (G w)≠M3 (G w)+1:=aa;clear h hv i hd g j rt q0 q1 q3 al am;go_enter func136,ntmps136;go_wp2_with fail
 go_region_held3 (fun w'=>V w' (av ce 6)=Z (H (au rb) 12 12)/\V w' (av rb (A*2))=Z (ak a0)/\V w' (av rb (A*2+1))=Z (ak a1)/\V w' (av (M3 (G w)) 2)=Z (ak A)) (first|exact⟨fN u m,fN k o,fN k p,fN nx q⟩|(go_keep;done))
  (first|(go_at_call 207;refine x.mono ?_;rintro e c ⟨b,rfl,⟨m,o,p,q⟩,y1,d⟩;obtain⟨r0,r1,aR,lw⟩:=du y1;have an:aA (_=_):=y1;clear y1 t ad ag ai))
 all_goals
  clear m o p q ‹_/\_›;go_wp2_with fail;obtain⟨ao,ap,_,_⟩:=du (hD (v1:=ak v0) (v2:=ak v1) an.o)
  exact a6 (v:=a8 #[bF #[ak v0,ak v1],ak cd]) (by simp[results,results136,go_sem,ao,ap]) rfl ⟨b,rfl,dC.set2 _ d.o.1 d.o.2.2 _ _,d.o.2.1.set2 (nC _) _ _⟩
theorem KK (h:(cG ce cj b_ rb).J F s w)(hv:fK s)(R B I n:Int)(A:Nat)(f:A<12):
 Calls O 136 #[aq ce,eb 11 R A B I n] w fun e w'=>∃b,e=M6 (a8 #[bF #[ak (s.gt (X s.rs A (0,0)) I).1.1,ak (s.gt (X s.rs A (0,0)) I).1.2],ak (s.gt (X s.rs A (0,0)) I).2.1])/\(cG ce cj b_ rb).J b (s.gt (X s.rs A (0,0)) I).2.2 w'/\ch F w b w':=by
 obtain⟨j,g,k,N,rt,S,l⟩:=mx h 11 R A B I n;have m:=vM hv (vN h) f;have hd:C (M3 (G w)) w (hQ w 11 R A B I n).drew:=j.drew;have P:=KH ((cG ce cj b_ rb).below h hd) (X s.rs A (0,0)) I m hv.tl;have i:Calls O 201 #[aq ce,bF #[ak (X s.rs A (0,0)).1,ak (X s.rs A (0,0)).2],ak I] (hQ w 11 R A B I n).drew fun e c=>∃b,e=M6 (a8 #[bF #[ak (s.gt (X s.rs A (0,0)) I).1.1,ak (s.gt (X s.rs A (0,0)) I).1.2],ak (s.gt (X s.rs A (0,0)) I).2.1])/\
  (V c (av ce 6)=Z (H (au rb) 12 12)/\V c (av rb (A*2))=Z (ak (X s.rs A (0,0)).1)/\V c (av rb (A*2+1))=Z (ak (X s.rs A (0,0)).2)/\V c (av (M3 (G w)) 2)=Z (ak A)/\V c (av (M3 (G w)) 4)=Z (ak I))/\
  c.heap[M3 (G w)+1]?=Z (M5 #[ak 0,ak 0] 97 (0,0))/\aA ((cG ce cj b_ rb).J b (s.gt (X s.rs A (0,0)) I).2.2 c/\ch F w b c/\¬b (M3 (G w)+1)):=by
  refine P.mono ?_;rintro e c ⟨b,rfl,W,tn⟩
  obtain⟨⟨ab,o,ad⟩,y1,d⟩:=o7 h hd g k W tn rfl;obtain⟨_,_,ag,_,ai,_⟩:=ez ad;exact⟨b,rfl,⟨ab,(o A f).1,(o A f).2,ag,ai⟩,y1,d⟩
 clear P;obtain⟨al,am⟩:=rt A f;obtain⟨q0,q1,an,q3,ao,ap⟩:=ez g;generalize s.gt (X s.rs A (0,0)) I=gr at*;obtain⟨⟨v0,v1⟩,cd,aR⟩:=gr;dsimp only at i⊢;generalize (X s.rs A (0,0)).1=a0 at*;generalize (X s.rs A (0,0)).2=a1 at*;have aV:(0:Int)<=(A:Int):=aa;have a2:(A:Int)<12:=aa;have nx:M3 (G w)≠M3 (G w)+1:=aa;clear h hv j hd g k rt m q0 q1 q3 ap;go_enter func136,ntmps136;go_wp2_with fail
 go_region_held3 (fun w'=>V w' (av ce 6)=Z (H (au rb) 12 12)/\V w' (av rb (A*2))=Z (ak a0)/\V w' (av rb (A*2+1))=Z (ak a1)/\V w' (av (M3 (G w)) 2)=Z (ak A)/\V w' (av (M3 (G w)) 4)=Z (ak I)) (first|exact⟨fN S p,fN l q,fN l t,fN nx u,fN nx x⟩|(go_keep;done))
  (first|(go_at_call 201;refine i.mono ?_;clear i;rintro e c ⟨b,rfl,⟨p,q,t,u,x⟩,y1,d⟩;obtain⟨r0,r1,a3,lw⟩:=du y1;have ar:aA (_=_):=y1;clear y1 N al am an ao))
 all_goals
  clear p q t u x ‹_/\_›;go_wp2_with fail;obtain⟨aB,aF,_,_⟩:=du (hD (v1:=ak v0) (v2:=ak v1) ar.o)
  exact a6 (v:=a8 #[bF #[ak v0,ak v1],ak cd]) (by simp[results,results136,go_sem,aB,aF]) rfl ⟨b,rfl,dC.set2 _ d.o.1 d.o.2.2 _ _,d.o.2.1.set2 (nC _) _ _⟩
theorem KL (h:(cG ce cj b_ rb).J F s w)(hv:fK s)(R B I n:Int)(A:Nat)(f:A<12):
 Calls O 136 #[aq ce,eb 13 R A B I n] w fun e w'=>∃b,e=M6 (a8 #[bF #[ak (s.ln (X s.rs A (0,0))).1.1,ak (s.ln (X s.rs A (0,0))).1.2],ak (s.ln (X s.rs A (0,0))).2.1])/\(cG ce cj b_ rb).J b (s.ln (X s.rs A (0,0))).2.2 w'/\ch F w b w':=by
 obtain⟨i,g,j,t,rt,u,k⟩:=mx h 13 R A B I n;have hd:=i.drew;have P:=KI ((cG ce cj b_ rb).below h hd) (X s.rs A (0,0)) (vM hv (vN h) f) hv.tl;have x:Calls O 208 #[aq ce,bF #[ak (X s.rs A (0,0)).1,ak (X s.rs A (0,0)).2]] (hQ w 13 R A B I n).drew fun e c=>∃b,e=M6 (a8 #[bF #[ak (s.ln (X s.rs A (0,0))).1.1,ak (s.ln (X s.rs A (0,0))).1.2],ak (s.ln (X s.rs A (0,0))).2.1])/\
  (V c (av ce 6)=Z (H (au rb) 12 12)/\V c (av rb (A*2))=Z (ak (X s.rs A (0,0)).1)/\V c (av rb (A*2+1))=Z (ak (X s.rs A (0,0)).2)/\V c (av (M3 (G w)) 2)=Z (ak A))/\
  c.heap[M3 (G w)+1]?=Z (M5 #[ak 0,ak 0] 97 (0,0))/\aA ((cG ce cj b_ rb).J b (s.ln (X s.rs A (0,0))).2.2 c/\ch F w b c/\¬b (M3 (G w)+1)):=by
  refine P.mono ?_;rintro e c ⟨b,rfl,N,tn⟩
  obtain⟨⟨S,l,W⟩,y1,d⟩:=o7 h hd g j N tn (by rw[KG])
  obtain⟨_,_,ab,_,ar,_⟩:=ez W;exact⟨b,rfl,⟨S,(l A f).1,(l A f).2,ab⟩,y1,d⟩
 obtain⟨ad,ag⟩:=rt A f;obtain⟨q0,q1,ai,q3,al,am⟩:=ez g;generalize s.ln (X s.rs A (0,0))=gr at*;obtain⟨⟨v0,v1⟩,cd,aB⟩:=gr;generalize (X s.rs A (0,0)).1=a0 at*;generalize (X s.rs A (0,0)).2=a1 at*;have aF:(A:Int)<12:=aa;have nx:M3 (G w)≠M3 (G w)+1:=aa;clear h hv i hd g j rt q0 q1 q3 al am;go_enter func136,ntmps136;go_wp2_with fail
 go_region_held3 (fun w'=>V w' (av ce 6)=Z (H (au rb) 12 12)/\V w' (av rb (A*2))=Z (ak a0)/\V w' (av rb (A*2+1))=Z (ak a1)/\V w' (av (M3 (G w)) 2)=Z (ak A)) (first|exact⟨fN u m,fN k o,fN k p,fN nx q⟩|(go_keep;done))
  (first|(go_at_call 208;refine x.mono ?_;rintro e c ⟨b,rfl,⟨m,o,p,q⟩,y1,d⟩;obtain⟨r0,r1,aR,lw⟩:=du y1;have an:aA (_=_):=y1;clear y1 t ad ag ai))
 all_goals
  clear m o p q ‹_/\_›;go_wp2_with fail;obtain⟨ao,ap,_,_⟩:=du (hD (v1:=ak v0) (v2:=ak v1) an.o)
  exact a6 (v:=a8 #[bF #[ak v0,ak v1],ak cd]) (by simp[results,results136,go_sem,ao,ap]) rfl ⟨b,rfl,dC.set2 _ d.o.1 d.o.2.2 _ _,d.o.2.1.set2 (nC _) _ _⟩
end
section
variable {ce rb:Nat}{cj b_:Int}{F:Nat->Prop}{s:cn}{w:az}{g:eg}
theorem KM (h:(cG ce cj b_ rb).J F s w)(R A B I n:Int):
 Calls O 136 #[aq ce,eb 1 R A B I n] w fun e w'=>e=M6 (a8 #[bF #[ak 1,ak n],ak 0])/\C (M3 (G w)) w w':=by
 obtain⟨d,g,f,_⟩:=mx h 1 R A B I n;obtain⟨q0,q1,l,q3,m,o⟩:=ez g;have i:aA (∀b,C (M3 (G (hQ w 1 R A B I n))) (hQ w 1 R A B I n) b->_/\_):=fun b hb=>⟨(hb.block _ (lt_of_some f)).trans f,d.trans (hb.mono d.size)⟩
 go_enter func136,ntmps136;go_wp2_with fail;refine(r6 n (hQ w 1 R A B I n)).mono ?_;rintro e b ⟨rfl,hb⟩
 have c:aA (_):=i.o b hb;obtain⟨r0,r1,p,lw⟩:=du c.o.1;go_wp2_with fail;obtain⟨j,k,_,_⟩:=du (hD (v1:=ak 1) (v2:=ak n) c.o.1)
 exact a6 (v:=a8 #[bF #[ak 1,ak n],ak 0]) (by simp[results,results136,go_sem,j,k]) rfl ⟨rfl,(c.o.2.setCell ac _).setCell ac _⟩
theorem KN (h:(cG ce cj b_ rb).J F s w)(R A B I n:Int):
 Calls O 136 #[aq ce,eb 2 R A B I n] w fun e w'=>e=M6 (a8 #[bF #[ak 0,ak 0],ak 0])/\C (M3 (G w)) w w':=by
 obtain⟨b,c,d,_⟩:=mx h 2 R A B I n;obtain⟨q0,q1,g,q3,i,j⟩:=ez c;have f:=hide b;obtain⟨r0,r1,k,lw⟩:=du d;go_enter func136,ntmps136;go_wp2_with fail;exact a6 (v:=a8 #[bF #[ak 0,ak 0],ak 0]) (by simp[results,results136,go_sem]) rfl ⟨rfl,f.o⟩
theorem KO (h:(cG ce cj b_ rb).J F s w)(hv:fK s)(j:dB s.T s.wt (g s.T s.wt))(g0:-1000000<=b_)(g1:b_<=1000000)(k:-1000000<=cj)(m1:cj<=1000000)(R A B I n:Int):
 Calls O 136 #[aq ce,eb 8 R A B I n] w fun e w'=>∃b,e=M6 (a8 #[bF #[ak (s.b_ g cj b_ 5 []).1.1,ak (s.b_ g cj b_ 5 []).1.2],ak (s.b_ g cj b_ 5 []).2.1])/\(cG ce cj b_ rb).J b (s.b_ g cj b_ 5 []).2.2 w'/\ch F w b w':=by
 obtain⟨f,i,l,_⟩:=mx h 8 R A B I n;obtain⟨q0,q1,u,q3,x,N⟩:=ez i;have m:Calls O 206 #[aq ce,ak 5,H Y 0 0] (hQ w 8 R A B I n) fun e c=>∃b,e=M6 (a8 #[bF #[ak (s.b_ g cj b_ 5 []).1.1,ak (s.b_ g cj b_ 5 []).1.2],ak (s.b_ g cj b_ 5 []).2.1])/\
  c.heap[M3 (G w)+1]?=Z (M5 #[ak 0,ak 0] 97 (0,0))/\aA ((cG ce cj b_ rb).J b (s.b_ g cj b_ 5 []).2.2 c/\ch F w b c/\¬b (M3 (G w)+1)):=by
  refine(vJ (g:=g) (kd:=5) (fl:=[]) (ad:=Y) (cap:=0) ((cG ce cj b_ rb).below h f) hv j g0 g1 k m1 ac ⟨fun h=>absurd h ac,aG _,fun _=>⟨rfl,rfl⟩⟩).mono ?_;rintro e c ⟨b,rfl,o,tn⟩
  obtain⟨_,y1,d⟩:=o7 h f i l o tn (vK _ _ _ _ _ _)
  exact⟨b,rfl,y1,d⟩
 generalize s.b_ g cj b_ 5 []=gr at*;obtain⟨⟨v0,v1⟩,cd,S⟩:=gr;go_enter func136,ntmps136;go_wp2_with fail;refine m.mono ?_;rintro e c ⟨b,rfl,y1,d⟩
 obtain⟨r0,r1,W,lw⟩:=du y1;have p:aA (_=_):=y1;go_wp2_with fail;obtain⟨q,t,_,_⟩:=du (hD (v1:=ak v0) (v2:=ak v1) p.o)
 exact a6 (v:=a8 #[bF #[ak v0,ak v1],ak cd]) (by simp[results,results136,go_sem,q,t]) rfl ⟨b,rfl,dC.set2 _ d.o.1 d.o.2.2 _ _,d.o.2.1.set2 (nC _) _ _⟩
theorem KP (h:(cG ce cj b_ rb).J F s w)(R B I n:Int)(A:Nat)(b:A<12):
 Calls O 136 #[aq ce,eb 3 R A B I n] w fun e w'=>e=M6 (a8 #[bF #[ak (X s.rs A (0,0)).1,ak (X s.rs A (0,0)).2],ak 0])/\C (M3 (G w)) w w':=by
 obtain⟨k,c,d,W,rt,ab,ad⟩:=mx h 3 R A B I n;obtain⟨ag,ai⟩:=rt A b;obtain⟨q0,q1,al,q3,l,m⟩:=ez c;obtain⟨o,f,g,i⟩:=kD h;have q:=(cG ce cj b_ rb).lt h _ g;have j:=(cG ce cj b_ rb).lt h _ i;have b2:C (M3 (G w)) w (bj (w.alloc (cH 3 R A B I n)) (M5 #[U M4 (X s.rs A (0,0)).1,U M4 (X s.rs A (0,0)).2] 97)):=(b9.alloc b8 _).alloc ac _;have m1:=(b2.cell (p:=av ce 6) q).trans o;have t:=(b2.cell (p:=av rb (A*2)) j).trans (f A b).1;have u:=(b2.cell (p:=av rb (A*2+1)) j).trans (f A b).2;have x:V (bj (w.alloc (cH 3 R A B I n)) (M5 #[U M4 (X s.rs A (0,0)).1,U M4 (X s.rs A (0,0)).2] 97)) (av (M3 (G w)) 2)=Z (ak A):=(ez ((aS _ _ _ ac).trans (aP w _))).2.2.1;have N:=hide b2.drew;have S:=ja m1 t u x;obtain⟨r0,r1,am,lw⟩:=du d;generalize (X s.rs A (0,0)).1=a0 at*;generalize (X s.rs A (0,0)).2=a1 at*;have an:(0:Int)<=(A:Int):=aa;have ao:(A:Int)<12:=aa;clear h k c d rt q1 q3 l m g i;go_enter func136,ntmps136;go_wp2_with fail
 go_region_held3 (fun w'=>V w' (av ce 6)=Z (H (au rb) 12 12)/\V w' (av rb (A*2))=Z (ak a0)/\V w' (av rb (A*2+1))=Z (ak a1)/\V w' (av (M3 (G w)) 2)=Z (ak A)) (first|exact S.o|(go_keep;done)) (fail)
 all_goals
  go_wp2_with fail;exact a6 (v:=a8 #[bF #[ak a0,ak a1],ak 0]) (by simp[results,results136,go_sem]) rfl ⟨rfl,N.o⟩
theorem KQ (h:(cG ce cj b_ rb).J F s w)(R I n:Int)(A B:Nat)(i:A<12)(hB:B<12):
 Calls O 136 #[aq ce,eb 14 R A B I n] w fun e w'=>e=M6 (a8 #[bF #[ak 1,ak (if X s.rs A (0,0)=X s.rs B (0,0) then 1 else 0)],ak 0])/\C (M3 (G w)) w w':=by
 obtain⟨c,j,l,N,rt,S,d⟩:=mx h 14 R A B I n;have m:Calls O 209 #[bF #[ak (X s.rs A (0,0)).1,ak (X s.rs A (0,0)).2],bF #[ak (X s.rs B (0,0)).1,ak (X s.rs B (0,0)).2]] (hQ w 14 R A B I n).drew fun e b=>e=M6 (bF #[ak 1,ak (if X s.rs A (0,0)=X s.rs B (0,0) then 1 else 0)])/\
  (V b (av ce 6)=Z (H (au rb) 12 12)/\V b (av rb (A*2))=Z (ak (X s.rs A (0,0)).1)/\V b (av rb (A*2+1))=Z (ak (X s.rs A (0,0)).2)/\V b (av rb (B*2))=Z (ak (X s.rs B (0,0)).1)/\V b (av rb (B*2+1))=Z (ak (X s.rs B (0,0)).2)/\V b (av (M3 (G w)) 2)=Z (ak A)/\V b (av (M3 (G w)) 3)=Z (ak B))/\
  aA (b.heap[M3 (G w)+1]?=Z (M5 #[ak 0,ak 0] 97 (0,0))/\C (M3 (G w)) w b):=by
  refine(Jf _ _ _).mono ?_;rintro e b ⟨rfl,hb⟩
  obtain⟨⟨f,g,W⟩,y1,aV⟩:=o7 h c.drew j l ((cG ce cj b_ rb).below ((cG ce cj b_ rb).below h c.drew) hb) (ch.of hb) rfl;obtain⟨_,_,ab,ad,_,_⟩:=ez W;exact⟨rfl,⟨f,(g A i).1,(g A i).2,(g B hB).1,(g B hB).2,ab,ad⟩,y1,c.drew.trans (hb.mono c.drew.size)⟩
 obtain⟨ag,ai⟩:=rt A i;obtain⟨al,am⟩:=rt B hB;obtain⟨q0,q1,an,q3,ao,ap⟩:=ez j;generalize (if X s.rs A (0,0)=X s.rs B (0,0) then(1:Int) else 0)=v1 at*;generalize (X s.rs A (0,0)).1=a0 at*;generalize (X s.rs A (0,0)).2=a1 at*;generalize (X s.rs B (0,0)).1=ar at*;generalize (X s.rs B (0,0)).2=aB at*;have a2:(0:Int)<=(A:Int):=aa;have a3:(A:Int)<12:=aa;have a4:(0:Int)<=(B:Int):=aa;have ba:(B:Int)<12:=aa;have nx:M3 (G w)≠M3 (G w)+1:=aa;clear h c j l rt q1 ao ap;go_enter func136,ntmps136;go_wp2_with fail
 go_region_held3 (fun w'=>V w' (av ce 6)=Z (H (au rb) 12 12)/\V w' (av rb (A*2))=Z (ak a0)/\V w' (av rb (A*2+1))=Z (ak a1)/\V w' (av rb (B*2))=Z (ak ar)/\V w' (av rb (B*2+1))=Z (ak aB)/\V w' (av (M3 (G w)) 2)=Z (ak A)/\V w' (av (M3 (G w)) 3)=Z (ak B)) (first|exact⟨fN S o,fN d p,fN d q,fN d t,fN d u,fN nx f,fN nx x⟩|(go_keep;done))
  (first|(go_at_call 209;refine m.mono ?_;clear m;rintro e b ⟨rfl,⟨o,p,q,t,u,f,x⟩,k⟩;obtain⟨r0,r1,bb,lw⟩:=du k.o.1;clear N ag ai al am an q3))
 all_goals
  clear o p q t u f x ‹_/\_›;go_wp2_with fail;obtain⟨aF,aR,_,_⟩:=du (hD (v1:=ak 1) (v2:=ak v1) k.o.1)
  exact a6 (v:=a8 #[bF #[ak 1,ak v1],ak 0]) (by simp[results,results136,go_sem,aF,aR]) rfl ⟨rfl,(k.o.2.setCell ac _).setCell ac _⟩
theorem KR (h:(cG ce cj b_ rb).J F s w)(hv:fK s)(x:dB s.T s.wt (g s.T s.wt))(g0:-1000000<=b_)(g1:b_<=1000000)(aR:-1000000<=cj)(m1:cj<=1000000)(R B I:Int)(A n:Nat)(j:A<12)(hn:n<=12):
 Calls O 136 #[aq ce,eb 5 R A B I n] w fun e w'=>∃c,e=M6 (a8 #[bF #[ak (s.b_ g cj b_ 2 (Ni n (X s.rs A (0,0)))).1.1,ak (s.b_ g cj b_ 2 (Ni n (X s.rs A (0,0)))).1.2],ak (s.b_ g cj b_ 2 (Ni n (X s.rs A (0,0)))).2.1])/\(cG ce cj b_ rb).J c (s.b_ g cj b_ 2 (Ni n (X s.rs A (0,0)))).2.2 w'/\ch F w c w':=by
 obtain⟨N,m,o,aV,rt,a2,S⟩:=mx h 5 R A B I n;have l:M3 (G (hQ w 5 R A B I n).drew)=M3 (G w)+1+1:=by simp[World.drew]
 have p:Calls O 131 #[H (au (M3 (G w)+1+1)) 1 1,ak n] (bj (hQ w 5 R A B I n).drew (M5 #[U M4 (X s.rs A (0,0)).1,U M4 (X s.rs A (0,0)).2] 97)) fun e d=>∃nb,e=M6 (H (au nb) n n)/\
  (V d (av ce 6)=Z (H (au rb) 12 12)/\V d (av rb (A*2))=Z (ak (X s.rs A (0,0)).1)/\V d (av rb (A*2+1))=Z (ak (X s.rs A (0,0)).2)/\V d (av (M3 (G w)) 2)=Z (ak A)/\V d (av (M3 (G w)) 5)=Z (ak n))/\
  Calls O 206 #[aq ce,ak 2,H (au nb) n n] d fun e f=>∃c,e=M6 (a8 #[bF #[ak (s.b_ g cj b_ 2 (Ni n (X s.rs A (0,0)))).1.1,ak (s.b_ g cj b_ 2 (Ni n (X s.rs A (0,0)))).1.2],ak (s.b_ g cj b_ 2 (Ni n (X s.rs A (0,0)))).2.1])/\
  (V f (av ce 6)=Z (H (au rb) 12 12)/\V f (av rb (A*2))=Z (ak (X s.rs A (0,0)).1)/\V f (av rb (A*2+1))=Z (ak (X s.rs A (0,0)).2)/\V f (av (M3 (G w)) 2)=Z (ak A)/\V f (av (M3 (G w)) 5)=Z (ak n))/\
  f.heap[M3 (G w)+1]?=Z (M5 #[ak 0,ak 0] 97 (0,0))/\aA ((cG ce cj b_ rb).J c (s.b_ g cj b_ 2 (Ni n (X s.rs A (0,0)))).2.2 f/\ch F w c f/\¬c (M3 (G w)+1)):=by
  have b1:C (M3 (G w)) w (bj (hQ w 5 R A B I n).drew (M5 #[U M4 (X s.rs A (0,0)).1,U M4 (X s.rs A (0,0)).2] 97)):=N.drew.alloc (by rw[l];omega) _;have W:=aP (hQ w 5 R A B I n).drew (M5 #[U M4 (X s.rs A (0,0)).1,U M4 (X s.rs A (0,0)).2] 97)
  rw[l] at W;obtain⟨z0,a3,_,_⟩:=du W;refine(BP _ (M3 (G w)+1+1) n (X s.rs A (0,0)) hn z0 a3).mono ?_;rintro e d ⟨nb,rfl,b5,q,ab⟩
  have b2:C (M3 (G w)) w d:=b1.trans (ab.mono b1.size)
  have l0:M3 (G w)+1<M3 (G (hQ w 5 R A B I n)):=lt_of_some o;have ag:∀b,b<M3 (G w)+1+1->d.heap[b]?=(hQ w 5 R A B I n).heap[b]?:=fun b hb=>(ab.block b (by simp;omega)).trans (aS (hQ w 5 R A B I n).drew _ b (by rw[l];exact hb))
  have ai:=(ag _ aa).trans m;have y1:=(ag (M3 (G w)+1) aa).trans o;have al:=(cG ce cj b_ rb).below h b2;obtain⟨e6,ss,_,_⟩:=kD al;obtain⟨_,_,a4,_,_,ba⟩:=ez ai;refine⟨nb,rfl,⟨e6,(ss A j).1,(ss A j).2,a4,ba⟩,?_⟩
  have t:L (Ni n (X s.rs A (0,0)))=n:=hV;have P:=vJ (g:=g) (kd:=2) (fl:=Ni n (X s.rs A (0,0))) (ad:=au nb) (cap:=n) al hv x g0 g1 aR m1 (by rw[t];exact hn) ⟨fun _=>⟨nb,0,rfl,lt_of_some q,fun i hi=>by
   obtain⟨k1,u⟩:=oo _ i hi;constructor
   ·simp only [World.cell?,q,b7];simpa using k1
   ·simp only [World.cell?,q,b7];simpa using u⟩,by rw[t];exact aG _,fun e=>by cases e⟩
  rw[t] at P;refine P.mono ?_;rintro e f ⟨c,rfl,bb,tn⟩
  obtain⟨⟨bd,am,be⟩,bg,k⟩:=o7 h b2 ai y1 bb tn (vK _ _ _ _ _ _)
  obtain⟨_,_,bi,_,_,bl⟩:=ez be;exact⟨c,rfl,⟨bd,(am A j).1,(am A j).2,bi,bl⟩,bg,k⟩
 obtain⟨bn,bo⟩:=rt A j;obtain⟨q0,q1,bp,q3,br,bs⟩:=ez m;generalize s.b_ g cj b_ 2 (Ni n (X s.rs A (0,0)))=gr at*;obtain⟨⟨v0,v1⟩,cd,b6⟩:=gr;dsimp only at p⊢;generalize (X s.rs A (0,0)).1=a0 at*;generalize (X s.rs A (0,0)).2=a1 at*;have ca:(0:Int)<=(A:Int):=aa;have cb:(A:Int)<12:=aa;have cc:(n:Int)<=12:=aa;have nx:M3 (G w)≠M3 (G w)+1:=aa;clear h hv x N m o rt q1 q3 br l;go_enter func136,ntmps136;go_wp2_with fail
 go_region_held3 (fun w'=>V w' (av ce 6)=Z (H (au rb) 12 12)/\V w' (av rb (A*2))=Z (ak a0)/\V w' (av rb (A*2+1))=Z (ak a1)/\V w' (av (M3 (G w)) 2)=Z (ak A)/\V w' (av (M3 (G w)) 5)=Z (ak n)) (first|exact⟨fN a2 an,fN S ao,fN S ap,fN nx ar,fN nx aB⟩|(go_keep;done))
  (first|(go_at_call 131;refine p.mono ?_;clear p;rintro e d ⟨nb,rfl,⟨k1,u,bt,bx,k5⟩,aF⟩;clear aV bn bo bp bs)|(go_at_call 206;refine aF.mono ?_;clear aF;rintro e f ⟨c,rfl,⟨an,ao,ap,ar,aB⟩,y1,k⟩;obtain⟨r0,r1,cf,lw⟩:=du y1;have b0:aA (_=_):=y1;clear y1 k1 u bt bx k5))
 all_goals
  clear an ao ap ar aB ‹_/\_›;go_wp2_with fail;obtain⟨b3,b4,_,_⟩:=du (hD (v1:=ak v0) (v2:=ak v1) b0.o)
  exact a6 (v:=a8 #[bF #[ak v0,ak v1],ak cd]) (by simp[results,results136,go_sem,b3,b4]) rfl ⟨c,rfl,dC.set2 _ k.o.1 k.o.2.2 _ _,k.o.2.1.set2 (nC _) _ _⟩
end
theorem KT {R A B n:Int}(h:d7 5 R A B n=0):0<=n/\n<=12:=by
 have b:iu 5 n=0:=by
  unfold d7 at h;rw[aI ae] at h;split at h
  ·omega
  ·exact h
 unfold iu at b;rw[aI ae,aJ rfl] at b;unfold hc at b
 ·split at b<;>omega
section
variable {ce rb:Nat}{cj b_:Int}{F:Nat->Prop}{s:cn}{w:az}{g:eg}
theorem KU (h:(cG ce cj b_ rb).J F s w)(hv:fK s)(c:dB s.T s.wt (g s.T s.wt))(g0:-1000000<=b_)(g1:b_<=1000000)(d:-1000000<=cj)(m1:cj<=1000000)(k R A B I n:Int)(hk:d7 k R A B n=0)(l:k≠9)(o:k≠12)(p:k≠15)(e16:k≠16):
 Calls O 136 #[aq ce,eb k R A B I n] w fun e w'=>∃f,e=M6 (a8 #[bF #[ak (s.rt g cj b_ k (M A) (M B) I n).1.1,ak (s.rt g cj b_ k (M A) (M B) I n).1.2],ak (s.rt g cj b_ k (M A) (M B) I n).2.1])/\(cG ce cj b_ rb).J f (s.rt g cj b_ k (M A) (M B) I n).2.2 w'/\ch F w f w':=by
 have two:∀k,dl k=7->d7 k R A B n=0->∃a b:Nat,A=a/\B=b/\a<12/\b<12:=fun k i hc=>by
  have q:=lV hc (aK (aK i))
  have v:=mD hc (aK i)
  exact⟨M A,M B,aa,aa,aa,aa⟩
 have one:∀k,dl k=3->d7 k R A B n=0->∃a:Nat,A=a/\a<12:=fun k i hc=>by
  have q:=lV hc (aM i)
  exact⟨M A,aa,aa⟩
 have low:∀(t:(Int×Int)×Int×cn),t.2.2=s->∀(e:Ending)(w':az),(e=M6 (a8 #[bF #[ak t.1.1,ak t.1.2],ak t.2.1])/\C (M3 (G w)) w w')->∃f,e=M6 (a8 #[bF #[ak t.1.1,ak t.1.2],ak t.2.1])/\(cG ce cj b_ rb).J f t.2.2 w'/\ch F w f w':=by
  rintro t u e w' ⟨rfl,hb⟩
  rw[u];exact⟨F,rfl,(cG ce cj b_ rb).below h hb,ch.of hb⟩
 have no:(k<1\/16<k)->False:=fun j=>by unfold d7 at hk;rw[aJ (qH j)] at hk;omega
 rcases qG k with rfl|rfl|rfl|rfl|rfl|rfl|rfl|rfl|rfl|rfl|rfl|rfl|rfl|rfl|rfl|rfl|j
 ·have e:s.rt g cj b_ 1 (M A) (M B) I n=((1,n),0,s):=by simp[cn.rt]
  rw[e];exact(KM h R A B I n).mono (low ((1,n),0,s) rfl)
 ·have e:s.rt g cj b_ 2 (M A) (M B) I n=((0,0),0,s):=by simp[cn.rt]
  rw[e];exact(KN h R A B I n).mono (low ((0,0),0,s) rfl)
 ·obtain⟨a,rfl,ha⟩:=one 3 ae hk;have e:s.rt g cj b_ 3 (M (a:Int)) (M B) I n=(X s.rs a (0,0),0,s):=by simp[cn.rt]
  rw[e];exact(KP h R B I n a ha).mono (low (X s.rs a (0,0),0,s) rfl)
 ·obtain⟨a,b,rfl,rfl,ha,hb⟩:=two 4 ae hk;have e:s.rt g cj b_ 4 (M (a:Int)) (M (b:Int)) I n=s.b_ g cj b_ 1 [X s.rs a (0,0),X s.rs b (0,0)]:=by simp[cn.rt]
  rw[e];exact vL h hv c g0 g1 d m1 R I n (aM ⟨rfl,rfl⟩) a b ha hb
 ·obtain⟨a,rfl,ha⟩:=one 5 ae hk;have hn:=KT hk;obtain⟨m,rfl⟩:=bH hn.1;have e:s.rt g cj b_ 5 (M (a:Int)) (M B) I m=s.b_ g cj b_ 2 (Ni m (X s.rs a (0,0))):=by simp[cn.rt]
  rw[e];exact KR h hv c g0 g1 d m1 R B I a m ha aa
 ·obtain⟨a,b,rfl,rfl,ha,hb⟩:=two 6 ae hk;have e:s.rt g cj b_ 6 (M (a:Int)) (M (b:Int)) I n=s.b_ g cj b_ 3 [X s.rs a (0,0),X s.rs b (0,0)]:=by simp[cn.rt]
  rw[e];exact vL h hv c g0 g1 d m1 R I n (aK (aM ⟨rfl,rfl⟩)) a b ha hb
 ·obtain⟨a,b,rfl,rfl,ha,hb⟩:=two 7 ae hk;have e:s.rt g cj b_ 7 (M (a:Int)) (M (b:Int)) I n=s.b_ g cj b_ 4 [X s.rs a (0,0),X s.rs b (0,0)]:=by simp[cn.rt]
  rw[e];exact vL h hv c g0 g1 d m1 R I n (aK (aK ⟨rfl,rfl⟩)) a b ha hb
 ·have e:s.rt g cj b_ 8 (M A) (M B) I n=s.b_ g cj b_ 5 []:=by simp[cn.rt]
  rw[e];exact KO h hv c g0 g1 d m1 R A B I n
 ·exact absurd rfl l
 ·obtain⟨a,rfl,ha⟩:=one 10 ae hk;have e:s.rt g cj b_ 10 (M (a:Int)) (M B) I n=s.pop (X s.rs a (0,0)):=by simp[cn.rt]
  rw[e];exact KJ h hv R B I n a ha
 ·obtain⟨a,rfl,ha⟩:=one 11 ae hk;have e:s.rt g cj b_ 11 (M (a:Int)) (M B) I n=s.gt (X s.rs a (0,0)) I:=by simp[cn.rt,cn.gt]
  rw[e];exact KK h hv R B I n a ha
 ·exact absurd rfl o
 ·obtain⟨a,rfl,ha⟩:=one 13 ae hk;have e:s.rt g cj b_ 13 (M (a:Int)) (M B) I n=s.ln (X s.rs a (0,0)):=by simp[cn.rt,cn.ln]
  rw[e];exact KL h hv R B I n a ha
 ·obtain⟨a,b,rfl,rfl,ha,hb⟩:=two 14 ae hk;have e:s.rt g cj b_ 14 (M (a:Int)) (M (b:Int)) I n=((1,if X s.rs a (0,0)=X s.rs b (0,0) then 1 else 0),0,s):=by simp[cn.rt]
  rw[e];exact(KQ h R I n a b ha hb).mono (low ((1,if X s.rs a (0,0)=X s.rs b (0,0) then 1 else 0),0,s) rfl)
 ·exact absurd rfl p
 ·exact absurd rfl e16
 ·exact(no j).elim
end
section
variable {ce rb:Nat}{cj b_:Int}{F:Nat->Prop}{w:az}
theorem KV (k R A B I n:Int)(hc:d7 k R A B n≠0):
 J O 68 #[aq ce,eb k R A B I n] w fun e w'=>e=M6 (ak (d7 k R A B n))/\C (M3 (G w)) w w':=by
 have c:=jX k R A B I n (w.alloc (cH k R A B I n))
 have b:=hide (aw w (cH k R A B I n))
 go_enter func68,ntmps68;go_wp2_with fail;refine c.mono ?_;rintro e w1 ⟨rfl,d⟩
 have f:=b.o.trans (d.mono b.o.size)
 go_wp2_with fail;go_ret;exact⟨rfl,f⟩
theorem BR (k R A B I n:Int)(hk:k=15\/k=16)(hc:d7 k R A B n=0)(cd:Int)(d:cn)
 (v:k=15->∀w',C (M3 (G w)) w w'->Calls O 134 #[aq ce] w' fun e b=>∃F2,e=M6 (ak cd)/\(cG ce cj b_ rb).J F2 d b/\ch F w' F2 b)(x:k=16->∀w',C (M3 (G w)) w w'->Calls O 135 #[aq ce] w' fun e b=>∃F2,e=M6 (ak cd)/\(cG ce cj b_ rb).J F2 d b/\ch F w' F2 b):
 Calls O 68 #[aq ce,eb k R A B I n] w fun e w'=>∃p,e=M6 (ak cd)/\(cG ce cj b_ rb).J p d w'/\ch F w p w':=by
 have q:=aw w (cH k R A B I n)
 have s:=aP w (M5 #[U M4 k,U M4 R,U M4 A,U M4 B,U M4 I,U M4 n] 44)
 have f:=jX k R A B I n (w.alloc (cH k R A B I n))
 rw[hc] at f;have t:aA (∀w1,C (M3 (G (w.alloc (cH k R A B I n)))) (w.alloc (cH k R A B I n)) w1->_/\w1.heap[M3 (G w)]?=Z (cH k R A B I n)):=fun w1 hb=>⟨q.trans (hb.mono q.size),(hb.block _ (lt_of_some s)).trans s⟩
 rcases hk with rfl|rfl
 ·have g:aA (_):=v rfl;go_enter func68,ntmps68;go_wp2_with fail;refine f.mono ?_;rintro e w1 ⟨rfl,i⟩
  obtain⟨c,j⟩:=t.o w1 i;obtain⟨q0,q1,N,q3,S,W⟩:=ez j;have P:=g.o w1 c;have l:aA (ch F w F w1):=ch.of c;go_wp2_with fail;refine P.mono ?_;rintro e u ⟨F2,rfl,m,o⟩
  have HF:aA (_/\ch F w F2 u):=⟨m,l.o.trans o⟩
  exact nW
 ·have g:aA (_):=x rfl;go_enter func68,ntmps68;go_wp2_with fail;refine f.mono ?_;rintro e w1 ⟨rfl,i⟩
  obtain⟨c,j⟩:=t.o w1 i;obtain⟨q0,q1,N,q3,S,W⟩:=ez j;have P:=g.o w1 c;have l:aA (ch F w F w1):=ch.of c;go_wp2_with fail;refine P.mono ?_;rintro e u ⟨F2,rfl,m,o⟩
  have HF:=c8 m (l.o.trans o)
  exact nW
end
end Go.Proofs.YtpkjkjhanlbcoaaGreat
