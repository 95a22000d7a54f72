import Derived.Test.YtpkjkjhanlbcoaaGreatJ36
namespace Go.Proofs.YtpkjkjhanlbcoaaGreat
set_option maxRecDepth 100000
set_option maxHeartbeats 8000000
open Tryz
open Go.RowKit W Kp cf
theorem Aq {P:Prop}(h:P:=by
 generalize (d_ s.T).1=yn at*;generalize (d_ s.T).2=od at*;go_enter func238,ntmps238;go_wp2_with fail;refine P.mono ?_;clear P;rintro e w1 ⟨rfl,hb⟩
 obtain⟨d0,d1⟩:=HC.out w1 hb;have P:=HP.out w1 hb;clear HC hb HP;go_wp2_with fail;refine P.mono ?_;rintro e w2 ⟨F',rfl,hj,ht⟩
 have HJ:=dq hj ht;go_wp2_with fail;go_ret;exact⟨F',rfl,HJ.out⟩):P:=h
theorem Ar {P:Prop}(h:P:=by
 rw[aE,aE,List.getElem?_append];by_cases h:i<T.length
 ·rw[aI h,aG V]
 ·rw[aG h];by_cases e:i=T.length
  ·subst e;simp
  ·rw[aG e,List.getElem?_eq_none (by simp;omega),List.getElem?_eq_none V]):P:=h
theorem As {P:Prop}(h:P:=by
 by_cases e:i=T.length
 ·rw[aI e];exact⟨fun _=>aJ e,fun _=>⟨V,rfl⟩⟩
 ·rw[aG e];exact⟨fun h=>aK ⟨V,h.2⟩,fun h=>h.elim (fun h=>⟨V,h.2⟩) (fun h=>absurd h e)⟩):P:=h
theorem uA {P:Prop}(h:P:=by rw[World.cell?_drew,a5 _ _ _ _ Z];exact h):P:=h
theorem uB {P:Prop}(h:P:=by
 rintro e w' ⟨F',rfl,hj,ht⟩
 exact⟨F',rfl,hj,(b8.of hb).trans ht⟩):P:=h
section
variable {bY:Nat}{b_ bZ:Int}{l:gF}{F:Nat->Prop}{s:ck}{w:ax}{g:List Bool->List Bool}
abbrev lJ (w:ax)(bY:Nat)(b_ bZ:Int)(l:gF)(s:ck):Cp:=⟨w,bY,b_,bZ,l,s,w.heap.size+1+1,w.heap.size,w.heap.size+1⟩
abbrev IH (s:ck):dw:=⟨List.replicate s.T.length false,[],fun _=>[],0⟩
def mA (w:ax)(b:Nat):Nat:=if b=w.heap.size then 2 else if b=w.heap.size+1 then 4 else if b=w.heap.size+1+1 then 1 else 0
theorem rx:∀n,cnt (List.replicate n false)=n
 |0=>rfl
 |n+1=>by
  have:=rx n;unfold cnt at this⊢
  rw[List.replicate_succ];simp at this⊢
theorem cU.start (w:ax)(bY:Nat)(b_ bZ:Int)(l:gF)(s:ck):
 cU (lJ w bY b_ bZ l s) (mA w) (.slice none 0 0) 0 0 (fun _=>(none,0)) (IH s) (((w.alloc (.map #[] 0)).alloc (.map #[] 0)).alloc (.cells #[.pointer (some ⟨bY,0,none⟩),.map (some w.heap.size),.slice none 0 0,.map (some (w.heap.size+1))] 252)):=by
 have d:aw w (((w.alloc (.map #[] 0)).alloc (.map #[] 0)).alloc (.cells #[.pointer (some ⟨bY,0,none⟩),.map (some w.heap.size),.slice none 0 0,.map (some (w.heap.size+1))] 252)):=((bX.alloc bW _).alloc Z _).alloc (by simp;omega) _;have m1:=(es.made w)
 have f:=(es.made (w.alloc (.map #[] 0)))
 have hz:(w.alloc (.map #[] 0)).heap.size=w.heap.size+1:=Z;rw[hz] at f;have ea:(fun _=>none)=eS s.T l.fm (List.replicate s.T.length false):=by
  funext x
  unfold eS;rw[aG];rintro⟨_,h⟩
  rw[aE,List.getElem?_replicate] at h;split at h<;>cases h
 have g:(fun _=>none)=hdF (fun _=>[]) (fun _=>(none,0)):=rfl;refine {ol:=fun k hk=>d.block k hk,sz:=d.size,cb:=ui w _ _ _,co:=?_,am:=?_,ao:=?_,an:=?_,tr:=⟨rfl,aK ⟨rfl,rfl⟩⟩,tw:=fun k e=>(by cases e),tn:=?_,hq:=?_,ho:=?_,hn:=aD _,hr:=fun x c=>absurd rfl c,hro:=fun x c=>absurd rfl c,lt:=fun b hb=>?_}
 ·show mA w (w.heap.size+1+1)=1;unfold mA;rw[aG V,aG V,aI rfl]
 ·show es _ w.heap.size 0 (eS s.T l.fm (List.replicate s.T.length false))
  rw[<-ea];exact m1.same ((aS _ _ _ (by simp;omega)).trans (aS _ _ _ Z))
 ·show mA w w.heap.size=2;unfold mA;rw[aI rfl]
 ·show 0+cnt (List.replicate s.T.length false)<=s.T.length;rw[rx];omega
 ·show 0+cnt (List.replicate s.T.length false)<=s.T.length;rw[rx];omega
 ·show es _ (w.heap.size+1) 0 (hdF (fun _=>[]) (fun _=>(none,0)))
  rw[<-g];exact f.same (aS _ _ _ Z)
 ·show mA w (w.heap.size+1)=4;unfold mA;rw[aG V,aI rfl]
 ·unfold mA at hb;show w.heap.size<=b/\_;simp;split at hb
  ·omega
  ·split at hb
   ·omega
   ·split at hb
    ·omega
    ·exact absurd rfl hb
theorem II (h:dS bY b_ bZ l s w)(hv:fH s):hL (lJ w bY b_ bZ l s):=⟨h,hv.tl,hv.iv,aT hv.wl aa⟩
theorem IJ (hv:fH s){A:List Bool}(d:gD s.T A):pJ s.T A:=⟨fun i hi hk=>hv.iv.fl i (d.al i hi) hk,fun i hi c=>by
 have hl:0<(s.T.getD i t0).2.1.length:=by
  cases hq:(s.T.getD i t0).2.1 with
  |nil=>rw[hq] at c;cases c
  |cons _ _=>simp
 obtain⟨a,b⟩:=hv.iv.fv i (d.al i hi) _ (getD_in hl) c;have:=b.1;have:=hv.tl;exact⟨a,V⟩⟩
def rz (s:ck)(mj:Bool)(b:Int->Bool):Prop:=∀i:Nat,cv s.T i->(b i=true↔(s.T.getD i t0).2.2.1=true/\mj=false)
theorem IK (hv:fH s){mj:Bool}{d:Int->Bool}(hs:rz s mj d):An (lJ w bY b_ bZ l s) d (jX s.T s.rs mj) where
 st:=fun i hi h=>(ku _ _ _ _).2 ⟨hi.1,aK ⟨((hs i hi).1 h).1,hi.2,((hs i hi).1 h).2⟩⟩
 rt:=fun v e f=>(ku _ _ _ _).2 ⟨(hv.rv v e f).2.1,aJ ⟨v,e,f,rfl⟩⟩
 up:=fun i hi=>by
  obtain⟨g,j⟩:=(ku _ _ _ _).1 hi;rcases j with⟨a,b,c⟩|c
  ·exact aK ⟨⟨g,b⟩,(hs i ⟨g,b⟩).2 ⟨a,c⟩⟩
  ·exact aJ c
 rv:=hv.rv
def cnf (g:List Bool->List Bool)(s:ck)(bZ:Int)(mj:Bool):Bool:=decide (bZ<iE s.T (s.cR g mj).1 s.T.length)
def ck.iT (g:List Bool->List Bool)(s:ck)(mj:Bool):ck:=
 {T:=f6 (s.cR g mj).1 s.T s.T.length,rs:=s.rs,rg:=s.rg.filter (fun e=>cL (s.c0 g mj) e.2&&cL (s.cR g mj).1 e.1),wt:=(s.wt++(s.cR g mj).2.1).filter (fun e=>cL (s.cR g mj).1 e.1)}
theorem IL {w:ax}{bY ab p mk:Nat}{b_ bZ:Int}{m b r:Value}{n a:Nat}(h:w.heap[bY]?=some (.cells #[ah b_,ah bZ,m,ah n,ah a,b,r] 187 (0,0))):
 (((w.setCell ⟨bY,2,none⟩ (.map (some ab))).setCell ⟨bY,5,none⟩ (.pointer (some ⟨p,0,none⟩))).setCell ⟨bY,4,none⟩ (.int .i64 mk)).heap[bY]?=some (.cells #[ah b_,ah bZ,.map (some ab),ah n,ah mk,aj p,r] 187 (0,0)):=by
 simp only [World.setCell,Array.getElem?_modify,if_true,h,Option.map_some];rfl
theorem ox {w:ax}{bY b o c:Nat}{v x:Value}(hn:bY≠b)(h:w.cell? (aq b c)=some x):(w.setCell ⟨bY,o,none⟩ v).drew.cell? (aq b c)=some x:=by rw[World.cell?_drew,World.cell?_setCell_far _ _ _ _ hn];exact h
theorem uC {w:ax}{bY:Nat}{v x:Value}(h:w.cell? (aq bY 3)=some x):(w.setCell ⟨bY,2,none⟩ v).drew.cell? (aq bY 3)=some x:=by exact uA
theorem Au {w:ax}{bY:Nat}{v x:Value}(h:w.cell? (aq bY 3)=some x):(w.setCell ⟨bY,5,none⟩ v).drew.cell? (aq bY 3)=some x:=by exact uA
theorem IM {w:ax}{bY:Nat}{v x:Value}(h:w.cell? (aq bY 3)=some x):(w.setCell ⟨bY,4,none⟩ v).drew.cell? (aq bY 3)=some x:=by exact uA
theorem Av (h:dS bY b_ bZ l s w)(bp:∀b,F b↔l.own b≠0)(hv:fH s)(a0:dR s.T s.wt g)(mj:Bool){f:Nat}{b M:Array Value}{br:Int->Bool}(hs:rj (lJ w bY b_ bZ l s) f b M br)(hy:rz s mj br):
 Calls prog 202 #[aj bY,.func (.func f) b M] w fun e w'=>∃B,e=.returned (ah (if cnf g s bZ mj=true then 3 else 0))/\(cx bY b_ bZ l.rb).J B (if cnf g s bZ mj=true then s else s.iT g mj) w'/\b8 F w B w':=by
 have cB:=@run_makeMap prog;have hg:=II h hv;have bs:=cU.start w bY b_ bZ l s;have P:=It hg bs ⟨eQ.start s.T s.wt (jX s.T s.rs mj),fun _=>aD _,by show 0+(0+cnt (List.replicate s.T.length false))<=s.T.length;rw[rx];omega⟩ hs (IK hv hy)
 have ai:=hv.first mj;have bt:ay (∀al am an ao ap n (w1:ax),cU (lJ w bY b_ bZ l s) al am an ao ap n w1->f7 s.T s.wt (jX s.T s.rs mj) n->n.td=[]->(∀k,ct (jX s.T s.rs mj) k->ct n.A k)->
  Calls prog 234 #[aj (w.heap.size+1+1)] w1 fun e w'=>∃I cM bb bd be N p a1 k1 a2 C,e=.returned (aj p)/\ay (cU (lJ w bY b_ bZ l s) I cM bb bd be N w'/\N.A=(s.cR g mj).1/\gD s.T N.A/\fu w' p a1 k1 a2 C (s.iT g mj).rg (s.iT g mj).wt/\w.heap.size<=p/\I p=0/\
   (∀k,some k=(Value.slice a1 (s.iT g mj).rg.length k1).ownBlock->w.heap.size<=k/\I k=0/\some k≠(Value.slice a2 (s.iT g mj).wt.length C).ownBlock)/\(∀k,some k=(Value.slice a2 (s.iT g mj).wt.length C).ownBlock->w.heap.size<=k/\I k=0)/\(w'.os=w1.os/\w'.tape=w1.tape/\w'.output=w1.output))):=fun al am an ao ap n w1 c1 D O ar=>by
  have bx:n.A=s.c0 g mj:=(D.mi.done O ai.len ar).uniq (a0 _ ai.len ai.al)
  refine(IF hg a0 hv c1 ⟨D.mi.base (fun _ h=>h),D.hl,D.mm⟩ O).mono ?_;rintro e w' ⟨I,cM,bb,bd,be,N,p,a1,k1,a2,C,rfl,c2,Q,b0,b1,tk,J,⟨hp,b2⟩,hr,hq⟩
  have b0:fO g n.A s.rg=s.cR g mj:=by rw[bx];rfl
  have z:=c1.sz;dsimp only at z Q J hr hq;rw[b0] at Q J hr hq;rw[bx] at J hr;exact⟨I,cM,bb,bd,be,N,p,a1,k1,a2,C,rfl,c2,Q,⟨b1.mi.len,b1.mi.al⟩,J,V,b2,fun k e=>⟨by have:=(hr k e).1;omega,(hr k e).2⟩,fun k e=>⟨by have:=(hq k e).1;omega,(hq k e).2⟩,tk.fr.os,tk.fr.tape,tk.fr.output⟩
 have cC:=h.cells.2.2.2.2.2.2.2.2;have R:ay (∀b,F b↔l.own b≠0):=bp;have j:ay (dS bY b_ bZ l s w/\fH s/\hL (lJ w bY b_ bZ l s)):=⟨h,hv,hg⟩
 generalize b3:(if cnf g s bZ mj=true then(3:Int) else 0)=cd;generalize b4:(if cnf g s bZ mj=true then s else s.iT g mj)=sd;have q:ay ((if cnf g s bZ mj=true then(3:Int) else 0)=cd/\(if cnf g s bZ mj=true then s else s.iT g mj)=sd):=⟨b3,b4⟩
 clear h bp hv a0 hs hy hg bs ai b3 b4;go_enter func202,ntmps202;go_wp2_with fail;refine P.mono ?_;clear P;rintro e w1 ⟨al,am,an,ao,ap,n,rfl,c1,aB,D,O,ar⟩
 have P:=bt.out al am an ao ap n w1 c1 D O ar;have t:ay (w1.os=w.os/\w1.tape=w.tape/\w1.output=w.output):=⟨aB.fr.os,aB.fr.tape,aB.fr.output⟩
 clear c1 aB D O ar bt;go_wp2_with fail;refine P.mono ?_;clear P;rintro e E ⟨cD,cE,cl,cF,cG,b5,p,a1,k1,a2,C,rfl,m⟩
 have b6:iE s.T b5.A s.T.length=iE s.T (s.cR g mj).1 s.T.length:=by rw[m.out.2.1]
 have P:=Iq j.out.2.2 (m.out.1.below (aH _ E).drew) m.out.2.2.1.len;have b7:=m.out.1.gv j.out.2.2.g;obtain⟨_,S,_,_,_,_,_,_,bg⟩:=b7.cells;dsimp only at S P bg;rw[b6] at P;have cI:=zU s.T (s.cR g mj).1 j.out.2.1.iv.tl s.T.length;have cJ:=j.out.2.1.tl;have aF:ay (cnf g s bZ mj=decide (bZ<iE s.T (s.cR g mj).1 s.T.length)):=rfl;generalize iE s.T (s.cR g mj).1 s.T.length=cm at*;clear b7 b6;by_cases b9:bZ<cm
 ·have U:cnf g s bZ mj=true:=by rw[aF.out,bh b9]
  have W:ay (cd=3/\sd=s):=by rw[U] at q;exact⟨q.out.1.symm,q.out.2.symm⟩
  have X:ay (∀c,aw E c->(cx bY b_ bZ l.rb).J F s c/\b8 F w F c):=fun c hb=>by have c3:=m.out.1.below hb;have o:=m.out.2.2.2.2.2.2.2.2;refine⟨⟨l,c3.gv j.out.2.2.g,rfl,R.out⟩,⟨⟨hb.os.trans (o.1.trans t.out.1),hb.tape.trans (o.2.1.trans t.out.2.1),hb.output.trans (o.2.2.trans t.out.2.2),c3.sz,fun k hk _=>c3.ol k hk⟩,fun _ h=>aK h⟩⟩
  clear aF U m t j R q;go_wp2_with fail
  go_region_held3 (fun w'=>w'.cell? (aq bY 1)=some (ah bZ)) (go_keep)
   (first|(go_at_call 235;refine P.mono ?_;clear P;rintro e c ⟨rfl,G⟩;have bi:=(G.cell (p:=aq bY 1) bg).trans S;have ca:ay (_):=X.out c (((aH _ E).drew).trans (G.mono bW));clear G X))
  all_goals
   clear S bi;go_wp2_with fail;go_ret;exact⟨F,by rw[W.out.1];rfl,by rw[W.out.2];exact ca.out.1,ca.out.2⟩
 ·have U:cnf g s bZ mj=false:=by rw[aF.out,bq b9]
  have W:ay (cd=0/\sd=s.iT g mj):=by rw[U] at q;exact⟨q.out.1.symm,q.out.2.symm⟩
  have X:ay (∀c,aw E c->Calls prog 236 #[aj (w.heap.size+1+1)] c fun e d=>e=.returned (.tuple #[])/\d.cell? (aq (w.heap.size+1+1) 1)=some (.map (some w.heap.size))/\
   d.heap[bY]?=some (.cells #[ah b_,ah bZ,.map (some l.mb),ah s.T.length,ah l.fe,aj l.bp,.slice (ak l.rb) 12 12] 187 (0,0))/\
   ay (∀u,Fr (fun k=>k=bY) d u->u.heap[bY]?=some (.cells #[ah b_,ah bZ,.map (some w.heap.size),ah s.T.length,ah s.T.length,aj p,.slice (ak l.rb) 12 12] 187 (0,0))->∃B,(cx bY b_ bZ l.rb).J B (s.iT g mj) u/\b8 F w B u)):=fun c hb=>by
   have c3:=m.out.1.below hb;obtain⟨cK,Q,Y,J,hp,b2,hr,hq,o⟩:=m.out;have hv:=j.out.2.1;have h:=j.out.1;have bl:=c3.gv j.out.2.2.g;have lw:∀b,l.own b≠0->b<w.heap.size:=h.lt;have z0:∀b,w.heap.size<=b->l.own b=0:=fun b v=>by
    cases e:l.own b
    ·rfl
    ·exact absurd (lw b (by rw[e];omega)) V
   have hB:=IJ hv Y;refine(HZ (fm:=l.fm) (lab:=l.own) (cp:=w.heap.size+1+1) (ab:=w.heap.size) (n1:=cl) ⟨c3.cells.2.1,c3.am,fun i hi=>bl.g2.fl i (Y.al i hi),fun i hi k e=>h.g2.eR i (Y.al i hi) k e,z0 _ V,z0 _ bW⟩ hB (fun b v=>aM (lw b v) c3.sz) (fun i hi=>by have:=(Y.al i hi).1;omega)).mono ?_;rintro e d ⟨rfl,K,x⟩
   have co:d.heap[bY]?=c.heap[bY]?:=x.block bY (lt_of_some bl.blk) (fun M=>by have:=h.bo;omega)
   refine⟨rfl,K.c1,co.trans bl.blk,fun u A cb=>?_⟩
   have cc:∀b,w.heap.size<=b->b≠bY:=fun b v e=>by omega
   have k5:∀b,b<c.heap.size->b≠bY->¬10<=l.own b->u.heap[b]?=c.heap[b]?:=fun b v hn cq=>(A.block b (aM v x.size) hn).trans (x.block b v cq)
   have bn:∀b,w.heap.size<=b->b<c.heap.size->u.heap[b]?=c.heap[b]?:=fun b aR bo=>k5 b bo (cc b aR) (by rw[z0 b aR];omega)
   have aV:=J.below hb;have cr:fu u p a1 k1 a2 C (s.iT g mj).rg (s.iT g mj).wt:=aV.keep (bn p hp (lt_of_some aV.blk)) (fun k e=>bn k (hr k e).1 (cn aV.r0 k e).2) (fun k e=>bn k (hq k e).1 (cn aV.q0 k e).2)
   obtain⟨ce,g1,g2⟩:=h.cut Y hB (aT c3.sz (aT x.size A.size)) (fun b cs=>(k5 b (aM (lw b V) c3.sz) (fun e=>by have:=h.bo;rw[e] at cs;omega) V).trans (c3.ol b (lw b V))) cb
    (K.hM.same (A.block _ K.hM.lt (cc _ bW))) (by have:=c3.an;dsimp only at this;omega) (fun i hi=>cH (K.row i hi) (fun k e=>A.block k (cn (K.row i hi) k e).2 (fun M=>by have aR:=K.lb i hi k e;have bo:=h.bo;rw[M,bo] at aR;omega))) cr ⟨aD _,hp⟩ (fun k e=>(hr k e).1) (fun k e=>(hq k e).1) (fun k e=>(hr k e).2.2)
   have cu:({T:=f6 b5.A s.T s.T.length,rs:=s.rs,rg:=(s.iT g mj).rg,wt:=(s.iT g mj).wt}:ck)=s.iT g mj:=by rw[Q];rfl
   rw[cu] at g1;refine⟨fun b=>ce.own b≠0,⟨ce,g1,g1.HI (by simp[World.cell?,cb]),fun _=>Iff.rfl⟩,⟨⟨A.os.trans (x.os.trans (hb.os.trans (o.1.trans t.out.1))),A.tape.trans (x.tape.trans (hb.tape.trans (o.2.1.trans t.out.2.1))),A.output.trans (x.output.trans (hb.output.trans (o.2.2.trans t.out.2.2))),aT c3.sz (aT x.size A.size),fun k hk hn=>?_⟩,fun b v=>(g2 b v).imp (R.out b).2 id⟩⟩
   have cv:l.own k=0:=by
    cases e:l.own k
    ·rfl
    ·exact absurd ((R.out k).2 (by rw[e];omega)) hn
   exact(k5 k (aM hk c3.sz) (fun e=>by have:=h.bo;rw[e] at cv;omega) V).trans (c3.ol k hk)
  clear aF U m t j R q;go_wp2_with fail
  go_region_held3 (fun w'=>w'.cell? (aq bY 1)=some (ah bZ)) (go_keep)
   (first|(go_at_call 235;refine P.mono ?_;clear P;rintro e c ⟨rfl,G⟩;have bi:=(G.cell (p:=aq bY 1) bg).trans S;have cf:=X.out c (((aH _ E).drew).trans (G.mono bW));clear G X))
  all_goals
   clear S bi;go_wp2_with fail;refine cf.mono ?_;clear cf;rintro e d ⟨rfl,ad,H,cg⟩
   have ch:ay (_=_):=H;have cw:d.cell? (aq bY 2)=some (.map (some l.mb)):=by simp[World.cell?,H]
   have ag:d.cell? (aq bY 3)=some (ah s.T.length):=by simp[World.cell?,H]
   have cy:d.cell? (aq bY 4)=some (ah l.fe):=by simp[World.cell?,H]
   have cz:d.cell? (aq bY 5)=some (aj l.bp):=by simp[World.cell?,H]
   have cA:∀o,d.frozen? (aq bY o)=false:=fun o=>by simp[World.frozen?,H]
   have L:bY≠w.heap.size+1+1:=V;clear H;go_wp2_with fail
   go_region_held3 (fun w'=>w'.cell? (aq (w.heap.size+1+1) 1)=some (.map (some w.heap.size))/\w'.cell? (aq bY 3)=some (ah s.T.length)) (first|exact⟨ad,ag⟩|exact⟨ox L ad,uC ag⟩|exact⟨ox L (ox L ad),Au (uC ag)⟩|exact⟨ox L (ox L (ox L ad)),IM (Au (uC ag))⟩|(go_keep;done)) (fail)
   all_goals
    clear ‹_/\_›;obtain⟨B,dC,ci⟩:=cg.out _ (((((Fr.refl (fun k=>k=bY) d).set bY 2 _ rfl).set bY 5 _ rfl).set bY 4 _ rfl).drew) (IL ch.out)
    have cj:ay (_):=And.intro dC ci;clear dC ci cg ch ad cw ag cy cz cA;go_wp2_with fail;go_ret;exact⟨B,by rw[W.out.1];rfl,by rw[W.out.2];exact cj.out.1,cj.out.2⟩
end
theorem IN (x:Int)(w:ax):Calls prog 204 #[ah x] w fun e w'=>e=.returned (.bool false)/\aw w w':=by go_wp2;go_ret;exact⟨rfl,aH _ _⟩
section
variable {bY rb:Nat}{b_ bZ:Int}{l:gF}{F:Nat->Prop}{s:ck}{w:ax}{g:List Bool->List Bool}
theorem IP:rj (lJ w bY b_ bZ l s) 204 #[] #[] (fun _=>false):=
 ⟨f_ func204 ae rfl,fun x w' _=>IN x w'⟩
theorem IQ (h:dS bY b_ bZ l s w):rj (lJ w bY b_ bZ l s) 203 #[aj bY] #[] (fun x=>decide (x<l.fe)):=
 ⟨f_ func203 ae rfl,fun x w' hk=>by
  have c:=h.cells;have e:=hk bY c.2.2.2.2.2.2.2.2;refine(Am (fe:=l.fe) ?_ x).mono ?_
  ·have:=c.2.2.2.2.1;simp only [World.cell?] at this⊢
   rw[e];exact this
  ·rintro e b ⟨rfl,rfl⟩
   exact⟨rfl,aH _ _⟩⟩
theorem IR:rz s true (fun _=>false):=fun _ _=>⟨fun h=>(by cases h),fun h=>(by cases h.2)⟩
theorem IS (h:dS bY b_ bZ l s w):rz s false (fun x=>decide (x<l.fe)):=fun i hi=>by rw[h.g2.fe i hi];simp
theorem IT {mj:Bool}(h:s.cF g bZ mj=true):s.gN g bZ mj=3/\s.cut g bZ mj=s:=by unfold ck.gN ck.cut;rw[aI h,aI h];exact⟨rfl,rfl⟩
theorem Aw {mj:Bool}(h:mj=true\/¬(bZ-(d_ s.T).2<(d_ s.T).1)):s.gN g bZ mj=(if cnf g s bZ mj=true then 3 else 0)/\s.cut g bZ mj=(if cnf g s bZ mj=true then s else s.iT g mj):=by
 have e:s.cF g bZ mj=cnf g s bZ mj:=by
  unfold ck.cF cnf;rcases h with h|h
  ·rw[h];simp
  ·rw[bq h];simp
 unfold ck.gN ck.cut ck.iT;rw[e];exact⟨rfl,rfl⟩
theorem Ax (h:(cx bY b_ bZ rb).J F s w)(hv:fH s)(c:dR s.T s.wt g):
 Calls prog 135 #[aj bY] w fun e w'=>∃b,e=.returned (ah (s.gN g bZ true))/\(cx bY b_ bZ rb).J b (s.cut g bZ true) w'/\b8 F w b w':=by
 obtain⟨l,hg,d,f⟩:=h;have P:=Av hg f hv c true IP IR;rw[d] at P;obtain⟨i,j⟩:=Aw (aK rfl)
 rw[<-i,<-j] at P;clear hg d f hv c i j;go_enter func135,ntmps135;go_wp2_with fail;refine P.mono ?_;rintro e w1 ⟨b,rfl,k,ht⟩
 go_wp2;go_ret;exact⟨b,rfl,(dq k ht).out⟩
theorem Ay (h:(cx bY b_ bZ rb).J F s w)(hv:fH s)(j:dR s.T s.wt g)(g0:-1000000<=bZ)(g1:bZ<=1000000):
 Calls prog 134 #[aj bY] w fun e w'=>∃F',e=.returned (ah (s.gN g bZ false))/\(cx bY b_ bZ rb).J F' (s.cut g bZ false) w'/\b8 F w F' w':=by
 obtain⟨l,hg,b,c⟩:=h;have P:=uw hg hv.iv.tl hv.tl;have bd:=xS s.T hv.t12;have A:=hv.tl;obtain⟨_,_,_,_,_,_,_,_,B⟩:=hg.cells;have d:ay (∀w1,aw w w1->_=_):=fun w1 hb=>(hg.below hb).cells.2.1;have p:ay (¬(bZ-(d_ s.T).2<(d_ s.T).1)->∀w1,aw w w1->Calls prog 202 #[aj bY,.func (.func 203) #[aj bY] #[]] w1 fun e w'=>∃F',e=.returned (ah (s.gN g bZ false))/\(cx bY b_ bZ rb).J F' (s.cut g bZ false) w'/\b8 F w F' w'):=fun hn w1 hb=>by
  have f:=hg.below hb;have k:=Av f c hv j false (IQ f) (IS f)
  rw[b] at k;refine k.mono ?_;obtain⟨q,t⟩:=Aw (s:=s) (bZ:=bZ) (g:=g) (mj:=false) (aJ hn)
  rw[<-q,<-t];exact uB
 have u:ay (bZ-(d_ s.T).2<(d_ s.T).1->s.gN g bZ false=3/\s.cut g bZ false=s):=fun hn=>IT (by unfold ck.cF;rw[bh hn];rfl)
 have i:ay (∀w1,aw w w1->(cx bY b_ bZ rb).J F s w1):=fun w1 hb=>⟨l,hg.below hb,b,c⟩
 generalize s.gN g bZ false=cd at*;generalize s.cut g bZ false=sd at*;generalize (d_ s.T).1=v at*;generalize (d_ s.T).2=x at*;clear hg b c hv j;by_cases hn:bZ-x<v
 ·have m:ay (cd=3/\sd=s):=u.out hn;go_enter func134,ntmps134;go_wp2_with fail;refine P.mono ?_;rintro e w1 ⟨rfl,hb⟩
  have c1:=d.out w1 hb;have n:ay ((cx bY b_ bZ rb).J F s w1/\b8 F w F w1):=⟨i.out w1 hb,b8.of hb⟩
  go_wp2_with fail;go_ret;exact⟨F,by rw[m.out.1];rfl,by rw[m.out.2];exact n.out.1,n.out.2⟩
 ·have o:=hide (p.out hn)
  go_enter func134,ntmps134;go_wp2_with fail;refine P.mono ?_;rintro e w1 ⟨rfl,hb⟩
  have c1:=d.out w1 hb;have P:=o.out w1 hb;clear d hb o;go_wp2_with fail;refine P.mono ?_;rintro e C ⟨F',rfl,hj,ht⟩
  have i:=dq hj ht;go_wp2_with fail;go_ret;exact⟨F',rfl,i.out⟩
theorem IU {g:gO}{m:Int}(h:(cx bY b_ bZ rb).J F s w)(hv:fH s)(b:dR s.T s.wt (g s.T s.wt))(g0:-1000000<=bZ)(g1:bZ<=1000000)(i:-1000000<=b_)(m1:b_<=1000000):
 Calls prog 238 #[aj bY,ah m] w fun e w'=>∃F',e=.returned (ah (s.room g b_ bZ m).1)/\(cx bY b_ bZ rb).J F' (s.room g b_ bZ m).2 w'/\b8 F w F' w':=by
 obtain⟨l,hg,c,d⟩:=h;have P:=uw hg hv.iv.tl hv.tl;have bd:=xS s.T hv.t12;have j:=hv.tl;obtain⟨_,_,_,_,_,_,_,_,k⟩:=hg.cells;have HC:ay (∀w1,aw w w1->w1.cell? (aq bY 0)=some (ah b_)/\w1.cell? (aq bY 1)=some (ah bZ)):=fun w1 hb=>⟨(hg.below hb).cells.1,(hg.below hb).cells.2.1⟩
 have HJ:ay (∀w1,aw w w1->(cx bY b_ bZ rb).J F s w1):=fun w1 hb=>⟨l,hg.below hb,c,d⟩
 by_cases c1:m<=b_-(d_ s.T).1
 ·have e:s.room g b_ bZ m=(0,s):=aI c1;rw[e];generalize (d_ s.T).1=yn at*;generalize (d_ s.T).2=od at*;go_enter func238,ntmps238;go_wp2_with fail;refine P.mono ?_;rintro e w1 ⟨rfl,hb⟩
  obtain⟨d0,d1⟩:=HC.out w1 hb;have f:ay ((cx bY b_ bZ rb).J F s w1/\b8 F w F w1):=⟨HJ.out w1 hb,b8.of hb⟩
  go_wp2_with fail;go_ret;exact⟨F,rfl,f.out⟩
 ·by_cases c2:bZ-(d_ s.T).2<(d_ s.T).1
  ·have e:s.room g b_ bZ m=(s.gN (g s.T s.wt) bZ true,s.cut (g s.T s.wt) bZ true):=by unfold ck.room;rw[aG c1,bh c2]
   rw[e];have HP:ay (∀w1,aw w w1->Calls prog 135 #[aj bY] w1 fun e w'=>∃F',e=.returned (ah (s.gN (g s.T s.wt) bZ true))/\(cx bY b_ bZ rb).J F' (s.cut (g s.T s.wt) bZ true) w'/\b8 F w F' w'):=fun w1 hb=>by refine(Ax (HJ.out w1 hb) hv b).mono ?_;exact uB
   generalize s.gN (g s.T s.wt) bZ true=cd at*;generalize s.cut (g s.T s.wt) bZ true=sd at*;exact Aq
  ·have e:s.room g b_ bZ m=(s.gN (g s.T s.wt) bZ false,s.cut (g s.T s.wt) bZ false):=by unfold ck.room;rw[aG c1,bq c2]
   rw[e];have HP:ay (∀w1,aw w w1->Calls prog 134 #[aj bY] w1 fun e w'=>∃F',e=.returned (ah (s.gN (g s.T s.wt) bZ false))/\(cx bY b_ bZ rb).J F' (s.cut (g s.T s.wt) bZ false) w'/\b8 F w F' w'):=fun w1 hb=>by refine(Ay (HJ.out w1 hb) hv b g0 g1).mono ?_;exact uB
   generalize s.gN (g s.T s.wt) bZ false=cd at*;generalize s.cut (g s.T s.wt) bZ false=sd at*;exact Aq
end
theorem IV (w:ax):(w.alloc (.cells #[] 97)).ownsRow w.heap.size 97 2 (.slice (ak w.heap.size) 0 0) 0 []:=
 ⟨rfl,aJ ⟨w.heap.size,0,#[],rfl,aD _,aN _ _,aD _,aZ _,rfl,rfl⟩⟩
theorem rA:(prog.info? 97).map (fun i=>(i.zero,i.size,i.bytes))=some (some (.agg #[ah 0,ah 0]),2,16):=ae
theorem IW (w:ax)(ad:Option Addr)(l:List (Int×Int))(cap:Nat)(h:ir w ad l cap)(hm:l.length<=100000):
 Calls prog 237 #[.slice ad l.length cap] w fun e w'=>∃a1 c1,e=.returned (.slice a1 l.length c1)/\w'.ownsRow w.heap.size 97 2 (.slice a1 l.length c1) l.length (ev l)/\aw w w':=by
 obtain⟨d,hi,f,g,i⟩:=info_parts rA;have o:∀(w:ax)(a:Option Addr)(n c:Nat),_=_:=fun w a n c=>Lib.run_eql_slice_nil w _ _ a n c 0 0 Tryz.underlying57;have j:=hide h.lp;cases ad with
 |none=>
  have hl:=List.eq_nil_of_length_eq_zero (h.nil rfl).1;subst hl;go_enter func237,ntmps237;go_wp2;go_ret;exact⟨none,0,rfl,bc _ _ _ _,aH _ _⟩
 |some a=>
  clear h;go_enter func237,ntmps237;go_wp2_with (at_builtin;refine wpList_append_own _ rfl _ _ 57 rfl w.heap.size 97 d _ 2 16 Tryz.underlying57 hi f g i rfl aa _ 0 [] rfl (IV w) a l.length cap (ev l) rfl (kB l) ((j.out.below (bX.alloc bW _)).cells a rfl) (nP l) ?_ ?_ ?_ ?_;(unfold maxLen;omega);omega;(simp);intro v w1 b m _)
  rw[List.nil_append,Nat.zero_add] at b;obtain⟨a1,c1,rfl⟩:=eE b;go_wp2;go_ret;exact⟨a1,c1,rfl,b,(bX.alloc bW _).grown m Z (fun k e=>by cases e;exact aD _)⟩
section
variable {bY:Nat}{b_ bZ:Int}{l:gF}{F:Nat->Prop}{s:ck}{w w':ax}
theorem uD (T:List cD)(t:cD)(i:Nat):(T++[t]).getD i t0=if i=T.length then t else T.getD i t0:=by exact Ar
theorem oy (T:List cD)(k:Int)(fl:List _)(i:Nat):cv (T++[(k,fl,false,false)]) i↔cv T i\/i=T.length:=by unfold cv;rw[uD,aX,List.length_singleton];exact As
theorem dS.new (h:dS bY b_ bZ l s w){kd:Int}{fl:List _}{a:Option Addr}{cp:Nat}(hs:w.heap.size<=w'.heap.size)(hk:∀b,l.own b≠0->l.own b≠1->l.own b≠2->w'.heap[b]?=w.heap[b]?)
 (hb:w'.heap[bY]?=some (.cells #[ah b_,ah bZ,.map (some l.mb),ah (s.T.length+1:Nat),ah l.fe,aj l.bp,.slice (ak l.rb) 12 12] 187 (0,0)))
 (hM:es w' l.mb (l.n+1) (jG (hJ s.T l.fm) s.T.length (.agg #[ah kd,.slice a fl.length cp])))(q:w'.ownsRow 0 97 2 (.slice a fl.length cp) fl.length (ev fl))
 (hn:∀k,some k=(Value.slice a fl.length cp).ownBlock->l.own k=0):
 ∃o,dS bY b_ bZ o (s.put kd fl) w'/\(∀b,o.own b≠0->l.own b≠0\/some b=(Value.slice a fl.length cp).ownBlock)/\o.rb=l.rb:=by
 have ho:∀b,l.own b≠0->(if some b=(Value.slice a fl.length cp).ownBlock then 10+s.T.length else l.own b)=l.own b:=fun b hb=>aG (fun e=>hb (hn b e))
 have ne:∀i,cv s.T i->i≠s.T.length:=fun i hi e=>by have:=hi.1;omega
 have g:∀i,i≠s.T.length->(s.T++[(kd,fl,false,false)]).getD i t0=s.T.getD i t0:=fun i e=>by rw[uD,aG e]
 have j:(s.T++[(kd,fl,false,false)]).getD s.T.length t0=(kd,fl,false,false):=by rw[uD,aI rfl]
 have t:jG (hJ s.T l.fm) s.T.length (.agg #[ah kd,.slice a fl.length cp])=hJ (s.T++[(kd,fl,false,false)]) (fun i=>if i=s.T.length then(a,cp) else l.fm i):=by
  funext x
  unfold jG;by_cases e:x=s.T.length
  ·rw[aI e,jb ⟨V,(oy _ _ _ _).2 (aJ V)⟩];have m:x.toNat=s.T.length:=V;dsimp only [fW,eD];rw[m,j,aI rfl]
  ·rw[aG e];by_cases f:0<=x/\cv s.T x.toNat
   ·have m:=ne _ f.2;rw[jb f,jb ⟨f.1,(oy _ _ _ _).2 (aK f.2)⟩];dsimp only [fW,eD];rw[g _ m,aG m]
   ·rw[lH f,lH (fun c=>by
     rcases(oy _ _ _ _).1 c.2 with d|d
     ·exact f ⟨c.1,d⟩
     ·exact e V)]
 refine⟨{l with own:=fun b=>if some b=(Value.slice a fl.length cp).ownBlock then 10+s.T.length else l.own b,fm:=fun i=>if i=s.T.length then(a,cp) else l.fm i,n:=l.n+1},?_,fun b hb=>?_,rfl⟩
 ·refine {blk:=?_,bo:=(ho _ (by rw[h.bo];decide)).trans h.bo,g2:=?_,g3:=?_,g4:=?_,lt:=fun b p=>?_}
  ·show _=some (Obj.cells #[_,_,_,ah ((s.T++[(kd,fl,false,false)]).length:Nat),_,_,_] _ _)
   rw[aX,List.length_singleton];exact hb
  ·refine {mp:=?_,mn:=?_,dp:=(ho _ (by rw[h.g2.dp];decide)).trans h.g2.dp,fl:=fun i hi=>?_,eR:=fun i hi k e=>?_,fe:=fun i hi=>?_,al:=?_}
   ·show es w' l.mb (l.n+1) (hJ (s.T++[(kd,fl,false,false)]) _)
    rw[<-t];exact hM
   ·have:=h.g2.mn;show l.n+1<=(s.T++[(kd,fl,false,false)]).length;rw[aX,List.length_singleton];omega
   ·rcases(oy _ _ _ _).1 hi with d|d
    ·dsimp only [eD,ck.put];rw[g i (ne i d),aG (ne i d)];exact cH (h.g2.fl i d) (fun k e=>hk k (by rw[h.g2.eR i d k e];omega) (by rw[h.g2.eR i d k e];omega) (by rw[h.g2.eR i d k e];omega))
    ·dsimp only [eD,ck.put];rw[d,j,aI rfl];exact q
   ·rcases(oy _ _ _ _).1 hi with d|d
    ·dsimp only [eD,ck.put] at e;rw[g i (ne i d),aG (ne i d)] at e;have:=h.g2.eR i d k e;exact(ho k (by rw[this];omega)).trans this
    ·dsimp only [eD,ck.put] at e;rw[d,j,aI rfl] at e;show(if _ then _ else _)=_;rw[aI e,d]
   ·rcases(oy _ _ _ _).1 hi with d|d
    ·dsimp only [ck.put];rw[g i (ne i d)];exact h.g2.fe i d
    ·have:=h.g2.al;dsimp only [ck.put];rw[d,j];simp;exact this
   ·have:=h.g2.al;show l.fe<=(s.T++[(kd,fl,false,false)]).length;rw[aX,List.length_singleton];omega
  ·have z:=h.g3.keep (fun b hb=>hk b V V V)
   exact {sd:=z.sd,so:=(ho _ (by rw[z.so];decide)).trans z.so,ro:=fun k e=>(ho k (by rw[z.ro k e];decide)).trans (z.ro k e),mf:=fun k e=>(ho k (by rw[z.mf k e];decide)).trans (z.mf k e)}
  ·have z:=h.g4.keep (fun b hb=>hk b V V V)
   exact {rt:=z.rt,rl:=z.rl,ro:=(ho _ (by rw[z.ro];decide)).trans z.ro}
  ·dsimp only at p;split at p
   ·rename_i e;exact(cn q b e).2
   ·exact aM (h.lt b p) hs
 ·dsimp only at hb;split at hb
  ·exact aJ (by assumption)
  ·exact aK hb
end
end Go.Proofs.YtpkjkjhanlbcoaaGreat
