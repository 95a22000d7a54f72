import Derived.Test.YtjckpdepffejnaaGreatDoorJ18
open Array renaming size->I
open Bool renaming false->D,true->C
open Go renaming Addr->bB,Calls->M,TypeId->bI,Value->a7,info_parts->bM,splice->lF
open Go.Ending renaming returned->OV
open Go.IntKind renaming i64->OW,u64->rT
open Go.Obj renaming cells->OX
open Go.Proofs.Tryz renaming prog->J
open Go.RowKit renaming Below->O
open Go.Value renaming agg->bz,int->U,ownBlock->A,pointer->bq,slice->Z,tuple->ay
open Go.World renaming alloc->bu,cell?->V,heap->G,ownsRow->aC,setCell->O8
open Iff renaming rfl->gp
open List renaming eq_nil_of_length_eq_zero->bU,getD->X,getElem?_eq_none->qo,getElem?_eq_some_iff->pq,length->L,length_singleton->rp,replicate->aZ,replicate_append_replicate->mg
open Nat renaming min->l8,min_def->sw,zero_add->bW
open Option renaming none->Y,some->H
open Option.some renaming inj->kg
namespace Go.Proofs.YtjckpdepffejnaaGreatDoor
set_option maxRecDepth 100000
set_option maxHeartbeats 8000000
open Tryz
open Go.RowKit W Kp ch
theorem Cb {P:Prop}(h:P:=by
 generalize (ei s.T).1=yn at*;generalize (ei s.T).2=od at*;go_enter func288,ntmps288;go_wp2_with fail;refine P.mono ?_;clear P;rintro e w1 ⟨rfl,hb⟩
 obtain⟨d0,d1⟩:=HC.o w1 hb;have P:=HP.o w1 hb;clear HC hb HP;go_wp2_with fail;refine P.mono ?_;rintro e w2 ⟨F',rfl,hj,ht⟩
 have HJ:=cU hj ht;go_wp2_with fail;go_ret;exact⟨F',rfl,HJ.o⟩):P:=h
theorem tC {P:Prop}(h:P:=by simp only [World.setCell,Array.getElem?_modify,if_true,h,Option.map_some];rfl):P:=h
theorem w7 {P:Prop}(h:P:=by
 rintro e w' ⟨F',rfl,hj,ht⟩
 exact⟨F',rfl,hj,(b9.of hb).trans ht⟩):P:=h
theorem Ce {P:Prop}(h:P:=by rw[World.cell?_setCell_far _ _ _ _ (λe=>hn e.symm),World.cell?_setCell_far _ _ _ _ (λe=>hn e.symm)];exact h):P:=h
section
variable {b7:Nat}{ce grow:Int}{l:ik}{F:Nat->Prop}{s:ck}{w:az}{g:List Bool->List Bool}
abbrev m6 (w:az)(b7:Nat)(ce grow:Int)(l:ik)(s:ck):Cp:=⟨w,b7,ce,grow,l,s,I (G w)+1+1,I (G w),I (G w)+1⟩
abbrev K3 (s:ck):dG:=⟨aZ (L s.T) D,[],λ_=>[],0⟩
def tD (w:az)(b:Nat):Nat:=if b=I (G w) then 2 else if b=I (G w)+1 then 4 else if b=I (G w)+1+1 then 1 else 0
theorem c7.start (w:az)(b7:Nat)(ce grow:Int)(l:ik)(s:ck):
 c7 (m6 w b7 ce grow l s) (tD w) (Z Y 0 0) 0 0 (λ_=>(Y,0)) (K3 s) (bu (bu (bu w (.map #[] 0)) (.map #[] 0)) (OX #[bq (H ⟨b7,0,Y⟩),.map (H (I (G w))),Z Y 0 0,.map (H (I (G w)+1))] 326)):=by
 have c:O (I (G w)) w (bu (bu (bu w (.map #[] 0)) (.map #[] 0)) (OX #[bq (H ⟨b7,0,Y⟩),.map (H (I (G w))),Z Y 0 0,.map (H (I (G w)+1))] 326)):=((bZ.alloc aa _).alloc ac _).alloc (by simp;omega) _;have m1:=(eT.made w)
 have d:=(eT.made (bu w (.map #[] 0)))
 have hz:I (G (bu w (.map #[] 0)))=I (G w)+1:=ac;rw[hz] at d;have ea:(λ_=>Y)=fD s.T l.fm (aZ (L s.T) D):=by grind [fD]
 have g:(λ_=>Y)=hdF (λ_=>[]) (λ_=>(Y,0)):=rfl;refine {ol:=λk hk=>c.block k hk,sz:=c.size,cb:=wG w _ _ _,co:=?_,am:=?_,ao:=?_,an:=?_,tr:=⟨rfl,aK ⟨rfl,rfl⟩⟩,tw:=λk e=>(by cases e),tn:=?_,hq:=?_,ho:=?_,hn:=aG _,hr:=λx f=>(by grind),hro:=λx f=>(by grind),lt:=λb hb=>?_}
 ·grind [tD]
 ·grind [eT.same,aU]
 ·grind [tD]
 ·grind [cnt]
 ·grind [cnt]
 all_goals grind [eT.same,aU,bh,tD]
theorem K4 (h:dO b7 ce grow l s w)(hv:fX s):iV (m6 w b7 ce grow l s):=⟨h,hv.tl,hv.iv,aQ hv.wl ae⟩
theorem K5 (hv:fX s){A:List Bool}(c:hQ s.T A):pP s.T A:=⟨λi hi hk=>(by grind [e6.fl,fX.iv,hQ.al]),λi hi d=>by
 have hl:0<L (X s.T i t0).2.1:=by grind
 obtain⟨a,b⟩:=hv.iv.fv i (c.al i hi) _ (by grind) d;have:=b.1
 grind [fX.tl]⟩
def tE (s:ck)(mj:Bool)(b:Int->Bool):Prop:=∀i:Nat,cz s.T i->(b i=C↔(X s.T i t0).2.2.1=C/\mj=D)
theorem K6 (hv:fX s){mj:Bool}{d:Int->Bool}(hs:tE s mj d):B9 (m6 w b7 ce grow l s) d (k9 s.T s.rs mj) where
 st:=λi hi h=>(lM _ _ _ _).2 ⟨hi.1,aK ⟨((hs i hi).1 h).1,hi.2,((hs i hi).1 h).2⟩⟩
 rt:=λv e f=>(lM _ _ _ _).2 ⟨(hv.rv v e f).2.1,aI ⟨v,e,f,rfl⟩⟩
 up:=λi hi=>by
  obtain⟨g,j⟩:=(lM _ _ _ _).1 hi;rcases j with⟨a,b,c⟩|c
  ·exact aK ⟨⟨g,b⟩,(hs i ⟨g,b⟩).2 (by grind)⟩
  grind
 rv:=hv.rv
def cnf (g:List Bool->List Bool)(s:ck)(grow:Int)(mj:Bool):Bool:=decide (grow<jg s.T (s.cR g mj).1 (L s.T))
def ck.jB (g:List Bool->List Bool)(s:ck)(mj:Bool):ck:=
 {T:=gW (s.cR g mj).1 s.T (L s.T),rs:=s.rs,rg:=s.rg.filter (λe=>cZ (s.c0 g mj) e.2&&cZ (s.cR g mj).1 e.1),wt:=(s.wt++(s.cR g mj).2.1).filter (λe=>cZ (s.cR g mj).1 e.1)}
theorem K7 {w:az}{b7 ab p mk:Nat}{ce grow:Int}{m b r:a7}{n a:Nat}(h:w.heap[b7]?=H (OX #[ak ce,ak grow,m,ak n,ak a,b,r] 200 (0,0))):
 (O8 (O8 (O8 w ⟨b7,2,Y⟩ (.map (H ab))) ⟨b7,5,Y⟩ (bq (H ⟨p,0,Y⟩))) ⟨b7,4,Y⟩ (U OW mk)).heap[b7]?=H (OX #[ak ce,ak grow,.map (H ab),ak n,ak mk,aq p,r] 200 (0,0)):=by
 exact tC
theorem pS {w:az}{b7 b o c:Nat}{v x:a7}(hn:b7≠b)(h:V w (av b c)=H x):V (O8 w ⟨b7,o,Y⟩ v).drew (av b c)=H x:=by grind [World.cell?_drew,World.cell?_setCell_far]
theorem w8 {w:az}{b7:Nat}{v x:a7}(h:V w (av b7 3)=H x):V (O8 w ⟨b7,2,Y⟩ v).drew (av b7 3)=H x:=by grind [World.cell?_drew,aY]
theorem Cf {w:az}{b7:Nat}{v x:a7}(h:V w (av b7 3)=H x):V (O8 w ⟨b7,5,Y⟩ v).drew (av b7 3)=H x:=by grind [World.cell?_drew,aY]
theorem K8 {w:az}{b7:Nat}{v x:a7}(h:V w (av b7 3)=H x):V (O8 w ⟨b7,4,Y⟩ v).drew (av b7 3)=H x:=by grind [World.cell?_drew,aY]
theorem Ch (h:dO b7 ce grow l s w)(cb:∀b,F b↔l.own b≠0)(hv:fX s)(b1:dS s.T s.wt g)(mj:Bool){f:Nat}{b d:Array a7}{cc:Int->Bool}(hs:tu (m6 w b7 ce grow l s) f b d cc)(hy:tE s mj cc):
 M prog 205 #[aq b7,.func (.func f) b d] w λe w'=>∃S,e=OV (ak (if cnf g s grow mj=C then 3 else 0))/\(cG b7 ce grow l.rb).J S (if cnf g s grow mj=C then s else s.jB g mj) w'/\b9 F w S w':=by
 have cU:=@run_makeMap prog;have hg:=K4 h hv;have cf:=c7.start w b7 ce grow l s;have P:=KO hg cf ⟨fu.start s.T s.wt (k9 s.T s.rs mj),λ_=>aG _,by grind [cnt]⟩ hs (K6 hv hy)
 have bg:=hv.first mj;have cg:aA (∀bi bl bn bo bp q (w1:az),c7 (m6 w b7 ce grow l s) bi bl bn bo bp q w1->gZ s.T s.wt (k9 s.T s.rs mj) q->q.td=[]->(∀k,cx (k9 s.T s.rs mj) k->cx q.A k)->
  M prog 284 #[aq (I (G w)+1+1)] w1 λe w'=>∃al cV b2 b3 b4 ao p a1 k1 a2 k2,e=OV (aq p)/\aA (c7 (m6 w b7 ce grow l s) al cV b2 b3 b4 ao w'/\ao.A=(s.cR g mj).1/\hQ s.T ao.A/\fF w' p a1 k1 a2 k2 (s.jB g mj).rg (s.jB g mj).wt/\I (G w)<=p/\al p=0/\
   (∀k,H k=(Value.slice a1 (L (s.jB g mj).rg) k1).ownBlock->I (G w)<=k/\al k=0/\H k≠(Value.slice a2 (L (s.jB g mj).wt) k2).ownBlock)/\(∀k,H k=(Value.slice a2 (L (s.jB g mj).wt) k2).ownBlock->I (G w)<=k/\al k=0)/\(w'.os=w1.os/\w'.tape=w1.tape/\w'.output=w1.output))):=λbi bl bn bo bp q w1 c1 W ap br=>by
  have ch:q.A=s.c0 g mj:=(W.mi.done ap bg.len br).uniq (b1 _ bg.len bg.al)
  refine(K1 hg b1 hv c1 ⟨W.mi.base (λ_ h=>h),W.hl,W.mm⟩ ap).mono ?_;rintro e w' ⟨al,cV,b2,b3,b4,ao,p,a1,k1,a2,k2,rfl,c2,ar,ci,cl,tk,am,⟨hp,cm⟩,hr,hq⟩
  have ci:gE g q.A s.rg=s.cR g mj:=by rw[ch];rfl
  have z:=c1.sz;dsimp only at z ar am hr hq;rw[ci] at ar am hr hq;rw[ch] at am hr;exact⟨al,cV,b2,b3,b4,ao,p,a1,k1,a2,k2,rfl,c2,ar,⟨cl.mi.len,cl.mi.al⟩,am,aa,cm,λk e=>⟨by have:=(hr k e).1;omega,(hr k e).2⟩,λk e=>⟨by have:=(hq k e).1;omega,(hq k e).2⟩,tk.fr.os,tk.fr.tape,tk.fr.output⟩
 have cW:=h.cells.2.2.2.2.2.2.2.2;have bs:aA (∀b,F b↔l.own b≠0):=cb;have m:aA (dO b7 ce grow l s w/\fX s/\iV (m6 w b7 ce grow l s)):=⟨h,hv,hg⟩
 generalize cn:(if cnf g s grow mj=C then(3:Int) else 0)=cd;generalize co:(if cnf g s grow mj=C then s else s.jB g mj)=sd;have t:aA ((if cnf g s grow mj=C then(3:Int) else 0)=cd/\(if cnf g s grow mj=C then s else s.jB g mj)=sd):=⟨cn,co⟩
 clear h cb hv b1 hs hy hg cf bg cn co;go_enter func205,ntmps205;go_wp2_with fail;refine P.mono ?_;clear P;rintro e w1 ⟨bi,bl,bn,bo,bp,q,rfl,c1,bt,W,ap,br⟩
 have P:=cg.o bi bl bn bo bp q w1 c1 W ap br;have u:aA (w1.os=w.os/\w1.tape=w.tape/\w1.output=w.output):=⟨bt.fr.os,bt.fr.tape,bt.fr.output⟩
 clear c1 bt W ap br cg;go_wp2_with fail;refine P.mono ?_;clear P;rintro e ad ⟨cX,cY,cH,cZ,c0,cq,p,a1,k1,a2,k2,rfl,n⟩
 have cr:jg s.T cq.A (L s.T)=jg s.T (s.cR g mj).1 (L s.T):=by rw[n.o.2.1]
 have P:=KL m.o.2.2 (n.o.1.below (aH _ ad).drew) n.o.2.2.1.len;have cs:=n.o.1.gv m.o.2.2.g;obtain⟨_,aB,_,_,_,_,_,_,b5⟩:=cs.cells;dsimp only at aB P b5;rw[cr] at P;have c4:=BG s.T (s.cR g mj).1 m.o.2.1.iv.tl (L s.T);have c5:=m.o.2.1.tl;have bx:aA (cnf g s grow mj=decide (grow<jg s.T (s.cR g mj).1 (L s.T))):=rfl;generalize jg s.T (s.cR g mj).1 (L s.T)=cI at*;clear cs cr;by_cases ct:grow<cI
 ·have aF:cnf g s grow mj=C:=by rw[bx.o,bm ct]
  have aR:aA (cd=3/\sd=s):=by rw[aF] at t;exact⟨t.o.1.symm,t.o.2.symm⟩
  have aV:aA (∀c,O (I (G ad)) ad c->(cG b7 ce grow l.rb).J F s c/\b9 F w F c):=λc hb=>by have c3:=n.o.1.below hb;have o:=n.o.2.2.2.2.2.2.2.2;refine⟨⟨l,c3.gv m.o.2.2.g,rfl,bs.o⟩,⟨⟨hb.os.trans (o.1.trans u.o.1),hb.tape.trans (o.2.1.trans u.o.2.1),hb.output.trans (o.2.2.trans u.o.2.2),c3.sz,λk hk _=>c3.ol k hk⟩,λ_ h=>aK h⟩⟩
  clear bx aF n u m bs t;go_wp2_with fail
  go_region_held3 (λw'=>V w' (av b7 1)=H (ak grow)) (go_keep)
   (first|(go_at_call 285;refine P.mono ?_;clear P;rintro e c ⟨rfl,ag⟩;have b6:=(ag.cell (p:=av b7 1) b5).trans aB;have cv:aA (_):=aV.o c (((aH _ ad).drew).trans (ag.mono bY));clear ag aV))
  all_goals
   clear aB b6;go_wp2_with fail;go_ret;exact⟨F,by rw[aR.o.1];rfl,by rw[aR.o.2];exact cv.o.1,cv.o.2⟩
 ·have aF:cnf g s grow mj=D:=by rw[bx.o,bk ct]
  have aR:aA (cd=0/\sd=s.jB g mj):=by rw[aF] at t;exact⟨t.o.1.symm,t.o.2.symm⟩
  have aV:aA (∀c,O (I (G ad)) ad c->M prog 286 #[aq (I (G w)+1+1)] c λe j=>e=OV (ay #[])/\V j (av (I (G w)+1+1) 1)=H (.map (H (I (G w))))/\
   j.heap[b7]?=H (OX #[ak ce,ak grow,.map (H l.mb),ak (L s.T),ak l.fY,aq l.bp,Z (au l.rb) 12 12] 200 (0,0))/\
   aA (∀v,Fr (λk=>k=b7) j v->v.heap[b7]?=H (OX #[ak ce,ak grow,.map (H (I (G w))),ak (L s.T),ak (L s.T),aq p,Z (au l.rb) 12 12] 200 (0,0))->∃S,(cG b7 ce grow l.rb).J S (s.jB g mj) v/\b9 F w S v)):=λc hb=>by
   have c3:=n.o.1.below hb;obtain⟨c6,ar,a0,am,hp,cm,hr,hq,o⟩:=n.o;have hv:=m.o.2.1;have h:=m.o.1;have b8:=c3.gv m.o.2.2.g;have lw:∀b,l.own b≠0->b<I (G w):=h.lt;have z0:∀b,I (G w)<=b->l.own b=0:=λb x=>by grind
   have hB:=K5 hv a0;refine(Ki (fm:=l.fm) (lab:=l.own) (cp:=I (G w)+1+1) (ab:=I (G w)) (n1:=cH) ⟨c3.cells.2.1,c3.am,λi hi=>b8.g2.fl i (a0.al i hi),λi hi k e=>h.g2.fC i (a0.al i hi) k e,z0 _ aa,z0 _ bY⟩ hB (λb x=>aL (lw b x) c3.sz) (λi hi=>by have:=(a0.al i hi).1;omega)).mono ?_;rintro e j ⟨rfl,bb,B⟩
   have cJ:j.heap[b7]?=c.heap[b7]?:=B.block b7 (cj b8.cY) (λd=>by have:=h.bo;omega)
   refine⟨rfl,bb.c1,cJ.trans b8.cY,λv N cw=>?_⟩
   have cy:∀b,I (G w)<=b->b≠b7:=λb x e=>by omega
   have k5:∀b,b<I (G c)->b≠b7->¬10<=l.own b->v.heap[b]?=c.heap[b]?:=λb x hn cL=>(N.block b (aL x B.size) hn).trans (B.block b x cL)
   have ca:∀b,I (G w)<=b->b<I (G c)->v.heap[b]?=c.heap[b]?:=λb cz cM=>k5 b cM (cy b cz) (by rw[z0 b cz];omega)
   have b0:=am.below hb;have cN:fF v p a1 k1 a2 k2 (s.jB g mj).rg (s.jB g mj).wt:=b0.keep (ca p hp (cj b0.cY)) (λk e=>ca k (hr k e).1 (cu b0.r0 k e).2) (λk e=>ca k (hq k e).1 (cu b0.q0 k e).2)
   obtain⟨cA,g1,g2⟩:=h.cut a0 hB (aQ c3.sz (aQ B.size N.size)) (λb cO=>(k5 b (aL (lw b aa) c3.sz) (λe=>by have:=h.bo;rw[e] at cO;omega) aa).trans (c3.ol b (lw b aa))) cw
    (bb.hM.same (N.block _ bb.hM.lt (cy _ bY))) (by have:=c3.an;dsimp only at this;omega) (λi hi=>cK (bb.row i hi) (λk e=>N.block k (cu (bb.row i hi) k e).2 (by grind [iC.lb,dO.bo]))) cN ⟨aG _,hp⟩ (λk e=>(hr k e).1) (λk e=>(hq k e).1) (λk e=>(hr k e).2.2)
   have es:({T:=gW cq.A s.T (L s.T),rs:=s.rs,rg:=(s.jB g mj).rg,wt:=(s.jB g mj).wt}:ck)=s.jB g mj:=by rw[ar];rfl
   rw[es] at g1;refine⟨λb=>cA.own b≠0,⟨cA,g1,g1.J3 (by simp[World.cell?,cw]),λ_=>gp⟩,⟨⟨N.os.trans (B.os.trans (hb.os.trans (o.1.trans u.o.1))),N.tape.trans (B.tape.trans (hb.tape.trans (o.2.1.trans u.o.2.1))),N.output.trans (B.output.trans (hb.output.trans (o.2.2.trans u.o.2.2))),aQ c3.sz (aQ B.size N.size),λk hk hn=>?_⟩,λb x=>(g2 b x).imp (bs.o b).2 id⟩⟩
   have cP:l.own k=0:=by grind [Hid.out]
   exact(k5 k (aL hk c3.sz) (λe=>by have:=h.bo;rw[e] at cP;omega) aa).trans (c3.ol k hk)
  clear bx aF n u m bs t;go_wp2_with fail
  go_region_held3 (λw'=>V w' (av b7 1)=H (ak grow)) (go_keep)
   (first|(go_at_call 285;refine P.mono ?_;clear P;rintro e c ⟨rfl,ag⟩;have b6:=(ag.cell (p:=av b7 1) b5).trans aB;have cB:=aV.o c (((aH _ ad).drew).trans (ag.mono bY));clear ag aV))
  all_goals
   clear aB b6;go_wp2_with fail;refine cB.mono ?_;clear cB;rintro e j ⟨rfl,bd,ai,cC⟩
   have cD:aA (_=_):=ai;have cQ:V j (av b7 2)=H (.map (H l.mb)):=aD ai
   have be:V j (av b7 3)=H (ak (L s.T)):=aD ai
   have cR:V j (av b7 4)=H (ak l.fY):=aD ai
   have cS:V j (av b7 5)=H (aq l.bp):=aD ai
   have cT:∀o,j.frozen? (av b7 o)=D:=λo=>by simp[World.frozen?,ai]
   have an:b7≠I (G w)+1+1:=aa;clear ai;go_wp2_with fail
   go_region_held3 (λw'=>V w' (av (I (G w)+1+1) 1)=H (.map (H (I (G w))))/\V w' (av b7 3)=H (ak (L s.T))) (first|exact⟨bd,be⟩|exact⟨pS an bd,w8 be⟩|exact⟨pS an (pS an bd),Cf (w8 be)⟩|exact⟨pS an (pS an (pS an bd)),K8 (Cf (w8 be))⟩|(go_keep;done)) (fail)
   all_goals
    clear ‹_/\_›;obtain⟨S,d_,cE⟩:=cC.o _ (((((Fr.refl (λk=>k=b7) j).set b7 2 _ rfl).set b7 5 _ rfl).set b7 4 _ rfl).drew) (K7 cD.o)
    have cF:aA (_):=And.intro d_ cE;clear d_ cE cC cD bd cQ be cR cS cT;go_wp2_with fail;go_ret;exact⟨S,by rw[aR.o.1];rfl,by rw[aR.o.2];exact cF.o.1,cF.o.2⟩
end
theorem K9 (x:Int)(w:az):M J 207 #[ak x] w λe w'=>e=OV (.bool D)/\O (I (G w)) w w':=by go_wp2;go_ret;exact⟨rfl,aH _ _⟩
section
variable {b7 rb:Nat}{ce grow:Int}{l:ik}{F:Nat->Prop}{s:ck}{w:az}{g:List Bool->List Bool}
theorem K_:tu (m6 w b7 ce grow l s) 207 #[] #[] (λ_=>D):=
 ⟨g9 func207 ah rfl,λx w' _=>K9 x w'⟩
theorem La (h:dO b7 ce grow l s w):tu (m6 w b7 ce grow l s) 206 #[aq b7] #[] (λx=>decide (x<l.fY)):=
 ⟨g9 func206 ah rfl,λx w' hk=>by
  have c:=h.cells;have e:=hk b7 c.2.2.2.2.2.2.2.2;refine(B8 (fY:=l.fY) ?_ x).mono ?_
  ·have:=c.2.2.2.2.1;simp only [World.cell?] at this⊢
   rw[e];exact this
  ·rintro e b ⟨rfl,rfl⟩
   exact⟨rfl,aH _ _⟩⟩
theorem Lb:tE s C (λ_=>D):=λ_ _=>⟨λh=>(by cases h),λh=>(by cases h.2)⟩
theorem Lc (h:dO b7 ce grow l s w):tE s D (λx=>decide (x<l.fY)):=λi hi=>by rw[h.g2.fY i hi];simp
theorem Ld {mj:Bool}(h:s.cF g grow mj=C):s.hP g grow mj=3/\s.cut g grow mj=s:=by unfold ck.hP ck.cut;rw[aN h,aN h];exact⟨rfl,rfl⟩
theorem Cj {mj:Bool}(h:mj=C\/¬(grow-(ei s.T).2<(ei s.T).1)):s.hP g grow mj=(if cnf g s grow mj=C then 3 else 0)/\s.cut g grow mj=(if cnf g s grow mj=C then s else s.jB g mj):=by
 have e:s.cF g grow mj=cnf g s grow mj:=by
  unfold ck.cF cnf;rcases h with h|h
  ·rw[h];simp
  ·rw[bk h];simp
 unfold ck.hP ck.cut ck.jB;rw[e];exact⟨rfl,rfl⟩
theorem Cn (h:(cG b7 ce grow rb).J F s w)(hv:fX s)(c:dS s.T s.wt g):
 M prog 134 #[aq b7] w λe w'=>∃b,e=OV (ak (s.hP g grow C))/\(cG b7 ce grow rb).J b (s.cut g grow C) w'/\b9 F w b w':=by
 obtain⟨l,hg,d,f⟩:=h;have P:=Ch hg f hv c C K_ Lb;rw[d] at P;obtain⟨i,j⟩:=Cj (aK rfl)
 rw[<-i,<-j] at P;clear hg d f hv c i j;go_enter func134,ntmps134;go_wp2_with fail;refine P.mono ?_;rintro e w1 ⟨b,rfl,k,ht⟩
 go_wp2;go_ret;exact⟨b,rfl,(cU k ht).o⟩
theorem Co (h:(cG b7 ce grow rb).J F s w)(hv:fX s)(j:dS s.T s.wt g)(g0:-1000000<=grow)(g1:grow<=1000000):
 M prog 133 #[aq b7] w λe w'=>∃F',e=OV (ak (s.hP g grow D))/\(cG b7 ce grow rb).J F' (s.cut g grow D) w'/\b9 F w F' w':=by
 obtain⟨l,hg,b,c⟩:=h;have P:=wY hg hv.iv.tl hv.tl;have bd:=zT s.T hv.t12;have B:=hv.tl;obtain⟨_,_,_,_,_,_,_,_,N⟩:=hg.cells;have d:aA (∀w1,O (I (G w)) w w1->_=_):=λw1 hb=>(hg.below hb).cells.2.1;have p:aA (¬(grow-(ei s.T).2<(ei s.T).1)->∀w1,O (I (G w)) w w1->M prog 205 #[aq b7,.func (.func 206) #[aq b7] #[]] w1 λe w'=>∃F',e=OV (ak (s.hP g grow D))/\(cG b7 ce grow rb).J F' (s.cut g grow D) w'/\b9 F w F' w'):=λhn w1 hb=>by
  have f:=hg.below hb;have k:=Ch f c hv j D (La f) (Lc f)
  rw[b] at k;refine k.mono ?_;obtain⟨q,t⟩:=Cj (s:=s) (grow:=grow) (g:=g) (mj:=D) (aI hn)
  rw[<-q,<-t];exact w7
 have u:aA (grow-(ei s.T).2<(ei s.T).1->s.hP g grow D=3/\s.cut g grow D=s):=λhn=>Ld (by unfold ck.cF;rw[bm hn];rfl)
 have i:aA (∀w1,O (I (G w)) w w1->(cG b7 ce grow rb).J F s w1):=λw1 hb=>⟨l,hg.below hb,b,c⟩
 generalize s.hP g grow D=cd at*;generalize s.cut g grow D=sd at*;generalize (ei s.T).1=v at*;generalize (ei s.T).2=x at*;clear hg b c hv j;by_cases hn:grow-x<v
 ·have m:aA (cd=3/\sd=s):=u.o hn;go_enter func133,ntmps133;go_wp2_with fail;refine P.mono ?_;rintro e w1 ⟨rfl,hb⟩
  have c1:=d.o w1 hb;have n:aA ((cG b7 ce grow rb).J F s w1/\b9 F w F w1):=⟨i.o w1 hb,b9.of hb⟩
  go_wp2_with fail;go_ret;exact⟨F,by rw[m.o.1];rfl,by rw[m.o.2];exact n.o.1,n.o.2⟩
 ·have o:=cg (p.o hn)
  go_enter func133,ntmps133;go_wp2_with fail;refine P.mono ?_;rintro e w1 ⟨rfl,hb⟩
  have c1:=d.o w1 hb;have P:=o.o w1 hb;clear d hb o;go_wp2_with fail;refine P.mono ?_;rintro e S ⟨F',rfl,hj,ht⟩
  have i:=cU hj ht;go_wp2_with fail;go_ret;exact⟨F',rfl,i.o⟩
theorem Le {g:fM}{m:Int}(h:(cG b7 ce grow rb).J F s w)(hv:fX s)(b:dS s.T s.wt (g s.T s.wt))(g0:-1000000<=grow)(g1:grow<=1000000)(i:-1000000<=ce)(m1:ce<=1000000):
 M prog 288 #[aq b7,ak m] w λe w'=>∃F',e=OV (ak (s.room g ce grow m).1)/\(cG b7 ce grow rb).J F' (s.room g ce grow m).2 w'/\b9 F w F' w':=by
 obtain⟨l,hg,c,d⟩:=h;have P:=wY hg hv.iv.tl hv.tl;have bd:=zT s.T hv.t12;have j:=hv.tl;obtain⟨_,_,_,_,_,_,_,_,k⟩:=hg.cells;have HC:aA (∀w1,O (I (G w)) w w1->V w1 (av b7 0)=H (ak ce)/\V w1 (av b7 1)=H (ak grow)):=λw1 hb=>⟨(hg.below hb).cells.1,(hg.below hb).cells.2.1⟩
 have HJ:aA (∀w1,O (I (G w)) w w1->(cG b7 ce grow rb).J F s w1):=λw1 hb=>⟨l,hg.below hb,c,d⟩
 by_cases c1:m<=ce-(ei s.T).1
 ·have e:s.room g ce grow m=(0,s):=aN c1;rw[e];generalize (ei s.T).1=yn at*;generalize (ei s.T).2=od at*;go_enter func288,ntmps288;go_wp2_with fail;refine P.mono ?_;rintro e w1 ⟨rfl,hb⟩
  obtain⟨d0,d1⟩:=HC.o w1 hb;have f:aA ((cG b7 ce grow rb).J F s w1/\b9 F w F w1):=⟨HJ.o w1 hb,b9.of hb⟩
  go_wp2_with fail;go_ret;exact⟨F,rfl,f.o⟩
 ·by_cases c2:grow-(ei s.T).2<(ei s.T).1
  ·have e:s.room g ce grow m=(s.hP (g s.T s.wt) grow C,s.cut (g s.T s.wt) grow C):=by unfold ck.room;rw[aJ c1,bm c2]
   rw[e];have HP:aA (∀w1,O (I (G w)) w w1->M prog 134 #[aq b7] w1 λe w'=>∃F',e=OV (ak (s.hP (g s.T s.wt) grow C))/\(cG b7 ce grow rb).J F' (s.cut (g s.T s.wt) grow C) w'/\b9 F w F' w'):=λw1 hb=>by refine(Cn (HJ.o w1 hb) hv b).mono ?_;exact w7
   generalize s.hP (g s.T s.wt) grow C=cd at*;generalize s.cut (g s.T s.wt) grow C=sd at*;exact Cb
  ·have e:s.room g ce grow m=(s.hP (g s.T s.wt) grow D,s.cut (g s.T s.wt) grow D):=by unfold ck.room;rw[aJ c1,bk c2]
   rw[e];have HP:aA (∀w1,O (I (G w)) w w1->M prog 133 #[aq b7] w1 λe w'=>∃F',e=OV (ak (s.hP (g s.T s.wt) grow D))/\(cG b7 ce grow rb).J F' (s.cut (g s.T s.wt) grow D) w'/\b9 F w F' w'):=λw1 hb=>by refine(Co (HJ.o w1 hb) hv b g0 g1).mono ?_;exact w7
   generalize s.hP (g s.T s.wt) grow D=cd at*;generalize s.cut (g s.T s.wt) grow D=sd at*;exact Cb
end
theorem Lf (w:az):aC (bu w (OX #[] 139)) (I (G w)) 139 2 (Z (au (I (G w))) 0 0) 0 []:=
 ⟨rfl,aI ⟨I (G w),0,#[],rfl,aG _,aO _ _,aG _,a4 _,rfl,rfl⟩⟩
theorem tH:(prog.info? 139).map (λi=>(i.zero,i.size,i.bytes))=H (H (bz #[ak 0,ak 0]),2,16):=ah
theorem Lg (w:az)(ad:Option bB)(l:List (Int×Int))(cap:Nat)(h:i_ w ad l cap)(hm:L l<=100000):
 M J 287 #[Z ad (L l) cap] w λe w'=>∃a1 c1,e=OV (Z a1 (L l) c1)/\aC w' (I (G w)) 139 2 (Z a1 (L l) c1) (L l) (ev l)/\O (I (G w)) w w':=by
 obtain⟨d,hi,f,g,i⟩:=bM tH;have o:∀(w:az)(a:Option bB)(n c:Nat),_=_:=λw a n c=>Lib.run_eql_slice_nil w _ _ a n c 0 0 underlying90;have j:=cg h.lp;cases ad with
 |none=>
  have hl:=bU (h.nil rfl).1;subst hl;go_enter func287,ntmps287;go_wp2;go_ret;exact⟨Y,0,rfl,a9 _ _ _ _,aH _ _⟩
 |some a=>
  clear h;go_enter func287,ntmps287;go_wp2_with (at_builtin;refine wpList_append_own _ rfl _ _ 90 rfl (I (G w)) 139 d _ 2 16 underlying90 hi f g i rfl ae _ 0 [] rfl (Lf w) a (L l) cap (ev l) rfl (lY l) ((j.o.below (bZ.alloc bY _)).cells a rfl) (pa l) ?_ ?_ ?_ ?_;(unfold maxLen;omega);omega;(simp);intro v w1 b m _)
  rw[List.nil_append,bW] at b;obtain⟨a1,c1,rfl⟩:=e7 b;go_wp2;go_ret;exact⟨a1,c1,rfl,b,(bZ.alloc bY _).grown m ac (λk e=>by cases e;exact aG _)⟩
section
variable {b7:Nat}{ce grow:Int}{l:ik}{s:ck}{w w':az}
theorem Cr (T:List cH)(t:cH)(i:Nat):X (T++[t]) i t0=if i=L T then t else X T i t0:=by
 rw[aM,aM,List.getElem?_append];by_cases h:i<L T
 ·rw[aN h,aJ aa]
 ·rw[aJ h];by_cases e:i=L T
  ·subst e;simp
  ·rw[aJ e,qo (by simp;omega),qo aa]
theorem pT (T:List cH)(k:Int)(fl:List _)(i:Nat):cz (T++[(k,fl,D,D)]) i↔cz T i\/i=L T:=by
 unfold cz;rw[Cr,aX,rp];by_cases e:i=L T
 ·simp_all
 ·rw[aJ e];exact⟨λh=>aK ⟨aa,h.2⟩,λh=>h.elim (λh=>⟨aa,h.2⟩) (λh=>absurd h e)⟩
theorem dO.new (h:dO b7 ce grow l s w){kd:Int}{fl:List _}{a:Option bB}{cp:Nat}(hs:I (G w)<=I (G w'))(hk:∀b,l.own b≠0->l.own b≠1->l.own b≠2->w'.heap[b]?=w.heap[b]?)
 (hb:w'.heap[b7]?=H (OX #[ak ce,ak grow,.map (H l.mb),ak (L s.T+1:Nat),ak l.fY,aq l.bp,Z (au l.rb) 12 12] 200 (0,0)))
 (hM:eT w' l.mb (l.n+1) (kG (iU s.T l.fm) (L s.T) (bz #[ak kd,Z a (L fl) cp])))(q:aC w' 0 139 2 (Z a (L fl) cp) (L fl) (ev fl))
 (hn:∀k,H k=A (Value.slice a (L fl) cp)->l.own k=0):
 ∃o,dO b7 ce grow o (s.put kd fl) w'/\(∀b,o.own b≠0->l.own b≠0\/H b=A (Value.slice a (L fl) cp))/\o.rb=l.rb:=by
 have ho:∀b,l.own b≠0->(if H b=A (Value.slice a (L fl) cp) then 10+L s.T else l.own b)=l.own b:=λb hb=>aJ (λe=>hb (hn b e))
 have ne:∀i,cz s.T i->i≠L s.T:=λi hi e=>by have:=hi.1;omega
 have g:∀i,i≠L s.T->X (s.T++[(kd,fl,D,D)]) i t0=X s.T i t0:=λi e=>by rw[Cr,aJ e]
 have j:X (s.T++[(kd,fl,D,D)]) (L s.T) t0=(kd,fl,D,D):=by simp_all
 have t:kG (iU s.T l.fm) (L s.T) (bz #[ak kd,Z a (L fl) cp])=iU (s.T++[(kd,fl,D,D)]) (λi=>if i=L s.T then(a,cp) else l.fm i):=by
  funext x
  unfold kG;by_cases e:x=L s.T
  ·rw[aN e,ki ⟨aa,(pT _ _ _ _).2 (aI aa)⟩];have m:x.toNat=L s.T:=aa;dsimp only [gX,ff];rw[m,j,aN rfl]
  ·rw[aJ e];by_cases f:0<=x/\cz s.T x.toNat
   ·have m:=ne _ f.2;rw[ki f,ki ⟨f.1,(pT _ _ _ _).2 (aK f.2)⟩];dsimp only [gX,ff];rw[g _ m,aJ m]
   ·rw[nF f,nF (λc=>by
     rcases(pT _ _ _ _).1 c.2 with d|d
     ·simp_all
     ·exact e aa)]
 refine⟨{l with own:=λb=>if H b=A (Value.slice a (L fl) cp) then 10+L s.T else l.own b,fm:=λi=>if i=L s.T then(a,cp) else l.fm i,n:=l.n+1},?_,λb hb=>?_,rfl⟩
 ·refine {cY:=?_,bo:=(ho _ (by rw[h.bo];decide)).trans h.bo,g2:=?_,g3:=?_,g4:=?_,lt:=λb p=>?_}
  ·show _=H (Obj.cells #[_,_,_,ak (L (s.T++[(kd,fl,D,D)]):Nat),_,_,_] _ _)
   rw[aX,rp];exact hb
  ·refine {mp:=?_,mn:=?_,dy:=(ho _ (by rw[h.g2.dy];decide)).trans h.g2.dy,fl:=λi hi=>?_,fC:=λi hi k e=>?_,fY:=λi hi=>?_,al:=?_}
   ·show eT w' l.mb (l.n+1) (iU (s.T++[(kd,fl,D,D)]) _)
    rw[<-t];exact hM
   ·have:=h.g2.mn;show l.n+1<=L (s.T++[(kd,fl,D,D)]);rw[aX,rp];omega
   ·rcases(pT _ _ _ _).1 hi with d|d
    ·dsimp only [ff,ck.put];rw[g i (ne i d),aJ (ne i d)];exact cK (h.g2.fl i d) (λk e=>hk k (by rw[h.g2.fC i d k e];omega) (by rw[h.g2.fC i d k e];omega) (by rw[h.g2.fC i d k e];omega))
    ·dsimp only [ff,ck.put];rw[d,j,aN rfl];exact q
   ·rcases(pT _ _ _ _).1 hi with d|d
    ·dsimp only [ff,ck.put] at e;rw[g i (ne i d),aJ (ne i d)] at e;have:=h.g2.fC i d k e;exact(ho k (by rw[this];omega)).trans this
    ·dsimp only [ff,ck.put] at e;rw[d,j,aN rfl] at e;show(if _ then _ else _)=_;rw[aN e,d]
   ·rcases(pT _ _ _ _).1 hi with d|d
    ·dsimp only [ck.put];rw[g i (ne i d)];exact h.g2.fY i d
    ·have:=h.g2.al;dsimp only [ck.put];rw[d,j];simp;exact this
   ·have:=h.g2.al;show l.fY<=L (s.T++[(kd,fl,D,D)]);rw[aX,rp];omega
  ·have z:=h.g3.keep (λb hb=>hk b aa aa aa)
   exact {sd:=z.sd,so:=(ho _ (by rw[z.so];decide)).trans z.so,ro:=λk e=>(ho k (by rw[z.ro k e];decide)).trans (z.ro k e),nG:=λk e=>(ho k (by rw[z.nG k e];decide)).trans (z.nG k e)}
  ·have z:=h.g4.keep (λb hb=>hk b aa aa aa)
   exact {rt:=z.rt,rl:=z.rl,ro:=(ho _ (by rw[z.ro];decide)).trans z.ro}
  ·dsimp only at p;split at p
   ·rename_i e;exact(cu q b e).2
   ·exact aL (h.lt b p) hs
 ·dsimp only at hb;split at hb
  ·simp_all
  ·exact aK hb
end
section
variable {b7 rb:Nat}{ce grow:Int}{F:Nat->Prop}{s:ck}{w:az}{g:fM}
theorem Lh (g:fM)(ce grow:Int)(s:ck)(m:Int):L (s.room g ce grow m).2.T=L s.T:=by
 unfold ck.room;split
 ·rfl
 ·unfold ck.cut;split
  ·rfl
  ·exact kE _ _ _
theorem w9 {kd:Int}{fl:List (Int×Int)}{ad:Option bB}{cap:Nat}(h:(cG b7 ce grow rb).J F s w)(hv:fX s)(bs:dS s.T s.wt (g s.T s.wt))(g0:-1000000<=grow)(g1:grow<=1000000)(cf:-1000000<=ce)(m1:ce<=1000000)(hl:L fl<=12)(aB:i_ w ad fl cap):
 M prog 209 #[aq b7,ak kd,.slice ad (L fl) cap] w λe w'=>∃f,e=OV (ay #[.agg #[ak (s.grow g ce grow kd fl).1.1,ak (s.grow g ce grow kd fl).1.2],ak (s.grow g ce grow kd fl).2.1])/\(cG b7 ce grow rb).J f (s.grow g ce grow kd fl).2.2 w'/\b9 F w f w':=by
 have ch:aA (∀b,F b->_):=λb hb=>(cG b7 ce grow rb).lt h b hb;have fN:=ch.o;have ci:=Lh g ce grow s (1+(L fl:Int))
 have ck:=hv.tl;have cl:aA (∀m:az,O (I (G w)) w m->∀tb a1 c1,m.heap[I (G w)]?=H (OX #[ak 0,ak 0] 139 (0,0))->m.heap[tb]?=H (OX #[ak kd,.slice a1 (L fl) c1] 271 (0,0))->I (G w)<=tb->aC m (I (G w)+1) 139 2 (.slice a1 (L fl) c1) (L fl) (ev fl)->
  M prog 288 #[aq b7,ak (1+(L fl:Int))] m λe i=>e=OV (ak (s.room g ce grow (1+(L fl:Int))).1)/\i.heap[I (G w)]?=H (OX #[ak 0,ak 0] 139 (0,0))/\i.heap[tb]?=H (OX #[ak kd,.slice a1 (L fl) c1] 271 (0,0))/\aC i (I (G w)+1) 139 2 (.slice a1 (L fl) c1) (L fl) (ev fl)/\
   aA (∃f,(cG b7 ce grow rb).J f (s.room g ce grow (1+(L fl:Int))).2 i/\b9 F w f i/\¬f (I (G w))/\¬f tb/\∀k,H k=A (Value.slice a1 (L fl) c1)->¬f k)):=λm hb tb a1 c1 ai be ht hr=>by
  refine(Le ((cG b7 ce grow rb).below h hb) hv bs g0 g1 cf m1).mono ?_;rintro e i ⟨f,rfl,al,tn⟩
  have bg:∀b,I (G w)<=b->b<I (G m)->¬f b:=λb q S c=>by
   rcases tn.sub b c with d|d
   ·have:=fN b d;omega
   ·omega
  have kp:∀b,I (G w)<=b->b<I (G m)->_=_:=λb q S=>tn.fr.block b S (λd=>by have:=fN b d;omega)
  exact⟨rfl,(kp _ bY (cj ai)).trans ai,(kp _ ht (cj be)).trans be,cK hr (λk e=>kp k (by have:=(cu hr k e).1;omega) (cu hr k e).2),f,al,(b9.of hb).trans tn,bg _ bY (cj ai),bg _ ht (cj be),λk e=>bg k (by have:=(cu hr k e).1;omega) (cu hr k e).2⟩
 have aF:aA (∀(w1:az)(a1:Option bB)(c1:Nat),aC w1 (I (G (bu w (OX #[.int OW 0,.int OW 0] 139)))) 139 2 (.slice a1 (L fl) c1) (L fl) (ev fl)->O (I (G (bu w (OX #[.int OW 0,.int OW 0] 139)))) (bu w (OX #[.int OW 0,.int OW 0] 139)) w1->
  ∀m,O (I (G (bu w1 (OX #[.int OW kd,.slice a1 (L fl) c1] 271)))) (bu w1 (OX #[.int OW kd,.slice a1 (L fl) c1] 271)) m->M prog 288 #[aq b7,ak (1+(L fl:Int))] m λe i=>e=OV (ak (s.room g ce grow (1+(L fl:Int))).1)/\i.heap[I (G w)]?=H (OX #[ak 0,ak 0] 139 (0,0))/\i.heap[I (G w1)]?=H (OX #[ak kd,.slice a1 (L fl) c1] 271 (0,0))/\I (G w)<I (G w1)/\aA (aC i (I (G w)+1) 139 2 (.slice a1 (L fl) c1) (L fl) (ev fl))/\
   aA (∃f,(cG b7 ce grow rb).J f (s.room g ce grow (1+(L fl:Int))).2 i/\b9 F w f i/\¬f (I (G w))/\¬f (I (G w1))/\∀k,H k=A (Value.slice a1 (L fl) c1)->¬f k)):=λw1 a1 c1 hr hb m u=>by
  have cm:=hb.size;have cn:=u.size;simp at cm cn hr;refine(cl.o m (((((aH _ w).alloc bY _).trans (hb.mono ac)).alloc aa _).trans (u.mono (by simp;omega))) (I (G w1)) a1 c1 ((u.block _ (by simp;omega)).trans ((aU _ _ _ aa).trans ((hb.block _ ac).trans (aO w _)))) ((u.block _ ac).trans (aO w1 _)) aa (cK hr (λk e=>(u.block k (by have:=(cu hr k e).2;simp;omega)).trans (aU _ _ _ (cu hr k e).2)))).mono ?_;rintro e i ⟨rfl,B,N,co,cq⟩
  exact⟨rfl,B,N,aa,co,cq⟩
 have P:=Lg (bu w (OX #[.int OW 0,.int OW 0] 139)) ad fl cap ⟨aB.lp.below (bZ.alloc bY _),aB.le,aB.nil⟩ aa;have bt:∀(k:Int)(a:Option bB)(n c:Nat),n<=12->∀w:az,_:=λk a n c hn w=>wX k a n c aa w;have bx:=cg bt;have bi:aA (s.grow g ce grow kd fl=if(s.room g ce grow (1+(L fl:Int))).1=0 then((3,(L (s.room g ce grow (1+(L fl:Int))).2.T:Int)),0,(s.room g ce grow (1+(L fl:Int))).2.put kd fl) else((0,0),(s.room g ce grow (1+(L fl:Int))).1,(s.room g ce grow (1+(L fl:Int))).2)):=rfl;generalize s.grow g ce grow kd fl=R at*;generalize (s.room g ce grow (1+(L fl:Int))).1=rc at*;generalize (s.room g ce grow (1+(L fl:Int))).2=s2 at*;have cR:(1+(L fl:Int))<=13:=aa;have cS:L s2.T<=10000:=aa;clear bt h hv bs aB fN ci ck;by_cases b0:rc=0
 ·subst b0;have am:aA (R=((3,(L s2.T:Int)),0,s2.put kd fl)):=bi.o.trans (aN rfl)
  clear bi;go_enter func209,ntmps209;go_wp2_with fail;refine P.mono ?_;clear P;rintro e w1 ⟨a1,c1,rfl,an,ao⟩
  have ap:aA (_):=aF.o w1 a1 c1 an ao;clear an ao aF;have P:=bx.o kd a1 (L fl) c1 hl (bu w1 (OX #[.int OW kd,.slice a1 (L fl) c1] 271))
  go_wp2_with fail;refine P.mono ?_;clear P;rintro e m ⟨rfl,u⟩
  have P:=ap.o m u;clear ap u;go_wp2_with fail;refine P.mono ?_;clear P;rintro e i ⟨rfl,B,N,cr,ab,aR⟩
  have b1:aA (V i (av b7 3)=H (ak (L s2.T))/\∀p,O (I (G i)) i p->∃mb j,(V (bu p (OX #[.int OW 3,.int OW (L s2.T)] 139)) (av b7 2)=H (.map (H mb))/\V (bu p (OX #[.int OW 3,.int OW (L s2.T)] 139)) (av b7 3)=H (ak (L s2.T))/\V (bu p (OX #[.int OW 3,.int OW (L s2.T)] 139)) (av (I (G w1)) 0)=H (ak kd)/\V (bu p (OX #[.int OW 3,.int OW (L s2.T)] 139)) (av (I (G w1)) 1)=H (.slice a1 (L fl) c1))/\
   (Instr.mapUpdate 194 (.map (H mb)) (ak (L s2.T)) (.agg #[ak kd,.slice a1 (L fl) c1])).run prog (bu p (OX #[.int OW 3,.int OW (L s2.T)] 139)).drew=.ok () j/\
   (V j (av b7 2)=H (.map (H mb))/\V j (av b7 3)=H (ak (L s2.T))/\V j (av (I (G w1)) 0)=H (ak kd)/\V j (av (I (G w1)) 1)=H (.slice a1 (L fl) c1)/\(∀o,j.frozen? (av b7 o)=D))/\
   (V j (av (I (G p)) 0)=H (ak 3)/\V j (av (I (G p)) 1)=H (ak (L s2.T)))/\j.heap[I (G w)]?=H (OX #[ak 0,ak 0] 139 (0,0))/\(b7≠I (G w)/\b7≠I (G p)/\I (G p)≠I (G w))/\
   aA (∃f,(cG b7 ce grow rb).J f (s2.put kd fl) (O8 (O8 (O8 j ⟨b7,3,Y⟩ (.int OW (L s2.T+1))) ⟨I (G w),0,Y⟩ (.int OW 3)) ⟨I (G w),1,Y⟩ (.int OW (L s2.T)))/\b9 F w f (O8 (O8 (O8 j ⟨b7,3,Y⟩ (.int OW (L s2.T+1))) ⟨I (G w),0,Y⟩ (.int OW 3)) ⟨I (G w),1,Y⟩ (.int OW (L s2.T))))):=by
   obtain⟨f,⟨l,gv,cs,aV⟩,tn,n1,ct,b2⟩:=aR.o;have c:=gv.cells;refine⟨c.2.2.2.1,λp ar=>?_⟩
   have cv:=c.2.2.2.2.2.2.2.2;have cT:=tn.fr.size;have b3:=ar.size;have W:O (I (G i)) i (bu p (OX #[.int OW 3,.int OW (L s2.T)] 139)):=ar.alloc b3 _;have cw:=gv.below W;have ca:=cw.cells;have cx:=(W.block (I (G w1)) (cj N)).trans N;obtain⟨cy,cz,_,_⟩:=dt cx;obtain⟨j,bl,hM,gr⟩:=(gv.below W.drew).g2.mp.put (t:=194) (e:=271) underlying194 (by have:=gv.g2.mn;omega) (x:=L s2.T) aa aa (.agg #[ak kd,.slice a1 (L fl) c1])
   have a0:∀b,¬f b->l.own b=0:=λb hb=>by
    cases e:l.own b
    ·rfl
    ·exact absurd ((aV b).2 (by rw[e];omega)) hb
   have bn:=a0 _ n1;have o1:=a0 _ ct;have b4:b7≠l.mb:=λe=>by have q:=gv.bo;rw[e,gv.g2.dy] at q;omega
   have b5:I (G w)≠l.mb:=λe=>by rw[e,gv.g2.dy] at bn;omega
   have cA:I (G w1)≠l.mb:=λe=>by rw[e,gv.g2.dy] at o1;omega
   have bo:b7≠I (G w):=λe=>by have q:=gv.bo;rw[e,bn] at q;omega
   have lm:_:=gv.lt _ (by rw[gv.g2.dy];decide)
   have l0:=cj B;have l1:=cj N;have k5:∀b,b<I (G p)+1->b≠l.mb->_=_:=λb hb hn=>gr.block b (by simp;omega) (λe=>hn (kg e))
   have ag:∀b,b<I (G i)->b≠l.mb->_=_:=λb hb hn=>(k5 b aa hn).trans (W.block b hb)
   have a2:=(ag b7 cv b4).trans gv.cY;have cB:=(k5 (I (G p)) aa aa).trans (aO p _)
   obtain⟨b6,y1,_,_⟩:=dt cB;obtain⟨cC,t3,_,_⟩:=dt ((ag _ l1 cA).trans N)
   have b8:I (G j)=I (G (O8 (O8 (O8 j ⟨b7,3,Y⟩ (.int OW (L s2.T+1))) ⟨I (G w),0,Y⟩ (.int OW 3)) ⟨I (G w),1,Y⟩ (.int OW (L s2.T)))):=ac;have cD:_:=aQ (aQ b3 ac) gr.size;have bb:∀b,b≠b7->b≠I (G w)->(O8 (O8 (O8 j ⟨b7,3,Y⟩ (.int OW (L s2.T+1))) ⟨I (G w),0,Y⟩ (.int OW 3)) ⟨I (G w),1,Y⟩ (.int OW (L s2.T))).heap[b]?=j.heap[b]?:=λb q S=>(aW _ _ _ _ S).trans ((aW _ _ _ _ S).trans (aW _ _ _ _ q))
   refine⟨l.mb,j,⟨ca.2.2.1,ca.2.2.2.1,cy,cz⟩,bl,⟨by simp[World.cell?,a2],by simp[World.cell?,a2],cC,t3,λo=>by simp[World.frozen?,a2]⟩,⟨b6,y1⟩,(ag _ l0 b5).trans B,⟨bo,aa,aa⟩,?_⟩
   obtain⟨cb,cE,cF,cH⟩:=gv.new (kd:=kd) (fl:=fl) (a:=a1) (cp:=c1) (aQ cD (Nat.le_of_eq b8)) (λb h0 q S=>(bb b (λe=>q (by rw[e];exact gv.bo)) (λe=>h0 (by rw[e];exact bn))).trans (ag b (gv.lt b h0) (λe=>S (by rw[e];exact gv.g2.dy)))) (by
    rw[aW _ _ _ _ bo,aW _ _ _ _ bo];simp only [World.setCell,Array.getElem?_modify,if_true,a2,Option.map_some];rfl) (hM.same (bb _ b4.symm b5.symm)) (cK (fA ab.o (λk e=>a4 _)) (λk e=>by
     have ok:=a0 k (b2 k e)
     have hk:=cu ab.o k e;exact(bb k (λd=>by have q:=gv.bo;rw[<-d,ok] at q;omega) aa).trans (ag k hk.2 (λd=>by have q:=gv.g2.dy;rw[<-d,ok] at q;omega)))) (λk e=>a0 k (b2 k e))
   refine⟨λb=>cb.own b≠0,⟨cb,cE,cH.trans cs,λ_=>gp⟩,⟨⟨?_,?_,?_,by rw[<-b8];omega,λk hk hn=>?_⟩,λb hb=>?_⟩⟩
   ·exact(show _=j.os from rfl).trans (gr.os.trans (W.os.trans tn.fr.os))
   ·exact(show _=j.tape from rfl).trans (gr.tape.trans (W.tape.trans tn.fr.tape))
   ·exact(show _=j.output from rfl).trans (gr.output.trans (W.output.trans tn.fr.output))
   ·have cc:∀b,f b->b<I (G w)->F b:=λb q S=>(tn.sub b q).resolve_right aa;exact(bb k (λe=>hn (cc k ((aV k).2 (by rw[e,gv.bo];decide)) hk)) aa).trans ((ag k aa (λe=>hn (cc k ((aV k).2 (by rw[e,gv.g2.dy];decide)) hk))).trans (tn.fr.block k hk hn))
   ·rcases cF b hb with d|d
    ·exact tn.sub b ((aV b).2 d)
    ·exact aI (by have:=(cu ab.o b d).1;omega)
  clear ab aR B N;obtain⟨cI,bd⟩:=b1.o;have bd:aA (_):=bd;clear b1;have P:=pO (L s2.T) i;go_wp2_with fail;refine P.mono ?_;clear P;rintro e p ⟨rfl,ar⟩
  obtain⟨mb,j,⟨cJ,cL,q0,q1⟩,bl,⟨cM,cU,v0,v1,cd⟩,⟨b6,y1⟩,bp,⟨cN,cV,cW⟩,cO⟩:=bd.o p ar;have cX:=cd 3;obtain⟨cP,ai,cQ,lw⟩:=dt bp;have br:aA (_=_):=bp;clear ar bd bp cI cd;go_wp2_with fail
  go_region_held3 (λw'=>V w' (av b7 2)=H (.map (H mb))/\V w' (av b7 3)=H (ak (L s2.T))/\V w' (av (I (G w1)) 0)=H (ak kd)/\V w' (av (I (G w1)) 1)=H (.slice a1 (L fl) c1)) (go_keep) (fail)
  all_goals
   clear cJ cL q0 q1 bl cM v0 v1;go_wp2_with fail;obtain⟨r0,r1,_,_⟩:=dt (ib (v1:=ak 3) (v2:=ak (L s2.T)) ((aW j ⟨b7,3,Y⟩ (ak (L s2.T+1)) (I (G w)) cN.symm).trans br.o))
   obtain⟨f,al,tn⟩:=cO.o;exact a3 (v:=ay #[.agg #[ak 3,ak (L s2.T)],ak 0]) (by simp[results,results209,go_sem,r0,r1]) rfl ⟨f,by rw[am.o],by rw[am.o];exact al,tn⟩
 ·have am:=cg (bi.o.trans (aJ b0))
  go_enter func209,ntmps209;go_wp2_with fail;refine P.mono ?_;clear P;rintro e w1 ⟨a1,c1,rfl,an,ao⟩
  have ap:aA (_):=aF.o w1 a1 c1 an ao;clear an ao aF;have P:=bx.o kd a1 (L fl) c1 hl (bu w1 (OX #[.int OW kd,.slice a1 (L fl) c1] 271))
  go_wp2_with fail;refine P.mono ?_;clear P;rintro e m ⟨rfl,u⟩
  have P:=ap.o m u;clear ap u;go_wp2_with fail;refine P.mono ?_;clear P;rintro e i ⟨rfl,B,N,cr,ab,aR⟩
  obtain⟨cP,ai,cQ,lw⟩:=dt B;have br:aA (_=_):=B;clear B N ab;go_wp2_with fail;obtain⟨r0,r1,_,_⟩:=dt (ib (v1:=ak 0) (v2:=ak 0) br.o)
  obtain⟨f,al,tn,n1,_⟩:=aR.o;exact a3 (v:=ay #[.agg #[ak 0,ak 0],ak rc]) (by simp[results,results209,go_sem,r0,r1]) rfl ⟨f,by rw[am.o],by rw[am.o];exact(cG b7 ce grow rb).set2 al n1 _ _,tn.set2 bY _ _⟩
end
theorem Lj {P:Program}(w:az)(c g ty b:bI)(d a:Option bB)(e j f k:Nat)(l:P.underlying c=H (.slice b))(hs:(P.info? b).map (·.size)=H 2)(hn:l8 f e=0):
 (Builtin.copy_ #[c,g] ty #[Z d e j,Z a f k]).run P w=.ok (goInt 0) w:=by
 cases hq:P.info? b with
 |none=>simp[hq] at hs
 |some i=>
  have hl:∀(x:bB),(loadCells x 0).run P w=.ok #[] w:=λx=>by simpa using run_loadCells_list (P:=P) w x [] ac
  cases d<;>cases a<;>simp[Builtin.copy_,run_underlying l,Builtin.lenOf,Builtin.firstCells,sizeOf,typeInfo,hq,hn,storeCells,hl]
theorem Lk {P:Program}(w:az)(e l ty d:bI)(g o f m:Nat)(a:bB)(k p:Nat)(c:Array a7)(t:bI)(b:List a7)(n:Nat)
 (q:P.underlying e=H (.slice d))(hs:(P.info? d).map (·.size)=H 2)
 (hg:w.heap[g]?=H (OX c t (0,0)))(hm:n=l8 k f)(hn:L b=n*2)
 (s:∀j v,b[j]?=H v->V w (a.add j)=H v)(u:o+L b<=c.size)(x:∀v∈b,v.oneCell'=C):
 (Builtin.copy_ #[e,l] ty #[Z (H ⟨g,o,Y⟩) f m,Z (H a) k p]).run P w=
   .ok (goInt n) (w.setRow g (c.toList.take o++b++c.toList.drop (o+L b)).toArray):=by
 have hl:=run_loadCells_list (P:=P) w a b s;have B:=run_storeCells_at P g o t b 0 c w hg (by simpa using u) x;rw[hn] at hl;cases hq:P.info? d with
 |none=>simp[hq] at hs
 |some i=>
  have hi:i.size=2:=by simpa[hq] using hs
  simp[Builtin.copy_,run_underlying q,Builtin.lenOf,Builtin.firstCells,sizeOf,typeInfo,hq,hi,<-hm,hl,B]
theorem Ct {P:Program}{ops:Array Oper}{o:Oper}{a:Act}{w:az}{K:Act->az->Prop}{Q:Exit->Act->az->Prop}{E:Prop}(N:o.guard=Y)(d s:Operand)(c m e:bI)
 (ho:o.op=.call {callee:=.builtin .copy,args:=#[d,s],argTypes:=#[c,m]})(B:P.underlying c=H (.slice e))(F:(P.info? e).map (·.size)=H 2)
 (p sp:Option bB)(f q i u:Nat)(hd:a.eval d=Z p f q)(hs:a.eval s=Z sp i u)
 (g k:Nat)(l:List a7)(t:bI)(hg:w.heap[g]?=H (OX l.toArray t (0,0)))(b:List a7)(n:Nat)(hm:n=l8 i f)(hn:L b=n*2)
 (S:0<n->p=H ⟨g,k,Y⟩/\∃ad,sp=H ad/\∀j v,b[j]?=H v->V w (ad.add j)=H v)
 (W:k+L b<=L l)(ab:∀v∈b,v.oneCell'=C)
 (h:∀w',mL w w' g l k b->K (a.put o.dst (goInt n)) w'):
 if Region.wanted o (yielded ops a.tmps)=C then Oper.wp P o a w K Q else E:=by
 rw[aN (show Region.wanted o (yielded ops a.tmps)=C by simp[Region.wanted,N])];rcases Nat.eq_zero_or_pos n with h0|h0
 ·subst h0;have ag:b=[]:=bU aa;subst ag;have x:=Lj (P:=P) w c m o.type e p sp f q i u B F hm.symm;unfold Oper.wp;simp[execOp,ho,resolve,invoke,builtin,hd,hs,x,Result.andThen];exact h w (aK ⟨rfl,rfl⟩)
 ·obtain⟨ai,ad,es,al⟩:=S h0;subst ai es;have x:=Lk (P:=P) w c m o.type e g k f q ad i u l.toArray t b n B F hg hm hn al (by simpa using W) ab;unfold Oper.wp;simp[execOp,ho,resolve,invoke,builtin,hd,hs,x,Result.andThen];exact h _ (aI (by simp[lF]))
theorem Ll {P:Program}{ops:Array Oper}{q:List Oper}{o:Oper}{a:Act}{w:az}{Q:Exit->Act->az->Prop}(f:o.guard=Y)(d s:Operand)(i u k:bI)
 (ho:o.op=.call {callee:=.builtin .copy,args:=#[d,s],argTypes:=#[i,u]})(F:P.underlying i=H (.slice k))(N:(P.info? k).map (·.size)=H 2)
 (l sp:Option bB)(m x p B:Nat)(hd:a.eval d=Z l m x)(hs:a.eval s=Z sp p B)
 (g c:Nat)(e:List a7)(t:bI)(hg:w.heap[g]?=H (OX e.toArray t (0,0)))(b:List a7)(n:Nat)(hm:n=l8 p m)(hn:L b=n*2)
 (S:0<n->l=H ⟨g,c,Y⟩/\∃ad,sp=H ad/\∀j v,b[j]?=H v->V w (ad.add j)=H v)
 (W:c+L b<=L e)(ab:∀v∈b,v.oneCell'=C)
 (h:∀w',mL w w' g e c b->wpList P ops Q q (a.put o.dst (goInt n)) w'):wpList P ops Q (o::q) a w:=
 wpList_plain f λK ag=>by
  have:=Ct (P:=P) (ops:=#[]) (o:=o) (a:=a) (w:=w) (K:=K) (Q:=Q) (E:=False) f d s i u k ho F N l sp m x p B hd hs g c e t hg b n hm hn S W ab (λw' hw=>ag _ _ (h w' hw))
  rwa [aN (show Region.wanted o (yielded #[] a.tmps)=C by simp[Region.wanted,f])] at this
theorem Lm (c:Nat)(hc:c<=12)(w:az):M J 222 #[U rT 1,U rT c] w λe w'=>e=OV (ay #[U rT 0,U rT c])/\w'=w:=by exact Bg
theorem Lr (c:Nat)(hc:c<=12)(w:az):M J 157 #[U rT 1,U rT c] w λe w'=>e=OV (ay #[U rT 0,U rT c])/\w'=w:=by have P:=Lm c hc w;exact Bh
def h7 (c:Nat)(v:Int×Int)(n:Nat):List (Int×Int):=aZ n v++aZ (c-n) (0,0)
theorem Cu (c:Nat)(v:Int×Int)(n:Nat)(h:n<=c):L (h7 c v n)=c:=by simp[h7];omega
theorem mD (n:Nat)(v:Int×Int):L (ev (aZ n v))=n*2:=by rw[lY,List.length_replicate]
theorem Lt (c:Nat)(v:Int×Int)(n m:Nat)(h:n+m<=c):lF (ev (h7 c v n)) (n*2) (ev (aZ m v))=ev (h7 c v (n+m)):=by
 unfold lF h7;have b:(aZ (c-n) ((0:Int),(0:Int)))=aZ m (0,0)++aZ (c-(n+m)) (0,0):=by
  rw[mg]
  congr 1
  omega
 have d:List.drop (n*2+m*2) (ev (aZ n v)++(ev (aZ m ((0:Int),(0:Int)))++ev (aZ (c-(n+m)) (0,0))))=ev (aZ (c-(n+m)) (0,0)):=by rw[<-bf];exact List.drop_left' (by rw[aX,mD,mD])
 rw[jL,List.take_left' (mD n v),mD,b,jL,d,<-mg,jL,jL,bf]
theorem Lu (c:Nat)(v:Int×Int)(n m:Nat)(hm:m<=n):∃r,ev (h7 c v n)=ev (aZ m v)++r:=by
 refine⟨ev (aZ (n-m) v)++ev (aZ (c-n) (0,0)),?_⟩
 unfold h7;rw[<-bf,<-jL,mg,<-jL]
 congr 3
 omega
theorem Lw {c:Nat}{w:az}{nb n:Nat}{v:Int×Int}(hr:w.heap[nb]?=H (OX (ev (h7 c v n)).toArray 139 (0,0)))(m:Nat)(hm:m<=n):∀j u,(ev (aZ m v))[j]?=H u->V w ((⟨nb,0,Y⟩:bB).add j)=H u:=by
 intro j u b;obtain⟨r,e⟩:=Lu c v n m hm;have d:=(pq.1 b).1;rw[Addr.add_lit];have:(ev (h7 c v n))[j]?=H u:=by rw[e,List.getElem?_append_left d];exact b
 rw[bW];simp[World.cell?,hr,this]
theorem Cv {c:Nat}{w w':az}{nb n m B:Nat}{v:Int×Int}(b:mL w w' nb (ev (h7 c v n)) (n*2) (ev (aZ m v)))(hr:w.heap[nb]?=H (OX (ev (h7 c v n)).toArray 139 (0,0)))(h:n+m<=c)(hB:B<=nb):w'.heap[nb]?=H (OX (ev (h7 c v (n+m))).toArray 139 (0,0))/\O B w w':=by
 rcases b with⟨h0,rfl⟩|rfl
 ·have:=congrArg L h0;rw[mD] at this
  simp only [List.length_nil] at this
  obtain rfl:m=0:=aa;exact⟨hr,aH _ _⟩
 ·rw[Lt c v n m h];exact⟨setRow_heap w nb _ _ _ _ hr,⟨rfl,rfl,rfl,by simp[World.setRow],λk hk=>setRow_other w nb k _ aa⟩⟩
theorem Cw:(prog.info? 139).map (·.size)=H 2:=ah
theorem Lx {w:az}{b k n:Nat}(hn:n<=12)(h:aC w b 139 2 (Z (au k) n n) n (madeCells (Value.agg #[ak 0,ak 0]).cells (n*2)).toList):
 w.heap[k]?=H (OX (ev (aZ n (0,0))).toArray 139 (0,0)):=by
 obtain⟨j,d⟩:=h;rcases d with⟨e,_⟩|⟨m,cap,c,hv,hb,f,o,p,q,g⟩
 ·cases e
 ·cases hv;rw[f];have:c.toList=ev (aZ n (0,0)):=by rw[<-List.take_of_length_le (l:=c.toList) (i:=n*2) (by simp;omega),g];rcases(show n=0\/n=1\/n=2\/n=3\/n=4\/n=5\/n=6\/n=7\/n=8\/n=9\/n=10\/n=11\/n=12 by omega) with rfl|rfl|rfl|rfl|rfl|rfl|rfl|rfl|rfl|rfl|rfl|rfl|rfl<;>kernel_rfl
  rw[<-this]
theorem Ly {w:az}{b:Nat}{v:Int×Int}{m:Nat}(hm:m<=1)(h0:V w (av b 0)=H (ak v.1))(d:V w (av b 1)=H (ak v.2)):∀j u,(ev (aZ m v))[j]?=H u->V w ((⟨b,0,Y⟩:bB).add j)=H u:=by
 intro j u c;have e:=(pq.1 c).1;rw[mD] at e;obtain rfl:m=1:=aa
 match j,c with
 |0,c=>simp[ev] at c;rw[<-c];simpa[Addr.add] using h0
 |1,c=>simp[ev] at c;rw[<-c];simpa[Addr.add] using d
 |j+2,_=>omega
theorem Cx (w:az)(b c:Nat)(v:Int×Int)(F:c<=12)(N:V w (av b 0)=H (ak v.1))(aF:V w (av b 1)=H (ak v.2)):
 M J 115 #[Z (au b) 1 1,ak c] w λe w'=>∃nb,e=OV (Z (au nb) c c)/\I (G w)<=nb/\w'.heap[nb]?=H (OX (ev (aZ c v)).toArray 139 (0,0))/\O (I (G w)) w w':=by
 obtain⟨S,hi,aR,aV,a0⟩:=bM tH;have lb:=aT w _ N;dsimp only at lb;have W:=Lr c F w;have a1:aA (h7 c v c=aZ c v):=by show _=_;simp[h7]
 have c1:(c:Int)<=12:=aa;go_enter func115,ntmps115;go_wp2_with fail;refine W.mono ?_;clear W;rintro e w0 ⟨rfl,hw⟩
 have hw:=hw.symm;subst hw
 go_upto_region 7 with(at_make;refine wpList_make_full _ rfl _ _ 90 rfl (I (G w)) 139 S (bz #[ak 0,ak 0]) 2 underlying90 hi aR aV OW OW _ _ c rfl rfl aa aa (by rw[a0];omega) (by unfold maxLen;omega) bY ?_;intro w1 ab ad)
 have hr:w1.heap[I (G w)]?=H (OX (ev (h7 c v 0)).toArray 139 (0,0)):=by have a2:=Lx F ab;simpa[h7] using a2
 have i:O (I (G w)) w w1:=(aH _ w).grown ad bY (λ_ h=>by cases h)
 have ag:=(i.cell (p:=av b 0) lb).trans N;have ai:=(i.cell (p:=av b 1) lb).trans aF;clear ab ad;have o:l8 1 c<=1:=Nat.min_le_left _ _;have d:l8 1 c<=c:=Nat.min_le_right _ _;have k:0<c->1<=l8 1 c:=λh=>by simp only [sw];split<;>omega
 have f:aA (∀j u,(ev (aZ (l8 1 c) v))[j]?=H u->V w1 ((⟨b,0,Y⟩:bB).add j)=H u):=Ly o ag ai;have q:aA (w1.heap[I (G w)]?=H (OX (ev (h7 c v 0)).toArray 139 (0,0))):=hr;have g:aA (0*2+L (ev (aZ (l8 1 c) v))<=L (ev (h7 c v 0))):=by show _<=_;rw[mD,lY,Cu c v 0 aa];omega
 clear ag ai hr;go_wp2_with (refine Ll rfl _ _ 90 90 139 rfl underlying90 Cw (au (I (G w))) (au b) c c 1 1 rfl rfl (I (G w)) (0*2) (ev (h7 c v 0)) 139 q.o (ev (aZ (l8 1 c) v)) (l8 1 c) rfl (mD _ _) (λ_=>⟨rfl,_,rfl,f.o⟩) g.o (pa _) ?_;intro bl al)
 obtain⟨s,am⟩:=Cv (B:=I (G w)) al q.o aa bY
 rw[bW] at s;have an:=i.trans am;have t:aA (l8 1 c<=c/\(0<c->1<=l8 1 c)):=⟨d,k⟩
 clear al f q g i am o d k;generalize l8 1 c=bb at*
 go_loopw [8] (λnv wr=>∃n:Nat,(0<c->1<=n)/\n<=c/\nv=ak n/\aA (wr.heap[I (G w)]?=H (OX (ev (h7 c v n)).toArray 139 (0,0)))/\O (I (G w)) w wr) (λnv _=>c-(intOf nv).toNat)
 case atStart=>exact⟨bb,t.o.2,t.o.1,rfl,s,an⟩
 case round=>
  clear s an t;obtain⟨n,n1,bd,rfl,x,hb⟩:=hrel;by_cases bn:n<c
  ·have n1:=n1 aa;obtain⟨m,hm,o,d,k⟩:∃m,m=l8 n (c-n)/\0<m/\n+m<=c/\m<=n:=⟨_,rfl,by simp only [sw];split<;>omega,by simp only [sw];split<;>omega,by simp only [sw];split<;>omega⟩
   have l:aA (wr.drew.heap[I (G w)]?=H (OX (ev (h7 c v n)).toArray 139 (0,0))):=x.o;have f:aA (∀j u,(ev (aZ m v))[j]?=H u->V wr.drew ((⟨I (G w),0,Y⟩:bB).add j)=H u):=Lw l.o m k;have g:aA (n*2+L (ev (aZ m v))<=L (ev (h7 c v n))):=by show _<=_;rw[mD,lY,Cu c v n bd];omega
   have bo:¬c=n:=aa;have S:(0:Int)<=(n:Int):=aa;have bp:(n:Int)<=(c:Int):=aa;have br:(n:Int)<(c:Int):=aa;clear x;go_wp2_with fail
   go_region_law (refine Ct rfl (.tmp 41) (.tmp 44) 90 90 139 rfl underlying90 Cw (H ⟨I (G w),n*2,Y⟩) (au (I (G w))) (c-n) (c-n) n c ?_ ?_ (I (G w)) (n*2) (ev (h7 c v n)) 139 l.o (ev (aZ m v)) m hm (mD _ _) (λ_=>⟨rfl,_,rfl,f.o⟩) g.o (pa _) ?_;(simp[Act.eval,Act.put]);(simp[Act.eval,Act.put]);intro be ao)
   obtain⟨ap,ar⟩:=Cv (B:=I (G w)) ao l.o d bY
   have bg:aA (be.heap[I (G w)]?=H (OX (ev (h7 c v (n+m))).toArray 139 (0,0))):=ap;have bi:=hb.drew.trans ar;have hw:IntKind.i64.wrap ((n:Int)+(m:Int))=((n+m:Nat):Int):=by rw[bc];omega
   clear ap ar ao l f g hb;simp[Act.put,go_sem,Exit.inBlock];rw[<-hm,hw];refine⟨⟨_,_,_,_,_,_,_,_,_,_,_,_,_,_,?rel,rfl⟩,?measure⟩
   case rel=>exact⟨n+m,λ_=>aa,d,rfl,bg,bi⟩
   case measure=>simp[intOf];omega
  ·obtain rfl:n=c:=aa;have aB:=x.o;rw[a1.o] at aB;go_wp2_with fail;go_ret;exact⟨I (G w),rfl,aG _,aB,hb⟩
section
variable {b7 rb:Nat}{ce grow:Int}{F:Nat->Prop}{s:ck}{w:az}{g:fM}
theorem Lz (g:List Bool->List Bool)(s:ck)(grow:Int)(mj:Bool):(s.cut g grow mj).rs=s.rs:=by unfold ck.cut;split<;>rfl
theorem Cy (g:fM)(ce grow:Int)(s:ck)(m:Int):(s.room g ce grow m).2.rs=s.rs:=by
 unfold ck.room;split
 ·rfl
 ·exact Lz _ _ _ _
theorem w_ (g:fM)(ce grow:Int)(s:ck)(kd:Int)(fl:List _):(s.grow g ce grow kd fl).2.2.rs=s.rs:=by
 unfold ck.grow;split
 ·exact Cy _ _ _ _ _
 ·exact Cy _ _ _ _ _
theorem LA (s:ck)(v:Int×Int):(s.pop v).2.2.rs=s.rs:=by
 unfold ck.pop;split
 ·split<;>rfl
 ·rfl
theorem lh (h:(cG b7 ce grow rb).J F s w):V w (av b7 6)=H (Z (au rb) 12 12)/\(∀i,i<12->V w (av rb (i*2))=H (ak (X s.rs i (0,0)).1)/\V w (av rb (i*2+1))=H (ak (X s.rs i (0,0)).2))/\F b7/\F rb:=by obtain⟨l,h,rfl,b⟩:=h;have c:=h.g4.cells.2.2;exact⟨h.cells.2.2.2.2.2.2.1,λi hi=>⟨(c i hi).1,(c i hi).2.1⟩,(b _).2 (by rw[h.bo];decide),(b _).2 (by rw[h.g4.ro];decide)⟩
theorem fZ {w:az}{b c o:Nat}{x v0 v1:a7}(hn:b≠c)(h:V w (av b o)=H x):V (O8 (O8 w ⟨c,0,Y⟩ v0) ⟨c,1,Y⟩ v1) (av b o)=H x:=by exact Ce
theorem LB (h:(cG b7 ce grow rb).J F s w)(hv:fX s)(N:dS s.T s.wt (g s.T s.wt))(g0:-1000000<=grow)(g1:grow<=1000000)(aF:-1000000<=ce)(m1:ce<=1000000)(R I n:Int){k kd:Int}(hk:k=4/\kd=1\/k=6/\kd=3\/k=7/\kd=4)(A B:Nat)(o:A<12)(hB:B<12):
 M prog 135 #[aq b7,dJ k R A B I n] w λe w'=>∃f,e=OV (ay #[bz #[ak (s.grow g ce grow kd [X s.rs A (0,0),X s.rs B (0,0)]).1.1,ak (s.grow g ce grow kd [X s.rs A (0,0),X s.rs B (0,0)]).1.2],ak (s.grow g ce grow kd [X s.rs A (0,0),X s.rs B (0,0)]).2.1])/\(cG b7 ce grow rb).J f (s.grow g ce grow kd [X s.rs A (0,0),X s.rs B (0,0)]).2.2 w'/\b9 F w f w':=by
 have fN:∀b,F b->b<w.heap.size:=λb hb=>(cG b7 ce grow rb).lt h b hb;have p:O w.heap.size w (bu (w.alloc (cA k R A B I n)) (OX #[U OW 0,U OW 0] 139)):=(bZ.alloc bY _).alloc ac _;have q:(bu (w.alloc (cA k R A B I n)) (OX #[U OW 0,U OW 0] 139)).heap[w.heap.size]?=H (cA k R A B I n):=(aU _ _ _ ac).trans (aO w _)
 have S:=jz w (cA k R A B I n) (OX #[U OW 0,U OW 0] 139)
 obtain⟨aR,rt,W,ab⟩:=lh ((cG b7 ce grow rb).below h p)
 obtain⟨aV,a2⟩:=rt A o;obtain⟨bb,bd⟩:=rt B hB;obtain⟨q0,q1,be,q3,bg,bi⟩:=dZ q;have b2:=fN _ W;have b3:=fN _ ab;have ag:(bu (w.alloc (cA k R A B I n)) (OX #[U OW 0,U OW 0] 139)).heap.size=w.heap.size+1+1:=ac;have t:M prog 209 #[aq b7,ak kd,Z (au (w.heap.size+1+1)) 2 2] (bu (bu (w.alloc (cA k R A B I n)) (OX #[U OW 0,U OW 0] 139)).drew (OX #[U OW (X s.rs A (0,0)).1,U OW (X s.rs A (0,0)).2,U OW (X s.rs B (0,0)).1,U OW (X s.rs B (0,0)).2] 139)) λe c=>∃f,e=OV (ay #[bz #[ak (s.grow g ce grow kd [X s.rs A (0,0),X s.rs B (0,0)]).1.1,ak (s.grow g ce grow kd [X s.rs A (0,0),X s.rs B (0,0)]).1.2],ak (s.grow g ce grow kd [X s.rs A (0,0),X s.rs B (0,0)]).2.1])/\
  (V c (av b7 6)=H (Z (au rb) 12 12)/\V c (av rb (A*2))=H (ak (X s.rs A (0,0)).1)/\V c (av rb (A*2+1))=H (ak (X s.rs A (0,0)).2)/\V c (av rb (B*2))=H (ak (X s.rs B (0,0)).1)/\V c (av rb (B*2+1))=H (ak (X s.rs B (0,0)).2)/\V c (av w.heap.size 2)=H (ak A)/\V c (av w.heap.size 3)=H (ak B))/\
  c.heap[w.heap.size+1]?=H (OX #[ak 0,ak 0] 139 (0,0))/\aA ((cG b7 ce grow rb).J f (s.grow g ce grow kd [X s.rs A (0,0),X s.rs B (0,0)]).2.2 c/\b9 F w f c/\¬f (w.heap.size+1)):=by
  have b1:O w.heap.size w (bu (bu (w.alloc (cA k R A B I n)) (OX #[U OW 0,U OW 0] 139)).drew (OX #[U OW (X s.rs A (0,0)).1,U OW (X s.rs A (0,0)).2,U OW (X s.rs B (0,0)).1,U OW (X s.rs B (0,0)).2] 139)):=p.drew.alloc (by simp;omega) _;have u:(bu (bu (w.alloc (cA k R A B I n)) (OX #[U OW 0,U OW 0] 139)).drew (OX #[U OW (X s.rs A (0,0)).1,U OW (X s.rs A (0,0)).2,U OW (X s.rs B (0,0)).1,U OW (X s.rs B (0,0)).2] 139)).heap.size=w.heap.size+1+1+1:=ac;have hn:=aO (bu (w.alloc (cA k R A B I n)) (OX #[U OW 0,U OW 0] 139)).drew (OX #[U OW (X s.rs A (0,0)).1,U OW (X s.rs A (0,0)).2,U OW (X s.rs B (0,0)).1,U OW (X s.rs B (0,0)).2] 139)
  have ai:(bu (w.alloc (cA k R A B I n)) (OX #[U OW 0,U OW 0] 139)).drew.heap.size=w.heap.size+1+1:=ag;rw[ai] at hn;refine(w9 (g:=g) (kd:=kd) (fl:=[X s.rs A (0,0),X s.rs B (0,0)]) (ad:=au (w.heap.size+1+1)) (cap:=2) ((cG b7 ce grow rb).below h b1) hv N g0 g1 aF m1 ac ⟨λ_=>⟨w.heap.size+1+1,0,rfl,by rw[u];omega,λi hi=>?_⟩,ac,λe=>by cases e⟩).mono ?_
  ·have hi:i<2:=hi;rcases(show i=0\/i=1 by omega) with rfl|rfl<;>simp only [World.cell?,hn]<;>exact⟨rfl,rfl⟩
  ·rintro e c ⟨f,rfl,al,tn⟩
   obtain⟨l,j,_,_⟩:=lh al;rw[w_] at j;have kp:∀b,w.heap.size<=b->b<w.heap.size+1+1->c.heap[b]?=(bu (w.alloc (cA k R A B I n)) (OX #[U OW 0,U OW 0] 139)).heap[b]?:=λb b4 b5=>(tn.fr.block b (by rw[u];omega) (λd=>by have:=fN b d;omega)).trans (aU (bu (w.alloc (cA k R A B I n)) (OX #[U OW 0,U OW 0] 139)).drew _ b (by rw[ai];omega))
   have bl:=(kp _ bY aa).trans q;obtain⟨_,_,bn,bo,_,_⟩:=dZ bl;refine⟨f,rfl,⟨l,(j A o).1,(j A o).2,(j B hB).1,(j B hB).2,bn,bo⟩,(kp _ aa aa).trans S,al,(b9.of b1).trans tn,λd=>?_⟩
   rcases tn.sub _ d with d|d
   ·have:=fN _ d;omega
   ·rw[u] at d;omega
 generalize s.grow g ce grow kd [X s.rs A (0,0),X s.rs B (0,0)]=gr at*;obtain⟨⟨v0,v1⟩,cd,b6⟩:=gr;dsimp only at t⊢;generalize (X s.rs A (0,0)).1=a0 at*;generalize (X s.rs A (0,0)).2=a1 at*;generalize (X s.rs B (0,0)).1=bp at*;generalize (X s.rs B (0,0)).2=br at*;have b8:(0:Int)<=(A:Int):=aa;have ca:(A:Int)<12:=aa;have cb:(0:Int)<=(B:Int):=aa;have cc:(B:Int)<12:=aa;have bs:b7≠w.heap.size+1:=aa;have m:rb≠w.heap.size+1:=aa;have nx:w.heap.size≠w.heap.size+1:=aa;clear h hv N p q S rt fN W ab q0 q1 bg bi ag;rcases hk with⟨rfl,rfl⟩|⟨rfl,rfl⟩|⟨rfl,rfl⟩
 all_goals
  go_enter func135,ntmps135;go_wp2_with fail
  go_region_held3 (λw'=>V w' (av b7 6)=H (Z (au rb) 12 12)/\V w' (av rb (A*2))=H (ak a0)/\V w' (av rb (A*2+1))=H (ak a1)/\V w' (av rb (B*2))=H (ak bp)/\V w' (av rb (B*2+1))=H (ak br)/\V w' (av w.heap.size 2)=H (ak A)/\V w' (av w.heap.size 3)=H (ak B)) (first|exact⟨fZ bs am,fZ m an,fZ m ao,fZ m ap,fZ m ar,fZ nx l,fZ nx aB⟩|(go_keep;done))
   (first|(go_at_call 209;refine t.mono ?_;clear t;rintro e c ⟨f,rfl,⟨am,an,ao,ap,ar,l,aB⟩,y1,x⟩;obtain⟨r0,r1,cf,lw⟩:=dt y1;have bt:aA (_=_):=y1;clear y1 aR aV a2 bb bd be q3))
  all_goals
   clear am an ao ap ar l aB ‹_/\_›;go_wp2_with fail;obtain⟨bx,b0,_,_⟩:=dt (ib (v1:=ak v0) (v2:=ak v1) bt.o)
   exact a3 (v:=ay #[bz #[ak v0,ak v1],ak cd]) (by simp[results,results135,go_sem,bx,b0]) rfl ⟨f,rfl,dr.set2 _ x.o.1 x.o.2.2 _ _,x.o.2.1.set2 (Nat.le_succ _) _ _⟩
end
end Go.Proofs.YtjckpdepffejnaaGreatDoor
