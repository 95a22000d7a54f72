import Derived.Test.YtpkjkjhanlbcoaaGreatJ17
namespace Go.Proofs.YtpkjkjhanlbcoaaGreat
set_option maxRecDepth 100000
set_option maxHeartbeats 8000000
open Tryz
open Go.RowKit W Kp cf
theorem Ak {P:Prop}(h:P:=by
 go_wp2_with fail;refine(rh _ _).mono ?_;rintro e w2 ⟨rfl,hb2⟩
 have hq:=(hb2.block (w.heap.size+1+1) Z).trans (ux w _ _ _)
 obtain⟨e0,e1,f0,lw⟩:=di hq;have HN:=hide hq;have HB:=hide (b1.trans (hb2.mono b1.size))
 go_wp2_with fail;obtain⟨r0,r1,_,_⟩:=di (gz (v1:=ah 1) (v2:=ah 0) HN.o)
 exact a4 (v:=.agg #[ah 1,ah 0]) (by simp[results,results209,go_sem,r0,r1]) rfl ⟨rfl,(HB.o.setCell (by simp;omega) _).setCell (by simp;omega) _⟩):P:=h
theorem Al {P:Prop}(h:P:=by
 go_wp2_with fail;refine P2.mono ?_;rintro e w2 ⟨uy,uz,n12,n22,hm2,rfl,g2,t2⟩
 have HF:=dq g2 t2;go_wp2_with fail;go_end0;exact⟨uy,uz,n12,n22,hm2,rfl,HF.o.1,HF.o.2⟩):P:=h
structure Cp where
 w0:ax
 bY:Nat
 b_:Int
 bZ:Int
 l:gG
 s:ck
 cp:Nat
 ab:Nat
 hb:Nat
def eT (T:List cD)(fm:Fm)(A:List Bool)(x:Int):Option Value:=if 0<=x/\A.getD x.toNat false=true then some (fX T fm x.toNat) else none
def hdF (hd:Int->List (Int×Int))(hm:Int->Option Addr×Nat)(x:Int):Option Value:=if(hd x).isEmpty=true then none else some (.slice (hm x).1 (hd x).length (hm x).2)
structure cU (c:Cp)(own:Nat->Nat)(vt:Value)(n1 n2:Nat)(hm:Int->Option Addr×Nat)(st:dx)(w:ax):Prop where
 ol:∀k,k<c.w0.heap.size->w.heap[k]?=c.w0.heap[k]?
 sz:c.w0.heap.size<=w.heap.size
 cb:w.heap[c.cp]?=some (.cells #[aj c.bY,.map (some c.ab),vt,.map (some c.hb)] 252 (0,0))
 co:own c.cp=1
 am:es w c.ab n1 (eT c.s.T c.l.fm st.A)
 ao:own c.ab=2
 an:n1+cnt st.A<=c.s.T.length
 tr:w.ownsRow 0 2 1 vt st.td.length (st.td.map (Value.int .i64))
 tw:∀k,some k=vt.ownBlock->own k=3
 tn:st.td.length+cnt st.A<=c.s.T.length
 hq:es w c.hb n2 (hdF st.hd hm)
 ho:own c.hb=4
 hn:n2<=st.m
 hr:∀x,st.hd x≠[]->0<=x/\w.ownsRow 0 97 2 (.slice (hm x).1 (st.hd x).length (hm x).2) (st.hd x).length (ev (st.hd x))
 hro:∀x,st.hd x≠[]->∀k,some k=(Value.slice (hm x).1 (st.hd x).length (hm x).2).ownBlock->own k=10+x.toNat
 lt:∀b,own b≠0->c.w0.heap.size<=b/\b<w.heap.size
section
variable {c:Cp}{own:Nat->Nat}{vt:Value}{n1 n2:Nat}{hm:Int->Option Addr×Nat}{st:dx}{w w':ax}
theorem cU.keep (h:cU c own vt n1 n2 hm st w)(hs:w.heap.size<=w'.heap.size)(hk:∀b,b<c.w0.heap.size\/own b≠0->w'.heap[b]?=w.heap[b]?):cU c own vt n1 n2 hm st w':=
 {
  h with
  ol:=fun k f=>(hk k (aK f)).trans (h.ol k f)
  sz:=aT h.sz hs
  cb:=(hk _ (aJ (by rw[h.co];decide))).trans h.cb
  am:=h.am.same (hk _ (aJ (by rw[h.ao];decide)))
  tr:=cH h.tr (fun k e=>hk k (aJ (by rw[h.tw k e];decide)))
  hq:=h.hq.same (hk _ (aJ (by rw[h.ho];decide)))
  hr:=fun x d=>⟨(h.hr x d).1,cH (h.hr x d).2 (fun k e=>hk k (aJ (by rw[h.hro x d k e];omega)))⟩
  lt:=fun b hb=>⟨(h.lt b hb).1,aM (h.lt b hb).2 hs⟩}
theorem cU.below (h:cU c own vt n1 n2 hm st w)(hb:Below w.heap.size w w'):cU c own vt n1 n2 hm st w':=h.keep hb.size (fun b ho=>hb.block b (ho.elim (fun c=>aM c h.sz) (fun c=>(h.lt b c).2)))
end
def rk (c:Cp):dr dx where
 J F st w:=∃own vt n1 d hm,cU c own vt n1 d hm st w/\∀b,F b↔b<c.w0.heap.size\/own b≠0
 lt:=by
  rintro F st w ⟨own,vt,n1,d,hm,h,f⟩ b hb;rcases(f b).1 hb with e|e
  ·exact aM e h.sz
  ·exact(h.lt b e).2
 keep:=by rintro F st w w' ⟨own,vt,n1,d,hm,h,f⟩ hs hk;exact⟨own,vt,n1,d,hm,h.keep hs (fun b hb=>hk b ((f b).2 hb)),f⟩
structure fB (own:Nat->Nat)(w:ax)(own':Nat->Nat)(w':ax):Prop where
 fr:Fr (fun b=>own b=1\/own b=2\/own b=3) w w'
 old:∀b,b<w.heap.size->own' b=own b
 nw:∀b,w.heap.size<=b->own' b≠0->own' b=3
section
variable {c:Cp}{own own' mx:Nat->Nat}{vt:Value}{n1 n2:Nat}{hm:Int->Option Addr×Nat}{st:dx}{w w' w'':ax}
theorem fB.of (h:Below w.heap.size w w')(hl:∀b,own b≠0->b<w.heap.size):fB own w own w':=⟨Fr.of h,fun _ _=>rfl,fun b hb ho=>by have:=hl b ho;omega⟩
theorem fB.trans (h:fB own w own' w')(k:fB own' w' mx w''):fB own w mx w'':=by
 refine⟨h.fr.trans k.fr (fun i hi=>?_),fun b hb=>(k.old b (aM hb h.fr.size)).trans (h.old b hb),fun b hb ho=>?_⟩
 ·by_cases c:i<w.heap.size
  ·rw[h.old i c] at hi;exact aK hi
  ·exact aJ V
 ·by_cases d:b<w'.heap.size
  ·rw[k.old b d] at ho⊢;exact h.nw b hb ho
  ·exact k.nw b V ho
theorem cU.cells (h:cU c own vt n1 n2 hm st w):w.cell? (aq c.cp 0)=some (aj c.bY)/\w.cell? (aq c.cp 1)=some (.map (some c.ab))/\w.cell? (aq c.cp 2)=some vt/\w.cell? (aq c.cp 3)=some (.map (some c.hb))/\(∀o,w.frozen? (aq c.cp o)=false)/\c.cp<w.heap.size:=by have b:=h.cb;refine⟨?_,?_,?_,?_,fun o=>by simp[World.frozen?,b],lt_of_some b⟩<;>simp[World.cell?,b]
theorem cU.gv (h:cU c own vt n1 n2 hm st w)(hg:dS c.bY c.b_ c.bZ c.l c.s c.w0):dS c.bY c.b_ c.bZ c.l c.s w:=hg.keep h.sz (fun b hb=>h.ol b (hg.lt b hb))
theorem H4 (T:List cD)(fm:Fm)(A:List Bool){x:Int}(h0:0<=x)(hl:x.toNat<A.length):jG (eT T fm A) x (fX T fm x.toNat)=eT T fm (A.set x.toNat true):=by
 funext y
 unfold jG eT;by_cases e:y=x
 ·subst e;rw[aI rfl,aI ⟨h0,by rw[i8 _ _ _ hl,aI rfl]⟩]
 ·rw[aG e];by_cases b:0<=y
  ·rw[i8 _ _ _ hl,aG (show¬x.toNat=y.toNat by omega)]
  ·rw[aG (fun c=>b c.1),aG (fun c=>b c.1)]
theorem uA {T:List cD}{fm:Fm}{A:List Bool}{x:Int}(h0:0<=x):(eT T fm A x).isSome=cL A x:=by
 unfold eT cL;cases h:A.getD x.toNat false
 ·rw[aG Z];rfl
 ·rw[aI ⟨h0,rfl⟩];rfl
theorem cU.fY {cM:Value}{v:Int×Int}(h:cU c own vt n1 n2 hm st w)(hi:dH st.A v=false)(h0:0<=v.2)(hl:v.2.toNat<st.A.length)(fr:Fr (fun b=>own b=1\/own b=2\/own b=3) w w')
 (hM:es w' c.ab (n1+1) (jG (eT c.s.T c.l.fm st.A) v.2 (fX c.s.T c.l.fm v.2.toNat)))
 (f:w'.ownsRow 0 2 1 cM (st.td.length+1) ((st.td++[v.2]).map (Value.int .i64)))(hb:w'.heap[c.cp]?=some (.cells #[aj c.bY,.map (some c.ab),cM,.map (some c.hb)] 252 (0,0)))
 (ht:∀k,some k=cM.ownBlock->own k=3\/w.heap.size<=k):∃own',cU c own' cM (n1+1) n2 hm (d4 st v) w'/\fB own w own' w':=by
 obtain⟨j,g⟩:=mf hi;have hc:=um st.A v.2.toNat (by rw[aE,aL hl] at g⊢;exact g)
 have he:∀b,own b≠0->(if w.heap.size<=b then(if some b=cM.ownBlock then 3 else 0) else own b)=own b:=fun b hb=>aG (by have:=(h.lt b hb).2;omega)
 have hk:∀b,own b=4\/10<=own b->_=_:=fun b hb=>fr.block b (h.lt b V).2 V;have hs:=h.sz;refine⟨fun b=>if w.heap.size<=b then(if some b=cM.ownBlock then 3 else 0) else own b,?_,fr,fun b hb=>aG V,fun b hb ho=>?_⟩
 ·rw[q_ hi];refine {
   ol:=fun k i=>(fr.block k V (fun cc=>?_)).trans (h.ol k i),sz:=aT h.sz fr.size,cb:=hb,co:=(he _ (by rw[h.co];decide)).trans h.co,am:=?_,ao:=(he _ (by rw[h.ao];decide)).trans h.ao,an:=?_,tr:=by simpa using f,tw:=fun k e=>?_,tn:=?_
   hq:=h.hq.same (hk _ (aK h.ho)),ho:=(he _ (by rw[h.ho];decide)).trans h.ho,hn:=h.hn,hr:=fun x d=>⟨(h.hr x d).1,cH (h.hr x d).2 (fun k e=>hk k (aJ (by rw[h.hro x d k e];omega)))⟩,hro:=fun x d k e=>(he k (by rw[h.hro x d k e];omega)).trans (h.hro x d k e),lt:=fun b hb=>?_}
  ·have:=(h.lt k V).1;omega
  ·rw[<-H4 _ _ _ h0 hl];exact hM
  ·have:=h.an;dsimp only;omega
  ·rcases ht k e with cc|cc
   ·exact(he k (by rw[cc];decide)).trans cc
   ·show(if _ then _ else _)=_;rw[aI cc,aI e]
  ·have:=h.tn;simp only [List.length_append,List.length_singleton];omega
  ·split at hb
   ·rename_i hw;split at hb
    ·rename_i e;exact⟨V,(cn f b e).2⟩
    ·exact absurd rfl hb
   ·exact⟨(h.lt b hb).1,aM (h.lt b hb).2 fr.size⟩
 ·rw[aI hb] at ho⊢;split at ho
  ·rename_i e;rw[aI e]
  ·exact absurd rfl ho
end
theorem H5 (k:Int)(ad:Option Addr)(n c:Nat)(w:ax):(Instr.field 220 (.agg #[ah k,.slice ad n c]) 1).run prog w=.ok (.slice ad n c) w:=ae
theorem ux (w:ax)(a b o:Obj):(((w.alloc a).alloc b).alloc o).heap[w.heap.size+1+1]?=some o:=by have h:=aO ((w.alloc a).alloc b) o;rwa [show((w.alloc a).alloc b).heap.size=w.heap.size+1+1 by simp] at h
section
variable {bY:Nat}{b_ bZ:Int}{l:gG}{F:Nat->Prop}{s:ck}{w:ax}
theorem H6 (h:dS bY b_ bZ l s w)(v:Int×Int)(hv:v.1=3->0<=v.2/\cv s.T v.2.toNat)(b:s.T.length<=10000)(hk:v.1=3->(s.T.getD v.2.toNat t0).1=5):
 Calls prog 208 #[aj bY,.agg #[ah v.1,ah v.2]] w fun e w'=>e=.returned (.tuple #[.agg #[ah 0,ah 0],ah 2])/\Below w.heap.size w w':=by
 obtain⟨k,x⟩:=v;have b1:Below w.heap.size w ((w.alloc (.cells #[.int .i64 k,.int .i64 x] 97)).alloc (.cells #[.int .i64 0,.int .i64 0] 97)):=(bX.alloc bW _).alloc Z _;have P:=Ag (h.below b1) (k,x) hv b hk;go_enter func208,ntmps208;go_wp2_with fail;refine P.mono ?_;rintro e w1 ⟨rfl,hb⟩
 have hq:=(hb.block (w.heap.size+1) Z).trans (iP w (.cells #[.int .i64 k,.int .i64 x] 97) (.cells #[.int .i64 0,.int .i64 0] 97))
 obtain⟨f,g,i,lw⟩:=di hq;have c:=hide hq;have d:=hide (b1.trans (hb.mono (by simp;omega)))
 go_wp2_with fail;obtain⟨r0,r1,_,_⟩:=di (gz (v1:=ah 0) (v2:=ah 0) c.o)
 exact a4 (v:=.tuple #[.agg #[ah 0,ah 0],ah 2]) (by simp[results,results208,go_sem,r0,r1]) rfl ⟨rfl,(d.o.setCell Z _).setCell Z _⟩
theorem H7 (h:dS bY b_ bZ l s w)(x:Int)(hv:0<=x/\cv s.T x.toNat)(d:s.T.length<=10000)(hk:(s.T.getD x.toNat t0).1≠5):
 Calls prog 208 #[aj bY,.agg #[ah 3,ah x]] w fun e w'=>e=.returned (.tuple #[.agg #[ah 1,ah (s.T.getD x.toNat t0).2.1.length],ah 0])/\Below w.heap.size w w':=by
 have b1:Below w.heap.size w ((w.alloc (.cells #[.int .i64 3,.int .i64 x] 97)).alloc (.cells #[.int .i64 0,.int .i64 0] 97)):=(bX.alloc bW _).alloc Z _;have P:=uw (h.below b1) x hv d hk;dsimp only [eD] at P;generalize (s.T.getD x.toNat t0).2.1.length=n at*;go_enter func208,ntmps208;go_wp2_with fail;refine P.mono ?_;clear P;rintro e w1 ⟨rfl,hb⟩
 have hq:=(hb.block (w.heap.size+1) Z).trans (iP w (.cells #[.int .i64 3,.int .i64 x] 97) (.cells #[.int .i64 0,.int .i64 0] 97))
 have b:=hide (b1.trans (hb.mono (by simp;omega)))
 clear hb b1;go_wp2_with fail;refine(rh n w1).mono ?_;rintro e f ⟨rfl,c⟩
 have hq:=(c.block _ (lt_of_some hq)).trans hq;obtain⟨g,i,j,lw⟩:=di hq;go_wp2_with fail;obtain⟨r0,r1,_,_⟩:=di (gz (v1:=ah 1) (v2:=ah n) (hide hq).o)
 exact a4 (by simp[results,results208,go_sem,r0,r1]) rfl ⟨rfl,((hide (b.o.trans (c.mono b.o.size))).o.setCell Z _).setCell Z _⟩
theorem H8 (x y:Int×Int)(w:ax):
 Calls prog 209 #[.agg #[ah x.1,ah x.2],.agg #[ah y.1,ah y.2]] w fun e w'=>e=.returned (.agg #[ah 1,ah (if x=y then 1 else 0)])/\Below w.heap.size w w':=by
 obtain⟨b,g⟩:=x;obtain⟨d,y1⟩:=y;have b1:Below w.heap.size w (((w.alloc (.cells #[.int .i64 b,.int .i64 g] 97)).alloc (.cells #[.int .i64 d,.int .i64 y1] 97)).alloc (.cells #[.int .i64 0,.int .i64 0] 97)):=((bX.alloc bW _).alloc Z _).alloc (by simp;omega) _;by_cases h0:b=d/\g=y1
 ·obtain⟨h0,f⟩:=h0;subst h0 f;rw[aI rfl];go_enter func209,ntmps209;go_wp2_with fail;refine(rh _ _).mono ?_;rintro e w2 ⟨rfl,hb2⟩
  have hq:=(hb2.block (w.heap.size+1+1) Z).trans (ux w _ _ _)
  obtain⟨e0,e1,f0,lw⟩:=di hq;have HN:=hide hq;have HB:=hide (b1.trans (hb2.mono b1.size))
  go_wp2_with fail;obtain⟨r0,r1,_,_⟩:=di (gz (v1:=ah 1) (v2:=ah 1) HN.o)
  exact a4 (v:=.agg #[ah 1,ah 1]) (by simp[results,results209,go_sem,r0,r1]) rfl ⟨rfl,(HB.o.setCell (by simp;omega) _).setCell (by simp;omega) _⟩
 ·rw[aG (fun c=>h0 (by cases c;exact⟨rfl,rfl⟩))];by_cases f:b=d
  ·subst f;go_enter func209,ntmps209;exact Ak
  ·go_enter func209,ntmps209;exact Ak
theorem H9 (h:dS bY b_ bZ l s w)(x:Int)(i:Nat)(y:Int×Int)(hv:0<=x/\cv s.T x.toNat)(v:s.T.length<=10000)(hk:(s.T.getD x.toNat t0).1≠5)(hi:i<(s.T.getD x.toNat t0).2.1.length)(F:i<12):
 Calls prog 133 #[aj bY,.agg #[ah 3,ah x],ah i,.agg #[ah y.1,ah y.2]] w fun e w'=>e=.returned (ah 0)/\dS bY b_ bZ l {s with T:=i9 s.T x.toNat i y} w'/\Fr (fun b=>l.own b≠0) w w':=by
 obtain⟨f,y1⟩:=y;have b1:Below w.heap.size w ((w.alloc (.cells #[.int .i64 3,.int .i64 x] 97)).alloc (.cells #[.int .i64 f,.int .i64 y1] 97)):=(bX.alloc bW _).alloc Z _;have P:=Aj (h.below b1) x i hv v hk hi;obtain⟨b,cp,A,g0,g1,B,lb,m,q⟩:=h.field hv.2 hi (f,y1)
 obtain⟨_,_,c2,_,_,_,_,_,C⟩:=h.cells;have hl:x<10000:=by have:=hv.2.1;omega
 have L:∀W,Below w.heap.size w W->(Instr.lookup 184 (.map (some l.mb)) (ah x) false).run prog W=.ok (fX s.T l.fm x.toNat) W:=fun W hb=>by
  have:=(h.below hb).g2.mp.look (t:=184) (e:=220) underlying184 (mv W) (x:=x) hv.1 V;rw[ja hv] at this
  exact this
 have G:=hv.1;dsimp only [fX] at L;rw[A] at L;have q:=hide q;have D:=hide m;have E:=hide h.lt;have H:b≠bY:=fun c=>by have:=h.bo;rw[<-c,m] at this;omega
 have m1:b≠w.heap.size:=V;have I:b≠w.heap.size+1:=V;clear h hv v hk A m;generalize (s.T.getD x.toNat t0).2.1.getD i (0,0)=z at*;generalize (s.T.getD x.toNat t0).2.1.length=n at*;generalize (s.T.getD x.toNat t0).1=kd at*;go_enter func133,ntmps133;go_wp2_with fail;refine P.mono ?_;clear P;rintro e w1 ⟨rfl,hb⟩
 have d:=hide (b1.trans (hb.mono (by simp;omega)))
 have g:=(hb.block w.heap.size (by simp;omega)).trans ((aS _ _ _ Z).trans (aO w (.cells #[.int .i64 3,.int .i64 x] 97)))
 have j:=(hb.block (w.heap.size+1) Z).trans (iP w (.cells #[.int .i64 3,.int .i64 x] 97) (.cells #[.int .i64 f,.int .i64 y1] 97))
 have b2:=d.o.alloc d.o.size (.cells #[.int .i64 z.1,.int .i64 z.2] 97)
 have g:=(aS w1 (.cells #[.int .i64 z.1,.int .i64 z.2] 97) _ (lt_of_some g)).trans g;have j:=(aS w1 (.cells #[.int .i64 z.1,.int .i64 z.2] 97) _ (lt_of_some j)).trans j;clear hb b1 d;go_wp2_with fail;generalize w1.alloc (.cells #[.int .i64 z.1,.int .i64 z.2] 97)=W at*;obtain⟨_,J,_,_⟩:=di g;obtain⟨q0,q1,_,_⟩:=di j;have K:=(b2.cell (p:=aq bY 2) C).trans c2;have k0:=(b2.cell (p:=aq b (i*2)) lb).trans g0;have k1:=(b2.cell (p:=aq b (i*2+1)) lb).trans g1;have kf:∀o,W.frozen? (aq b o)=false:=fun o=>(b2.frozen (p:=aq b o) lb).trans (B o)
 have M:=L _ b2.drew;have N:=H5 kd (ak b) n cp;have n1:(0:Int)<=i:=V;have O:(i:Int)<n:=V;have d:ay (Below w.heap.size w W):=b2;clear g j L g0 g1 B c2 b2
 go_region_held3 (fun w'=>w'.cell? (aq bY 2)=some (.map (some l.mb))/\w'.cell? (aq w.heap.size 1)=some (ah x)/\w'.cell? (aq (w.heap.size+1) 0)=some (ah f)/\w'.cell? (aq (w.heap.size+1) 1)=some (ah y1)) (go_keep) (fail)
 go_wp2_with fail;go_ret;have hs:=d.o.size;have fr:Fr (fun k=>k=b) W ((W.setCell ⟨b,i*2,none⟩ (.int .i64 f)).setCell ⟨b,i*2+1,none⟩ (.int .i64 y1)).drew:=(((Fr.refl (fun k=>k=b) W).set b _ _ rfl).set b _ _ rfl).drew;have u:=(Fr.of d.o).trans fr (fun _ c=>aK c)
 exact⟨rfl,q.o _ W (fun k hk hn=>u.block k (E.o k hk) hn) u.size (d.o.block b lb) rfl,u.mono (fun k e=>by rw[e,D.o];omega)⟩
theorem H_ (v y:Int×Int)(i c:Int)(hc:c≠0)
 (P:∀w',Below w.heap.size w w'->Calls prog 201 #[aj bY,.agg #[ah v.1,ah v.2],ah i] w' fun e d=>e=.returned (.tuple #[.agg #[ah 0,ah 0],ah c])/\Below w'.heap.size w' d):
 Calls prog 133 #[aj bY,.agg #[ah v.1,ah v.2],ah i,.agg #[ah y.1,ah y.2]] w fun e w'=>e=.returned (ah c)/\Below w.heap.size w w':=by
 obtain⟨f,y1⟩:=y;obtain⟨k,x⟩:=v;have b1:Below w.heap.size w ((w.alloc (.cells #[.int .i64 k,.int .i64 x] 97)).alloc (.cells #[.int .i64 f,.int .i64 y1] 97)):=(bX.alloc bW _).alloc Z _;go_enter func133,ntmps133;go_wp2_with fail;refine(P _ b1).mono ?_;rintro e w1 ⟨rfl,hb⟩
 have b:=hide (b1.trans (hb.mono b1.size))
 go_wp2_with fail;go_ret;exact⟨rfl,b.o.alloc b.o.size _⟩
end
theorem Ia:(prog.info? 2).map (fun i=>(i.zero,i.size,i.bytes))=some (some (ah 0),1,8):=ae
section
variable {c:Cp}{own:Nat->Nat}{vt:Value}{n1 n2:Nat}{hm:Int->Option Addr×Nat}{st:dx}{w:ax}
theorem Am {cp ab:Nat}{T:List cD}{fm:Fm}{A:List Bool}(c1:w.cell? (aq cp 1)=some (.map (some ab)))(hM:es w ab n1 (eT T fm A))(x:Int)(h0:0<=x)(c:x<1152921504606846976):
 Calls prog 247 #[aj cp,ah x] w fun e w'=>e=.returned (.bool (cL A x))/\Below w.heap.size w w':=by
 have L:=hM.look_ok (t:=184) (e:=220) underlying184 (mv w) (x:=x) h0 c;rw[uA h0] at L;have hv:∃k ad n d,(eT T fm A x).getD (.agg #[ah 0,.slice none 0 0])=.agg #[ah k,.slice ad n d]:=by
  unfold eT;split
  ·exact⟨_,_,_,_,rfl⟩
  ·exact⟨_,_,_,_,rfl⟩
 obtain⟨k,ad,n,cc,ev⟩:=hv;rw[ev] at L;generalize cL A x=b at*;clear hM ev;go_enter func247,ntmps247;go_wp2_with fail;go_ret;exact⟨rfl,bX.alloc bW _⟩
theorem An {cp ab:Nat}{T:List cD}{fm:Fm}{A:List Bool}(c1:w.cell? (aq cp 1)=some (.map (some ab)))(hM:es w ab n1 (eT T fm A))(v:Int×Int)(hv:v.1=3->0<=v.2/\v.2<1152921504606846976):
 Calls prog 250 #[aj cp,.agg #[ah v.1,ah v.2]] w fun e w'=>e=.returned (.bool (!dH A v))/\Below w.heap.size w w':=by
 obtain⟨k,x⟩:=v;by_cases c:k=3
 ·subst c;have b1:=au w (.cells #[.int .i64 3,.int .i64 x] 97)
  have P:=Am ((b1.cell (p:=aq cp 1) (aQ w _ c1)).trans c1) (hM.same (b1.block ab hM.lt)) x (hv rfl).1 (hv rfl).2;have e:dH A (3,x)=cL A x:=by unfold dH cL;simp
  rw[e];generalize cL A x=b at*;clear hM c1 hv e;go_enter func250,ntmps250;go_wp2_with fail;refine P.mono ?_;clear P;rintro e w1 ⟨rfl,hb⟩
  have d:ay (Below w.heap.size w w1):=b1.trans (hb.mono b1.size)
  clear hb b1;go_wp2_with fail;go_ret;exact⟨rfl,d.o⟩
 ·have e:dH A (k,x)=true:=by unfold dH;simp[c]
  rw[e];clear hM c1 hv e;go_enter func250,ntmps250;go_wp2_with fail;go_ret;exact⟨rfl,bX.alloc bW _⟩
theorem Ib (h:cU c own vt n1 n2 hm st w)(x:Int)(h0:0<=x)(b:x<1152921504606846976):
 Calls prog 247 #[aj c.cp,ah x] w fun e w'=>e=.returned (.bool (cL st.A x))/\Below w.heap.size w w':=Am h.cells.2.1 h.am x h0 b
theorem uB (h:cU c own vt n1 n2 hm st w)(v:Int×Int)(hv:v.1=3->0<=v.2/\v.2<1152921504606846976):
 Calls prog 250 #[aj c.cp,.agg #[ah v.1,ah v.2]] w fun e w'=>e=.returned (.bool (!dH st.A v))/\Below w.heap.size w w':=An h.cells.2.1 h.am v hv
structure jH (own:Nat->Nat)(w:ax)(ad:Option Addr)(l:List (Int×Int)):Prop where
 lp:dw w ad l
 no:0<l.length->∀z,ad=some z->¬(own z.block=1\/own z.block=2\/own z.block=3)
theorem jH.tm {own d:Nat->Nat}{w w':ax}{ad:Option Addr}{l:List (Int×Int)}(h:jH own w ad l)(t:fB own w d w'):jH d w' ad l:=
 ⟨h.lp.keep t.fr.size (fun hp z e=>t.fr.block _ (by obtain⟨b,o,c,hb,_⟩:=h.lp hp;rw[e] at c;cases c;exact hb) (h.no hp z e)),fun hp z e=>by rw[t.old _ (by obtain⟨b,o,c,hb,_⟩:=h.lp hp;rw[e] at c;cases c;exact hb)];exact h.no hp z e⟩
theorem my (hg:dS c.bY c.b_ c.bZ c.l c.s c.w0)(H:c.s.T.length<=10000)(D:st.A.length=c.s.T.length)(h:cU c own vt n1 n2 hm st w)(ad:Option Addr)(cap:Nat)(l:List (Int×Int))(hl:jH own w ad l)(hv:∀v∈l,v.1=3->0<=v.2/\cv c.s.T v.2.toNat)(cz:l.length<=100000):
 Calls prog 245 #[aj c.cp,.slice ad l.length cap] w fun e w'=>∃f cM n,e=.returned (.tuple #[])/\cU c f cM n n2 hm (dm st l) w'/\fB own w f w':=by
 have ab:ay (dS c.bY c.b_ c.bZ c.l c.s c.w0):=hg;have bt:ay (∀v∈l,v.1=3->0<=v.2/\cv c.s.T v.2.toNat):=hv;have ag:ay (cU c own vt n1 n2 hm st w/\jH own w ad l):=⟨h,hl⟩
 have bx:ay (c.s.T.length<=10000/\st.A.length=c.s.T.length):=⟨H,D⟩
 have cA:=h.cells.2.2.2.2.2;clear hg h hl hv H D;go_enter func245,ntmps245;go_wp2_with fail
 go_loopw [8] (fun i wr=>∃(j:Nat)(f:Nat->Nat)(cM:Value)(n:Nat),j<=l.length/\i=ah j/\cU c f cM n n2 hm (dm st (l.take j)) wr/\fB own w f wr) (fun i _=>l.length-(intOf i).toNat)
 case atStart=>exact⟨0,own,vt,n1,aX _,rfl,ag.o.1,fB.of bX (fun b hb=>(ag.o.1.lt b hb).2)⟩
 case round=>
  obtain⟨j,f,cM,n,I,rfl,g,t⟩:=hrel;by_cases ai:j<l.length
  ·have al:l.take (j+1)=l.take j++[l.getD j (0,0)]:=by rw[List.take_add_one,aE,aL ai];rfl
   have E:=bt.o (l.getD j (0,0)) (getD_in ai)
   obtain⟨H,D⟩:=bx.o;have N:(dm st (l.take j)).A.length=c.s.T.length:=((i_ st (l.take j)).2.2).trans D;have am:ay (dm st (l.take (j+1))=d4 (dm st (l.take j)) (l.getD j (0,0))):=by show _=_;rw[al,Aa]
   generalize dm st (l.take j)=S at g am N;obtain⟨cB,o,O,lb,an⟩:=(ag.o.2.tm t).lp V;have hc:=an j ai;obtain⟨z0,bY⟩:=hc;generalize l.getD j (0,0)=v at*;obtain⟨k,x⟩:=v;dsimp only at z0 bY E;have b1:=au wr (.cells #[.int .i64 k,.int .i64 x] 97)
   have P:=uB (g.below b1) (k,x) (fun J=>⟨(E J).1,by have:=(E J).2.1;omega⟩)
   have cC:ay (wr.heap.size+1=wr.heap.size+1):=rfl;have cD:(j:Int)<l.length:=V;have cE:IntKind.i64.wrap ((j:Int)+1)=(j:Int)+1:=by rw[bk];omega
   cases hi:dH S.A (k,x)
   ·rw[hi] at P;obtain⟨J,bZ⟩:=mf hi;dsimp only at J bZ;subst J;obtain⟨Q,R⟩:=E rfl;have cF:x<10000:=by have:=R.1;omega
    obtain⟨s,u,b0⟩:=eE g.tr;subst b0;have cG:S.td.length<=10000:=by have:=g.tn;omega
    have aR:n<100000:=by have:=g.an;omega
    have np:∀b,f b=3->b≠c.cp:=fun b hb e=>by rw[e,g.co] at hb;omega
    have aV:ay (∀w1,Below wr.heap.size wr w1->w1.heap[wr.heap.size]?=some (.cells #[ah 3,ah x] 97 (0,0))->∃kd ao ap fc d,(w1.cell? (aq c.cp 0)=some (aj c.bY)/\w1.cell? (aq c.cp 1)=some (.map (some c.ab))/\w1.cell? (aq c.bY 2)=some (.map (some c.l.mb)))/\
     (Instr.lookup 184 (.map (some c.l.mb)) (ah x) false).run prog w1.drew=.ok (.agg #[ah kd,.slice ao ap fc]) w1.drew/\(Instr.mapUpdate 184 (.map (some c.ab)) (ah x) (.agg #[ah kd,.slice ao ap fc])).run prog w1.drew=.ok () d/\
     (d.cell? (aq c.cp 0)=some (aj c.bY)/\d.cell? (aq c.cp 1)=some (.map (some c.ab))/\d.cell? (aq c.bY 2)=some (.map (some c.l.mb))/\d.cell? (aq wr.heap.size 1)=some (ah x)/\d.cell? (aq c.cp 2)=some (.slice s S.td.length u)/\(∀o,d.frozen? (aq c.cp o)=false)/\c.cp<d.heap.size)/\
     ay (d.ownsRow 0 2 1 (.slice s S.td.length u) S.td.length (S.td.map (Value.int .i64))/\some c.cp≠(Value.slice s S.td.length u).ownBlock/\∀m b4 q,(d.alloc (.cells #[.int .i64 x] 2)).drew.grownBy m (Value.slice s S.td.length u).ownBlock->m.ownsRow 0 2 1 (.slice (ak b4) (S.td.length+1) q) (S.td.length+1) ((S.td++[x]).map (Value.int .i64))->(some b4=(Value.slice s S.td.length u).ownBlock\/d.heap.size<=b4)->
      ∃F,cU c F (.slice (ak b4) (S.td.length+1) q) (n+1) n2 hm (dm st (l.take (j+1))) (m.setCell ⟨c.cp,2,none⟩ (.slice (some ⟨b4,0,none⟩) (S.td.length+1) q))/\fB own w F (m.setCell ⟨c.cp,2,none⟩ (.slice (some ⟨b4,0,none⟩) (S.td.length+1) q)))):=fun w1 hb G=>by
     have g1:=g.below hb;have gv:=g1.gv ab.o;have a0:=g.below hb.drew;have L:=(a0.gv ab.o).g2.mp.look (t:=184) (e:=220) underlying184 (mv _) (x:=x) Q V;rw[ja ⟨Q,R⟩] at L;obtain⟨d,b2,ar,C⟩:=a0.am.put (t:=184) (e:=220) underlying184 aR Q V (fX c.s.T c.l.fm x.toNat)
     obtain⟨q0,q1,b3,_,b5,U⟩:=g1.cells;obtain⟨_,_,a1,_,_,_,_,_,pl⟩:=gv.cells;have W:∀b,b<w1.heap.size->b≠c.ab->d.heap[b]?=w1.heap[b]?:=fun b hb hn=>C.block b hb (fun e=>hn (Option.some.inj e))
     have a2:c.cp≠c.ab:=fun e=>by have B:=g1.co;rw[e,g1.ao] at B;omega
     have b6:c.bY≠c.ab:=fun e=>by have B:=ab.o.cells.2.2.2.2.2.2.2.2;have b7:=(g1.lt c.ab (by rw[g1.ao];decide)).1;omega
     have b8:wr.heap.size≠c.ab:=fun e=>by have b7:=(g.lt c.ab (by rw[g.ao];decide)).2;omega
     have K:=W c.cp U a2;refine⟨_,_,_,_,d,⟨q0,q1,a1⟩,L,b2,⟨(aP (a:=⟨c.cp,0,none⟩) K).trans q0,(aP (a:=⟨c.cp,1,none⟩) K).trans q1,(aP (a:=⟨c.bY,2,none⟩) (W c.bY pl b6)).trans a1,(aP (a:=⟨wr.heap.size,1,none⟩) (W wr.heap.size (lt_of_some G) b8)).trans (by simp[World.cell?,G]),(aP (a:=⟨c.cp,2,none⟩) K).trans b3,fun o=>(World.frozen?_of_block (a:=⟨c.cp,o,none⟩) K).trans (b5 o),aM U C.size⟩,?_⟩
     have b9:d.ownsRow 0 2 1 (.slice s S.td.length u) S.td.length (S.td.map (Value.int .i64)):=cH g1.tr (fun k e=>W k (cn g1.tr k e).2 (fun cc=>by have B:=g1.tw k e;rw[cc,g1.ao] at B;omega))
     refine⟨b9,fun e=>np c.cp (g1.tw c.cp e) rfl,fun m b4 q aB ca bb=>?_⟩
     have cb:Fr (fun b=>f b=1\/f b=2\/f b=3) w1 d:=((Fr.refl _ w1).drew).grown C (fun k e=>aK (by cases e;exact aJ (aK g1.ao)))
     have cd:Fr (fun b=>f b=1\/f b=2\/f b=3) d m:=(((Fr.refl _ d).alloc _).drew).grown aB (fun k e=>aK (aJ (aJ (g1.tw k e.symm))))
     have ce:=(cb.trans cd (fun _ cf=>aK cf)).set c.cp 2 (.slice (ak b4) (S.td.length+1) q) (aK g1.co)
     have cg:b4≠c.cp:=by
      rcases bb with e|e
      ·exact np b4 (g1.tw b4 e)
      ·have:=C.size;have:w1.heap.size<=d.heap.size:=this
       omega
     have bd:∀b,b≠c.cp->(m.setCell ⟨c.cp,2,none⟩ (.slice (some ⟨b4,0,none⟩) (S.td.length+1) q)).heap[b]?=m.heap[b]?:=fun b hn=>aU _ _ _ _ hn;have ch:(m.setCell ⟨c.cp,2,none⟩ (.slice (some ⟨b4,0,none⟩) (S.td.length+1) q)).heap[c.ab]?=d.heap[c.ab]?:=(bd c.ab a2.symm).trans ((aB.block c.ab (by have:=ar.lt;simp[World.drew];omega) (fun e=>by have B:=g1.tw c.ab e;rw[g1.ao] at B;omega)).trans (aS _ _ _ ar.lt))
     have ci:m.heap[c.cp]?=w1.heap[c.cp]?:=(aB.block c.cp (by have:=aM U C.size;simp[World.drew];omega) (fun e=>np c.cp (g1.tw c.cp e) rfl)).trans ((aS _ _ _ (aM U C.size)).trans K)
     obtain⟨F,c1,c2⟩:=g1.fY (cM:=.slice (ak b4) (S.td.length+1) q) hi Q (by rw[N];exact R.1) ce (ar.same ch) (cH ca (fun k e=>by cases e;exact bd _ cg)) (by
      have B:=ci.trans g1.cb;simp only [World.setCell,Array.getElem?_modify,if_true,B,Option.map_some];rfl) (fun k e=>by
      cases e;exact bb.imp (fun e=>g1.tw _ e) (fun e=>aT (show w1.heap.size<=d.heap.size from C.size) e))
     rw[am.o];exact⟨F,c1,(t.trans (fB.of hb (fun b hb=>(g.lt b hb).2))).trans c2⟩
    rw[O];clear g t an E al hi N H D O np aR R;go_wp2_with fail;refine P.mono ?_;clear P;rintro e w1 ⟨rfl,hb⟩
    have G:=(hb.block wr.heap.size Z).trans (aO wr (.cells #[.int .i64 3,.int .i64 x] 97))
    obtain⟨kd,ao,ap,fc,d,⟨cj,y1,ck⟩,cl,cm,⟨u0,co,cp,cI,be,bg,aF⟩,X⟩:=aV.o w1 (b1.trans (hb.mono b1.size)) G;obtain⟨_,cq,_,_⟩:=di G;clear hb b1 G aV;go_wp2_with fail
    go_region_held3 (fun w'=>w'.cell? (aq c.cp 0)=some (aj c.bY)/\w'.cell? (aq c.cp 1)=some (.map (some c.ab))/\w'.cell? (aq c.bY 2)=some (.map (some c.l.mb))/\w'.cell? (aq wr.heap.size 1)=some (ah x)) (go_keep) (fail)
    clear cl cm cj y1 ck cq u0 co cp;obtain⟨cr,cs,ct,cu,cw⟩:=info_parts Ia;have M:=(au d (.cells #[.int .i64 x] 2)).drew;have bi:ay ((d.alloc (.cells #[.int .i64 x] 2)).drew.ownsRow 0 2 1 (.slice s S.td.length u) S.td.length (S.td.map (Value.int .i64))):=cH (gd X.o.1 _) (fun _ _=>rfl)
    have bl:some c.cp≠(Value.slice s S.td.length u).ownBlock:=X.o.2.1;have cx:=bg 2;clear bg;go_wp2_with fail
    go_region_law (refine step_append_lies _ rfl (.tmp 35) (.tmp 38) 53 rfl 0 2 cr (ah 0) 1 8 underlying53 cs ct cu cw rfl aa (.slice s S.td.length u) S.td.length (S.td.map (Value.int .i64)) (by simp[Act.eval]) bi.o ⟨d.heap.size,0,none⟩ 1 1 [ah x] (by simp[Act.eval]) rfl ?_ ?_ aa (by unfold maxLen;omega) V Z _ rfl ?_;(intro j cy I;match j,I with|0,I=>(simp at I;subst I;simp[Addr.add]));(intro cy bn;simp at bn;subst bn;rfl);intro b4 q m bo Y bp cJ;have cK:=Y.cell (a:=⟨c.cp,2,none⟩) (v:=.slice s S.td.length u) ((M.cell (p:=aq c.cp 2) aF).trans be) bl;have cL:m.frozen? (aq c.cp 2)=false:=(World.frozen?_of_block (a:=⟨c.cp,2,none⟩) (Y.block _ (aM aF M.size) bl)).trans ((M.frozen (p:=aq c.cp 2) aF).trans cx))
    all_goals
     obtain⟨F,br,bs⟩:=X.o.2.2 m b4 q Y (by simpa using bo) (bp.imp Eq.symm (fun e=>by rw[e];exact M.size))
     have A:ay (_/\_):=⟨br,bs⟩
     clear bo Y bp X bi br bs M be;go_wp2_with fail;go_roundw
     case rel=>exact⟨j+1,F,_,n+1,V,af,A.o.1,A.o.2⟩
     case measure=>simp[intOf];omega
   ·rw[hi] at P;have A:ay (∀w1,Below wr.heap.size wr w1->cU c f cM n n2 hm (dm st (l.take (j+1))) w1/\fB own w f w1):=fun w1 hb=>by rw[am.o,ur hi];exact⟨g.below hb,t.trans (fB.of hb (fun b hb=>(g.lt b hb).2))⟩
    rw[O];clear g t an E al hi N H D O;go_wp2_with fail;refine P.mono ?_;clear P;rintro e w1 ⟨rfl,hb⟩
    have hb:=b1.trans (hb.mono b1.size)
    have A:ay (_/\_):=A.o w1 hb;clear hb b1;go_wp2_with fail;go_roundw
    case rel=>exact⟨j+1,f,cM,n,V,af,A.o.1,A.o.2⟩
    case measure=>simp[intOf];omega
  ·have e:l.take j=l:=List.take_of_length_le V;rw[e] at g;have A:ay (cU c f cM n n2 hm (dm st l) wr/\fB own w f wr):=⟨g,t⟩
   have cN:(l.length:Int)<=j:=V;clear g t e;go_wp2_with fail;go_end0;exact⟨f,cM,n,rfl,A.o.1,A.o.2⟩
end
def iQ (A:List Bool)(t:cD):List (Int×Int):=if t.1=4/\dH A (t.2.1.getD 0 (0,0))=false then[(2,0),(2,0)] else if t.1=3/\dH A (t.2.1.getD 0 (0,0))=false then[(2,0),t.2.1.getD 1 (0,0)] else t.2.1
def fZ (A:List Bool)(T:List cD)(left:Int->Bool)(i:Nat):List (Int×Int):=if left i=true then(T.getD i t0).2.1 else iQ A (T.getD i t0)
structure gZ (T:List cD)(fm:Fm)(A:List Bool)(lab:Nat->Nat)(cp ab n1:Nat)(fs:Nat->List (Int×Int))(w:ax):Prop where
 c1:w.cell? (aq cp 1)=some (.map (some ab))
 hM:es w ab n1 (eT T fm A)
 row:∀i,ct A i->w.ownsRow 0 97 2 (eD T fm i) (T.getD i t0).2.1.length (ev (fs i))
 lb:∀i,ct A i->∀k,some k=(eD T fm i).ownBlock->lab k=10+i
 no:lab cp=0/\lab ab=0
structure pK (T:List cD)(A:List Bool):Prop where
 l2:∀i,ct A i->(T.getD i t0).1=3\/(T.getD i t0).1=4->(T.getD i t0).2.1.length=2
 v0:∀i,ct A i->((T.getD i t0).2.1.getD 0 (0,0)).1=3->0<=((T.getD i t0).2.1.getD 0 (0,0)).2/\((T.getD i t0).2.1.getD 0 (0,0)).2<10000
section
variable {T:List cD}{fm:Fm}{A:List Bool}{lab:Nat->Nat}{cp ab n1:Nat}{fs:Nat->List (Int×Int)}{w w':ax}
theorem gZ.keep (h:gZ T fm A lab cp ab n1 fs w)(hk:∀b,b=cp\/b=ab\/10<=lab b->w'.heap[b]?=w.heap[b]?):gZ T fm A lab cp ab n1 fs w':=
 ⟨(aP (hk cp (aK rfl))).trans h.c1,h.hM.same (hk ab (aJ (aK rfl))),fun i hi=>cH (h.row i hi) (fun k e=>hk k (aJ (aJ (by rw[h.lb i hi k e];omega)))),h.lb,h.no⟩
theorem gZ.set (h:gZ T fm A lab cp ab n1 fs w){i b cap:Nat}(hi:ct A i)(e:eD T fm i=.slice (ak b) (T.getD i t0).2.1.length cap){d:Nat->List _}(hg:∀j,j≠i->d j=fs j)
 (hr:w'.ownsRow 0 97 2 (eD T fm i) (T.getD i t0).2.1.length (ev (d i)))(fr:Fr (fun k=>k=b) w w'):gZ T fm A lab cp ab n1 d w':=by
 have lb:=h.lb i hi b (by rw[e];rfl)
 have h0:=h.no;refine⟨(aP (fr.block cp (aQ w _ h.c1) (fun c=>by rw[c] at h0;omega))).trans h.c1,h.hM.same (fr.block ab h.hM.lt (fun c=>by rw[c] at h0;omega)),fun j f=>?_,h.lb,h.no⟩
 by_cases g:j=i
 ·subst g;exact hr
 ·rw[hg j g];exact cH (h.row j f) (fun k l=>fr.block k (cn (h.row j f) k l).2 (fun c=>by have m:=h.lb j f k l;rw[c,lb] at m;omega))
theorem gZ.put (h:gZ T fm A lab cp ab n1 fs w){i b cap:Nat}(hi:ct A i)(e:eD T fm i=.slice (ak b) (T.getD i t0).2.1.length cap)(j:Nat)(y:Int×Int):
 gZ T fm A lab cp ab n1 (fun k=>if k=i then(fs i).set j y else fs k) ((w.setCell ⟨b,j*2,none⟩ (.int .i64 y.1)).setCell ⟨b,j*2+1,none⟩ (.int .i64 y.2))/\Fr (fun k=>k=b) w ((w.setCell ⟨b,j*2,none⟩ (.int .i64 y.1)).setCell ⟨b,j*2+1,none⟩ (.int .i64 y.2)):=by
 have fr:Fr (fun k=>k=b) w ((w.setCell ⟨b,j*2,none⟩ (.int .i64 y.1)).setCell ⟨b,j*2+1,none⟩ (.int .i64 y.2)):=((Fr.refl (fun k=>k=b) w).set b _ _ rfl).set b _ _ rfl;refine⟨h.set hi e (fun f d=>aG d) ?_ fr,fr⟩
 have c:=h.row i hi;rw[aI rfl,ta,e];rw[e] at c;exact nQ (nQ c (j*2) (ah y.1)) _ _
theorem gZ.congr {b:Nat->List _}(h:gZ T fm A lab cp ab n1 fs w)(e:∀j,b j=fs j):gZ T fm A lab cp ab n1 b w:=by rwa [show b=fs from funext e]
theorem Ic (left:Int->Bool)(i:Nat):(∀j,j≠i->fZ A T (fun y=>left y&&!(y==(i:Int))) j=fZ A T left j)/\fZ A T (fun y=>left y&&!(y==(i:Int))) i=iQ A (T.getD i t0):=by
 refine⟨fun j b=>?_,?_⟩
 ·unfold fZ;have:((j:Int)==(i:Int))=false:=by simp;omega
  simp[this]
 ·unfold fZ;rw[aG Z]
theorem Ie (h:gZ T fm A lab cp ab n1 (fun i=>(T.getD i t0).2.1) w)(ht:pK T A)(hl:∀b,lab b≠0->b<w.heap.size)(bb:∀i,ct A i->i<10000):
 Calls prog 236 #[aj cp] w fun e w'=>e=.returned (.tuple #[])/\gZ T fm A lab cp ab n1 (fun i=>iQ A (T.getD i t0)) w'/\Fr (fun b=>10<=lab b) w w':=by
 obtain⟨w1,cj,G,O,gr,sz⟩:=h.hM.range (t:=184) (e:=220) underlying184;have b0:=bX.grown gr bW (fun j ck=>by cases ck)
 have c1:=h.c1;have b1:=aQ w _ h.c1;have cl:=g7 ht hl bb;have b2:ay (_/\Below w.heap.size w w1/\gZ T fm A lab cp ab n1 (fZ A T (fun x=>(eT T fm A x).isSome)) w1):=⟨O,b0,by
  have Y:=h.keep (w':=w1) (fun b hb=>b0.block b (by
   rcases hb with d|d|d
   ·rw[d];exact b1
   ·rw[d];exact h.hM.lt
   ·exact hl b V))
  refine⟨Y.c1,Y.hM,fun i hi=>?_,Y.lb,Y.no⟩
  unfold fZ;rw[aI (by dsimp only;rw[uA V,cL,Int.toNat_natCast];exact hi)];exact Y.row i hi⟩
 go_enter func236,ntmps236;go_wp2_with fail
 go_loopw [3] (fun _ wr=>∃(left:Int->Bool)(k:Nat),ay (gh wr ab w.heap.size n1 (eT T fm A) left k/\gZ T fm A lab cp ab n1 (fZ A T left) wr/\Fr (fun b=>10<=lab b) w wr)) (fun _ wr=>wr.rangeLeft ab w.heap.size)
 case atStart=>
  obtain⟨r,b,g⟩:=b2.o;exact⟨_,cj,r,g,Fr.of b⟩
 case round=>
  clear G c1;obtain⟨left,k,bd⟩:=hrel;obtain⟨O,g,fr⟩:=bd.o;rcases O.next 0 with⟨h0,hl,G⟩|⟨x,v,l,F,b3,L,G,an,b4,b5,cm,ag⟩
  ·have b6:fZ A T left=fun i=>iQ A (T.getD i t0):=by
    funext i
    unfold fZ;rw[hl,aG aa]
   rw[b6] at g;have M:ay (_/\_):=⟨g,fr⟩
   clear O g fr hl bd b6;go_wp2_with fail;go_end0;exact⟨rfl,M.o.1,M.o.2⟩
  ·have ao:0<=x/\A.getD x.toNat false=true:=by
    unfold eT at L;split at L
    ·assumption
    ·cases L
   obtain⟨i,rfl⟩:=Int.eq_ofNat_of_zero_le ao.1;have Q:ct A i:=by simpa[ct] using ao.2
   have hv:v=fX T fm i:=by unfold eT at L;rw[aI ao] at L;exact(Option.some.inj L).symm
   obtain⟨be,ap,bb⟩:=cl.o;obtain⟨bg,bi⟩:=Ic (A:=A) (T:=T) left i;have ar:fZ A T left i=(T.getD i t0).2.1:=by unfold fZ;rw[aI b3]
   have aB:Fr (fun b=>b=w.heap.size) wr l:=(Fr.refl _ wr).grown b5 (fun j e=>aK (by cases e;rfl))
   have g2:gZ T fm A lab cp ab n1 (fZ A T left) l:=g.keep (fun b hb=>aB.block b (by
    rcases hb with d|d|d
    ·rw[d];exact aQ wr _ g.c1
    ·rw[d];exact g.hM.lt
    ·exact aM (ap b V) fr.size) (by
    rcases hb with d|d|d
    ·rw[d];exact Nat.ne_of_lt b1
    ·rw[d];exact Nat.ne_of_lt h.hM.lt
    ·have:=ap b V;omega))
   have ai:ay (∀c,Below l.heap.size l c->_/\_/\Fr (fun b=>10<=lab b) w c):=fun c hb=>⟨an.same (hb.block _ an.nr.lt) (hb.block _ an.lt),g2.keep (fun b cn=>hb.block b (by
    rcases cn with d|d|d
    ·rw[d];exact aQ l _ g2.c1
    ·rw[d];exact g2.hM.lt
    ·have:=ap b V;exact aM this (aT fr.size aB.size))),(fr.trans aB (fun b e=>aJ (by rw[e];exact aD _))).trans (Fr.of (X:=fun b=>10<=lab b) hb) (fun _ d=>aK d)⟩
   have H:ay (_/\F<k):=⟨O.left_eq,b4⟩
   have aF:ay (iQ A (T.getD i t0)=(T.getD i t0).2.1->fZ A T (fun y=>left y&&!(y==(i:Int)))=fZ A T left):=fun e=>by
    funext j
    by_cases s:j=i
    ·subst s;rw[bi,e,ar]
    ·exact bg j s
   have v0:=be.v0 i Q;have bl:=be.l2 i Q;have hrow:=g2.row i Q;rw[ar] at hrow;have E:ay (_/\_/\_/\_):=⟨Q,bg,bi,ar⟩
   have bn:=g2.lb i Q;have b7:=g2.no;have R:ay (_):=g2;dsimp only [fX] at hv;subst hv;clear O g fr b3 L an b4 b5 cm ao Q be bb bg bi ar aB g2 bd b2;by_cases I:(T.getD i t0).1=3\/(T.getD i t0).1=4
   ·have l2:=bl I;obtain⟨b,cap,J⟩:=eU hrow V;have S:=lt_of_some (e6 hrow b (by rw[J];rfl)).choose_spec;obtain⟨cz,b8⟩:=e6 hrow b (by rw[J];rfl)
    have b9:∀o,l.frozen? (aq b o)=false:=fun o=>by simp[World.frozen?,b8]
    obtain⟨cB,cC,ca,_,bo⟩:=g8 hrow V;have cb:_=_:=(Value.slice.inj J).1;rw[cb] at ca;cases ca;obtain⟨z0,bp⟩:=bo 0 V;obtain⟨br,y1⟩:=bo 1 V;rw[Nat.zero_mul,Nat.add_zero] at z0 bp;rw[Nat.zero_add,Nat.one_mul] at br y1;rw[l2] at J;have cc:ay (eD T fm i=.slice (ak b) (T.getD i t0).2.1.length cap):=by show _=_;rw[l2];exact J
    have bs:10<=lab b:=by rw[bn b (by rw[J];rfl)];omega
    have oj:_:=ap b V;have cD:b≠l.heap.size:=V;have cE:l.heap.size≠b:=V;have cF:ay (_/\_):=⟨bs,S⟩
    have cd:ay ((T.getD i t0).2.1=[(T.getD i t0).2.1.getD 0 (0,0),(T.getD i t0).2.1.getD 1 (0,0)]):=by
     show _=_
     match hq:(T.getD i t0).2.1,l2 with
     |[p,q],_=>rfl
    have ce:ay (dH A ((T.getD i t0).2.1.getD 0 (0,0))=true->iQ A (T.getD i t0)=(T.getD i t0).2.1):=fun e=>by unfold iQ;rw[aG (fun d=>by rw[e] at d;cases d.2),aG (fun d=>by rw[e] at d;cases d.2)]
    have u:ay ((T.getD i t0).1=3->dH A ((T.getD i t0).2.1.getD 0 (0,0))=false->iQ A (T.getD i t0)=(T.getD i t0).2.1.set 0 (2,0)):=fun B e=>by
     unfold iQ;rw[aG (fun d=>by omega),aI ⟨B,e⟩]
     conv=>rhs;rw[cd.o]
     rfl
    have cf:ay ((T.getD i t0).1=4->dH A ((T.getD i t0).2.1.getD 0 (0,0))=false->iQ A (T.getD i t0)=((T.getD i t0).2.1.set 0 (2,0)).set 1 (2,0)):=fun bt e=>by
     unfold iQ;rw[aI ⟨bt,e⟩]
     conv=>rhs;rw[cd.o]
     rfl
    have aR:ay (∀c,Below l.heap.size l c->gh ((c.setCell ⟨b,0*2,none⟩ (.int .i64 2)).setCell ⟨b,0*2+1,none⟩ (.int .i64 0)) ab w.heap.size n1 (eT T fm A) (fun y=>left y&&!(y==(i:Int))) F/\gZ T fm A lab cp ab n1 (fun k=>if k=i then(fZ A T left i).set 0 (2,0) else fZ A T left k) ((c.setCell ⟨b,0*2,none⟩ (.int .i64 2)).setCell ⟨b,0*2+1,none⟩ (.int .i64 0))/\Fr (fun b=>10<=lab b) w ((c.setCell ⟨b,0*2,none⟩ (.int .i64 2)).setCell ⟨b,0*2+1,none⟩ (.int .i64 0))/\Fr (fun k=>k=b) c ((c.setCell ⟨b,0*2,none⟩ (.int .i64 2)).setCell ⟨b,0*2+1,none⟩ (.int .i64 0))):=fun c hb=>by
     obtain⟨r,m,f⟩:=ai.o c hb;obtain⟨bx,fb⟩:=m.put E.o.1 cc.o 0 (2,0)
     exact⟨r.same (fb.block _ r.nr.lt (fun d=>by have h0:=b7.2;rw[d] at h0;omega)) (fb.block _ r.lt (fun d=>by omega)),bx,f.trans fb (fun k e=>aK (by rw[e];exact bs)),fb⟩
    have bY:ay (∀c,Below l.heap.size l c->∀al,al=(((c.setCell ⟨b,0*2,none⟩ (.int .i64 2)).setCell ⟨b,0*2+1,none⟩ (.int .i64 0)).setCell ⟨b,1*2,none⟩ (.int .i64 2)).setCell ⟨b,1*2+1,none⟩ (.int .i64 0)->gh al ab w.heap.size n1 (eT T fm A) (fun y=>left y&&!(y==(i:Int))) F/\gZ T fm A lab cp ab n1 (fun k=>if k=i then((fZ A T left i).set 0 (2,0)).set 1 (2,0) else fZ A T left k) al/\Fr (fun b=>10<=lab b) w al):=fun c hb al co=>by
     obtain⟨r,m,f,_⟩:=aR.o c hb;obtain⟨bx,fb⟩:=m.put E.o.1 cc.o 1 (2,0)
     rw[co];refine⟨r.same (fb.block _ r.nr.lt (fun d=>by have h0:=b7.2;rw[d] at h0;omega)) (fb.block _ r.lt (fun d=>by omega)),bx.congr (fun j=>?_),f.trans fb (fun k e=>aK (by rw[e];exact bs))⟩
     by_cases s:j=i
     ·rw[aI s,aI s,aI rfl]
     ·rw[aG s,aG s,aG s]
    have am:=au l (.cells #[.int .i64 (T.getD i t0).1,.slice (some ⟨b,0,none⟩) 2 cap] 220)
    have cg:=aO l (.cells #[.int .i64 (T.getD i t0).1,.slice (some ⟨b,0,none⟩) 2 cap] 220)
    have P:=An (cp:=cp) ((am.cell (p:=aq cp 1) (aQ l _ R.o.c1)).trans R.o.c1) (R.o.hM.same (am.block ab R.o.hM.lt)) ((T.getD i t0).2.1.getD 0 (0,0)) (fun ch=>⟨(v0 ch).1,by have:=(v0 ch).2;omega⟩)
    have bZ:∀c,Below l.heap.size l c->_/\_/\_/\_/\∀o,c.frozen? (aq b o)=false:=fun c hb=>⟨(hb.cell (p:=aq b 0) S).trans z0,(hb.cell (p:=aq b 1) S).trans bp,(hb.cell (p:=aq b 2) S).trans br,(hb.cell (p:=aq b (2+1)) S).trans y1,fun o=>(hb.frozen (p:=aq b o) S).trans (b9 o)⟩
    have aV:ay (_):=bZ;obtain⟨U,W,_,_,_⟩:=bZ _ am;have ev:(Value.agg #[ah (T.getD i t0).1,eD T fm i])=.agg #[ah (T.getD i t0).1,.slice (ak b) 2 cap]:=by rw[J]
    rw[ev] at G ag;have D:ay (_):=am;have K:ay (_=_):=cg;clear hrow bn bl v0 b8 b9 bo z0 bp br y1 cb J bZ am cg R ev l2;generalize (T.getD i t0).2.1.getD 0 (0,0)=cq at*;generalize (T.getD i t0).2.1.getD 1 (0,0)=t at*;obtain⟨u0,cr⟩:=cq;dsimp only at U W P;cases hin:dH A (u0,cr)
    ·rw[hin] at P;have a0:ay ((T.getD i t0).1=3->∀j,fZ A T (fun y=>left y&&!(y==(i:Int))) j=(fun k=>if k=i then(fZ A T left i).set 0 (2,0) else fZ A T left k) j):=fun B j=>by
      dsimp only;by_cases s:j=i
      ·subst s;rw[aI rfl,E.o.2.2.1,u.o B hin,E.o.2.2.2]
      ·rw[aG s];exact E.o.2.1 j s
     have a1:ay ((T.getD i t0).1=4->∀j,fZ A T (fun y=>left y&&!(y==(i:Int))) j=(fun k=>if k=i then((fZ A T left i).set 0 (2,0)).set 1 (2,0) else fZ A T left k) j):=fun bt j=>by
      dsimp only;by_cases s:j=i
      ·subst s;rw[aI rfl,E.o.2.2.1,cf.o bt hin,E.o.2.2.2]
      ·rw[aG s];exact E.o.2.1 j s
     clear ai aF E ce u cf hin;rcases I with B|B
     ·have a0:ay (_):=a0.o B;rw[B] at P G ag U W D K;clear a1;go_wp2_with fail;refine P.mono ?_;clear P;rintro e c ⟨rfl,u⟩
      have N:=D.o.trans (u.mono D.o.size)
      obtain⟨j0,cs,j2,cA,cu⟩:=aV.o c N;obtain⟨cv,cw,_,cx⟩:=di ((u.block _ (lt_of_some K.o)).trans K.o)
      have C:ay (_):=aR.o c N;clear u N D K aR bY aV U W;go_wp2_with fail;go_roundw
      case rel=>exact⟨_,F,C.o.1,C.o.2.1.congr a0.o,C.o.2.2.1⟩
      rw[C.o.1.left_eq,H.o.1];exact H.o.2
     ·have a1:ay (_):=a1.o B;rw[B] at P G ag U W D K;clear a0;go_wp2_with fail;refine P.mono ?_;clear P;rintro e c ⟨rfl,u⟩
      have N:=D.o.trans (u.mono D.o.size)
      obtain⟨j0,cs,j2,cA,cu⟩:=aV.o c N;obtain⟨cv,cw,_,cx⟩:=di ((u.block _ (lt_of_some K.o)).trans K.o)
      have C:ay (_):=bY.o c N;clear u N D K aR bY aV U W;go_wp2_with fail;go_roundw
      case rel=>exact⟨_,F,(C.o _ rfl).1,(C.o _ rfl).2.1.congr a1.o,(C.o _ rfl).2.2⟩
      rw[(C.o _ rfl).1.left_eq,H.o.1];exact H.o.2
    ·rw[hin] at P;have a2:=aF.o (ce.o hin)
     have M:ay (∀c,Below l.heap.size l c->gh c ab w.heap.size n1 (eT T fm A) (fun y=>left y&&!(y==(i:Int))) F/\gZ T fm A lab cp ab n1 (fZ A T (fun y=>left y&&!(y==(i:Int)))) c/\Fr (fun b=>10<=lab b) w c):=by show∀c,_;rw[a2];exact ai.o
     rcases I with B|B
     all_goals
      rw[B] at P G ag U W D;go_wp2_with fail;refine P.mono ?_;rintro e c ⟨rfl,u⟩
      have C:=hide (M.o c (D.o.trans (u.mono D.o.size)))
      go_wp2_with fail;go_roundw;exact⟨_,F,C⟩
      case measure=>rw[C.o.1.left_eq,H.o.1];exact H.o.2
   ·have ci:iQ A (T.getD i t0)=(T.getD i t0).2.1:=by unfold iQ;rw[aG (fun d=>I (aJ d.1)),aG (fun d=>I (aK d.1))]
    have a2:=aF.o ci;have M:ay (∀c,Below l.heap.size l c->gh c ab w.heap.size n1 (eT T fm A) (fun y=>left y&&!(y==(i:Int))) F/\gZ T fm A lab cp ab n1 (fZ A T (fun y=>left y&&!(y==(i:Int)))) c/\Fr (fun b=>10<=lab b) w c):=by show∀c,_;rw[a2];exact ai.o
    have cG:_:=fun e=>I (aK e)
    have n4:_:=fun e=>I (aJ e)
    clear ci a2 ai aF E R hrow bn bl v0 I;dsimp only [eD] at G ag;generalize (T.getD i t0).1=kd at*;generalize (T.getD i t0).2.1.length=n at*;generalize (fm i).1=ad at*;generalize (fm i).2=cy at*;go_wp2_with fail;go_roundw
    case rel=>exact⟨_,F,M.o _ (bX.alloc bW _)⟩
    case measure=>rw[(M.o _ ((aH _ l).alloc bW (.cells #[.int .i64 kd,.slice ad n cy] 220))).1.left_eq,H.o.1];exact H.o.2
end
theorem Ao (w:ax):(zeroValue 57).run prog w=.ok (.slice none 0 0) w:=ae
section
variable {c:Cp}{own own':Nat->Nat}{vt cM:Value}{n1 n2 n1' d7:Nat}{hm hm':Int->Option Addr×Nat}{st st':dx}{F:Nat->Prop}{w w':ax}
abbrev uC (hd:Int->List (Int×Int))(hm:Int->Option Addr×Nat)(x:Int):Value:=(hdF hd hm x).getD (.slice none 0 0)
theorem If {hd:Int->List (Int×Int)}{x:Int}(h:hd x=[]):hdF hd hm x=none:=by unfold hdF;rw[h];rfl
theorem Ap {hd:Int->List _}{x:Int}(h:hd x≠[]):hdF hd hm x=some (.slice (hm x).1 (hd x).length (hm x).2):=by unfold hdF;rw[aG (by simpa using h)]
theorem Ig (w:ax):w.ownsRow 0 97 2 (.slice none 0 0) 0 (ev []):=⟨rfl,aK ⟨rfl,rfl⟩⟩
theorem cU.hrow (h:cU c own vt n1 n2 hm st w)(x:Int):∃ad cap,uC st.hd hm x=.slice ad (st.hd x).length cap/\w.ownsRow 0 97 2 (.slice ad (st.hd x).length cap) (st.hd x).length (ev (st.hd x))/\(∀k,some k=(Value.slice ad (st.hd x).length cap).ownBlock->own k=10+x.toNat):=by
 by_cases e:st.hd x=[]
 ·rw[uC,If e,e];exact⟨none,0,rfl,Ig w,fun k e=>by cases e⟩
 ·rw[uC,Ap e];exact⟨_,_,rfl,(h.hr x e).2,h.hro x e⟩
theorem Ih (k:cU c own' cM n1' d7 hm' st' w')(e:∀b,F b↔b<c.w0.heap.size\/own b≠0)(fr:Fr (fun b=>own b≠0) w w')(hn:∀b,own' b≠0->own b≠0\/w.heap.size<=b):∃f,(rk c).J f st' w'/\b8 F w f w':=
 ⟨fun b=>b<c.w0.heap.size\/own' b≠0,⟨own',cM,n1',d7,hm',k,fun _=>Iff.rfl⟩,fr.mono (fun b hb=>(e b).2 (aJ hb)),fun b hb=>hb.elim (fun d=>aK ((e b).2 (aK d))) (fun d=>(hn b d).imp (fun d=>(e b).2 (aJ d)) id)⟩
theorem cU.hold {x:Int}{i:Int×Int}{b4 g:Nat}(h:cU c own vt n1 n2 hm st w)(l:0<=x)(fr:Fr (fun b=>own b=4\/own b=10+x.toNat) w w')(hM:es w' c.hb (n2+1) (jG (hdF st.hd hm) x (.slice (ak b4) ((st.hd x).length+1) g)))
 (j:w'.ownsRow 0 97 2 (.slice (ak b4) ((st.hd x).length+1) g) ((st.hd x).length+1) (ev (st.hd x++[i])))(hb:own b4=10+x.toNat\/w.heap.size<=b4):
 ∃own',cU c own' vt n1 (n2+1) (fun y=>if y=x then(ak b4,g) else hm y) {st with hd:=fun y=>if y=x then st.hd y++[i] else st.hd y,m:=st.m+1} w'/\(∀b,own' b≠0->own b≠0\/w.heap.size<=b):=by
 have he:∀b,own b≠0->(if w.heap.size<=b then(if b=b4 then 10+x.toNat else 0) else own b)=own b:=fun b hb=>aG (by have:=(h.lt b hb).2;omega)
 have hk:∀b,own b≠0->own b≠4->own b≠10+x.toNat->_=_:=fun b h0 o p=>fr.block b (h.lt b h0).2 V;have hs:=h.sz;refine⟨fun b=>if w.heap.size<=b then(if b=b4 then 10+x.toNat else 0) else own b,?_,fun b hb=>?_⟩
 ·refine {
   ol:=fun k n=>(fr.block k V (fun cc=>?_)).trans (h.ol k n),sz:=aT h.sz fr.size,cb:=(hk _ (by rw[h.co];decide) (by rw[h.co];decide) (by rw[h.co];omega)).trans h.cb,co:=(he _ (by rw[h.co];decide)).trans h.co,am:=h.am.same (hk _ (by rw[h.ao];decide) (by rw[h.ao];decide) (by rw[h.ao];omega)),ao:=(he _ (by rw[h.ao];decide)).trans h.ao,an:=h.an
   tr:=cH h.tr (fun k e=>hk k (by rw[h.tw k e];decide) (by rw[h.tw k e];decide) (by rw[h.tw k e];omega)),tw:=fun k e=>(he k (by rw[h.tw k e];decide)).trans (h.tw k e),tn:=h.tn,hq:=?_,ho:=(he _ (by rw[h.ho];decide)).trans h.ho,hn:=by have:=h.hn;dsimp only;omega,hr:=fun y hy=>?_,hro:=fun y hy k e=>?_,lt:=fun b hb=>?_}
  ·have:=(h.lt k V).1;omega
  ·refine(show jG _ x _=hdF _ _ from ?_)▸hM
   funext y
   unfold jG;by_cases e:y=x
   ·subst e;rw[aI rfl,Ap Z];simp
   ·rw[aG e];unfold hdF;simp only [if_neg e]
  ·by_cases e:y=x
   ·subst e;simp only;exact⟨l,by simpa using j⟩
   ·simp only [if_neg e] at hy⊢;exact⟨(h.hr y hy).1,cH (h.hr y hy).2 (fun k d=>hk k (by rw[h.hro y hy k d];omega) (by rw[h.hro y hy k d];omega) (by have:=(h.hr y hy).1;rw[h.hro y hy k d];omega))⟩
  ·by_cases d:y=x
   ·subst d;simp only at e;cases e;show(if _ then _ else _)=_;rcases hb with f|f
    ·rw[aG (by have:=(h.lt b4 (by rw[f];omega)).2;simpa using this)];exact f
    ·rw[aI f,aI rfl]
   ·simp only [if_neg d] at hy e;exact(he k (by rw[h.hro y hy k e];omega)).trans (h.hro y hy k e)
  ·split at hb
   ·split at hb
    ·rename_i e;rw[e];exact⟨V,(cn j b4 rfl).2⟩
    ·exact absurd rfl hb
   ·exact⟨(h.lt b hb).1,aM (h.lt b hb).2 fr.size⟩
 ·dsimp only at hb;split at hb
  ·exact aJ ‹_›
  ·exact aK hb
theorem jH.one (h:cU c own vt n1 n2 hm st w)(v:Int×Int):jH own (w.alloc (.cells #[.int .i64 v.1,.int .i64 v.2] 97)) (ak w.heap.size) [v]:=by
 obtain⟨d,f,_,lw⟩:=di (aO w (.cells #[.int .i64 v.1,.int .i64 v.2] 97))
 refine⟨fun _=>⟨w.heap.size,0,rfl,lw,fun i hi=>?_⟩,fun _ z e b=>?_⟩
 ·obtain rfl:i=0:=by simp at hi;exact hi
  exact⟨d,f⟩
 ·cases e;have:=(h.lt w.heap.size (by rcases b with b|b|b<;>(dsimp only at b;omega))).2;omega
theorem Ii (hg:dS c.bY c.b_ c.bZ c.l c.s c.w0)(l:c.s.T.length<=10000)(m:st.A.length=c.s.T.length)(h:cU c own vt n1 n2 hm st w)(k v:Int×Int)(hk:k.1=3->0<=k.2/\cv c.s.T k.2.toNat)(hv:v.1=3->0<=v.2/\cv c.s.T v.2.toNat)(hi:dH st.A k=true):
 Calls prog 255 #[aj c.cp,.agg #[ah k.1,ah k.2],.agg #[ah v.1,ah v.2]] w fun e w'=>∃own' cM n1',e=.returned (.tuple #[])/\cU c own' cM n1' n2 hm (d4 st v) w'/\fB own w own' w':=by
 obtain⟨k0,k1⟩:=k;obtain⟨v0,v1⟩:=v;have b1:Below w.heap.size w ((w.alloc (.cells #[.int .i64 k0,.int .i64 k1] 97)).alloc (.cells #[.int .i64 v0,.int .i64 v1] 97)):=(bX.alloc bW _).alloc Z _;have P:=uB (h.below b1) (k0,k1) (fun d=>⟨(hk d).1,by have:=(hk d).2.1;omega⟩)
 rw[hi] at P;have n:ay (∀w1,Below w.heap.size w w1->Calls prog 245 #[aj c.cp,.slice (ak w1.heap.size) 1 1] (w1.alloc (.cells #[.int .i64 v0,.int .i64 v1] 97)) fun e w'=>∃own' cM n1',e=.returned (.tuple #[])/\cU c own' cM n1' n2 hm (d4 st (v0,v1)) w'/\fB own w own' w'):=fun w1 hb=>by
  have f:=hb.alloc hb.size (.cells #[.int .i64 v0,.int .i64 v1] 97)
  refine(my hg l m (h.below f) (ak w1.heap.size) 1 [(v0,v1)] (jH.one (h.below hb) (v0,v1)) (fun o i d=>by simp at i;rw[i] at d⊢;exact hv d) Z).mono ?_;rintro e w' ⟨own',cM,n1',rfl,g,t⟩
  exact⟨own',cM,n1',rfl,g,(fB.of f (fun b hb=>(h.lt b hb).2)).trans t⟩
 go_enter func255,ntmps255;go_wp2_with fail;refine P.mono ?_;rintro e w1 ⟨rfl,hb⟩
 obtain⟨q0,q1,_,_⟩:=di ((hb.block (w.heap.size+1) Z).trans (iP w (.cells #[.int .i64 k0,.int .i64 k1] 97) (.cells #[.int .i64 v0,.int .i64 v1] 97)))
 have P:=n.o w1 (b1.trans (hb.mono b1.size))
 go_wp2_with fail;refine P.mono ?_;rintro e p ⟨own',cM,n1',rfl,g,t⟩
 have j:ay (_/\_):=⟨g,t⟩
 go_wp2_with fail;go_end0;exact⟨own',cM,n1',rfl,j.o.1,j.o.2⟩
theorem Ij (h:cU c own vt n1 n2 hm st w)(k v:Int×Int)(hk:k.1=3->0<=k.2/\k.2<10000)(hi:dH st.A k=false)(bg:st.m<=20000)(X:(st.hd k.2).length<=20000):
 Calls prog 255 #[aj c.cp,.agg #[ah k.1,ah k.2],.agg #[ah v.1,ah v.2]] w fun e w'=>∃own' hm',e=.returned (.tuple #[])/\cU c own' vt n1 (n2+1) hm' {st with hd:=fun y=>if y=k.2 then st.hd y++[v] else st.hd y,m:=st.m+1} w'/\Fr (fun b=>own b≠0) w w'/\(∀b,own' b≠0->own b≠0\/w.heap.size<=b):=by
 obtain⟨k0,x⟩:=k;obtain⟨J,_⟩:=mf hi;dsimp only at J hk X⊢;subst J;obtain⟨A,bi⟩:=hk rfl;obtain⟨v0,v1⟩:=v;have b1:Below w.heap.size w ((w.alloc (.cells #[.int .i64 3,.int .i64 x] 97)).alloc (.cells #[.int .i64 v0,.int .i64 v1] 97)):=(bX.alloc bW _).alloc Z _;have P:=uB (h.below b1) (3,x) (fun _=>⟨A,by dsimp only;omega⟩)
 rw[hi] at P;obtain⟨ad,cap,K,hrow,o⟩:=h.hrow x;have B:ay (∀w1,Below w.heap.size w w1->w1.cell? (aq c.cp 3)=some (.map (some c.hb))/\(Instr.lookup 250 (.map (some c.hb)) (ah x) false).run prog w1=.ok (.slice ad (st.hd x).length cap) w1/\w1.ownsRow 0 97 2 (.slice ad (st.hd x).length cap) (st.hd x).length (ev (st.hd x))/\
  ∀d b4 n,w1.grownBy d (Value.slice ad (st.hd x).length cap).ownBlock->d.ownsRow 0 97 2 (.slice (ak b4) ((st.hd x).length+1) n) ((st.hd x).length+1) (ev (st.hd x++[(v0,v1)]))->(some b4=(Value.slice ad (st.hd x).length cap).ownBlock\/w1.heap.size<=b4)->
   ∃g,(Instr.mapUpdate 250 (.map (some c.hb)) (ah x) (.slice (ak b4) ((st.hd x).length+1) n)).run prog d=.ok () g/\(∀b,b=c.cp\/(w.heap.size<=b/\b<w1.heap.size)->d.heap[b]?=w1.heap[b]?/\g.heap[b]?=w1.heap[b]?)/\ay (∃own' hm',cU c own' vt n1 (n2+1) hm' {st with hd:=fun y=>if y=x then st.hd y++[(v0,v1)] else st.hd y,m:=st.m+1} g/\Fr (fun b=>own b≠0) w g/\(∀b,own' b≠0->own b≠0\/w.heap.size<=b))):=fun w1 hb=>by
  have g1:=h.below hb;obtain⟨_,_,_,q3,_,_⟩:=g1.cells;have L:=g1.hq.look (t:=250) (e:=57) underlying250 (Ao _) (x:=x) A V;rw[show(hdF st.hd hm x).getD (.slice none 0 0)=_ from K] at L;have Y:=cH hrow (fun k e=>hb.block k (cn hrow k e).2)
  refine⟨q3,L,Y,fun d b4 n C M N=>?_⟩
  have O:∀k,some k=(Value.slice ad (st.hd x).length cap).ownBlock->k≠c.hb:=fun k e f=>by have p:=o k e;rw[f,g1.ho] at p;omega
  have ab:es d c.hb n2 (hdF st.hd hm):=g1.hq.same (C.block c.hb g1.hq.lt (fun e=>O c.hb e rfl))
  obtain⟨g,ag,ai,D⟩:=ab.put (t:=250) (e:=57) underlying250 (by have:=g1.hn;omega) A V (.slice (ak b4) ((st.hd x).length+1) n)
  have am:∀b,b=c.cp\/(w.heap.size<=b/\b<w1.heap.size)->d.heap[b]?=w1.heap[b]?/\g.heap[b]?=w1.heap[b]?:=fun b E=>by
   have l1:b<w1.heap.size:=E.elim (fun e=>by rw[e];exact(g1.lt c.cp (by rw[g1.co];decide)).2) (fun e=>e.2)
   have l2:b≠c.hb:=E.elim (fun e f=>by have p:=g1.co;rw[<-e,f,g1.ho] at p;omega) (fun e f=>by have:=h.hq.lt;omega)
   have q:d.heap[b]?=w1.heap[b]?:=C.block b l1 (fun e=>by
    have p:=o b e;rcases E with f|f
    ·rw[f,g1.co] at p;omega
    ·have:=(h.lt b V).2;omega)
   exact⟨q,(D.block b (aM l1 C.size) (fun e=>l2 (Option.some.inj e))).trans q⟩
  refine⟨g,ag,am,?_⟩
  have an:b4≠c.hb:=by
   rcases N with e|e
   ·exact O b4 e
   ·have:=g1.hq.lt;omega
  have Q:Fr (fun b=>own b=4\/own b=10+x.toNat) w1 g:=((Fr.refl _ w1).grown C (fun k e=>aK (aJ (o k e.symm)))).grown D (fun k e=>aK (by cases e;exact aK g1.ho))
  obtain⟨own',c1,c2⟩:=g1.hold A Q ai (cH M (fun k e=>by cases e;exact D.block _ (cn M b4 rfl).2 (fun e=>an (Option.some.inj e)))) (N.imp (fun e=>o b4 e) id)
  have hs:=hb.size;exact⟨own',_,c1,((Fr.of hb).trans Q (fun i f=>aK f)).mono (fun b f=>by omega),fun b f=>(c2 b f).imp id (fun e=>by omega)⟩
 clear h hi hk o hrow K;generalize st.hd x=H at*;generalize ({st with hd:=fun y=>if y=x then st.hd y++[(v0,v1)] else st.hd y,m:=st.m+1}:dx)=bl at*;go_enter func255,ntmps255;go_wp2_with fail;refine P.mono ?_;clear P;rintro e w1 ⟨rfl,hb⟩
 have s:=b1.trans (hb.mono b1.size)
 obtain⟨bn,R,_,_⟩:=di ((hb.block w.heap.size (by simp;omega)).trans ((aS _ _ _ Z).trans (aO w (.cells #[.int .i64 3,.int .i64 x] 97))))
 obtain⟨q0,q1,_,_⟩:=di ((hb.block (w.heap.size+1) Z).trans (iP w (.cells #[.int .i64 3,.int .i64 x] 97) (.cells #[.int .i64 v0,.int .i64 v1] 97)))
 obtain⟨S,_,_,_⟩:=B.o w1 s;obtain⟨_,bo,_,_⟩:=B.o w1.drew s.drew;obtain⟨_,bp,F,G⟩:=B.o (w1.alloc (.cells #[.int .i64 v0,.int .i64 v1] 97)).drew (s.alloc s.size _).drew;have G:ay (_):=G;have F:ay (_):=F;have U:ay (∀d:ax,(∀b,b=c.cp\/(w.heap.size<=b/\b<(w1.alloc (.cells #[.int .i64 v0,.int .i64 v1] 97)).drew.heap.size)->d.heap[b]?=(w1.alloc (.cells #[.int .i64 v0,.int .i64 v1] 97)).drew.heap[b]?)->d.cell? (aq c.cp 3)=some (.map (some c.hb))/\d.cell? (aq w.heap.size 1)=some (ah x)/\d.cell? (aq (w.heap.size+1) 0)=some (ah v0)/\d.cell? (aq (w.heap.size+1) 1)=some (ah v1)):=fun d hk=>by
  have al:∀a:Addr,a.block<w1.heap.size->(w1.alloc (.cells #[.int .i64 v0,.int .i64 v1] 97)).drew.cell? a=w1.cell? a:=fun a ha=>aP (aS w1 _ _ ha)
  have s1:w1.heap.size<=(w1.alloc (.cells #[.int .i64 v0,.int .i64 v1] 97)).drew.heap.size:=by simp[World.drew]
  have q:=aQ w1 _ S;have W:=aQ w1 _ R;have I:=aQ w1 _ q0;dsimp only at q W I;exact⟨(aP (a:=⟨c.cp,3,none⟩) (hk _ (aK rfl))).trans ((al _ q).trans S),(aP (a:=⟨w.heap.size,1,none⟩) (hk _ (aJ ⟨aD _,by dsimp only;omega⟩))).trans ((al _ W).trans R),
   (aP (a:=⟨w.heap.size+1,0,none⟩) (hk _ (aJ ⟨Nat.le_succ _,by dsimp only;omega⟩))).trans ((al _ I).trans q0),(aP (a:=⟨w.heap.size+1,1,none⟩) (hk _ (aJ ⟨Nat.le_succ _,by dsimp only;omega⟩))).trans ((al _ I).trans q1)⟩
 clear hb b1 B s;obtain⟨ao,ap,ar,aB,aF⟩:=info_parts xE;go_wp2_with fail
 go_region_held3 (fun w'=>w'.cell? (aq c.cp 3)=some (.map (some c.hb))/\w'.cell? (aq w.heap.size 1)=some (ah x)/\w'.cell? (aq (w.heap.size+1) 0)=some (ah v0)/\w'.cell? (aq (w.heap.size+1) 1)=some (ah v1)) (go_keep)
  (first|(refine step_append_lies _ rfl (.tmp 21) (.tmp 23) 57 rfl 0 97 ao (.agg #[ah 0,ah 0]) 2 16 underlying57 ap ar aB aF rfl aa (.slice ad H.length cap) H.length (ev H) (by simp[Act.eval]) F.o ⟨w1.heap.size,0,none⟩ 1 1 [ah v0,ah v1] (by simp[Act.eval]) rfl ?_ ?_ aa (by unfold maxLen;omega) V Z _ rfl ?_;(intro j aR l;match j,l with|0,l=>(simp at l;subst l;simp[Addr.add])|1,l=>(simp at l;subst l;simp[Addr.add]));(intro aR u;simp at u;rcases u with u|u<;>(subst u;rfl));intro b4 n d aV a0 a1 br;obtain⟨g,bs,k5,a2⟩:=G.o d b4 n a0 (by rw[iT];simpa[ev] using aV) (a1.imp Eq.symm (fun e=>Nat.le_of_eq e.symm));obtain⟨bt,m1,bx,bY⟩:=U.o d (fun b hb=>(k5 b hb).1);obtain⟨bZ,b0,b2,b3⟩:=U.o g (fun b hb=>(k5 b hb).2);clear k5))
 all_goals
  go_wp2_with fail;obtain⟨own',hm',bb,bd,be⟩:=a2.o;exact a4 (v:=.tuple #[]) (by simp[results,results255,go_sem]) rfl ⟨own',hm',rfl,bb,bd,be⟩
end
structure et (own:Nat->Nat)(w:ax)(own':Nat->Nat)(w':ax):Prop where
 fr:Fr (fun b=>own b≠0) w w'
 nw:∀b,own' b≠0->own b≠0\/w.heap.size<=b
section
variable {c:Cp}{own own' mx:Nat->Nat}{vt cM:Value}{n1 n2 n1' d7:Nat}{hm hm':Int->Option Addr×Nat}{st st':dx}{F:Nat->Prop}{w w' w'':ax}
theorem fB.tk (t:fB own w own' w'):et own w own' w':=⟨t.fr.mono (fun b hb=>by omega),fun b hb=>by
 by_cases e:b<w.heap.size
 ·rw[t.old b e] at hb;exact aK hb
 ·exact aJ V⟩
theorem et.of (h:Below w.heap.size w w'):et own w own w':=⟨Fr.of h,fun _ h=>aK h⟩
theorem et.trans (h:et own w own' w')(k:et own' w' mx w''):et own w mx w'':=⟨h.fr.trans k.fr h.nw,fun b hb=>(k.nw b hb).elim (h.nw b) (fun c=>aJ (aT h.fr.size c))⟩
structure hL (c:Cp):Prop where
 g:dS c.bY c.b_ c.bZ c.l c.s c.w0
 t:c.s.T.length<=10000
 iv:e4 c.s.T c.s.wt
 wl:c.s.wt.length<=90000
structure iY (c:Cp)(st:dx):Prop where
 len:st.A.length=c.s.T.length
 hv:∀x,∀v∈st.hd x,v.1=3->0<=v.2/\cv c.s.T v.2.toNat
 hl:∀x,(st.hd x).length<=20000
 m:st.m<=20000
theorem cU.uD (hg:hL c)(h:cU c own vt n1 n2 hm st w){i:Nat}(hi:cv c.s.T i):jH own w (c.l.fm i).1 (c.s.T.getD i t0).2.1:=by
 have hr:=(h.gv hg.g).g2.fl i hi;refine⟨g8 hr,fun hp z e f=>?_⟩
 obtain⟨b,cp,d⟩:=eU hr hp;have hb:z.block=b:=by
  dsimp only [eD] at d;rw[e] at d;injection d with g
  injection g with j
  rw[j]
 have k:=hg.g.g2.eS i hi b (by rw[d];rfl)
 have l:=hg.g.lt b V;rw[hb] at f;have m:=(h.lt b V).1;omega
theorem Ik (hg:hL c)(h:cU c own vt n1 n2 hm st w)(hk:iY c st)(x:Int)(b:0<=x)(g:x<10000):∃ad cap,w.cell? (aq c.cp 3)=some (.map (some c.hb))/\(Instr.lookup 250 (.map (some c.hb)) (ah x) false).run prog w=.ok (.slice ad (st.hd x).length cap) w/\
 Calls prog 245 #[aj c.cp,.slice ad (st.hd x).length cap] w fun e w'=>∃own' cM n1',e=.returned (.tuple #[])/\cU c own' cM n1' n2 hm (dm st (st.hd x)) w'/\fB own w own' w':=by
 obtain⟨ad,cap,d,hrow,f⟩:=h.hrow x;obtain⟨_,_,_,q3,_,_⟩:=h.cells;have L:=h.hq.look underlying250 (Ao _) b V;rw[show(hdF st.hd hm x).getD (.slice none 0 0)=_ from d] at L;refine⟨ad,cap,q3,L,my hg.g hg.t hk.len h ad cap (st.hd x) ⟨g8 hrow,fun hp z e i=>?_⟩ (hk.hv x) (by have:=hk.hl x;omega)⟩
 have:=f z.block (by rw[e];rfl)
 omega
def Il (c:Cp)(own:Nat->Nat)(w:ax)(x:Int)(b:dx)(w1:ax):Prop:=∃ad n cap,w1.cell? (aq c.cp 3)=some (.map (some c.hb))/\(Instr.lookup 250 (.map (some c.hb)) (ah x) false).run prog w1=.ok (.slice ad n cap) w1/\
 Calls prog 245 #[aj c.cp,.slice ad n cap] w1 fun e w'=>∃own' cM n1' d7 hm',e=.returned (.tuple #[])/\cU c own' cM n1' d7 hm' (dm b (b.hd x)) w'/\et own w own' w'
theorem pL (hg:hL c)(h:cU c own' vt n1 n2 hm st w')(hk:iY c st)(t:et own w own' w')(x:Int)(b:0<=x)(d:x<10000):Il c own w x st w':=by
 obtain⟨ad,cap,q3,L,P⟩:=Ik hg h hk x b d;refine⟨ad,_,cap,q3,L,P.mono ?_⟩
 rintro e l ⟨f,i,j,rfl,g,k⟩
 exact⟨f,i,j,n2,hm,rfl,g,t.trans k.tk⟩
theorem iY.marks (h:iY c st)(l:List _):iY c (dm st l):=by obtain⟨a,b,d⟩:=i_ st l;exact⟨d.trans h.len,by rw[a];exact h.hv,by rw[a];exact h.hl,by rw[b];exact h.m⟩
theorem Im (hg:hL c)(h:cU c own vt n1 n2 hm st w)(hk:iY c st)(x:Int)(j:0<=x)(k:ct st.A x.toNat)(d:cv c.s.T x.toNat)(l:(c.s.T.getD x.toNat t0).1=1\/(c.s.T.getD x.toNat t0).1=2):
 Calls prog 253 #[aj c.cp,ah x] w fun e w'=>∃own' cM n1' d7 hm',e=.returned (.tuple #[])/\cU c own' cM n1' d7 hm' (gF c.s.T c.s.wt st x) w'/\et own w own' w':=by
 have A:x<10000:=by have:=d.1;have:=hg.t;omega
 have L:=h.am.look (t:=184) (e:=220) underlying184 (mv w) (x:=x) j V;rw[show eT c.s.T c.l.fm st.A x=some (fX c.s.T c.l.fm x.toNat) from by unfold eT;rw[aI ⟨j,k⟩]] at L;dsimp only [Option.getD,fX,eD] at L;obtain⟨_,c1,_,_,_,I⟩:=h.cells;have b1:=au w (.cells #[.int .i64 (c.s.T.getD x.toNat t0).1,.slice (c.l.fm x.toNat).1 (c.s.T.getD x.toNat t0).2.1.length (c.l.fm x.toNat).2] 220)
 have P:=my hg.g hg.t hk.len (h.below b1) _ (c.l.fm x.toNat).2 _ ((h.below b1).uD hg d) (fun v hv B=>hg.iv.fv _ d v hv B) (by have:=hg.iv.tl x.toNat;omega)
 have m:gF c.s.T c.s.wt st x=dm (dm st (c.s.T.getD x.toNat t0).2.1) ((dm st (c.s.T.getD x.toNat t0).2.1).hd x):=by unfold gF gq;rw[aI l]
 rw[m];have o:ay (∀b f i w1,cU c b f i n2 hm (dm st (c.s.T.getD x.toNat t0).2.1) w1->et own w b w1->_):=fun b f i w1 g t=>pL hg g (hk.marks _) t x j A;have p:=hide b1;clear hg h hk k d m b1;generalize dm st (c.s.T.getD x.toNat t0).2.1=J at*;generalize (c.s.T.getD x.toNat t0).1=kd at*;generalize (c.s.T.getD x.toNat t0).2.1.length=n at*;generalize (c.l.fm x.toNat).1=ad at*;generalize (c.l.fm x.toNat).2=cp at*;rcases l with rfl|rfl
 all_goals
  go_enter func253,ntmps253;go_wp2_with fail;refine P.mono ?_;clear P;rintro e w1 ⟨b,f,i,rfl,g,t⟩
  obtain⟨K,M,N,q3,C,q⟩:=o.o b f i w1 g ((et.of p.o).trans t.tk)
  clear o p g t L c1;go_wp2_with fail;refine q.mono ?_;clear q;rintro e O ⟨D,E,F,G,H,rfl,g2,s⟩
  have u:=dq g2 s;clear g2 s q3 C;go_wp2_with fail;go_end0;exact⟨D,E,F,G,H,rfl,u.o.1,u.o.2⟩
end
section
variable {c:Cp}{own own' mx:Nat->Nat}{vt cM:Value}{n1 n2 n1' d7:Nat}{hm hm':Int->Option Addr×Nat}{st st':dx}{F:Nat->Prop}{w w' w'':ax}
abbrev mz (c:Cp)(x:Int):Obj:=.cells #[ah (c.s.T.getD x.toNat t0).1,.slice (c.l.fm x.toNat).1 (c.s.T.getD x.toNat t0).2.1.length (c.l.fm x.toNat).2] 220
theorem rn (h:cU c own vt n1 n2 hm st w)(x:Int)(b:0<=x)(e:x<10000)(d:ct st.A x.toNat):(Instr.lookup 184 (.map (some c.ab)) (ah x) false).run prog w=.ok (.agg #[ah (c.s.T.getD x.toNat t0).1,.slice (c.l.fm x.toNat).1 (c.s.T.getD x.toNat t0).2.1.length (c.l.fm x.toNat).2]) w:=by have L:=h.am.look underlying184 (mv w) b V;rw[show eT c.s.T c.l.fm st.A x=some (fX c.s.T c.l.fm x.toNat) from by unfold eT;rw[aI ⟨b,d⟩]] at L;exact L
theorem In (hg:hL c)(h:cU c own vt n1 n2 hm st w)(hk:iY c st)(x:Int)(b:0<=x)(d:ct st.A x.toNat)(f:cv c.s.T x.toNat)(k0:¬((c.s.T.getD x.toNat t0).1=1\/(c.s.T.getD x.toNat t0).1=2))(l:¬(c.s.T.getD x.toNat t0).1=3)(m:¬(c.s.T.getD x.toNat t0).1=4)(k5:¬(c.s.T.getD x.toNat t0).1=5):
 Calls prog 253 #[aj c.cp,ah x] w fun e w'=>∃own' cM n1' d7 hm',e=.returned (.tuple #[])/\cU c own' cM n1' d7 hm' (gF c.s.T c.s.wt st x) w'/\et own w own' w':=by
 have g:x<10000:=by have:=f.1;have:=hg.t;omega
 have L:=rn h x b g d;obtain⟨_,c1,_,_,_,A⟩:=h.cells;have b1:=au w (mz c x)
 have i:gF c.s.T c.s.wt st x=dm st (st.hd x):=by unfold gF gq;rw[aG k0,aG l,aG m,aG k5]
 rw[i];have j:=pL hg (h.below b1) hk (et.of b1) x b g;dsimp only [mz] at j;clear hg h hk d f i b1;generalize (c.s.T.getD x.toNat t0).1=kd at*;generalize (c.s.T.getD x.toNat t0).2.1.length=n at*;generalize (c.l.fm x.toNat).1=ad at*;generalize (c.l.fm x.toNat).2=cp at*;have k1:¬kd=1:=fun e=>k0 (aK e)
 obtain⟨B,C,D,q3,E,o⟩:=j;go_enter func253,ntmps253;go_wp2_with fail;refine o.mono ?_;rintro e F ⟨p,q,s,t,u,rfl,g2,v⟩
 have k:ay (_/\_):=⟨g2,v⟩
 go_wp2_with fail;go_end0;exact⟨p,q,s,t,u,rfl,k.o.1,k.o.2⟩
theorem Io (hg:hL c)(h:cU c own vt n1 n2 hm st w)(hk:iY c st)(x:Int)(m:0<=x)(q:ct st.A x.toNat)(f:cv c.s.T x.toNat)(l:(c.s.T.getD x.toNat t0).1=3):
 Calls prog 253 #[aj c.cp,ah x] w fun e w'=>∃own' cM n1' d7 hm',e=.returned (.tuple #[])/\cU c own' cM n1' d7 hm' (gF c.s.T c.s.wt st x) w'/\et own w own' w':=by
 have n:x<10000:=by have:=f.1;have:=hg.t;omega
 have L:=rn h x m n q;obtain⟨_,c1,_,_,_,E⟩:=h.cells;have b1:=au w (mz c x)
 have l2:=hg.iv.fl _ f (aK l)
 obtain⟨b,o,s,lb,u⟩:=(h.uD hg f).lp V;obtain⟨z0,F⟩:=u 1 V;have A:((c.s.T.getD x.toNat t0).2.1.getD 1 (0,0)).1=3->_:=fun i=>hg.iv.fv _ f _ (getD_in V) i;have B:gF c.s.T c.s.wt st x=dm (dm st [(c.s.T.getD x.toNat t0).2.1.getD 1 (0,0)]) ((dm st [(c.s.T.getD x.toNat t0).2.1.getD 1 (0,0)]).hd x):=by unfold gF gq;rw[aG V,aI l];rfl
 rw[B];dsimp only [mz] at b1;rw[l,l2,s] at L b1;generalize (c.s.T.getD x.toNat t0).2.1.getD 1 (0,0)=v at*;generalize (c.l.fm x.toNat).2=cp at*;obtain⟨v0,v1⟩:=v;have b2:=b1.alloc b1.size (.cells #[.int .i64 v0,.int .i64 v1] 97)
 have P:=my hg.g hg.t hk.len (h.below b2) (ak ((w.alloc (.cells #[.int .i64 3,.slice (some ⟨b,o,none⟩) 2 cp] 220)).heap.size)) 1 [(v0,v1)] (jH.one (h.below b1) (v0,v1)) (fun G p i=>by simp at p;rw[p] at i⊢;exact A i) Z;have C:ay (∀d j k w1,cU c d j k n2 hm (dm st [(v0,v1)]) w1->et own w d w1->_):=fun d j k w1 g t=>pL hg g (hk.marks _) t x m n;have D:=hide b2;rw[show(w.alloc (.cells #[.int .i64 3,.slice (some ⟨b,o,none⟩) 2 cp] 220)).heap.size=w.heap.size+1 by simp] at P;generalize dm st [(v0,v1)]=H at*;go_enter func253,ntmps253;go_wp2_with fail;refine P.mono ?_;rintro e w1 ⟨d,j,k,rfl,g,t⟩
 obtain⟨I,J,K,q3,M,P2⟩:=C.o d j k w1 g ((et.of D.o).trans t.tk)
 exact Al
end
end Go.Proofs.YtpkjkjhanlbcoaaGreat
