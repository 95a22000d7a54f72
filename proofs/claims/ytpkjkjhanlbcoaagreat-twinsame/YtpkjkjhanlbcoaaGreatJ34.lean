import Derived.Test.YtpkjkjhanlbcoaaGreatJ33
namespace Go.Proofs.YtpkjkjhanlbcoaaGreat
set_option maxRecDepth 100000
set_option maxHeartbeats 4000000
open Tryz
open Go.RowKit W Kp cf
theorem Ab {P:Prop}(h:P:=by
 go_wp2_with fail;refine P2.mono ?_;rintro e w2 ⟨un,uo,n12,n22,hm2,rfl,g2,t2⟩
 have HF:=dq g2 t2;go_wp2_with fail;go_end0;exact⟨un,uo,n12,n22,hm2,rfl,HF.out.1,HF.out.2⟩):P:=h
theorem Ac (w:ax):(zeroValue 57).run prog w=.ok (.slice none 0 0) w:=ae
section
variable {c:Cp}{own own':Nat->Nat}{vt cM:Value}{n1 n2 n1' d6:Nat}{hm hm':Int->Option Addr×Nat}{st st':dw}{F:Nat->Prop}{w w':ax}
abbrev uq (hd:Int->List (Int×Int))(hm:Int->Option Addr×Nat)(x:Int):Value:=(hdF hd hm x).getD (.slice none 0 0)
theorem H0 {hd:Int->List (Int×Int)}{x:Int}(h:hd x=[]):hdF hd hm x=none:=by unfold hdF;rw[h];rfl
theorem Ad {hd:Int->List _}{x:Int}(h:hd x≠[]):hdF hd hm x=some (.slice (hm x).1 (hd x).length (hm x).2):=by unfold hdF;rw[aG (by simpa using h)]
theorem H2 (w:ax):w.ownsRow 0 97 2 (.slice none 0 0) 0 (ev []):=⟨rfl,aK ⟨rfl,rfl⟩⟩
theorem cU.hrow (h:cU c own vt n1 n2 hm st w)(x:Int):∃ad cap,uq st.hd hm x=.slice ad (st.hd x).length cap/\w.ownsRow 0 97 2 (.slice ad (st.hd x).length cap) (st.hd x).length (ev (st.hd x))/\(∀k,some k=(Value.slice ad (st.hd x).length cap).ownBlock->own k=10+x.toNat):=by
 by_cases e:st.hd x=[]
 ·rw[uq,H0 e,e];exact⟨none,0,rfl,H2 w,fun k e=>by cases e⟩
 ·rw[uq,Ad e];exact⟨_,_,rfl,(h.hr x e).2,h.hro x e⟩
theorem H3 (k:cU c own' cM n1' d6 hm' st' w')(e:∀b,F b↔b<c.w0.heap.size\/own b≠0)(fr:Fr (fun b=>own b≠0) w w')(hn:∀b,own' b≠0->own b≠0\/w.heap.size<=b):∃f,(rd c).J f st' w'/\b8 F w f w':=
 ⟨fun b=>b<c.w0.heap.size\/own' b≠0,⟨own',cM,n1',d6,hm',k,fun _=>Iff.rfl⟩,fr.mono (fun b hb=>(e b).2 (aJ hb)),fun b hb=>hb.elim (fun d=>aK ((e b).2 (aK d))) (fun d=>(hn b d).imp (fun d=>(e b).2 (aJ d)) id)⟩
theorem cU.hold {x:Int}{i:Int×Int}{b4 g:Nat}(h:cU c own vt n1 n2 hm st w)(l:0<=x)(fr:Fr (fun b=>own b=4\/own b=10+x.toNat) w w')(hM:es w' c.hb (n2+1) (jG (hdF st.hd hm) x (.slice (ak b4) ((st.hd x).length+1) g)))
 (j:w'.ownsRow 0 97 2 (.slice (ak b4) ((st.hd x).length+1) g) ((st.hd x).length+1) (ev (st.hd x++[i])))(hb:own b4=10+x.toNat\/w.heap.size<=b4):
 ∃own',cU c own' vt n1 (n2+1) (fun y=>if y=x then(ak b4,g) else hm y) {st with hd:=fun y=>if y=x then st.hd y++[i] else st.hd y,m:=st.m+1} w'/\(∀b,own' b≠0->own b≠0\/w.heap.size<=b):=by
 have he:∀b,own b≠0->(if w.heap.size<=b then(if b=b4 then 10+x.toNat else 0) else own b)=own b:=fun b hb=>aG (by have:=(h.lt b hb).2;omega)
 have hk:∀b,own b≠0->own b≠4->own b≠10+x.toNat->_=_:=fun b h0 o p=>fr.block b (h.lt b h0).2 V;have hs:=h.sz;refine⟨fun b=>if w.heap.size<=b then(if b=b4 then 10+x.toNat else 0) else own b,?_,fun b hb=>?_⟩
 ·refine {
   ol:=fun k n=>(fr.block k V (fun cc=>?_)).trans (h.ol k n),sz:=aT h.sz fr.size,cb:=(hk _ (by rw[h.co];decide) (by rw[h.co];decide) (by rw[h.co];omega)).trans h.cb,co:=(he _ (by rw[h.co];decide)).trans h.co,am:=h.am.same (hk _ (by rw[h.ao];decide) (by rw[h.ao];decide) (by rw[h.ao];omega)),ao:=(he _ (by rw[h.ao];decide)).trans h.ao,an:=h.an
   tr:=cH h.tr (fun k e=>hk k (by rw[h.tw k e];decide) (by rw[h.tw k e];decide) (by rw[h.tw k e];omega)),tw:=fun k e=>(he k (by rw[h.tw k e];decide)).trans (h.tw k e),tn:=h.tn,hq:=?_,ho:=(he _ (by rw[h.ho];decide)).trans h.ho,hn:=by have:=h.hn;dsimp only;omega,hr:=fun y hy=>?_,hro:=fun y hy k e=>?_,lt:=fun b hb=>?_}
  ·have:=(h.lt k V).1;omega
  ·refine(show jG _ x _=hdF _ _ from ?_)▸hM
   funext y
   unfold jG;by_cases e:y=x
   ·subst e;rw[aI rfl,Ad Z];simp
   ·rw[aG e];unfold hdF;simp only [if_neg e]
  ·by_cases e:y=x
   ·subst e;simp only;exact⟨l,by simpa using j⟩
   ·simp only [if_neg e] at hy⊢;exact⟨(h.hr y hy).1,cH (h.hr y hy).2 (fun k d=>hk k (by rw[h.hro y hy k d];omega) (by rw[h.hro y hy k d];omega) (by have:=(h.hr y hy).1;rw[h.hro y hy k d];omega))⟩
  ·by_cases d:y=x
   ·subst d;simp only at e;cases e;show(if _ then _ else _)=_;rcases hb with f|f
    ·rw[aG (by have:=(h.lt b4 (by rw[f];omega)).2;simpa using this)];exact f
    ·rw[aI f,aI rfl]
   ·simp only [if_neg d] at hy e;exact(he k (by rw[h.hro y hy k e];omega)).trans (h.hro y hy k e)
  ·split at hb
   ·split at hb
    ·rename_i e;rw[e];exact⟨V,(cn j b4 rfl).2⟩
    ·exact absurd rfl hb
   ·exact⟨(h.lt b hb).1,aM (h.lt b hb).2 fr.size⟩
 ·dsimp only at hb;split at hb
  ·exact aJ ‹_›
  ·exact aK hb
theorem jH.one (h:cU c own vt n1 n2 hm st w)(v:Int×Int):jH own (w.alloc (.cells #[.int .i64 v.1,.int .i64 v.2] 97)) (ak w.heap.size) [v]:=by
 obtain⟨d,f,_,lw⟩:=di (aN w (.cells #[.int .i64 v.1,.int .i64 v.2] 97))
 refine⟨fun _=>⟨w.heap.size,0,rfl,lw,fun i hi=>?_⟩,fun _ z e b=>?_⟩
 ·obtain rfl:i=0:=by simp at hi;exact hi
  exact⟨d,f⟩
 ·cases e;have:=(h.lt w.heap.size (by rcases b with b|b|b<;>(dsimp only at b;omega))).2;omega
theorem H4 (hg:dS c.bY c.b_ c.bZ c.l c.s c.w0)(l:c.s.T.length<=10000)(m:st.A.length=c.s.T.length)(h:cU c own vt n1 n2 hm st w)(k v:Int×Int)(hk:k.1=3->0<=k.2/\cv c.s.T k.2.toNat)(hv:v.1=3->0<=v.2/\cv c.s.T v.2.toNat)(hi:dH st.A k=true):
 Calls prog 255 #[aj c.cp,.agg #[ah k.1,ah k.2],.agg #[ah v.1,ah v.2]] w fun e w'=>∃own' cM n1',e=.returned (.tuple #[])/\cU c own' cM n1' n2 hm (dZ st v) w'/\fA own w own' w':=by
 obtain⟨k0,k1⟩:=k;obtain⟨v0,v1⟩:=v;have b1:aw w ((w.alloc (.cells #[.int .i64 k0,.int .i64 k1] 97)).alloc (.cells #[.int .i64 v0,.int .i64 v1] 97)):=(bX.alloc bW _).alloc Z _;have P:=um (h.below b1) (k0,k1) (fun d=>⟨(hk d).1,by have:=(hk d).2.1;omega⟩)
 rw[hi] at P;have n:ay (∀w1,aw w w1->Calls prog 245 #[aj c.cp,.slice (ak w1.heap.size) 1 1] (w1.alloc (.cells #[.int .i64 v0,.int .i64 v1] 97)) fun e w'=>∃own' cM n1',e=.returned (.tuple #[])/\cU c own' cM n1' n2 hm (dZ st (v0,v1)) w'/\fA own w own' w'):=fun w1 hb=>by
  have f:=hb.alloc hb.size (.cells #[.int .i64 v0,.int .i64 v1] 97)
  refine(mx hg l m (h.below f) (ak w1.heap.size) 1 [(v0,v1)] (jH.one (h.below hb) (v0,v1)) (fun o i d=>by simp at i;rw[i] at d⊢;exact hv d) Z).mono ?_;rintro e w' ⟨own',cM,n1',rfl,g,t⟩
  exact⟨own',cM,n1',rfl,g,(fA.of f (fun b hb=>(h.lt b hb).2)).trans t⟩
 go_enter func255,ntmps255;go_wp2_with fail;refine P.mono ?_;rintro e w1 ⟨rfl,hb⟩
 obtain⟨q0,q1,_,_⟩:=di ((hb.block (w.heap.size+1) Z).trans (iR w (.cells #[.int .i64 k0,.int .i64 k1] 97) (.cells #[.int .i64 v0,.int .i64 v1] 97)))
 have P:=n.out w1 (b1.trans (hb.mono b1.size))
 go_wp2_with fail;refine P.mono ?_;rintro e p ⟨own',cM,n1',rfl,g,t⟩
 have j:ay (_/\_):=⟨g,t⟩
 go_wp2_with fail;go_end0;exact⟨own',cM,n1',rfl,j.out.1,j.out.2⟩
theorem H5 (h:cU c own vt n1 n2 hm st w)(k v:Int×Int)(hk:k.1=3->0<=k.2/\k.2<10000)(hi:dH st.A k=false)(bg:st.m<=20000)(X:(st.hd k.2).length<=20000):
 Calls prog 255 #[aj c.cp,.agg #[ah k.1,ah k.2],.agg #[ah v.1,ah v.2]] w fun e w'=>∃own' hm',e=.returned (.tuple #[])/\cU c own' vt n1 (n2+1) hm' {st with hd:=fun y=>if y=k.2 then st.hd y++[v] else st.hd y,m:=st.m+1} w'/\Fr (fun b=>own b≠0) w w'/\(∀b,own' b≠0->own b≠0\/w.heap.size<=b):=by
 obtain⟨k0,x⟩:=k;obtain⟨J,_⟩:=me hi;dsimp only at J hk X⊢;subst J;obtain⟨A,bi⟩:=hk rfl;obtain⟨v0,v1⟩:=v;have b1:aw w ((w.alloc (.cells #[.int .i64 3,.int .i64 x] 97)).alloc (.cells #[.int .i64 v0,.int .i64 v1] 97)):=(bX.alloc bW _).alloc Z _;have P:=um (h.below b1) (3,x) (fun _=>⟨A,by dsimp only;omega⟩)
 rw[hi] at P;obtain⟨ad,cap,K,hrow,o⟩:=h.hrow x;have B:ay (∀w1,aw w w1->w1.cell? (aq c.cp 3)=some (.map (some c.hb))/\(Instr.lookup 250 (.map (some c.hb)) (ah x) false).run prog w1=.ok (.slice ad (st.hd x).length cap) w1/\w1.ownsRow 0 97 2 (.slice ad (st.hd x).length cap) (st.hd x).length (ev (st.hd x))/\
  ∀d b4 n,w1.grownBy d (Value.slice ad (st.hd x).length cap).ownBlock->d.ownsRow 0 97 2 (.slice (ak b4) ((st.hd x).length+1) n) ((st.hd x).length+1) (ev (st.hd x++[(v0,v1)]))->(some b4=(Value.slice ad (st.hd x).length cap).ownBlock\/w1.heap.size<=b4)->
   ∃g,(Instr.mapUpdate 250 (.map (some c.hb)) (ah x) (.slice (ak b4) ((st.hd x).length+1) n)).run prog d=.ok () g/\(∀b,b=c.cp\/(w.heap.size<=b/\b<w1.heap.size)->d.heap[b]?=w1.heap[b]?/\g.heap[b]?=w1.heap[b]?)/\ay (∃own' hm',cU c own' vt n1 (n2+1) hm' {st with hd:=fun y=>if y=x then st.hd y++[(v0,v1)] else st.hd y,m:=st.m+1} g/\Fr (fun b=>own b≠0) w g/\(∀b,own' b≠0->own b≠0\/w.heap.size<=b))):=fun w1 hb=>by
  have g1:=h.below hb;obtain⟨_,_,_,q3,_,_⟩:=g1.cells;have L:=g1.hq.look (t:=250) (e:=57) Tryz.underlying250 (Ac _) (x:=x) A V;rw[show(hdF st.hd hm x).getD (.slice none 0 0)=_ from K] at L;have Y:=cH hrow (fun k e=>hb.block k (cn hrow k e).2)
  refine⟨q3,L,Y,fun d b4 n C M N=>?_⟩
  have O:∀k,some k=(Value.slice ad (st.hd x).length cap).ownBlock->k≠c.hb:=fun k e f=>by have p:=o k e;rw[f,g1.ho] at p;omega
  have ab:es d c.hb n2 (hdF st.hd hm):=g1.hq.same (C.block c.hb g1.hq.lt (fun e=>O c.hb e rfl))
  obtain⟨g,ag,ai,D⟩:=ab.put (t:=250) (e:=57) Tryz.underlying250 (by have:=g1.hn;omega) A V (.slice (ak b4) ((st.hd x).length+1) n)
  have am:∀b,b=c.cp\/(w.heap.size<=b/\b<w1.heap.size)->d.heap[b]?=w1.heap[b]?/\g.heap[b]?=w1.heap[b]?:=fun b E=>by
   have l1:b<w1.heap.size:=E.elim (fun e=>by rw[e];exact(g1.lt c.cp (by rw[g1.co];decide)).2) (fun e=>e.2)
   have l2:b≠c.hb:=E.elim (fun e f=>by have p:=g1.co;rw[<-e,f,g1.ho] at p;omega) (fun e f=>by have:=h.hq.lt;omega)
   have q:d.heap[b]?=w1.heap[b]?:=C.block b l1 (fun e=>by
    have p:=o b e;rcases E with f|f
    ·rw[f,g1.co] at p;omega
    ·have:=(h.lt b V).2;omega)
   exact⟨q,(D.block b (aM l1 C.size) (fun e=>l2 (Option.some.inj e))).trans q⟩
  refine⟨g,ag,am,?_⟩
  have an:b4≠c.hb:=by
   rcases N with e|e
   ·exact O b4 e
   ·have:=g1.hq.lt;omega
  have Q:Fr (fun b=>own b=4\/own b=10+x.toNat) w1 g:=((Fr.refl _ w1).grown C (fun k e=>aK (aJ (o k e.symm)))).grown D (fun k e=>aK (by cases e;exact aK g1.ho))
  obtain⟨own',c1,c2⟩:=g1.hold A Q ai (cH M (fun k e=>by cases e;exact D.block _ (cn M b4 rfl).2 (fun e=>an (Option.some.inj e)))) (N.imp (fun e=>o b4 e) id)
  have hs:=hb.size;exact⟨own',_,c1,((Fr.of hb).trans Q (fun i f=>aK f)).mono (fun b f=>by omega),fun b f=>(c2 b f).imp id (fun e=>by omega)⟩
 clear h hi hk o hrow K;generalize st.hd x=H at*;generalize ({st with hd:=fun y=>if y=x then st.hd y++[(v0,v1)] else st.hd y,m:=st.m+1}:dw)=bl at*;go_enter func255,ntmps255;go_wp2_with fail;refine P.mono ?_;clear P;rintro e w1 ⟨rfl,hb⟩
 have s:=b1.trans (hb.mono b1.size)
 obtain⟨bn,R,_,_⟩:=di ((hb.block w.heap.size (by simp;omega)).trans ((aS _ _ _ Z).trans (aN w (.cells #[.int .i64 3,.int .i64 x] 97))))
 obtain⟨q0,q1,_,_⟩:=di ((hb.block (w.heap.size+1) Z).trans (iR w (.cells #[.int .i64 3,.int .i64 x] 97) (.cells #[.int .i64 v0,.int .i64 v1] 97)))
 obtain⟨S,_,_,_⟩:=B.out w1 s;obtain⟨_,bo,_,_⟩:=B.out w1.drew s.drew;obtain⟨_,bp,F,G⟩:=B.out (w1.alloc (.cells #[.int .i64 v0,.int .i64 v1] 97)).drew (s.alloc s.size _).drew;have G:ay (_):=G;have F:ay (_):=F;have U:ay (∀d:ax,(∀b,b=c.cp\/(w.heap.size<=b/\b<(w1.alloc (.cells #[.int .i64 v0,.int .i64 v1] 97)).drew.heap.size)->d.heap[b]?=(w1.alloc (.cells #[.int .i64 v0,.int .i64 v1] 97)).drew.heap[b]?)->d.cell? (aq c.cp 3)=some (.map (some c.hb))/\d.cell? (aq w.heap.size 1)=some (ah x)/\d.cell? (aq (w.heap.size+1) 0)=some (ah v0)/\d.cell? (aq (w.heap.size+1) 1)=some (ah v1)):=fun d hk=>by
  have al:∀a:Addr,a.block<w1.heap.size->(w1.alloc (.cells #[.int .i64 v0,.int .i64 v1] 97)).drew.cell? a=w1.cell? a:=fun a ha=>aP (aS w1 _ _ ha)
  have s1:w1.heap.size<=(w1.alloc (.cells #[.int .i64 v0,.int .i64 v1] 97)).drew.heap.size:=by simp[World.drew]
  have q:=aQ w1 _ S;have W:=aQ w1 _ R;have I:=aQ w1 _ q0;dsimp only at q W I;exact⟨(aP (a:=⟨c.cp,3,none⟩) (hk _ (aK rfl))).trans ((al _ q).trans S),(aP (a:=⟨w.heap.size,1,none⟩) (hk _ (aJ ⟨aD _,by dsimp only;omega⟩))).trans ((al _ W).trans R),
   (aP (a:=⟨w.heap.size+1,0,none⟩) (hk _ (aJ ⟨Nat.le_succ _,by dsimp only;omega⟩))).trans ((al _ I).trans q0),(aP (a:=⟨w.heap.size+1,1,none⟩) (hk _ (aJ ⟨Nat.le_succ _,by dsimp only;omega⟩))).trans ((al _ I).trans q1)⟩
 clear hb b1 B s;obtain⟨ao,ap,ar,aB,aF⟩:=info_parts xo;go_wp2_with fail
 go_region_held3 (fun w'=>w'.cell? (aq c.cp 3)=some (.map (some c.hb))/\w'.cell? (aq w.heap.size 1)=some (ah x)/\w'.cell? (aq (w.heap.size+1) 0)=some (ah v0)/\w'.cell? (aq (w.heap.size+1) 1)=some (ah v1)) (go_keep)
  (first|(refine step_append_lies _ rfl (.tmp 21) (.tmp 23) 57 rfl 0 97 ao (.agg #[ah 0,ah 0]) 2 16 Tryz.underlying57 ap ar aB aF rfl aa (.slice ad H.length cap) H.length (ev H) (by simp[Act.eval]) F.out ⟨w1.heap.size,0,none⟩ 1 1 [ah v0,ah v1] (by simp[Act.eval]) rfl ?_ ?_ aa (by unfold maxLen;omega) V Z _ rfl ?_;(intro j aR l;match j,l with|0,l=>(simp at l;subst l;simp[Addr.add])|1,l=>(simp at l;subst l;simp[Addr.add]));(intro aR u;simp at u;rcases u with u|u<;>(subst u;rfl));intro b4 n d aV a0 a1 br;obtain⟨g,bs,k5,a2⟩:=G.out d b4 n a0 (by rw[iV];simpa[ev] using aV) (a1.imp Eq.symm (fun e=>Nat.le_of_eq e.symm));obtain⟨bt,m1,bx,bY⟩:=U.out d (fun b hb=>(k5 b hb).1);obtain⟨bZ,b0,b2,b3⟩:=U.out g (fun b hb=>(k5 b hb).2);clear k5))
 all_goals
  go_wp2_with fail;obtain⟨own',hm',bb,bd,be⟩:=a2.out;exact a3 (v:=.tuple #[]) (by simp[results,results255,go_sem]) rfl ⟨own',hm',rfl,bb,bd,be⟩
end
structure et (own:Nat->Nat)(w:ax)(own':Nat->Nat)(w':ax):Prop where
 fr:Fr (fun b=>own b≠0) w w'
 nw:∀b,own' b≠0->own b≠0\/w.heap.size<=b
section
variable {c:Cp}{own own' mv:Nat->Nat}{vt cM:Value}{n1 n2 n1' d6:Nat}{hm hm':Int->Option Addr×Nat}{st st':dw}{F:Nat->Prop}{w w' w'':ax}
theorem fA.tk (t:fA own w own' w'):et own w own' w':=⟨t.fr.mono (fun b hb=>by omega),fun b hb=>by
 by_cases e:b<w.heap.size
 ·rw[t.old b e] at hb;exact aK hb
 ·exact aJ V⟩
theorem et.of (h:aw w w'):et own w own w':=⟨Fr.of h,fun _ h=>aK h⟩
theorem et.trans (h:et own w own' w')(k:et own' w' mv w''):et own w mv w'':=⟨h.fr.trans k.fr h.nw,fun b hb=>(k.nw b hb).elim (h.nw b) (fun c=>aJ (aT h.fr.size c))⟩
structure hL (c:Cp):Prop where
 g:dS c.bY c.b_ c.bZ c.l c.s c.w0
 t:c.s.T.length<=10000
 iv:e4 c.s.T c.s.wt
 wl:c.s.wt.length<=90000
structure iZ (c:Cp)(st:dw):Prop where
 len:st.A.length=c.s.T.length
 hv:∀x,∀v∈st.hd x,v.1=3->0<=v.2/\cv c.s.T v.2.toNat
 hl:∀x,(st.hd x).length<=20000
 m:st.m<=20000
theorem cU.ur (hg:hL c)(h:cU c own vt n1 n2 hm st w){i:Nat}(hi:cv c.s.T i):jH own w (c.l.fm i).1 (c.s.T.getD i t0).2.1:=by
 have hr:=(h.gv hg.g).g2.fl i hi;refine⟨g7 hr,fun hp z e f=>?_⟩
 obtain⟨b,cp,d⟩:=eU hr hp;have hb:z.block=b:=by
  dsimp only [eD] at d;rw[e] at d;injection d with g
  injection g with j
  rw[j]
 have k:=hg.g.g2.eR i hi b (by rw[d];rfl)
 have l:=hg.g.lt b V;rw[hb] at f;have m:=(h.lt b V).1;omega
theorem H6 (hg:hL c)(h:cU c own vt n1 n2 hm st w)(hk:iZ c st)(x:Int)(b:0<=x)(g:x<10000):∃ad cap,w.cell? (aq c.cp 3)=some (.map (some c.hb))/\(Instr.lookup 250 (.map (some c.hb)) (ah x) false).run prog w=.ok (.slice ad (st.hd x).length cap) w/\
 Calls prog 245 #[aj c.cp,.slice ad (st.hd x).length cap] w fun e w'=>∃own' cM n1',e=.returned (.tuple #[])/\cU c own' cM n1' n2 hm (dm st (st.hd x)) w'/\fA own w own' w':=by
 obtain⟨ad,cap,d,hrow,f⟩:=h.hrow x;obtain⟨_,_,_,q3,_,_⟩:=h.cells;have L:=h.hq.look Tryz.underlying250 (Ac _) b V;rw[show(hdF st.hd hm x).getD (.slice none 0 0)=_ from d] at L;refine⟨ad,cap,q3,L,mx hg.g hg.t hk.len h ad cap (st.hd x) ⟨g7 hrow,fun hp z e i=>?_⟩ (hk.hv x) (by have:=hk.hl x;omega)⟩
 have:=f z.block (by rw[e];rfl)
 omega
def H7 (c:Cp)(own:Nat->Nat)(w:ax)(x:Int)(b:dw)(w1:ax):Prop:=∃ad n cap,w1.cell? (aq c.cp 3)=some (.map (some c.hb))/\(Instr.lookup 250 (.map (some c.hb)) (ah x) false).run prog w1=.ok (.slice ad n cap) w1/\
 Calls prog 245 #[aj c.cp,.slice ad n cap] w1 fun e w'=>∃own' cM n1' d6 hm',e=.returned (.tuple #[])/\cU c own' cM n1' d6 hm' (dm b (b.hd x)) w'/\et own w own' w'
theorem pK (hg:hL c)(h:cU c own' vt n1 n2 hm st w')(hk:iZ c st)(t:et own w own' w')(x:Int)(b:0<=x)(d:x<10000):H7 c own w x st w':=by
 obtain⟨ad,cap,q3,L,P⟩:=H6 hg h hk x b d;refine⟨ad,_,cap,q3,L,P.mono ?_⟩
 rintro e l ⟨f,i,j,rfl,g,k⟩
 exact⟨f,i,j,n2,hm,rfl,g,t.trans k.tk⟩
theorem iZ.marks (h:iZ c st)(l:List _):iZ c (dm st l):=by obtain⟨a,b,d⟩:=ja st l;exact⟨d.trans h.len,by rw[a];exact h.hv,by rw[a];exact h.hl,by rw[b];exact h.m⟩
theorem H8 (hg:hL c)(h:cU c own vt n1 n2 hm st w)(hk:iZ c st)(x:Int)(j:0<=x)(k:ct st.A x.toNat)(d:cv c.s.T x.toNat)(l:(c.s.T.getD x.toNat t0).1=1\/(c.s.T.getD x.toNat t0).1=2):
 Calls prog 253 #[aj c.cp,ah x] w fun e w'=>∃own' cM n1' d6 hm',e=.returned (.tuple #[])/\cU c own' cM n1' d6 hm' (gE c.s.T c.s.wt st x) w'/\et own w own' w':=by
 have A:x<10000:=by have:=d.1;have:=hg.t;omega
 have L:=h.am.look (t:=184) (e:=220) Tryz.underlying184 (mr w) (x:=x) j V;rw[show eS c.s.T c.l.fm st.A x=some (fW c.s.T c.l.fm x.toNat) from by unfold eS;rw[aI ⟨j,k⟩]] at L;dsimp only [Option.getD,fW,eD] at L;obtain⟨_,c1,_,_,_,I⟩:=h.cells;have b1:=au w (.cells #[.int .i64 (c.s.T.getD x.toNat t0).1,.slice (c.l.fm x.toNat).1 (c.s.T.getD x.toNat t0).2.1.length (c.l.fm x.toNat).2] 220)
 have P:=mx hg.g hg.t hk.len (h.below b1) _ (c.l.fm x.toNat).2 _ ((h.below b1).ur hg d) (fun v hv B=>hg.iv.fv _ d v hv B) (by have:=hg.iv.tl x.toNat;omega)
 have m:gE c.s.T c.s.wt st x=dm (dm st (c.s.T.getD x.toNat t0).2.1) ((dm st (c.s.T.getD x.toNat t0).2.1).hd x):=by unfold gE gm;rw[aI l]
 rw[m];have o:ay (∀b f i w1,cU c b f i n2 hm (dm st (c.s.T.getD x.toNat t0).2.1) w1->et own w b w1->_):=fun b f i w1 g t=>pK hg g (hk.marks _) t x j A;have p:=hide b1;clear hg h hk k d m b1;generalize dm st (c.s.T.getD x.toNat t0).2.1=J at*;generalize (c.s.T.getD x.toNat t0).1=kd at*;generalize (c.s.T.getD x.toNat t0).2.1.length=n at*;generalize (c.l.fm x.toNat).1=ad at*;generalize (c.l.fm x.toNat).2=cp at*;rcases l with rfl|rfl
 all_goals
  go_enter func253,ntmps253;go_wp2_with fail;refine P.mono ?_;clear P;rintro e w1 ⟨b,f,i,rfl,g,t⟩
  obtain⟨K,M,N,q3,C,q⟩:=o.out b f i w1 g ((et.of p.out).trans t.tk)
  clear o p g t L c1;go_wp2_with fail;refine q.mono ?_;clear q;rintro e O ⟨D,E,F,G,H,rfl,g2,s⟩
  have u:=dq g2 s;clear g2 s q3 C;go_wp2_with fail;go_end0;exact⟨D,E,F,G,H,rfl,u.out.1,u.out.2⟩
end
section
variable {c:Cp}{own own' mv:Nat->Nat}{vt cM:Value}{n1 n2 n1' d6:Nat}{hm hm':Int->Option Addr×Nat}{st st':dw}{F:Nat->Prop}{w w' w'':ax}
abbrev my (c:Cp)(x:Int):Obj:=.cells #[ah (c.s.T.getD x.toNat t0).1,.slice (c.l.fm x.toNat).1 (c.s.T.getD x.toNat t0).2.1.length (c.l.fm x.toNat).2] 220
theorem re (h:cU c own vt n1 n2 hm st w)(x:Int)(b:0<=x)(e:x<10000)(d:ct st.A x.toNat):(Instr.lookup 184 (.map (some c.ab)) (ah x) false).run prog w=.ok (.agg #[ah (c.s.T.getD x.toNat t0).1,.slice (c.l.fm x.toNat).1 (c.s.T.getD x.toNat t0).2.1.length (c.l.fm x.toNat).2]) w:=by have L:=h.am.look Tryz.underlying184 (mr w) b V;rw[show eS c.s.T c.l.fm st.A x=some (fW c.s.T c.l.fm x.toNat) from by unfold eS;rw[aI ⟨b,d⟩]] at L;exact L
theorem H9 (hg:hL c)(h:cU c own vt n1 n2 hm st w)(hk:iZ c st)(x:Int)(b:0<=x)(d:ct st.A x.toNat)(f:cv c.s.T x.toNat)(k0:¬((c.s.T.getD x.toNat t0).1=1\/(c.s.T.getD x.toNat t0).1=2))(l:¬(c.s.T.getD x.toNat t0).1=3)(m:¬(c.s.T.getD x.toNat t0).1=4)(k5:¬(c.s.T.getD x.toNat t0).1=5):
 Calls prog 253 #[aj c.cp,ah x] w fun e w'=>∃own' cM n1' d6 hm',e=.returned (.tuple #[])/\cU c own' cM n1' d6 hm' (gE c.s.T c.s.wt st x) w'/\et own w own' w':=by
 have g:x<10000:=by have:=f.1;have:=hg.t;omega
 have L:=re h x b g d;obtain⟨_,c1,_,_,_,A⟩:=h.cells;have b1:=au w (my c x)
 have i:gE c.s.T c.s.wt st x=dm st (st.hd x):=by unfold gE gm;rw[aG k0,aG l,aG m,aG k5]
 rw[i];have j:=pK hg (h.below b1) hk (et.of b1) x b g;dsimp only [my] at j;clear hg h hk d f i b1;generalize (c.s.T.getD x.toNat t0).1=kd at*;generalize (c.s.T.getD x.toNat t0).2.1.length=n at*;generalize (c.l.fm x.toNat).1=ad at*;generalize (c.l.fm x.toNat).2=cp at*;have k1:¬kd=1:=fun e=>k0 (aK e)
 obtain⟨B,C,D,q3,E,o⟩:=j;go_enter func253,ntmps253;go_wp2_with fail;refine o.mono ?_;rintro e F ⟨p,q,s,t,u,rfl,g2,v⟩
 have k:ay (_/\_):=⟨g2,v⟩
 go_wp2_with fail;go_end0;exact⟨p,q,s,t,u,rfl,k.out.1,k.out.2⟩
theorem H_ (hg:hL c)(h:cU c own vt n1 n2 hm st w)(hk:iZ c st)(x:Int)(m:0<=x)(q:ct st.A x.toNat)(f:cv c.s.T x.toNat)(l:(c.s.T.getD x.toNat t0).1=3):
 Calls prog 253 #[aj c.cp,ah x] w fun e w'=>∃own' cM n1' d6 hm',e=.returned (.tuple #[])/\cU c own' cM n1' d6 hm' (gE c.s.T c.s.wt st x) w'/\et own w own' w':=by
 have n:x<10000:=by have:=f.1;have:=hg.t;omega
 have L:=re h x m n q;obtain⟨_,c1,_,_,_,E⟩:=h.cells;have b1:=au w (my c x)
 have l2:=hg.iv.fl _ f (aK l)
 obtain⟨b,o,s,lb,u⟩:=(h.ur hg f).lp V;obtain⟨z0,F⟩:=u 1 V;have A:((c.s.T.getD x.toNat t0).2.1.getD 1 (0,0)).1=3->_:=fun i=>hg.iv.fv _ f _ (getD_in V) i;have B:gE c.s.T c.s.wt st x=dm (dm st [(c.s.T.getD x.toNat t0).2.1.getD 1 (0,0)]) ((dm st [(c.s.T.getD x.toNat t0).2.1.getD 1 (0,0)]).hd x):=by unfold gE gm;rw[aG V,aI l];rfl
 rw[B];dsimp only [my] at b1;rw[l,l2,s] at L b1;generalize (c.s.T.getD x.toNat t0).2.1.getD 1 (0,0)=v at*;generalize (c.l.fm x.toNat).2=cp at*;obtain⟨v0,v1⟩:=v;have b2:=b1.alloc b1.size (.cells #[.int .i64 v0,.int .i64 v1] 97)
 have P:=mx hg.g hg.t hk.len (h.below b2) (ak ((w.alloc (.cells #[.int .i64 3,.slice (some ⟨b,o,none⟩) 2 cp] 220)).heap.size)) 1 [(v0,v1)] (jH.one (h.below b1) (v0,v1)) (fun G p i=>by simp at p;rw[p] at i⊢;exact A i) Z;have C:ay (∀d j k w1,cU c d j k n2 hm (dm st [(v0,v1)]) w1->et own w d w1->_):=fun d j k w1 g t=>pK hg g (hk.marks _) t x m n;have D:=hide b2;rw[show(w.alloc (.cells #[.int .i64 3,.slice (some ⟨b,o,none⟩) 2 cp] 220)).heap.size=w.heap.size+1 by simp] at P;generalize dm st [(v0,v1)]=H at*;go_enter func253,ntmps253;go_wp2_with fail;refine P.mono ?_;rintro e w1 ⟨d,j,k,rfl,g,t⟩
 obtain⟨I,J,K,q3,M,P2⟩:=C.out d j k w1 g ((et.of D.out).trans t.tk)
 exact Ab
end
section
variable {c:Cp}{own own' mv:Nat->Nat}{vt cM:Value}{n1 n2 n1' d6:Nat}{hm hm':Int->Option Addr×Nat}{st st':dw}{F:Nat->Prop}{w w' w'':ax}
theorem hL.fb (hg:hL c){i b o:Nat}(hi:cv c.s.T i)(hp:0<(c.s.T.getD i t0).2.1.length)(e:(c.l.fm i).1=some ⟨b,o,none⟩):b<c.w0.heap.size:=by
 obtain⟨f,cp,d⟩:=eU (hg.g.g2.fl i hi) hp;have g:=hg.g.lt f (by rw[hg.g.g2.eR i hi f (by rw[d];rfl)];omega)
 dsimp only [eD] at d;rw[e] at d;have j:b=f:=congrArg Addr.block (Option.some.inj (Value.slice.inj d).1)
 rw[j];exact g
theorem Ia (hg:hL c)(h:cU c own vt n1 n2 hm st w)(hk:iZ c st)(k v:Int×Int)(b:k.1=3->0<=k.2/\cv c.s.T k.2.toNat)(hv:v.1=3->0<=v.2/\cv c.s.T v.2.toNat):
 Calls prog 255 #[aj c.cp,.agg #[ah k.1,ah k.2],.agg #[ah v.1,ah v.2]] w fun e w'=>∃own' cM n1' d6 hm',e=.returned (.tuple #[])/\cU c own' cM n1' d6 hm' (kR st k v) w'/\et own w own' w':=by
 unfold kR;cases hi:dH st.A k
 ·refine(H5 h k v (fun d=>⟨(b d).1,by have:=(b d).2.1;have:=hg.t;omega⟩) hi hk.m (hk.hl _)).mono ?_;rintro e w' ⟨own',hm',rfl,g,f,i⟩
  exact⟨own',vt,n1,n2+1,hm',rfl,g,f,i⟩
 ·refine(H4 hg.g hg.t hk.len h k v b hv hi).mono ?_;rintro e w' ⟨own',cM,n1',rfl,g,t⟩
  exact⟨own',cM,n1',n2,hm,rfl,g,t.tk⟩
theorem Ib (hg:hL c)(h:cU c own vt n1 n2 hm st w)(hk:iZ c st)(x:Int)(B:iZ c (gm c.s.T c.s.wt st x))(C:0<=x)(J:ct st.A x.toNat)(l:cv c.s.T x.toNat)(m:(c.s.T.getD x.toNat t0).1=4):
 Calls prog 253 #[aj c.cp,ah x] w fun e w'=>∃own' cM n1' d6 hm',e=.returned (.tuple #[])/\cU c own' cM n1' d6 hm' (gE c.s.T c.s.wt st x) w'/\et own w own' w':=by
 have D:x<10000:=by have:=l.1;have:=hg.t;omega
 have L:=re h x C D J;obtain⟨_,c1,_,_,_,ar⟩:=h.cells;have b1:=au w (my c x)
 have l2:=hg.iv.fl _ l (aJ m)
 obtain⟨b,o,E,lb,F⟩:=(h.ur hg l).lp V;obtain⟨G,y1⟩:=F 0 V;obtain⟨z0,K⟩:=F 1 V;have M:=lE hg.iv l m 0 aa;have N:=lE hg.iv l m 1 aa;have O:gm c.s.T c.s.wt st x=kR st ((c.s.T.getD x.toNat t0).2.1.getD 0 (0,0)) ((c.s.T.getD x.toNat t0).2.1.getD 1 (0,0)):=by unfold gm;rw[aG V,aG V,aI m]
 unfold gE;rw[O] at B⊢;dsimp only [my] at b1;rw[m,l2,E] at L b1;generalize (c.s.T.getD x.toNat t0).2.1.getD 0 (0,0)=Q at*;generalize (c.s.T.getD x.toNat t0).2.1.getD 1 (0,0)=v at*;generalize (c.l.fm x.toNat).2=cp at*;obtain⟨u0,q⟩:=Q;obtain⟨v0,v1⟩:=v;rw[Nat.zero_mul,Nat.add_zero] at G y1;have P:=Ia hg (h.below b1.drew) hk (u0,q) (v0,v1) M N;have R:ay (∀d f i j k w1,cU c d f i j k (kR st (u0,q) (v0,v1)) w1->et own w d w1->_):=fun d f i j k w1 g t=>pK hg g B t x C D;have n:=hide b1;have S:ay (∀d f i j k u (w1:ax),cU c d f i j k u w1->et own (w.alloc (.cells #[.int .i64 4,.slice (some ⟨b,o,none⟩) 2 cp] 220)).drew d w1->w1.heap[b]?=(w.alloc (.cells #[.int .i64 4,.slice (some ⟨b,o,none⟩) 2 cp] 220)).heap[b]?/\w1.heap[w.heap.size]?=some (.cells #[ah 4,.slice (some ⟨b,o,none⟩) 2 cp] 220 (0,0))):=fun d f i j k u w1 g t=>by have H:=hg.fb l V E;refine⟨(g.ol b H).trans (((h.below b1).ol b H).symm),(t.fr.block w.heap.size (by simp[World.drew]) (fun U=>by have:=(h.lt _ U).2;omega)).trans (aN w _)⟩
 generalize kR st (u0,q) (v0,v1)=u at*;go_enter func253,ntmps253;go_wp2_with fail;have hw:=aN w (.cells #[.int .i64 4,.slice (some ⟨b,o,none⟩) 2 cp] 220)
 have X:=(n.out.cell (p:=aq b o) lb).trans G;have Y:=(n.out.cell (p:=aq b (o+1)) lb).trans y1;have j0:=(n.out.cell (p:=aq b (o+1*2)) lb).trans z0;have ab:=(n.out.cell (p:=aq b (o+1*2+1)) lb).trans K;generalize w.alloc (.cells #[.int .i64 4,.slice (some ⟨b,o,none⟩) 2 cp] 220)=W at*;obtain⟨_,aB,_,_⟩:=di hw
 go_region_held3 (fun w'=>w'.cell? (aq w.heap.size 1)=some (.slice (some ⟨b,o,none⟩) 2 cp)/\w'.cell? (aq b o)=some (ah u0)/\w'.cell? (aq b (o+1))=some (ah q)/\w'.cell? (aq b (o+1*2))=some (ah v0)/\w'.cell? (aq b (o+1*2+1))=some (ah v1)) (go_keep)
  (first|(go_at_call 255;refine P.mono ?_;rintro e w1 ⟨d,f,i,j,k,rfl,g,t⟩;obtain⟨s,ad⟩:=S.out d f i j k _ w1 g t;have aF:=(aP (a:=⟨b,o,none⟩) s).trans X;have aR:=(aP (a:=⟨b,o+1,none⟩) s).trans Y;have aV:=(aP (a:=⟨b,o+1*2,none⟩) s).trans j0;have a0:=(aP (a:=⟨b,o+1*2+1,none⟩) s).trans ab;obtain⟨_,a1,_,_⟩:=di ad;have A:=R.out d f i j k w1 g ((et.of n.out.drew).trans t);have A:=hide A))
 all_goals
  obtain⟨a2,bb,bd,q3,be,ag⟩:=A.out;go_wp2_with fail;refine ag.mono ?_;rintro e bg ⟨ai,al,am,an,ao,rfl,g2,ap⟩
  have I:=dq g2 ap;go_wp2_with fail;go_end0;exact⟨ai,al,am,an,ao,rfl,I.out.1,I.out.2⟩
end
section
variable {c:Cp}{own own' mv:Nat->Nat}{vt cM:Value}{n1 n2 n1' d6:Nat}{hm hm':Int->Option Addr×Nat}{st st':dw}{F:Nat->Prop}{w w' w'':ax}
structure rf (own:Nat->Nat)(w:ax)(ad:Option Addr)(l:List Int):Prop where
 lp:iJ w ad l
 no:0<l.length->∀z,ad=some z->¬(own z.block=1\/own z.block=2\/own z.block=3)
theorem rf.tm {ad:Option Addr}{l:List Int}(h:rf own w ad l)(t:fA own w own' w'):rf own' w' ad l:=
 ⟨h.lp.keep t.fr.size (fun hp z e=>t.fr.block _ (by obtain⟨b,o,c,hb,_⟩:=h.lp hp;rw[e] at c;cases c;exact hb) (h.no hp z e)),fun hp z e=>by rw[t.old _ (by obtain⟨b,o,c,hb,_⟩:=h.lp hp;rw[e] at c;cases c;exact hb)];exact h.no hp z e⟩
abbrev ky (l:List Int):List (Int×Int):=l.map fun x=>(3,x)
theorem Ic (hg:hL c)(h:cU c own vt n1 n2 hm st w)(hk:iZ c st)(x:Int)(E:0<=x)(F:ct st.A x.toNat)(G:cv c.s.T x.toNat)(k5:(c.s.T.getD x.toNat t0).1=5):
 Calls prog 253 #[aj c.cp,ah x] w fun e w'=>∃own' cM n1' d6 hm',e=.returned (.tuple #[])/\cU c own' cM n1' d6 hm' (gE c.s.T c.s.wt st x) w'/\et own w own' w':=by
 have H:x<10000:=by have:=G.1;have:=hg.t;omega
 have L:=re h x E H F;obtain⟨c0,c1,_,_,_,aB⟩:=h.cells;have b1:=au w (my c x)
 have p:=(h.below b1).gv hg.g;obtain⟨_,_,_,_,_,g5,_,_,aF⟩:=(h.gv hg.g).cells;have l:=sF _ c.l.bp _ c.l.a1 c.l.k1 c.s.wt x p.g3.sd.blk (g7 p.g3.sd.q0) hg.wl;have I:∀v∈ky (ef c.s.wt x),v.1=3->0<=v.2/\cv c.s.T v.2.toNat:=fun v hv _=>by obtain⟨y,hy,rfl⟩:=List.mem_map.1 hv;obtain⟨e,q,U,rfl⟩:=uf.1 hy;exact hg.iv.wv e q
 have J:=oU c.s.wt x;have J:=aT J hg.wl;have K:gE c.s.T c.s.wt st x=dm (dm st (ky (ef c.s.wt x))) ((dm st (ky (ef c.s.wt x))).hd x):=by unfold gE gm;rw[aG V,aG V,aG V,aI k5]
 rw[K];dsimp only [my] at b1 l;rw[k5] at L b1 l;have W:ay (∀d f k w1,cU c d f k n2 hm (dm st (ky (ef c.s.wt x))) w1->et own w d w1->_):=fun d f k w1 g t=>pK hg g (hk.marks _) t x E H;have X:ay (∀d f k (w1:ax)(j:Nat),j<(ef c.s.wt x).length->cU c d f k n2 hm (dm st (ky ((ef c.s.wt x).take j))) w1->Calls prog 245 #[aj c.cp,.slice (ak w1.heap.size) 1 1] (w1.alloc (.cells #[.int .i64 3,.int .i64 ((ef c.s.wt x).getD j 0)] 97)) fun e w'=>∃own' cM n1',e=.returned (.tuple #[])/\cU c own' cM n1' n2 hm (dm st (ky ((ef c.s.wt x).take (j+1)))) w'/\fA d w1 own' w'):=fun d f k w1 j s g=>by
  have m:=au w1 (.cells #[.int .i64 3,.int .i64 ((ef c.s.wt x).getD j 0)] 97)
  have Y:ky ((ef c.s.wt x).take (j+1))=ky ((ef c.s.wt x).take j)++[(3,(ef c.s.wt x).getD j 0)]:=by
   have ab:(ef c.s.wt x).take (j+1)=(ef c.s.wt x).take j++[(ef c.s.wt x).getD j 0]:=by rw[List.take_add_one,aE,aL s];rfl
   rw[ab,ky,List.map_append];rfl
  rw[Y,zV];refine(mx hg.g hg.t (hk.marks _).len (g.below m) (ak w1.heap.size) 1 [(3,(ef c.s.wt x).getD j 0)] (jH.one g (3,(ef c.s.wt x).getD j 0)) (fun aR M N=>?_) Z).mono ?_
  ·simp only [List.mem_singleton] at M;rw[M] at N⊢;exact I _ (List.mem_map.2 ⟨_,getD_in s,rfl⟩) rfl
  ·rintro e w' ⟨own',cM,n1',rfl,ag,t⟩
   exact⟨own',cM,n1',rfl,ag,(fA.of m (fun b hb=>(g.lt b hb).2)).trans t⟩
 have u:=hide h;have B:=hide b1;clear hg h hk F G K b1 k5 p I;generalize ef c.s.wt x=A at*;generalize (c.s.T.getD x.toNat t0).2.1.length=n at*;generalize (c.l.fm x.toNat).1=ad at*;generalize (c.l.fm x.toNat).2=cp at*;go_enter func253,ntmps253;go_wp2_with fail;refine l.mono ?_;clear l;rintro e w1 ⟨ai,gb,rfl,C,O⟩
 have D:=hide (B.out.trans (O.mono B.out.size))
 have al:ay (rf own w1 ai A):=⟨gH C,fun hp z e aV=>by
  have q:=(cn C z.block (by rw[e];rfl)).1;have U:=(u.out.lt z.block V).2;have N:w.heap.size+1<=z.block:=by simpa using q
  omega⟩
 clear O C B L c1 g5;go_wp2_with fail
 go_loopw [55] (fun i wr=>∃(j:Nat)(own':Nat->Nat)(cM:Value)(n1':Nat),j<=A.length/\i=ah j/\cU c own' cM n1' n2 hm (dm st (ky (A.take j))) wr/\fA own w1 own' wr) (fun i _=>A.length-(intOf i).toNat)
 exact⟨0,own,vt,n1,aZ _,rfl,u.out.below D.out,fA.of bX (fun b hb=>((u.out.below D.out).lt b hb).2)⟩
 ·
   obtain⟨j,own',cM,n1',s,rfl,g,t⟩:=hrel;by_cases Q:j<A.length
   ·obtain⟨a0,o,R,lb,S⟩:=(al.out.tm t).lp V;have hc:=S j Q;have am:ay (∀w2,aw wr w2->Calls prog 245 #[aj c.cp,.slice (ak w2.heap.size) 1 1] (w2.alloc (.cells #[.int .i64 3,.int .i64 (A.getD j 0)] 97)) fun e w'=>∃own' cM n1',e=.returned (.tuple #[])/\cU c own' cM n1' n2 hm (dm st (ky (A.take (j+1)))) w'/\fA own w1 own' w'):=fun w2 hb=>by
     refine(X.out own' cM n1' w2 j Q (g.below hb)).mono ?_;rintro e w' ⟨un,uo,n12,rfl,g2,t2⟩
     exact⟨un,uo,n12,rfl,g2,(t.trans (fA.of hb (fun b hb=>(g.lt b hb).2))).trans t2⟩
    rw[R];have an:(j:Int)<A.length:=V;clear g t S R;generalize A.getD j 0=y at*;go_wp2_with fail;refine(ow y wr).mono ?_;rintro e w2 ⟨rfl,m⟩
    have P:=am.out w2 m;go_wp2_with fail;refine P.mono ?_;rintro e a1 ⟨ao,ap,ar,rfl,g3,t3⟩
    have HF:=dq g3 t3;go_wp2_with fail;go_roundw;exact⟨j+1,ao,ap,ar,V,af,HF.out.1,HF.out.2⟩
    simp[intOf];omega
   ·have e:A.take j=A:=List.take_of_length_le V;rw[e] at g;obtain⟨a2,an,bb,q3,bd,P2⟩:=W.out own' cM n1' wr g ((et.of D.out).trans t.tk)
    exact Ab
theorem Ie (hg:hL c)(h:cU c own vt n1 n2 hm st w)(hk:iZ c st)(x:Int)(j:iZ c (gm c.s.T c.s.wt st x))(b:0<=x)(d:ct st.A x.toNat)(f:cv c.s.T x.toNat):
 Calls prog 253 #[aj c.cp,ah x] w fun e w'=>∃own' cM n1' d6 hm',e=.returned (.tuple #[])/\cU c own' cM n1' d6 hm' (gE c.s.T c.s.wt st x) w'/\et own w own' w':=by
 by_cases k1:(c.s.T.getD x.toNat t0).1=1\/(c.s.T.getD x.toNat t0).1=2
 ·exact H8 hg h hk x b d f k1
 by_cases g:(c.s.T.getD x.toNat t0).1=3
 ·exact H_ hg h hk x b d f g
 by_cases i:(c.s.T.getD x.toNat t0).1=4
 ·exact Ib hg h hk x j b d f i
 by_cases k5:(c.s.T.getD x.toNat t0).1=5
 ·exact Ic hg h hk x b d f k5
 exact H9 hg h hk x b d f k1 g i k5
end
end Go.Proofs.YtpkjkjhanlbcoaaGreat
