import Derived.Test.YtpkjkjhanlbcoaaGreatJ17
namespace Go.Proofs.YtpkjkjhanlbcoaaGreat
set_option maxRecDepth 100000
set_option maxHeartbeats 4000000
open Tryz
open Go.RowKit W Kp ck
theorem Az {P:Prop}(h:P:=by obtain⟨F',j,t⟩:=Io g1 (g4.trans hrb) hF (fr.mono (fun b e=>by rw[e,h.g3.so];decide)) g2;exact⟨F',rfl,j,t,fr.block b9 rC (fun c=>by have:=h.bo;rw[c,h.g3.so] at this;omega)⟩):P:=h
theorem AA {P:Prop}(h:P:=by
 go_wp2_with fail;refine P2.mono ?_;rintro e w2 ⟨uE,uF,n12,n22,hm2,rfl,g2,t2⟩
 have HF:=c7 g2 t2;go_wp2_with fail;go_end0;exact⟨uE,uF,n12,n22,hm2,rfl,HF.o.1,HF.o.2⟩):P:=h
theorem AB (w:az):(zeroValue 57).run prog w=.ok (.slice none 0 0) w:=ah
section
variable {c:Cp}{own own':Nat->Nat}{vt cS:Value}{n1 n2 n1' ee:Nat}{hm hm':Int->Option Addr×Nat}{st st':dA}{F:Nat->Prop}{w w':az}
abbrev uG (hd:Int->List (Int×Int))(hm:Int->Option Addr×Nat)(x:Int):Value:=(hdF hd hm x).getD (.slice none 0 0)
theorem Ip {hd:Int->List (Int×Int)}{x:Int}(h:hd x=[]):hdF hd hm x=none:=by unfold hdF;rw[h];rfl
theorem AC {hd:Int->List _}{x:Int}(h:hd x≠[]):hdF hd hm x=some (.slice (hm x).1 (hd x).length (hm x).2):=by unfold hdF;rw[aI (by simpa using h)]
theorem Iq (w:az):w.ownsRow 0 97 2 (.slice none 0 0) 0 (ev []):=⟨rfl,aM ⟨rfl,rfl⟩⟩
theorem cY.hrow (h:cY c own vt n1 n2 hm st w)(x:Int):∃ad cap,uG st.hd hm x=.slice ad (st.hd x).length cap/\w.ownsRow 0 97 2 (.slice ad (st.hd x).length cap) (st.hd x).length (ev (st.hd x))/\(∀k,some k=(Value.slice ad (st.hd x).length cap).ownBlock->own k=10+x.toNat):=by
 by_cases e:st.hd x=[]
 ·rw[uG,Ip e,e];exact⟨none,0,rfl,Iq w,fun k e=>by cases e⟩
 ·rw[uG,AC e];exact⟨_,_,rfl,(h.hr x e).2,h.hro x e⟩
theorem Ir (k:cY c own' cS n1' ee hm' st' w')(e:∀b,F b↔b<c.w0.heap.size\/own b≠0)(fr:Fr (fun b=>own b≠0) w w')(hn:∀b,own' b≠0->own b≠0\/w.heap.size<=b):∃f,(rB c).J f st' w'/\cg F w f w':=
 ⟨fun b=>b<c.w0.heap.size\/own' b≠0,⟨own',cS,n1',ee,hm',k,fun _=>Iff.rfl⟩,fr.mono (fun b hb=>(e b).2 (aL hb)),fun b hb=>hb.elim (fun d=>aM ((e b).2 (aM d))) (fun d=>(hn b d).imp (fun d=>(e b).2 (aL d)) id)⟩
theorem cY.hold {x:Int}{u:Int×Int}{b4 g:Nat}(h:cY c own vt n1 n2 hm st w)(j:0<=x)(fr:Fr (fun b=>own b=4\/own b=10+x.toNat) w w')(hM:eF w' c.hb (n2+1) (jM (hdF st.hd hm) x (.slice (au b4) ((st.hd x).length+1) g)))
 (i:w'.ownsRow 0 97 2 (.slice (au b4) ((st.hd x).length+1) g) ((st.hd x).length+1) (ev (st.hd x++[u])))(hb:own b4=10+x.toNat\/w.heap.size<=b4):
 ∃own',cY c own' vt n1 (n2+1) (fun y=>if y=x then(au b4,g) else hm y) {st with hd:=fun y=>if y=x then st.hd y++[u] else st.hd y,m:=st.m+1} w'/\(∀b,own' b≠0->own b≠0\/w.heap.size<=b):=by
 have he:∀b,own b≠0->(if w.heap.size<=b then(if b=b4 then 10+x.toNat else 0) else own b)=own b:=fun b hb=>aI (by have:=(h.lt b hb).2;omega)
 have hk:∀b,own b≠0->own b≠4->own b≠10+x.toNat->_=_:=fun b h0 n o=>fr.block b (h.lt b h0).2 aa;have hs:=h.sz;refine⟨fun b=>if w.heap.size<=b then(if b=b4 then 10+x.toNat else 0) else own b,?_,fun b hb=>?_⟩
 ·refine {
   ol:=fun k l=>(fr.block k aa (fun cc=>?_)).trans (h.ol k l),sz:=aU h.sz fr.size,cb:=(hk _ (by rw[h.co];decide) (by rw[h.co];decide) (by rw[h.co];omega)).trans h.cb,co:=(he _ (by rw[h.co];decide)).trans h.co,am:=h.am.same (hk _ (by rw[h.ao];decide) (by rw[h.ao];decide) (by rw[h.ao];omega)),ao:=(he _ (by rw[h.ao];decide)).trans h.ao,an:=h.an
   tr:=cL h.tr (fun k e=>hk k (by rw[h.tw k e];decide) (by rw[h.tw k e];decide) (by rw[h.tw k e];omega)),tw:=fun k e=>(he k (by rw[h.tw k e];decide)).trans (h.tw k e),tn:=h.tn,hq:=?_,ho:=(he _ (by rw[h.ho];decide)).trans h.ho,hn:=by have:=h.hn;dsimp only;omega,hr:=fun y hy=>?_,hro:=fun y hy k e=>?_,lt:=fun b hb=>?_}
  ·have:=(h.lt k aa).1;omega
  ·refine(show jM _ x _=hdF _ _ from ?_)▸hM
   funext y
   unfold jM;by_cases e:y=x
   ·subst e;rw[aK rfl,AC ac];simp
   ·rw[aI e];unfold hdF;simp only [if_neg e]
  ·by_cases e:y=x
   ·subst e;simp only;exact⟨j,by simpa using i⟩
   ·simp only [if_neg e] at hy⊢;exact⟨(h.hr y hy).1,cL (h.hr y hy).2 (fun k d=>hk k (by rw[h.hro y hy k d];omega) (by rw[h.hro y hy k d];omega) (by have:=(h.hr y hy).1;rw[h.hro y hy k d];omega))⟩
  ·by_cases d:y=x
   ·subst d;simp only at e;cases e;show(if _ then _ else _)=_;rcases hb with f|f
    ·rw[aI (by have:=(h.lt b4 (by rw[f];omega)).2;simpa using this)];exact f
    ·rw[aK f,aK rfl]
   ·simp only [if_neg d] at hy e;exact(he k (by rw[h.hro y hy k e];omega)).trans (h.hro y hy k e)
  ·split at hb
   ·split at hb
    ·rename_i e;rw[e];exact⟨aa,(cu i b4 rfl).2⟩
    ·exact absurd rfl hb
   ·exact⟨(h.lt b hb).1,aO (h.lt b hb).2 fr.size⟩
 ·dsimp only at hb;split at hb
  ·exact aL ‹_›
  ·exact aM hb
theorem jN.one (h:cY c own vt n1 n2 hm st w)(v:Int×Int):jN own (w.alloc (.cells #[.int .i64 v.1,.int .i64 v.2] 97)) (au w.heap.size) [v]:=by
 obtain⟨d,f,_,lw⟩:=dq (aP w (.cells #[.int .i64 v.1,.int .i64 v.2] 97))
 refine⟨fun _=>⟨w.heap.size,0,rfl,lw,fun i hi=>?_⟩,fun _ z e b=>?_⟩
 ·obtain rfl:i=0:=by simp at hi;exact hi
  exact⟨d,f⟩
 ·cases e;have:=(h.lt w.heap.size (by rcases b with b|b|b<;>(dsimp only at b;omega))).2;omega
theorem Is (hg:dN c.b9 c.ch c.b_ c.l c.s c.w0)(l:c.s.T.length<=10000)(m:st.A.length=c.s.T.length)(h:cY c own vt n1 n2 hm st w)(k v:Int×Int)(hk:k.1=3->0<=k.2/\cz c.s.T k.2.toNat)(hv:v.1=3->0<=v.2/\cz c.s.T v.2.toNat)(hi:d6 st.A k=true):
 Calls prog 255 #[aq c.cp,.agg #[ak k.1,ak k.2],.agg #[ak v.1,ak v.2]] w fun e w'=>∃own' cS n1',e=.returned (.tuple #[])/\cY c own' cS n1' n2 hm (d_ st v) w'/\fI own w own' w':=by
 obtain⟨k0,k1⟩:=k;obtain⟨v0,v1⟩:=v;have b1:Below w.heap.size w ((w.alloc (.cells #[.int .i64 k0,.int .i64 k1] 97)).alloc (.cells #[.int .i64 v0,.int .i64 v1] 97)):=(b8.alloc b7 _).alloc ac _;have P:=uD (h.below b1) (k0,k1) (fun d=>⟨(hk d).1,by have:=(hk d).2.1;omega⟩)
 rw[hi] at P;have n:aA (∀w1,Below w.heap.size w w1->Calls prog 245 #[aq c.cp,.slice (au w1.heap.size) 1 1] (w1.alloc (.cells #[.int .i64 v0,.int .i64 v1] 97)) fun e w'=>∃own' cS n1',e=.returned (.tuple #[])/\cY c own' cS n1' n2 hm (d_ st (v0,v1)) w'/\fI own w own' w'):=fun w1 hb=>by
  have f:=hb.alloc hb.size (.cells #[.int .i64 v0,.int .i64 v1] 97)
  refine(mE hg l m (h.below f) (au w1.heap.size) 1 [(v0,v1)] (jN.one (h.below hb) (v0,v1)) (fun u i d=>by simp at i;rw[i] at d⊢;exact hv d) ac).mono ?_;rintro e w' ⟨own',cS,n1',rfl,g,t⟩
  exact⟨own',cS,n1',rfl,g,(fI.of f (fun b hb=>(h.lt b hb).2)).trans t⟩
 go_enter func255,ntmps255;go_wp2_with fail;refine P.mono ?_;rintro e w1 ⟨rfl,hb⟩
 obtain⟨q0,q1,_,_⟩:=dq ((hb.block (w.heap.size+1) ac).trans (gb w (.cells #[.int .i64 k0,.int .i64 k1] 97) (.cells #[.int .i64 v0,.int .i64 v1] 97)))
 have P:=n.o w1 (b1.trans (hb.mono b1.size))
 go_wp2_with fail;refine P.mono ?_;rintro e o ⟨own',cS,n1',rfl,g,t⟩
 have j:aA (_/\_):=⟨g,t⟩
 go_wp2_with fail;go_end0;exact⟨own',cS,n1',rfl,j.o.1,j.o.2⟩
theorem It (h:cY c own vt n1 n2 hm st w)(k v:Int×Int)(hk:k.1=3->0<=k.2/\k.2<10000)(hi:d6 st.A k=false)(b5:st.m<=20000)(a2:(st.hd k.2).length<=20000):
 Calls prog 255 #[aq c.cp,.agg #[ak k.1,ak k.2],.agg #[ak v.1,ak v.2]] w fun e w'=>∃own' hm',e=.returned (.tuple #[])/\cY c own' vt n1 (n2+1) hm' {st with hd:=fun y=>if y=k.2 then st.hd y++[v] else st.hd y,m:=st.m+1} w'/\Fr (fun b=>own b≠0) w w'/\(∀b,own' b≠0->own b≠0\/w.heap.size<=b):=by
 obtain⟨k0,x⟩:=k;obtain⟨an,_⟩:=ny hi;dsimp only at an hk a2⊢;subst an;obtain⟨F,b6⟩:=hk rfl;obtain⟨v0,v1⟩:=v;have b1:Below w.heap.size w ((w.alloc (.cells #[.int .i64 3,.int .i64 x] 97)).alloc (.cells #[.int .i64 v0,.int .i64 v1] 97)):=(b8.alloc b7 _).alloc ac _;have P:=uD (h.below b1) (3,x) (fun _=>⟨F,by dsimp only;omega⟩)
 rw[hi] at P;obtain⟨ad,cap,ao,hrow,o⟩:=h.hrow x;have N:aA (∀w1,Below w.heap.size w w1->w1.cell? (av c.cp 3)=some (.map (some c.hb))/\(Instr.lookup 250 (.map (some c.hb)) (ak x) false).run prog w1=.ok (.slice ad (st.hd x).length cap) w1/\w1.ownsRow 0 97 2 (.slice ad (st.hd x).length cap) (st.hd x).length (ev (st.hd x))/\
  ∀d b4 n,w1.grownBy d (Value.slice ad (st.hd x).length cap).ownBlock->d.ownsRow 0 97 2 (.slice (au b4) ((st.hd x).length+1) n) ((st.hd x).length+1) (ev (st.hd x++[(v0,v1)]))->(some b4=(Value.slice ad (st.hd x).length cap).ownBlock\/w1.heap.size<=b4)->
   ∃g,(Instr.mapUpdate 250 (.map (some c.hb)) (ak x) (.slice (au b4) ((st.hd x).length+1) n)).run prog d=.ok () g/\(∀b,b=c.cp\/(w.heap.size<=b/\b<w1.heap.size)->d.heap[b]?=w1.heap[b]?/\g.heap[b]?=w1.heap[b]?)/\aA (∃own' hm',cY c own' vt n1 (n2+1) hm' {st with hd:=fun y=>if y=x then st.hd y++[(v0,v1)] else st.hd y,m:=st.m+1} g/\Fr (fun b=>own b≠0) w g/\(∀b,own' b≠0->own b≠0\/w.heap.size<=b))):=fun w1 hb=>by
  have g1:=h.below hb;obtain⟨_,_,_,q3,_,_⟩:=g1.cells;have L:=g1.hq.look (t:=250) (e:=57) underlying250 (AB _) (x:=x) F aa;rw[show(hdF st.hd hm x).getD (.slice none 0 0)=_ from ao] at L;have a3:=cL hrow (fun k e=>hb.block k (cu hrow k e).2)
  refine⟨q3,L,a3,fun d b4 n S ap ar=>?_⟩
  have aB:∀k,some k=(Value.slice ad (st.hd x).length cap).ownBlock->k≠c.hb:=fun k e f=>by have p:=o k e;rw[f,g1.ho] at p;omega
  have ba:eF d c.hb n2 (hdF st.hd hm):=g1.hq.same (S.block c.hb g1.hq.lt (fun e=>aB c.hb e rfl))
  obtain⟨g,bb,bd,W⟩:=ba.put (t:=250) (e:=57) underlying250 (by have:=g1.hn;omega) F aa (.slice (au b4) ((st.hd x).length+1) n)
  have be:∀b,b=c.cp\/(w.heap.size<=b/\b<w1.heap.size)->d.heap[b]?=w1.heap[b]?/\g.heap[b]?=w1.heap[b]?:=fun b ab=>by
   have l1:b<w1.heap.size:=ab.elim (fun e=>by rw[e];exact(g1.lt c.cp (by rw[g1.co];decide)).2) (fun e=>e.2)
   have l2:b≠c.hb:=ab.elim (fun e f=>by have p:=g1.co;rw[<-e,f,g1.ho] at p;omega) (fun e f=>by have:=h.hq.lt;omega)
   have q:d.heap[b]?=w1.heap[b]?:=S.block b l1 (fun e=>by
    have p:=o b e;rcases ab with f|f
    ·rw[f,g1.co] at p;omega
    ·have:=(h.lt b aa).2;omega)
   exact⟨q,(W.block b (aO l1 S.size) (fun e=>l2 (Option.some.inj e))).trans q⟩
  refine⟨g,bb,be,?_⟩
  have bg:b4≠c.hb:=by
   rcases ar with e|e
   ·exact aB b4 e
   ·have:=g1.hq.lt;omega
  have aF:Fr (fun b=>own b=4\/own b=10+x.toNat) w1 g:=((Fr.refl _ w1).grown S (fun k e=>aM (aL (o k e.symm)))).grown W (fun k e=>aM (by cases e;exact aM g1.ho))
  obtain⟨own',c1,c2⟩:=g1.hold F aF bd (cL ap (fun k e=>by cases e;exact W.block _ (cu ap b4 rfl).2 (fun e=>bg (Option.some.inj e)))) (ar.imp (fun e=>o b4 e) id)
  have hs:=hb.size;exact⟨own',_,c1,((Fr.of hb).trans aF (fun i f=>aM f)).mono (fun b f=>by omega),fun b f=>(c2 b f).imp id (fun e=>by omega)⟩
 clear h hi hk o hrow ao;generalize st.hd x=H at*;generalize ({st with hd:=fun y=>if y=x then st.hd y++[(v0,v1)] else st.hd y,m:=st.m+1}:dA)=b9 at*;go_enter func255,ntmps255;go_wp2_with fail;refine P.mono ?_;clear P;rintro e w1 ⟨rfl,hb⟩
 have s:=b1.trans (hb.mono b1.size)
 obtain⟨ca,aR,_,_⟩:=dq ((hb.block w.heap.size (by simp;omega)).trans ((aS _ _ _ ac).trans (aP w (.cells #[.int .i64 3,.int .i64 x] 97))))
 obtain⟨q0,q1,_,_⟩:=dq ((hb.block (w.heap.size+1) ac).trans (gb w (.cells #[.int .i64 3,.int .i64 x] 97) (.cells #[.int .i64 v0,.int .i64 v1] 97)))
 obtain⟨aV,_,_,_⟩:=N.o w1 s;obtain⟨_,cb,_,_⟩:=N.o w1.drew s.drew;obtain⟨_,cc,ag,ai⟩:=N.o (w1.alloc (.cells #[.int .i64 v0,.int .i64 v1] 97)).drew (s.alloc s.size _).drew;have ai:aA (_):=ai;have ag:aA (_):=ag;have a0:aA (∀d:az,(∀b,b=c.cp\/(w.heap.size<=b/\b<(w1.alloc (.cells #[.int .i64 v0,.int .i64 v1] 97)).drew.heap.size)->d.heap[b]?=(w1.alloc (.cells #[.int .i64 v0,.int .i64 v1] 97)).drew.heap[b]?)->d.cell? (av c.cp 3)=some (.map (some c.hb))/\d.cell? (av w.heap.size 1)=some (ak x)/\d.cell? (av (w.heap.size+1) 0)=some (ak v0)/\d.cell? (av (w.heap.size+1) 1)=some (ak v1)):=fun d hk=>by
  have al:∀a:Addr,a.block<w1.heap.size->(w1.alloc (.cells #[.int .i64 v0,.int .i64 v1] 97)).drew.cell? a=w1.cell? a:=fun a ha=>aQ (aS w1 _ _ ha)
  have s1:w1.heap.size<=(w1.alloc (.cells #[.int .i64 v0,.int .i64 v1] 97)).drew.heap.size:=by simp[World.drew]
  have q:=aT w1 _ aV;have a1:=aT w1 _ aR;have am:=aT w1 _ q0;dsimp only at q a1 am;exact⟨(aQ (a:=⟨c.cp,3,none⟩) (hk _ (aM rfl))).trans ((al _ q).trans aV),(aQ (a:=⟨w.heap.size,1,none⟩) (hk _ (aL ⟨aG _,by dsimp only;omega⟩))).trans ((al _ a1).trans aR),
   (aQ (a:=⟨w.heap.size+1,0,none⟩) (hk _ (aL ⟨Nat.le_succ _,by dsimp only;omega⟩))).trans ((al _ am).trans q0),(aQ (a:=⟨w.heap.size+1,1,none⟩) (hk _ (aL ⟨Nat.le_succ _,by dsimp only;omega⟩))).trans ((al _ am).trans q1)⟩
 clear hb b1 N s;obtain⟨bi,bl,bn,bo,bp⟩:=info_parts xN;go_wp2_with fail
 go_region_held3 (fun w'=>w'.cell? (av c.cp 3)=some (.map (some c.hb))/\w'.cell? (av w.heap.size 1)=some (ak x)/\w'.cell? (av (w.heap.size+1) 0)=some (ak v0)/\w'.cell? (av (w.heap.size+1) 1)=some (ak v1)) (go_keep)
  (first|(refine step_append_lies _ rfl (.tmp 21) (.tmp 23) 57 rfl 0 97 bi (.agg #[ak 0,ak 0]) 2 16 underlying57 bl bn bo bp rfl ae (.slice ad H.length cap) H.length (ev H) (by simp[Act.eval]) ag.o ⟨w1.heap.size,0,none⟩ 1 1 [ak v0,ak v1] (by simp[Act.eval]) rfl ?_ ?_ ae (by unfold maxLen;omega) aa ac _ rfl ?_;(intro j u l;match j,l with|0,l=>(simp at l;subst l;simp[Addr.add])|1,l=>(simp at l;subst l;simp[Addr.add]));(intro u B;simp at B;rcases B with B|B<;>(subst B;rfl));intro b4 n d br bs bt cd;obtain⟨g,ce,k5,bx⟩:=ai.o d b4 n bs (by rw[i4];simpa[ev] using br) (bt.imp Eq.symm (fun e=>Nat.le_of_eq e.symm));obtain⟨cf,m1,cg,ch⟩:=a0.o d (fun b hb=>(k5 b hb).1);obtain⟨ci,cj,ck,cl⟩:=a0.o g (fun b hb=>(k5 b hb).2);clear k5))
 all_goals
  go_wp2_with fail;obtain⟨own',hm',b0,b2,b3⟩:=bx.o;exact a5 (v:=.tuple #[]) (by simp[results,results255,go_sem]) rfl ⟨own',hm',rfl,b0,b2,b3⟩
end
structure eH (own:Nat->Nat)(w:az)(own':Nat->Nat)(w':az):Prop where
 fr:Fr (fun b=>own b≠0) w w'
 nw:∀b,own' b≠0->own b≠0\/w.heap.size<=b
section
variable {c:Cp}{own own' mD:Nat->Nat}{vt cS:Value}{n1 n2 n1' ee:Nat}{hm hm':Int->Option Addr×Nat}{st:dA}{F:Nat->Prop}{w w' w'':az}
theorem fI.tk (t:fI own w own' w'):eH own w own' w':=⟨t.fr.mono (fun b hb=>by omega),fun b hb=>by
 by_cases e:b<w.heap.size
 ·rw[t.old b e] at hb;exact aM hb
 ·exact aL aa⟩
theorem eH.of (h:Below w.heap.size w w'):eH own w own w':=⟨Fr.of h,fun _ h=>aM h⟩
theorem eH.trans (h:eH own w own' w')(k:eH own' w' mD w''):eH own w mD w'':=⟨h.fr.trans k.fr h.nw,fun b hb=>(k.nw b hb).elim (h.nw b) (fun c=>aL (aU h.fr.size c))⟩
structure ic (c:Cp):Prop where
 g:dN c.b9 c.ch c.b_ c.l c.s c.w0
 t:c.s.T.length<=10000
 iv:eX c.s.T c.s.wt
 wl:c.s.wt.length<=90000
structure i8 (c:Cp)(st:dA):Prop where
 len:st.A.length=c.s.T.length
 hv:∀x,∀v∈st.hd x,v.1=3->0<=v.2/\cz c.s.T v.2.toNat
 hl:∀x,(st.hd x).length<=20000
 m:st.m<=20000
theorem cY.uH (hg:ic c)(h:cY c own vt n1 n2 hm st w){i:Nat}(hi:cz c.s.T i):jN own w (c.l.fm i).1 (c.s.T.getD i t0).2.1:=by
 have hr:=(h.gv hg.g).g2.fl i hi;refine⟨hZ hr,fun hp z e f=>?_⟩
 obtain⟨b,cp,d⟩:=eT hr hp;have hb:z.block=b:=by
  dsimp only [eL] at d;rw[e] at d;injection d with g
  injection g with j
  rw[j]
 have k:=hg.g.g2.e3 i hi b (by rw[d];rfl)
 have l:=hg.g.lt b aa;rw[hb] at f;have m:=(h.lt b aa).1;omega
theorem Iu (hg:ic c)(h:cY c own vt n1 n2 hm st w)(hk:i8 c st)(x:Int)(b:0<=x)(g:x<10000):∃ad cap,w.cell? (av c.cp 3)=some (.map (some c.hb))/\(Instr.lookup 250 (.map (some c.hb)) (ak x) false).run prog w=.ok (.slice ad (st.hd x).length cap) w/\
 Calls prog 245 #[aq c.cp,.slice ad (st.hd x).length cap] w fun e w'=>∃own' cS n1',e=.returned (.tuple #[])/\cY c own' cS n1' n2 hm (dv st (st.hd x)) w'/\fI own w own' w':=by
 obtain⟨ad,cap,d,hrow,f⟩:=h.hrow x;obtain⟨_,_,_,q3,_,_⟩:=h.cells;have L:=h.hq.look underlying250 (AB _) b aa;rw[show(hdF st.hd hm x).getD (.slice none 0 0)=_ from d] at L;refine⟨ad,cap,q3,L,mE hg.g hg.t hk.len h ad cap (st.hd x) ⟨hZ hrow,fun hp z e i=>?_⟩ (hk.hv x) (by have:=hk.hl x;omega)⟩
 have:=f z.block (by rw[e];rfl)
 omega
def Iv (c:Cp)(own:Nat->Nat)(w:az)(x:Int)(b:dA)(w1:az):Prop:=∃ad n cap,w1.cell? (av c.cp 3)=some (.map (some c.hb))/\(Instr.lookup 250 (.map (some c.hb)) (ak x) false).run prog w1=.ok (.slice ad n cap) w1/\
 Calls prog 245 #[aq c.cp,.slice ad n cap] w1 fun e w'=>∃own' cS n1' ee hm',e=.returned (.tuple #[])/\cY c own' cS n1' ee hm' (dv b (b.hd x)) w'/\eH own w own' w'
theorem pS (hg:ic c)(h:cY c own' vt n1 n2 hm st w')(hk:i8 c st)(t:eH own w own' w')(x:Int)(b:0<=x)(d:x<10000):Iv c own w x st w':=by
 obtain⟨ad,cap,q3,L,P⟩:=Iu hg h hk x b d;refine⟨ad,_,cap,q3,L,P.mono ?_⟩
 rintro e l ⟨f,i,j,rfl,g,k⟩
 exact⟨f,i,j,n2,hm,rfl,g,t.trans k.tk⟩
theorem i8.marks (h:i8 c st)(l:List _):i8 c (dv st l):=by obtain⟨a,b,d⟩:=jj st l;exact⟨d.trans h.len,by rw[a];exact h.hv,by rw[a];exact h.hl,by rw[b];exact h.m⟩
theorem Iw (hg:ic c)(h:cY c own vt n1 n2 hm st w)(hk:i8 c st)(x:Int)(j:0<=x)(k:cw st.A x.toNat)(d:cz c.s.T x.toNat)(l:(c.s.T.getD x.toNat t0).1=1\/(c.s.T.getD x.toNat t0).1=2):
 Calls prog 253 #[aq c.cp,ak x] w fun e w'=>∃own' cS n1' ee hm',e=.returned (.tuple #[])/\cY c own' cS n1' ee hm' (gS c.s.T c.s.wt st x) w'/\eH own w own' w':=by
 have B:x<10000:=by have:=d.1;have:=hg.t;omega
 have L:=h.am.look (t:=184) (e:=220) underlying184 (mC w) (x:=x) j aa;rw[show e4 c.s.T c.l.fm st.A x=some (ga c.s.T c.l.fm x.toNat) from by unfold e4;rw[aK ⟨j,k⟩]] at L;dsimp only [Option.getD,ga,eL] at L;obtain⟨_,c1,_,_,_,al⟩:=h.cells;have b1:=aw w (.cells #[.int .i64 (c.s.T.getD x.toNat t0).1,.slice (c.l.fm x.toNat).1 (c.s.T.getD x.toNat t0).2.1.length (c.l.fm x.toNat).2] 220)
 have P:=mE hg.g hg.t hk.len (h.below b1) _ (c.l.fm x.toNat).2 _ ((h.below b1).uH hg d) (fun v hv F=>hg.iv.fv _ d v hv F) (by have:=hg.iv.tl x.toNat;omega)
 have m:gS c.s.T c.s.wt st x=dv (dv st (c.s.T.getD x.toNat t0).2.1) ((dv st (c.s.T.getD x.toNat t0).2.1).hd x):=by unfold gS gG;rw[aK l]
 rw[m];have o:aA (∀b f i w1,cY c b f i n2 hm (dv st (c.s.T.getD x.toNat t0).2.1) w1->eH own w b w1->_):=fun b f i w1 g t=>pS hg g (hk.marks _) t x j B;have p:=hide b1;clear hg h hk k d m b1;generalize dv st (c.s.T.getD x.toNat t0).2.1=am at*;generalize (c.s.T.getD x.toNat t0).1=kd at*;generalize (c.s.T.getD x.toNat t0).2.1.length=n at*;generalize (c.l.fm x.toNat).1=ad at*;generalize (c.l.fm x.toNat).2=cp at*;rcases l with rfl|rfl
 all_goals
  go_enter func253,ntmps253;go_wp2_with fail;refine P.mono ?_;clear P;rintro e w1 ⟨b,f,i,rfl,g,t⟩
  obtain⟨an,ao,ap,q3,N,q⟩:=o.o b f i w1 g ((eH.of p.o).trans t.tk)
  clear o p g t L c1;go_wp2_with fail;refine q.mono ?_;clear q;rintro e ar ⟨S,W,ab,ag,ai,rfl,g2,s⟩
  have u:=c7 g2 s;clear g2 s q3 N;go_wp2_with fail;go_end0;exact⟨S,W,ab,ag,ai,rfl,u.o.1,u.o.2⟩
abbrev mF (c:Cp)(x:Int):Obj:=.cells #[ak (c.s.T.getD x.toNat t0).1,.slice (c.l.fm x.toNat).1 (c.s.T.getD x.toNat t0).2.1.length (c.l.fm x.toNat).2] 220
theorem rD (h:cY c own vt n1 n2 hm st w)(x:Int)(b:0<=x)(e:x<10000)(d:cw st.A x.toNat):(Instr.lookup 184 (.map (some c.ab)) (ak x) false).run prog w=.ok (.agg #[ak (c.s.T.getD x.toNat t0).1,.slice (c.l.fm x.toNat).1 (c.s.T.getD x.toNat t0).2.1.length (c.l.fm x.toNat).2]) w:=by have L:=h.am.look underlying184 (mC w) b aa;rw[show e4 c.s.T c.l.fm st.A x=some (ga c.s.T c.l.fm x.toNat) from by unfold e4;rw[aK ⟨b,d⟩]] at L;exact L
theorem Ix (hg:ic c)(h:cY c own vt n1 n2 hm st w)(hk:i8 c st)(x:Int)(b:0<=x)(d:cw st.A x.toNat)(f:cz c.s.T x.toNat)(k0:¬((c.s.T.getD x.toNat t0).1=1\/(c.s.T.getD x.toNat t0).1=2))(l:¬(c.s.T.getD x.toNat t0).1=3)(m:¬(c.s.T.getD x.toNat t0).1=4)(k5:¬(c.s.T.getD x.toNat t0).1=5):
 Calls prog 253 #[aq c.cp,ak x] w fun e w'=>∃own' cS n1' ee hm',e=.returned (.tuple #[])/\cY c own' cS n1' ee hm' (gS c.s.T c.s.wt st x) w'/\eH own w own' w':=by
 have g:x<10000:=by have:=f.1;have:=hg.t;omega
 have L:=rD h x b g d;obtain⟨_,c1,_,_,_,B⟩:=h.cells;have b1:=aw w (mF c x)
 have i:gS c.s.T c.s.wt st x=dv st (st.hd x):=by unfold gS gG;rw[aI k0,aI l,aI m,aI k5]
 rw[i];have j:=pS hg (h.below b1) hk (eH.of b1) x b g;dsimp only [mF] at j;clear hg h hk d f i b1;generalize (c.s.T.getD x.toNat t0).1=kd at*;generalize (c.s.T.getD x.toNat t0).2.1.length=n at*;generalize (c.l.fm x.toNat).1=ad at*;generalize (c.l.fm x.toNat).2=cp at*;have k1:¬kd=1:=fun e=>k0 (aM e)
 obtain⟨F,N,S,q3,W,o⟩:=j;go_enter func253,ntmps253;go_wp2_with fail;refine o.mono ?_;rintro e ab ⟨p,q,s,t,u,rfl,g2,v⟩
 have k:aA (_/\_):=⟨g2,v⟩
 go_wp2_with fail;go_end0;exact⟨p,q,s,t,u,rfl,k.o.1,k.o.2⟩
theorem Iy (hg:ic c)(h:cY c own vt n1 n2 hm st w)(hk:i8 c st)(x:Int)(m:0<=x)(q:cw st.A x.toNat)(f:cz c.s.T x.toNat)(l:(c.s.T.getD x.toNat t0).1=3):
 Calls prog 253 #[aq c.cp,ak x] w fun e w'=>∃own' cS n1' ee hm',e=.returned (.tuple #[])/\cY c own' cS n1' ee hm' (gS c.s.T c.s.wt st x) w'/\eH own w own' w':=by
 have n:x<10000:=by have:=f.1;have:=hg.t;omega
 have L:=rD h x m n q;obtain⟨_,c1,_,_,_,ab⟩:=h.cells;have b1:=aw w (mF c x)
 have l2:=hg.iv.fl _ f (aM l)
 obtain⟨b,o,s,lb,B⟩:=(h.uH hg f).lp aa;obtain⟨z0,ad⟩:=B 1 aa;have F:((c.s.T.getD x.toNat t0).2.1.getD 1 (0,0)).1=3->_:=fun i=>hg.iv.fv _ f _ (getD_in aa) i;have N:gS c.s.T c.s.wt st x=dv (dv st [(c.s.T.getD x.toNat t0).2.1.getD 1 (0,0)]) ((dv st [(c.s.T.getD x.toNat t0).2.1.getD 1 (0,0)]).hd x):=by unfold gS gG;rw[aI aa,aK l];rfl
 rw[N];dsimp only [mF] at b1;rw[l,l2,s] at L b1;generalize (c.s.T.getD x.toNat t0).2.1.getD 1 (0,0)=v at*;generalize (c.l.fm x.toNat).2=cp at*;obtain⟨v0,v1⟩:=v;have b2:=b1.alloc b1.size (.cells #[.int .i64 v0,.int .i64 v1] 97)
 have P:=mE hg.g hg.t hk.len (h.below b2) (au ((w.alloc (.cells #[.int .i64 3,.slice (some ⟨b,o,none⟩) 2 cp] 220)).heap.size)) 1 [(v0,v1)] (jN.one (h.below b1) (v0,v1)) (fun u p i=>by simp at p;rw[p] at i⊢;exact F i) ac;have S:aA (∀d j k w1,cY c d j k n2 hm (dv st [(v0,v1)]) w1->eH own w d w1->_):=fun d j k w1 g t=>pS hg g (hk.marks _) t x m n;have W:=hide b2;rw[show(w.alloc (.cells #[.int .i64 3,.slice (some ⟨b,o,none⟩) 2 cp] 220)).heap.size=w.heap.size+1 by simp] at P;generalize dv st [(v0,v1)]=ag at*;go_enter func253,ntmps253;go_wp2_with fail;refine P.mono ?_;rintro e w1 ⟨d,j,k,rfl,g,t⟩
 obtain⟨ai,al,am,q3,an,P2⟩:=S.o d j k w1 g ((eH.of W.o).trans t.tk)
 exact AA
theorem ic.fb (hg:ic c){i b o:Nat}(hi:cz c.s.T i)(hp:0<(c.s.T.getD i t0).2.1.length)(e:(c.l.fm i).1=some ⟨b,o,none⟩):b<c.w0.heap.size:=by
 obtain⟨f,cp,d⟩:=eT (hg.g.g2.fl i hi) hp;have g:=hg.g.lt f (by rw[hg.g.g2.e3 i hi f (by rw[d];rfl)];omega)
 dsimp only [eL] at d;rw[e] at d;have j:b=f:=congrArg Addr.block (Option.some.inj (Value.slice.inj d).1)
 rw[j];exact g
theorem Iz (hg:ic c)(h:cY c own vt n1 n2 hm st w)(hk:i8 c st)(k v:Int×Int)(b:k.1=3->0<=k.2/\cz c.s.T k.2.toNat)(hv:v.1=3->0<=v.2/\cz c.s.T v.2.toNat):
 Calls prog 255 #[aq c.cp,.agg #[ak k.1,ak k.2],.agg #[ak v.1,ak v.2]] w fun e w'=>∃own' cS n1' ee hm',e=.returned (.tuple #[])/\cY c own' cS n1' ee hm' (k8 st k v) w'/\eH own w own' w':=by
 unfold k8;cases hi:d6 st.A k
 ·refine(It h k v (fun d=>⟨(b d).1,by have:=(b d).2.1;have:=hg.t;omega⟩) hi hk.m (hk.hl _)).mono ?_;rintro e w' ⟨own',hm',rfl,g,f,i⟩
  exact⟨own',vt,n1,n2+1,hm',rfl,g,f,i⟩
 ·refine(Is hg.g hg.t hk.len h k v b hv hi).mono ?_;rintro e w' ⟨own',cS,n1',rfl,g,t⟩
  exact⟨own',cS,n1',n2,hm,rfl,g,t.tk⟩
theorem IA (hg:ic c)(h:cY c own vt n1 n2 hm st w)(hk:i8 c st)(x:Int)(N:i8 c (gG c.s.T c.s.wt st x))(S:0<=x)(an:cw st.A x.toNat)(l:cz c.s.T x.toNat)(m:(c.s.T.getD x.toNat t0).1=4):
 Calls prog 253 #[aq c.cp,ak x] w fun e w'=>∃own' cS n1' ee hm',e=.returned (.tuple #[])/\cY c own' cS n1' ee hm' (gS c.s.T c.s.wt st x) w'/\eH own w own' w':=by
 have ab:x<10000:=by have:=l.1;have:=hg.t;omega
 have L:=rD h x S ab an;obtain⟨_,c1,_,_,_,bn⟩:=h.cells;have b1:=aw w (mF c x)
 have l2:=hg.iv.fl _ l (aL m)
 obtain⟨b,o,ad,lb,ag⟩:=(h.uH hg l).lp aa;obtain⟨ai,y1⟩:=ag 0 aa;obtain⟨z0,ao⟩:=ag 1 aa;have ap:=lQ hg.iv l m 0 ae;have ar:=lQ hg.iv l m 1 ae;have aB:gG c.s.T c.s.wt st x=k8 st ((c.s.T.getD x.toNat t0).2.1.getD 0 (0,0)) ((c.s.T.getD x.toNat t0).2.1.getD 1 (0,0)):=by unfold gG;rw[aI aa,aI aa,aK m]
 unfold gS;rw[aB] at N⊢;dsimp only [mF] at b1;rw[m,l2,ad] at L b1;generalize (c.s.T.getD x.toNat t0).2.1.getD 0 (0,0)=u at*;generalize (c.s.T.getD x.toNat t0).2.1.getD 1 (0,0)=v at*;generalize (c.l.fm x.toNat).2=cp at*;obtain⟨u0,q⟩:=u;obtain⟨v0,v1⟩:=v;rw[Nat.zero_mul,Nat.add_zero] at ai y1;have P:=Iz hg (h.below b1.drew) hk (u0,q) (v0,v1) ap ar;have aF:aA (∀d f i j k w1,cY c d f i j k (k8 st (u0,q) (v0,v1)) w1->eH own w d w1->_):=fun d f i j k w1 g t=>pS hg g N t x S ab;have n:=hide b1;have aR:aA (∀d f i j k B (w1:az),cY c d f i j k B w1->eH own (w.alloc (.cells #[.int .i64 4,.slice (some ⟨b,o,none⟩) 2 cp] 220)).drew d w1->w1.heap[b]?=(w.alloc (.cells #[.int .i64 4,.slice (some ⟨b,o,none⟩) 2 cp] 220)).heap[b]?/\w1.heap[w.heap.size]?=some (.cells #[ak 4,.slice (some ⟨b,o,none⟩) 2 cp] 220 (0,0))):=fun d f i j k B w1 g t=>by have al:=hg.fb l aa ad;refine⟨(g.ol b al).trans (((h.below b1).ol b al).symm),(t.fr.block w.heap.size (by simp[World.drew]) (fun aV=>by have:=(h.lt _ aV).2;omega)).trans (aP w _)⟩
 generalize k8 st (u0,q) (v0,v1)=B at*;go_enter func253,ntmps253;go_wp2_with fail;have hw:=aP w (.cells #[.int .i64 4,.slice (some ⟨b,o,none⟩) 2 cp] 220)
 have a0:=(n.o.cell (p:=av b o) lb).trans ai;have a1:=(n.o.cell (p:=av b (o+1)) lb).trans y1;have j0:=(n.o.cell (p:=av b (o+1*2)) lb).trans z0;have a2:=(n.o.cell (p:=av b (o+1*2+1)) lb).trans ao;generalize w.alloc (.cells #[.int .i64 4,.slice (some ⟨b,o,none⟩) 2 cp] 220)=W at*;obtain⟨_,bo,_,_⟩:=dq hw
 go_region_held3 (fun w'=>w'.cell? (av w.heap.size 1)=some (.slice (some ⟨b,o,none⟩) 2 cp)/\w'.cell? (av b o)=some (ak u0)/\w'.cell? (av b (o+1))=some (ak q)/\w'.cell? (av b (o+1*2))=some (ak v0)/\w'.cell? (av b (o+1*2+1))=some (ak v1)) (go_keep)
  (first|(go_at_call 255;refine P.mono ?_;rintro e w1 ⟨d,f,i,j,k,rfl,g,t⟩;obtain⟨s,a3⟩:=aR.o d f i j k _ w1 g t;have bp:=(aQ (a:=⟨b,o,none⟩) s).trans a0;have br:=(aQ (a:=⟨b,o+1,none⟩) s).trans a1;have bs:=(aQ (a:=⟨b,o+1*2,none⟩) s).trans j0;have bt:=(aQ (a:=⟨b,o+1*2+1,none⟩) s).trans a2;obtain⟨_,bx,_,_⟩:=dq a3;have F:=aF.o d f i j k w1 g ((eH.of n.o.drew).trans t);have F:=hide F))
 all_goals
  obtain⟨b0,b2,b3,q3,b4,ba⟩:=F.o;go_wp2_with fail;refine ba.mono ?_;rintro e b5 ⟨bb,bd,be,bg,bi,rfl,g2,bl⟩
  have am:=c7 g2 bl;go_wp2_with fail;go_end0;exact⟨bb,bd,be,bg,bi,rfl,am.o.1,am.o.2⟩
structure rE (own:Nat->Nat)(w:az)(ad:Option Addr)(l:List Int):Prop where
 lp:iU w ad l
 no:0<l.length->∀z,ad=some z->¬(own z.block=1\/own z.block=2\/own z.block=3)
theorem rE.tm {ad:Option Addr}{l:List Int}(h:rE own w ad l)(t:fI own w own' w'):rE own' w' ad l:=
 ⟨h.lp.keep t.fr.size (fun hp z e=>t.fr.block _ (by obtain⟨b,o,c,hb,_⟩:=h.lp hp;rw[e] at c;cases c;exact hb) (h.no hp z e)),fun hp z e=>by rw[t.old _ (by obtain⟨b,o,c,hb,_⟩:=h.lp hp;rw[e] at c;cases c;exact hb)];exact h.no hp z e⟩
abbrev kL (l:List Int):List (Int×Int):=l.map fun x=>(3,x)
theorem IB (hg:ic c)(h:cY c own vt n1 n2 hm st w)(hk:i8 c st)(x:Int)(W:0<=x)(ab:cw st.A x.toNat)(ag:cz c.s.T x.toNat)(k5:(c.s.T.getD x.toNat t0).1=5):
 Calls prog 253 #[aq c.cp,ak x] w fun e w'=>∃own' cS n1' ee hm',e=.returned (.tuple #[])/\cY c own' cS n1' ee hm' (gS c.s.T c.s.wt st x) w'/\eH own w own' w':=by
 have ai:x<10000:=by have:=ag.1;have:=hg.t;omega
 have L:=rD h x W ai ab;obtain⟨c0,c1,_,_,_,bo⟩:=h.cells;have b1:=aw w (mF c x)
 have p:=(h.below b1).gv hg.g;obtain⟨_,_,_,_,_,g5,_,_,bp⟩:=(h.gv hg.g).cells;have l:=sV _ c.l.bp _ c.l.a1 c.l.k1 c.s.wt x p.g3.sd.blk (hZ p.g3.sd.q0) hg.wl;have al:∀v∈kL (eu c.s.wt x),v.1=3->0<=v.2/\cz c.s.T v.2.toNat:=fun v hv _=>by obtain⟨y,hy,rfl⟩:=List.mem_map.1 hv;obtain⟨e,q,aV,rfl⟩:=ux.1 hy;exact hg.iv.wv e q
 have am:=o8 c.s.wt x;have am:=aU am hg.wl;have an:gS c.s.T c.s.wt st x=dv (dv st (kL (eu c.s.wt x))) ((dv st (kL (eu c.s.wt x))).hd x):=by unfold gS gG;rw[aI aa,aI aa,aI aa,aK k5]
 rw[an];dsimp only [mF] at b1 l;rw[k5] at L b1 l;have a0:aA (∀d f k w1,cY c d f k n2 hm (dv st (kL (eu c.s.wt x))) w1->eH own w d w1->_):=fun d f k w1 g t=>pS hg g (hk.marks _) t x W ai;have a1:aA (∀d f k (w1:az)(j:Nat),j<(eu c.s.wt x).length->cY c d f k n2 hm (dv st (kL ((eu c.s.wt x).take j))) w1->Calls prog 245 #[aq c.cp,.slice (au w1.heap.size) 1 1] (w1.alloc (.cells #[.int .i64 3,.int .i64 ((eu c.s.wt x).getD j 0)] 97)) fun e w'=>∃own' cS n1',e=.returned (.tuple #[])/\cY c own' cS n1' n2 hm (dv st (kL ((eu c.s.wt x).take (j+1)))) w'/\fI d w1 own' w'):=fun d f k w1 j s g=>by
  have m:=aw w1 (.cells #[.int .i64 3,.int .i64 ((eu c.s.wt x).getD j 0)] 97)
  have a2:kL ((eu c.s.wt x).take (j+1))=kL ((eu c.s.wt x).take j)++[(3,(eu c.s.wt x).getD j 0)]:=by
   have a3:(eu c.s.wt x).take (j+1)=(eu c.s.wt x).take j++[(eu c.s.wt x).getD j 0]:=by rw[List.take_add_one,aJ,aN s];rfl
   rw[a3,kL,List.map_append];rfl
  rw[a2,Ak];refine(mE hg.g hg.t (hk.marks _).len (g.below m) (au w1.heap.size) 1 [(3,(eu c.s.wt x).getD j 0)] (jN.one g (3,(eu c.s.wt x).getD j 0)) (fun u ao ap=>?_) ac).mono ?_
  ·simp only [List.mem_singleton] at ao;rw[ao] at ap⊢;exact al _ (List.mem_map.2 ⟨_,getD_in s,rfl⟩) rfl
  ·rintro e w' ⟨own',cS,n1',rfl,ba,t⟩
   exact⟨own',cS,n1',rfl,ba,(fI.of m (fun b hb=>(g.lt b hb).2)).trans t⟩
 have B:=hide h;have F:=hide b1;clear hg h hk ab ag an b1 k5 p al;generalize eu c.s.wt x=A at*;generalize (c.s.T.getD x.toNat t0).2.1.length=n at*;generalize (c.l.fm x.toNat).1=ad at*;generalize (c.l.fm x.toNat).2=cp at*;go_enter func253,ntmps253;go_wp2_with fail;refine l.mono ?_;clear l;rintro e w1 ⟨bb,gx,rfl,N,ar⟩
 have S:=hide (F.o.trans (ar.mono F.o.size))
 have bd:aA (rE own w1 bb A):=⟨gX N,fun hp z e br=>by
  have q:=(cu N z.block (by rw[e];rfl)).1;have aV:=(B.o.lt z.block aa).2;have ap:w.heap.size+1<=z.block:=by simpa using q
  omega⟩
 clear ar N F L c1 g5;go_wp2_with fail
 go_loopw [55] (fun i wr=>∃(j:Nat)(own':Nat->Nat)(cS:Value)(n1':Nat),j<=A.length/\i=ak j/\cY c own' cS n1' n2 hm (dv st (kL (A.take j))) wr/\fI own w1 own' wr) (fun i _=>A.length-(intOf i).toNat)
 exact⟨0,own,vt,n1,a4 _,rfl,B.o.below S.o,fI.of b8 (fun b hb=>((B.o.below S.o).lt b hb).2)⟩
 ·
   obtain⟨j,own',cS,n1',s,rfl,g,t⟩:=hrel;by_cases aB:j<A.length
   ·obtain⟨bs,o,aF,lb,aR⟩:=(bd.o.tm t).lp aa;have hc:=aR j aB;have be:aA (∀w2,Below wr.heap.size wr w2->Calls prog 245 #[aq c.cp,.slice (au w2.heap.size) 1 1] (w2.alloc (.cells #[.int .i64 3,.int .i64 (A.getD j 0)] 97)) fun e w'=>∃own' cS n1',e=.returned (.tuple #[])/\cY c own' cS n1' n2 hm (dv st (kL (A.take (j+1)))) w'/\fI own w1 own' w'):=fun w2 hb=>by
     refine(a1.o own' cS n1' w2 j aB (g.below hb)).mono ?_;rintro e w' ⟨uE,uF,n12,rfl,g2,t2⟩
     exact⟨uE,uF,n12,rfl,g2,(t.trans (fI.of hb (fun b hb=>(g.lt b hb).2))).trans t2⟩
    rw[aF];have bg:(j:Int)<A.length:=aa;clear g t aR aF;generalize A.getD j 0=y at*;go_wp2_with fail;refine(oG y wr).mono ?_;rintro e w2 ⟨rfl,m⟩
    have P:=be.o w2 m;go_wp2_with fail;refine P.mono ?_;rintro e bt ⟨bi,bl,bn,rfl,g3,t3⟩
    have HF:=c7 g3 t3;go_wp2_with fail;go_roundw;exact⟨j+1,bi,bl,bn,aa,aj,HF.o.1,HF.o.2⟩
    simp[intOf];omega
   ·have e:A.take j=A:=List.take_of_length_le aa;rw[e] at g;obtain⟨bx,bg,b0,q3,b2,P2⟩:=a0.o own' cS n1' wr g ((eH.of S.o).trans t.tk)
    exact AA
theorem IC (hg:ic c)(h:cY c own vt n1 n2 hm st w)(hk:i8 c st)(x:Int)(j:i8 c (gG c.s.T c.s.wt st x))(b:0<=x)(d:cw st.A x.toNat)(f:cz c.s.T x.toNat):
 Calls prog 253 #[aq c.cp,ak x] w fun e w'=>∃own' cS n1' ee hm',e=.returned (.tuple #[])/\cY c own' cS n1' ee hm' (gS c.s.T c.s.wt st x) w'/\eH own w own' w':=by
 by_cases k1:(c.s.T.getD x.toNat t0).1=1\/(c.s.T.getD x.toNat t0).1=2
 ·exact Iw hg h hk x b d f k1
 by_cases g:(c.s.T.getD x.toNat t0).1=3
 ·exact Iy hg h hk x b d f g
 by_cases i:(c.s.T.getD x.toNat t0).1=4
 ·exact IA hg h hk x j b d f i
 by_cases k5:(c.s.T.getD x.toNat t0).1=5
 ·exact IB hg h hk x b d f k5
 exact Ix hg h hk x b d f k1 g i k5
end
structure gn (T:List cI)(wt:List ce)(is:List Bool)(s:dA):Prop where
 mi:eZ T wt is s []
 hl:∀x,(s.hd x).length<=s.m
 mm:s.m+(s.td.length+cnt s.A)<=T.length
structure AD (T:List cI)(wt:List ce)(is:List Bool)(s s':dA):Prop where
 dw:gn T wt is s'
 td:s'.td=[]
 up:∀k,cw s.A k->cw s'.A k
section
variable {T:List cI}{wt:List ce}{is:List Bool}{s:dA}
theorem AE (hl:∀x,(s.hd x).length<=s.m)(i:Int):(∀x,((gG T wt s i).hd x).length<=(gG T wt s i).m)/\(gG T wt s i).m<=s.m+1:=by
 have hm:∀l,(∀x,((dv s l).hd x).length<=(dv s l).m)/\(dv s l).m<=s.m+1:=fun l=>by obtain⟨a,b,_⟩:=jj s l;rw[a,b];exact⟨hl,aa⟩
 unfold gG;split
 ·exact hm _
 split
 ·exact hm [_]
 split
 ·unfold k8;split
  ·exact hm [_]
  ·dsimp only;refine⟨fun x=>?_,aG _⟩
   have:=hl x;split
   ·simp;omega
   ·omega
 split
 ·exact hm _
 ·exact hm []
theorem ID (hl:∀x,(s.hd x).length<=s.m)(i:Int):∀x,((gS T wt s i).hd x).length<=(gS T wt s i).m:=by unfold gS;obtain⟨a,b,_⟩:=jj _ _;rw[a,b];exact(AE hl i).1
theorem eZ.hv {E:List Int}(h:eZ T wt is s E)(f:eX T wt)(x:Int)(v:Int×Int)(hv:v∈s.hd x)(d:v.1=3):0<=v.2/\cz T v.2.toNat:=by obtain⟨j,a,b,c,e⟩:=h.hd _ _ hv;rw[e] at d⊢;exact lQ f (h.al j a) b 1 ae d
theorem IE {i:Nat}(h:eZ T wt is s [(i:Int)])(c:eX T wt)(hi:cz T i):∀x,∀v∈(gG T wt s i).hd x,v.1=3->0<=v.2/\cz T v.2.toNat:=by
 have hm:∀l,∀x,∀v∈(dv s l).hd x,v.1=3->0<=v.2/\cz T v.2.toNat:=fun l x v hv b=>by rw[(jj s l).1] at hv;exact h.hv c x v hv b
 unfold gG;split
 ·exact hm _
 split
 ·exact hm [_]
 split
 ·rename_i d;unfold k8;split
  ·exact hm [_]
  ·intro x v hv b;dsimp only at hv;split at hv
   ·rcases List.mem_append.1 hv with hv|hv
    ·exact h.hv c x v hv b
    ·simp only [List.mem_singleton] at hv;rw[hv] at b⊢;exact lQ c hi d 1 ae b
   ·exact h.hv c x v hv b
 split
 ·exact hm _
 ·exact hm []
theorem IF (i:Int):(gG T wt s i).A.length=s.A.length:=by
 have hm:∀l,_=_:=fun l=>(jj s l).2.2;unfold gG;split
 ·exact hm _
 split
 ·exact hm [_]
 split
 ·unfold k8;split
  ·exact hm [_]
  ·rfl
 split
 ·exact hm _
 ·rfl
end
section
variable {c:Cp}{own own':Nat->Nat}{vt cS:Value}{n1 n2 n1' ee:Nat}{hm hm':Int->Option Addr×Nat}{st:dA}{w w':az}{is:List Bool}
theorem cY.todo (h:cY c own vt n1 n2 hm st w){cS:Value}{t:List Int}(hr:w.ownsRow 0 2 1 cS t.length (t.map (Value.int .i64)))(ho:∀k,some k=cS.ownBlock->own k=3)(hl:t.length<=st.td.length):cY c own cS n1 n2 hm {st with td:=t} (w.setCell ⟨c.cp,2,none⟩ cS)/\eH own w own (w.setCell ⟨c.cp,2,none⟩ cS):=by
 have fr:Fr (fun b=>own b=1) w (w.setCell ⟨c.cp,2,none⟩ cS):=(Fr.refl _ w).set c.cp 2 cS h.co;have hk:∀b,own b≠1->b<w.heap.size->_=_:=fun b hb hl=>fr.block b hl hb;have g:=h.sz;refine⟨{
  ol:=fun k f=>(fr.block k aa (fun cc=>?_)).trans (h.ol k f),sz:=aU h.sz fr.size,cb:=?_,co:=h.co,am:=h.am.same (hk _ (by rw[h.ao];decide) h.am.lt),ao:=h.ao,an:=h.an,tr:=cL hr (fun k e=>hk k (by rw[ho k e];decide) (cu hr k e).2),tw:=ho,tn:=by have:=h.tn;dsimp only;omega
  hq:=h.hq.same (hk _ (by rw[h.ho];decide) h.hq.lt),ho:=h.ho,hn:=h.hn,hr:=fun x d=>⟨(h.hr x d).1,cL (h.hr x d).2 (fun k e=>hk k (by rw[h.hro x d k e];omega) (cu (h.hr x d).2 k e).2)⟩,hro:=h.hro,lt:=fun b hb=>⟨(h.lt b hb).1,aO (h.lt b hb).2 fr.size⟩},fr.mono (fun b hb=>by omega),fun b hb=>aM hb⟩
 ·have:=(h.lt k aa).1;omega
 ·simp only [World.setCell,Array.getElem?_modify,if_true,h.cb,Option.map_some];rfl
theorem AF (hg:ic c)(h:cY c own vt n1 n2 hm st w)(ho:gn c.s.T c.s.wt is st):
 Calls prog 246 #[aq c.cp] w fun e w'=>∃own' cS n1' ee hm' d,e=.returned (.tuple #[])/\cY c own' cS n1' ee hm' d w'/\eH own w own' w'/\AD c.s.T c.s.wt is st d:=by
 have f:=hide hg;have F:=c7 h ho;obtain⟨_,_,c2,_,_,_⟩:=h.cells;obtain⟨ad,cap,ev⟩:=eN h.tr;rw[ev] at c2;go_enter func246,ntmps246;go_wp2_with fail
 go_loopg [2] (st.td.length+cnt st.A) (fun m nv wr=>∃(own':Nat->Nat)(cS:Value)(n1' ee:Nat)(hm':Int->Option Addr×Nat)(d:dA),nv=ak d.td.length/\aA (cY c own' cS n1' ee hm' d wr/\eH own w own' wr/\gn c.s.T c.s.wt is d/\(∀k,cw st.A k->cw d.A k)/\d.td.length+cnt d.A<=m))
 exact⟨own,vt,n1,n2,hm,st,rfl,F.o.1,eH.of b8,F.o.2,fun _ h=>h,aG _⟩
 case round=>
  obtain⟨own',cS,n1',ee,hm',s1,rfl,N⟩:=hrel;obtain⟨g,t,dw,up,an⟩:=N.o;by_cases S:0<s1.td.length
  ·obtain⟨_,_,ao,_,ap,lk⟩:=g.cells;have tr:=g.tr;obtain⟨b,cap,ar⟩:=eT tr S;subst ar;have aB:=sX tr;obtain⟨n,hn⟩:∃n,s1.td.length=n+1:=⟨s1.td.length-1,aa⟩
   have aF:wr.cell? (av b n)=some (ak (s1.td.getD n 0)):=by obtain⟨bx,b0,e,_,hc⟩:=gX tr S;cases e;have:=hc n aa;rwa [Nat.zero_add] at this
   have W:(s1.td.take n).length=n:=by rw[bq];omega
   have ab:s1.td=s1.td.take n++[s1.td.getD n 0]:=by
    rw[aJ,aN aa];have:=List.take_add_one (l:=s1.td) (i:=n)
    rw[aN aa,List.take_of_length_le aa] at this
    exact this
   have o:=dw.mi.td (s1.td.getD n 0) (aL (getD_in aa))
   have B:=dw.mi.pop f.o.iv ab;obtain⟨i,hi⟩:=Int.eq_ofNat_of_zero_le o.1;have ag:cz c.s.T i:=dw.mi.al i (by have:=o.2;rwa [hi] at this)
   obtain⟨g2,aR⟩:=g.todo (cS:=.slice (au b) n cap) (t:=s1.td.take n) (by rw[W,List.map_take];exact sW tr n aa) (fun k e=>g.tw k e) aa;have aV:=dw.mm;have b1:=f.o.t;have a0:i8 c {s1 with td:=s1.td.take n}:=⟨dw.mi.len,fun x v hv a1=>dw.mi.hv f.o.iv x v hv a1,fun x=>by have:=dw.hl x;dsimp only;omega,by dsimp only;omega⟩
   rw[hi] at o B ab;have ai:cw s1.A i:=by simpa using o.2
   have hb:=AE (T:=c.s.T) (wt:=c.s.wt) (s:={s1 with td:=s1.td.take n}) dw.hl i;have a2:i8 c (gG c.s.T c.s.wt {s1 with td:=s1.td.take n} i):=⟨(IF _).trans dw.mi.len,IE B f.o.iv ag,fun x=>by have al:=hb.1 x;have p:=hb.2;dsimp only at p;omega,by have p:=hb.2;dsimp only at p;omega⟩
   have a3:=IC f.o g2 a0 i a2 aa (by simpa using ai) (by simpa using ag)
   have q:=hide (B.look f.o.iv ai)
   have ba:aA (∀x,((gS c.s.T c.s.wt {s1 with td:=s1.td.take n} i).hd x).length<=(gS c.s.T c.s.wt {s1 with td:=s1.td.take n} i).m):=ID (s:={s1 with td:=s1.td.take n}) dw.hl i;have bb:=hide (t.trans aR)
   have bd:=c7 hn W;have u:=gM up aV an;rw[hi] at aF;rw[hn] at ao aB⊢;have b2:=ap 2;generalize gS c.s.T c.s.wt {s1 with td:=s1.td.take n} i=j at*;go_wp2_with fail;refine a3.mono ?_;rintro e b3 ⟨be,bg,bi,bl,bn,rfl,g4,bo⟩
   obtain⟨_,_,bp,_⟩:=g4.cells;obtain⟨b4,b5,br⟩:=eN g4.tr;rw[br] at bp;have bs:=q.o.td;have b6:=bd.o;dsimp only at bs;have b9:1<=gk:=by have:=u.o.2.2;omega
   have bt:aA (_/\_/\gn c.s.T c.s.wt is j/\(∀k,cw st.A k->cw j.A k)/\j.td.length+cnt j.A<=gk-1):=⟨g4,bb.o.trans bo,⟨q.o.mi,ba.o,by have al:=q.o.mm;have p:=u.o.2.1;dsimp only at al;omega⟩,fun k hk=>q.o.up k (u.o.1 k hk),by have:=u.o.2.2;omega⟩
   go_wp2_with fail
   go_roundg (gk-1)
   case measure=>omega
   exact⟨be,bg,bi,bl,bn,j,rfl,bt⟩
  ·have am:s1.td=[]:=List.eq_nil_of_length_eq_zero aa;rw[am];go_wp2_with fail;go_end0;obtain⟨g,t,dw,up,_⟩:=N.o;exact⟨own',cS,n1',ee,hm',s1,rfl,g,t,dw,am,up⟩
end
theorem IG {q:List ce}{g:Int}{i:Nat}(hi:i<q.length)(e:(q.getD i (0,0)).1=g)(hn:∀e∈q.take i,¬e.1=g):dV g q=i:=by
 unfold dV;rw[List.findIdx_eq hi];refine⟨?_,fun j b=>?_⟩
 ·rw[aJ,aN hi] at e;simpa using e
 ·have:=hn (q[j]'aa) (by rw[List.mem_take_iff_getElem];exact⟨j,aa,rfl⟩)
  simpa using this
section
variable {b9 rb:Nat}{ch b_:Int}{l:gU}{F:Nat->Prop}{s:cn}{w w':az}
theorem dN.side (h:dN b9 ch b_ l s w){r q:List ce}{a0 a1:Option Addr}{k0 k1:Nat}(f:fF w' l.bp a0 k0 a1 k1 r q)(fr:Fr (fun k=>k=l.bp) w w')
 (n0:∀k,some k=(Value.slice a0 r.length k0).ownBlock->l.own k=5\/w.heap.size<=k)(n1:∀k,some k=(Value.slice a1 q.length k1).ownBlock->l.own k=6\/w.heap.size<=k)
 (j:∀k,w.heap.size<=k->some k=(Value.slice a0 r.length k0).ownBlock->some k≠(Value.slice a1 q.length k1).ownBlock):
 ∃d,dN b9 ch b_ d {s with rg:=r,wt:=q} w'/\(∀b,d.own b≠0->l.own b≠0\/w.heap.size<=b)/\d.fm=l.fm/\d.rb=l.rb:=by
 refine⟨{l with own:=fun b=>if w.heap.size<=b then(if some b=(Value.slice a0 r.length k0).ownBlock then 5 else if some b=(Value.slice a1 q.length k1).ownBlock then 6 else 0) else l.own b,a0:=a0,k0:=k0,a1:=a1,k1:=k1},?_,?_,rfl,rfl⟩
 ·have ho:∀b,l.own b≠0->¬w.heap.size<=b:=fun b hb=>by have:=h.lt b hb;omega
  have he:∀b,l.own b≠0->(if w.heap.size<=b then(if some b=(Value.slice a0 r.length k0).ownBlock then 5 else if some b=(Value.slice a1 q.length k1).ownBlock then 6 else 0) else l.own b)=l.own b:=fun b hb=>(by grind)
  have hk:∀b,l.own b≠0->l.own b≠3->_=_:=fun b hb g=>fr.block b (by grind) (fun c=>g (by rw[c];exact h.g3.so))
  refine {blk:=(by grind [bo,blk]),bo:=?_,g2:=?_,g3:=?_,g4:=?_,lt:=?_}
  ·grind [bo]
  ·exact {
    mp:=h.g2.mp.same (hk _ (by rw[h.g2.dw];decide) (by rw[h.g2.dw];decide)),mn:=h.g2.mn,dw:=(he _ (by rw[h.g2.dw];decide)).trans h.g2.dw
    fl:=fun i hi=>cL (h.g2.fl i hi) (fun k e=>hk k (by rw[h.g2.e3 i hi k e];omega) (by rw[h.g2.e3 i hi k e];omega))
    e3:=fun i hi k e=>(he k (by rw[h.g2.e3 i hi k e];omega)).trans (h.g2.e3 i hi k e),fw:=h.g2.fw,al:=h.g2.al}
  ·refine {sd:=f,so:=(he _ (by rw[h.g3.so];decide)).trans h.g3.so,ro:=fun k e=>?_,mB:=fun k e=>?_}
   all_goals grind
  ·exact {rt:=(by grind [G4.ro,g4,G4.rt]),rl:=h.g4.rl,ro:=(he _ (by rw[h.g4.ro];decide)).trans h.g4.ro}
  ·intro b hb;dsimp only at hb;by_cases c:w.heap.size<=b
   ·rw[aK c] at hb;by_cases c1:some b=(Value.slice a0 r.length k0).ownBlock
    ·exact(cu f.r0 b c1).2
    ·rw[aI c1] at hb;by_cases c2:some b=(Value.slice a1 q.length k1).ownBlock
     ·exact(cu f.q0 b c2).2
     grind
   grind [Fr.size,aO]
 grind
theorem Io {c:gU}{d:cn}(h:dN b9 ch b_ c d w')(f:c.rb=rb)(g:∀b,F b↔l.own b≠0)(fr:Fr (fun b=>l.own b≠0) w w')(ho:∀b,c.own b≠0->l.own b≠0\/w.heap.size<=b):∃e,(cE b9 ch b_ rb).J e d w'/\cg F w e w':=
 ⟨fun b=>c.own b≠0,⟨c,h,f,fun _=>Iff.rfl⟩,(by grind [Fr.mono]),fun b hb=>(by grind)⟩
theorem IH (h:(cE b9 ch b_ rb).J F s w)(g z:Int)(h0:s.rg.length<=90000)(f:s.wt.length<=90000):∃bp,w.cell? (av b9 5)=some (aq bp)/\
 Calls prog 49 #[aq bp,.agg #[ak g,ak z]] w fun e w'=>∃F',e=.returned (.bool (!j6 (s.rg.length+s.wt.length)))/\(cE b9 ch b_ rb).J F' (if 24<=s.rg.length+s.wt.length then s else {s with rg:=s.rg++[(g,z)]}) w'/\cg F w F' w'/\w'.heap[b9]?=w.heap[b9]?:=by
 obtain⟨l,h,hrb,hF⟩:=h;obtain⟨_,_,_,_,_,c5,_,_,rC⟩:=h.cells;refine⟨l.bp,c5,(yk w l.bp l.a0 l.a1 l.k0 l.k1 s.rg s.wt g z h.g3.sd h0 f).mono ?_⟩
 rintro e w' ⟨rfl,⟨d,hb⟩|⟨d,b1,c1,i,hn,fr⟩⟩
 ·rw[aK d];exact⟨F,rfl,⟨l,h.below hb,hrb,hF⟩,cg.of hb,hb.block b9 rC⟩
 ·rw[aI d];obtain⟨n,g1,g2,_,g4⟩:=h.side i fr (fun k e=>aL (by cases e;omega)) (fun k e=>aM (h.g3.mB k e)) (fun k hk e m=>by have:=(cu h.g3.sd.q0 k m).2;omega)
  exact Az
theorem II (h:(cE b9 ch b_ rb).J F s w)(g:Int)(d:s.wt.length<=90000):∃bp,w.cell? (av b9 5)=some (aq bp)/\
 Calls prog 194 #[aq bp,ak g] w fun e w'=>∃F',e=.returned (.tuple #[ak (if dV g s.wt<s.wt.length then(s.wt.getD (dV g s.wt) (0,0)).2 else 0),.bool (decide (dV g s.wt<s.wt.length))])/\
  (cE b9 ch b_ rb).J F' (if dV g s.wt<s.wt.length then {s with wt:=s.wt.take (dV g s.wt)++s.wt.drop (dV g s.wt+1)} else s) w'/\cg F w F' w'/\w'.heap[b9]?=w.heap[b9]?:=by
 obtain⟨l,h,hrb,hF⟩:=h;obtain⟨_,_,_,_,_,c5,_,_,rC⟩:=h.cells;refine⟨l.bp,c5,(zV w l.bp l.a0 l.a1 l.k0 l.k1 s.rg s.wt g h.g3.sd d).mono ?_⟩
 rintro e w' (⟨rfl,hn,hb⟩|⟨i,b1,c1,rfl,hi,f,hn,m,hz,fr⟩)
 ·have hp:¬dV g s.wt<s.wt.length:=by grind [dV]
  rw[aI hp,aI hp,bB hp];exact⟨F,rfl,⟨l,h.below hb,hrb,hF⟩,cg.of hb,hb.block b9 rC⟩
 ·rw[(IG hi f hn),aK hi,aK hi,bm hi];obtain⟨n,g1,g2,_,g4⟩:=h.side m fr (fun k e=>aM (h.g3.ro k e)) (fun k e=>aL (by
   cases b1 with
   |none=>cases e
   |some z=>cases e;grind)) (fun k hk e o=>by
   have:=(cu h.g3.sd.r0 k e).2;omega)
  exact Az
theorem dx.set2 {d:Type}(o:dx d){t:d}{b:Nat}(h:o.J F t w)(hn:¬F b)(v1 v2:Value):o.J F t ((w.setCell ⟨b,0,none⟩ v1).setCell ⟨b,1,none⟩ v2):=
 o.fr h (((Fr.refl (fun k=>k=b) w).set b _ _ rfl).set b _ _ rfl) (fun k hk c=>hn (by rw[<-c];exact hk))
theorem cg.set2 {d:Nat->Prop}{b:Nat}(t:cg F w d w')(hb:w.heap.size<=b)(v1 v2:Value):cg F w d ((w'.setCell ⟨b,0,none⟩ v1).setCell ⟨b,1,none⟩ v2):=
 ⟨t.fr.trans (((Fr.refl (fun k=>k=b) w').set b _ _ rfl).set b _ _ rfl) (fun k c=>aL (by rw[c];exact hb)),t.sub⟩
theorem IJ (h:(cE b9 ch b_ rb).J F s w)(t p:Int×Int)(ht:t.1=3->0<=t.2/\cz s.T t.2.toNat)(hd:p.1=3->0<=p.2/\cz s.T p.2.toNat)(B:s.T.length<=10000)(h0:s.rg.length<=90000)(ag:s.wt.length<=90000):
 Calls prog 132 #[aq b9,.agg #[ak t.1,ak t.2],.agg #[ak p.1,ak p.2]] w fun e w'=>∃f,e=.returned (ak (s.reg t p).1)/\(cE b9 ch b_ rb).J f (s.reg t p).2 w'/\cg F w f w':=by
 obtain⟨ai,b⟩:=t;obtain⟨g,d⟩:=p;have b1:Below w.heap.size w ((w.alloc (.cells #[.int .i64 ai,.int .i64 b] 97)).alloc (.cells #[.int .i64 g,.int .i64 d] 97)):=(b8.alloc b7 _).alloc ac _;have N:aA ((cE b9 ch b_ rb).J F s w):=h;have u:aA (∀w1,Below w.heap.size w w1->Calls prog 200 #[aq b9,.agg #[ak g,ak d]] w1 fun e w'=>e=.returned (.bool (iO s.T (g,d)))/\Below w1.heap.size w1 w'):=fun w1 hb=>by obtain⟨l,h,aV,a0⟩:=N.o;exact Ar (h.below hb) (g,d) hd B
 have m:aA (∀w1,Below w.heap.size w w1->∃bp,w1.cell? (av b9 5)=some (aq bp)/\Calls prog 49 #[aq bp,.agg #[ak d,ak b]] w1 fun e w'=>∃f,e=.returned (.bool (!j6 (s.rg.length+s.wt.length)))/\
  (cE b9 ch b_ rb).J f (if 24<=s.rg.length+s.wt.length then s else {s with rg:=s.rg++[(d,b)]}) w'/\cg F w f w'/\∀a:Addr,a.block=b9\/(w.heap.size<=a.block/\a.block<w1.heap.size)->w'.cell? a=w1.cell? a):=fun w1 hb=>by
  obtain⟨bp,c5,P⟩:=IH ((cE b9 ch b_ rb).below N.o hb) d b h0 ag;refine⟨bp,c5,P.mono ?_⟩
  rintro e w' ⟨f,rfl,j,t,hg⟩
  refine⟨f,rfl,j,(cg.of hb).trans t,fun a ha=>aQ ?_⟩
  rcases ha with e|⟨a1,a2⟩
  ·rw[e];exact hg
  ·exact t.fr.block _ a2 (fun c=>by have:=(cE b9 ch b_ rb).lt N.o _ c;omega)
 unfold cn.reg;by_cases an:ai=3
 ·subst an;have P:Calls prog 199 #[aq b9,.agg #[ak 3,ak b]] ((w.alloc (.cells #[.int .i64 3,.int .i64 b] 97)).alloc (.cells #[.int .i64 g,.int .i64 d] 97)) fun e w'=>∃k ad n c,e=.returned (.tuple #[.agg #[ak k,.slice ad n c],.bool true])/\Below w.heap.size w (w'.alloc (.cells #[.int .i64 k,.slice ad n c] 220))/\
   (w'.alloc (.cells #[.int .i64 k,.slice ad n c] 220)).heap[w.heap.size]?=some (.cells #[ak 3,ak b] 97 (0,0))/\(w'.alloc (.cells #[.int .i64 k,.slice ad n c] 220)).heap[w.heap.size+1]?=some (.cells #[ak g,ak d] 97 (0,0)):=by
   obtain⟨l,h,aV,a0⟩:=h;refine(rx (h.below b1) b (ht rfl) B).mono ?_;rintro e w' ⟨rfl,hb⟩
   have ap:=b1.trans (hb.mono b1.size)
   have v:=(hb.block w.heap.size (by simp;omega)).trans ((aS _ _ _ ac).trans (aP w (.cells #[.int .i64 3,.int .i64 b] 97)))
   have o:=(hb.block (w.heap.size+1) ac).trans (gb w (.cells #[.int .i64 3,.int .i64 b] 97) (.cells #[.int .i64 g,.int .i64 d] 97))
   exact⟨_,_,_,_,rfl,ap.alloc ap.size _,(aS _ _ _ (lt_of_some v)).trans v,(aS _ _ _ (lt_of_some o)).trans o⟩
  cases hg:iO s.T (g,d)
  ·rw[aI (fun c=>by cases c.2)];rw[hg] at u;clear h ht hd B h0 ag m hg;go_enter func132,ntmps132;go_wp2_with fail;refine P.mono ?_;clear P;rintro e w1 ⟨k,ad,n,c,rfl,hb,v,o⟩
   have S:=u.o _ hb;obtain⟨q0,q1,_,_⟩:=dq o;have q:aA (_):=hb;clear hb u v o b1;go_wp2_with fail;refine S.mono ?_;clear S;rintro e al ⟨rfl,i⟩
   have i:=q.o.trans (i.mono q.o.size)
   have W:aA ((cE b9 ch b_ rb).J F s al/\cg F w F al):=⟨(cE b9 ch b_ rb).below N.o i,cg.of i⟩
   clear i q0 q1;go_wp2_with fail;go_ret;exact⟨F,rfl,W.o.1,W.o.2⟩
  ·rw[aK ⟨rfl,rfl⟩];rw[hg] at u;have key:∀(fb:Bool)(cd:Int)(s2:cn),(cd=if fb=true then 3 else 0)->aA (∀w1,Below w.heap.size w w1->∃bp,w1.cell? (av b9 5)=some (aq bp)/\Calls prog 49 #[aq bp,.agg #[ak d,ak b]] w1 fun e w'=>∃f,e=.returned (.bool (!fb))/\(cE b9 ch b_ rb).J f s2 w'/\cg F w f w'/\∀a:Addr,a.block=b9\/(w.heap.size<=a.block/\a.block<w1.heap.size)->w'.cell? a=w1.cell? a)->
    Calls prog 132 #[aq b9,.agg #[ak 3,ak b],.agg #[ak g,ak d]] w fun e w'=>∃f,e=.returned (ak cd)/\(cE b9 ch b_ rb).J f s2 w'/\cg F w f w':=by
    intro fb cd s2 a3 m;clear h ht hd B h0 ag hg;cases fb<;>subst a3
    all_goals
     go_enter func132,ntmps132;go_wp2_with fail;refine P.mono ?_;clear P;rintro e w1 ⟨k,ad,n,c,rfl,hb,v,o⟩
     have S:=u.o _ hb;obtain⟨q0,q1,_,_⟩:=dq o;have q:aA (_):=hb;have ab:aA (_/\_):=⟨v,o⟩
     clear hb u v o b1;go_wp2_with fail;refine S.mono ?_;clear S;rintro e al ⟨rfl,i⟩
     have ar:=q.o.trans (i.mono q.o.size)
     obtain⟨bp,c5,aB⟩:=m.o _ ar.drew;obtain⟨_,y1,_,l1⟩:=dq ((i.block _ (lt_of_some ab.o.1)).trans ab.o.1)
     obtain⟨_,aF,_,l2⟩:=dq ((i.block _ (lt_of_some ab.o.2)).trans ab.o.2)
     have c5:al.cell? (av b9 5)=some (aq bp):=c5;clear i ar q0 q1 ab m;go_wp2_with fail
     go_region_held3 (fun w'=>w'.cell? (av b9 5)=some (aq bp)/\w'.cell? (av w.heap.size 1)=some (ak b)/\w'.cell? (av (w.heap.size+1) 1)=some (ak d)) (go_keep)
      (first|(go_at_call 49;refine aB.mono ?_;clear aB;rintro e aR ⟨ao,rfl,cH,t3,am⟩;have W:aA ((cE b9 ch b_ rb).J ao s2 aR/\cg F w ao aR):=⟨cH,t3⟩;have ba:=(am ⟨b9,5,none⟩ (aM rfl)).trans c5;have bb:=(am ⟨w.heap.size,1,none⟩ (aL ⟨aG _,l1⟩)).trans y1;have bd:=(am ⟨w.heap.size+1,1,none⟩ (aL ⟨Nat.le_succ _,l2⟩)).trans aF;clear cH t3 c5 y1 aF am))
     all_goals
      go_wp2_with fail;go_ret;exact⟨rfl,ao,W.o.1,W.o.2⟩
   by_cases x:24<=s.rg.length+s.wt.length
   ·rw[aK x];simp only [if_pos x,qE x] at m;exact key true 3 s rfl m
   ·rw[aI x];simp only [if_neg x,qF x] at m;exact key false 0 _ rfl m
 ·rw[aI (fun c=>an c.1)];have P:=uA (b9:=b9) (w:=(w.alloc (.cells #[.int .i64 ai,.int .i64 b] 97)).alloc (.cells #[.int .i64 g,.int .i64 d] 97)) (ai,b) an;clear h ht hd B h0 ag u m;go_enter func132,ntmps132;go_wp2_with fail;refine P.mono ?_;clear P;rintro e w1 ⟨rfl,hb⟩
  have q:aA (Below w.heap.size w w1):=b1.trans (hb.mono b1.size)
  clear hb b1;go_wp2_with fail;go_ret;have hb:=q.o.alloc q.o.size (.cells #[.int .i64 0,.slice none 0 0] 220)
  exact⟨F,rfl,(cE b9 ch b_ rb).below N.o hb,cg.of hb⟩
theorem IK (h:(cE b9 ch b_ rb).J F s w)(v:Int×Int)(hv:v.1=3->0<=v.2/\cz s.T v.2.toNat)(B:s.T.length<=10000)(N:s.wt.length<=90000):
 Calls prog 207 #[aq b9,.agg #[ak v.1,ak v.2]] w fun e w'=>∃d,e=.returned (.tuple #[.agg #[ak (s.pop v).1.1,ak (s.pop v).1.2],ak (s.pop v).2.1])/\(cE b9 ch b_ rb).J d (s.pop v).2.2 w'/\cg F w d w':=by
 obtain⟨k,x⟩:=v;have b1:Below w.heap.size w ((w.alloc (.cells #[.int .i64 k,.int .i64 x] 97)).alloc (.cells #[.int .i64 0,.int .i64 0] 97)):=(b8.alloc b7 _).alloc ac _;have S:aA ((cE b9 ch b_ rb).J F s w):=h;have P:Calls prog 200 #[aq b9,.agg #[ak k,ak x]] ((w.alloc (.cells #[.int .i64 k,.int .i64 x] 97)).alloc (.cells #[.int .i64 0,.int .i64 0] 97)) fun e w'=>e=.returned (.bool (iO s.T (k,x)))/\Below w.heap.size w w'/\
  w'.heap[w.heap.size]?=some (.cells #[ak k,ak x] 97 (0,0))/\w'.heap[w.heap.size+1]?=some (.cells #[ak 0,ak 0] 97 (0,0)):=by
  obtain⟨l,h,aV,a0⟩:=h;refine(Ar (h.below b1) (k,x) hv B).mono ?_;rintro e w' ⟨rfl,hb⟩
  exact⟨rfl,b1.trans (hb.mono b1.size),(hb.block w.heap.size (by simp;omega)).trans ((aS _ _ _ ac).trans (aP w _)),(hb.block (w.heap.size+1) ac).trans (gb w _ _)⟩
 have f:aA (∀w1,Below w.heap.size w w1->∃bp,w1.cell? (av b9 5)=some (aq bp)/\Calls prog 194 #[aq bp,ak x] w1 fun e w'=>∃d,e=.returned (.tuple #[ak (if dV x s.wt<s.wt.length then(s.wt.getD (dV x s.wt) (0,0)).2 else 0),.bool (decide (dV x s.wt<s.wt.length))])/\
  (cE b9 ch b_ rb).J d (if dV x s.wt<s.wt.length then {s with wt:=s.wt.take (dV x s.wt)++s.wt.drop (dV x s.wt+1)} else s) w'/\cg F w1 d w'/\∀b,b=b9\/(w.heap.size<=b/\b<w1.heap.size)->w'.heap[b]?=w1.heap[b]?):=fun w1 hb=>by
  obtain⟨bp,c5,P⟩:=II ((cE b9 ch b_ rb).below S.o hb) x N;refine⟨bp,c5,P.mono ?_⟩
  rintro e w' ⟨d,rfl,j,t,hg⟩
  refine⟨d,rfl,j,t,fun a ha=>?_⟩
  rcases ha with e|⟨a1,a2⟩
  ·rw[e];exact hg
  ·exact t.fr.block _ a2 (fun c=>by have:=(cE b9 ch b_ rb).lt S.o _ c;omega)
 unfold cn.pop;cases hg:iO s.T (k,x)
 ·rw[aI ae];rw[hg] at P;clear h hv B N f hg b1;go_enter func207,ntmps207;go_wp2_with fail;refine P.mono ?_;clear P;rintro e w1 ⟨rfl,hb,o,n⟩
  obtain⟨W,ab,ad,lw⟩:=dq n;have m:aA (_=_):=n;have ag:aA (_):=hb;clear hb o n;go_wp2_with fail;obtain⟨r0,r1,_,_⟩:=dq (gN (v1:=ak 0) (v2:=ak 0) m.o)
  have hb:Below w.heap.size w ((w1.setCell ⟨w.heap.size+1,0,none⟩ (.int .i64 0)).setCell ⟨w.heap.size+1,1,none⟩ (.int .i64 0)):=(ag.o.setCell ac _).setCell ac _;exact a5 (v:=.tuple #[.agg #[ak 0,ak 0],ak 2]) (by simp[results,results207,go_sem,r0,r1]) rfl ⟨F,rfl,(cE b9 ch b_ rb).below S.o hb,cg.of hb⟩
 ·rw[aK rfl];rw[hg] at P;have key:∀(fb:Bool)(z:Int)(s2:cn),(∀w1,Below w.heap.size w w1->∃bp,w1.cell? (av b9 5)=some (aq bp)/\Calls prog 194 #[aq bp,ak x] w1 fun e w'=>∃d,e=.returned (.tuple #[ak z,.bool fb])/\
   (cE b9 ch b_ rb).J d s2 w'/\cg F w1 d w'/\∀b,b=b9\/(w.heap.size<=b/\b<w1.heap.size)->w'.heap[b]?=w1.heap[b]?)->
   Calls prog 207 #[aq b9,.agg #[ak k,ak x]] w fun e w'=>∃d,e=.returned (.tuple #[.agg #[ak (if fb=true then 3 else 0),ak (if fb=true then z else 0)],ak (if fb=true then 0 else 4)])/\(cE b9 ch b_ rb).J d s2 w'/\cg F w d w':=by
   intro fb z s2 f;have f:aA (∀w1,Below w.heap.size w w1->∃bp,w1.cell? (av b9 5)=some (aq bp)/\Calls prog 194 #[aq bp,ak x] w1 fun e w'=>∃d,e=.returned (.tuple #[ak z,.bool fb])/\
    (cE b9 ch b_ rb).J d s2 w'/\cg F w1 d w'/\∀b,b=b9\/(w.heap.size<=b/\b<w1.heap.size)->w'.heap[b]?=w1.heap[b]?):=f
   have ap:aA (∀b,F b->b<w.heap.size):=fun b hb=>(cE b9 ch b_ rb).lt h b hb;clear h hv B N hg b1;rename_i ar aB;clear ar aB;cases fb
   all_goals
    go_enter func207,ntmps207;go_wp2_with fail;refine P.mono ?_;clear P;rintro e w1 ⟨rfl,hb,o,n⟩
    obtain⟨_,y1,_,l1⟩:=dq o;obtain⟨bp,c5,al⟩:=f.o _ hb.drew;have c5:w1.cell? (av b9 5)=some (aq bp):=c5;have ag:aA (_):=hb;have p:aA (_=_):=n;clear hb o n f;go_wp2_with fail
    go_region_held3 (fun w'=>w'.cell? (av b9 5)=some (aq bp)/\w'.cell? (av w.heap.size 1)=some (ak x)) (go_keep)
     (first|(go_at_call 194;refine al.mono ?_;clear al;rintro e am ⟨i,rfl,cH,t3,q⟩;have an:¬i (w.heap.size+1):=(fun c=>(t3.sub _ c).elim (fun c=>by have:=ap.o _ c;omega) (fun c=>by have:=lt_of_some p.o;have c:w1.heap.size<=_:=c;omega));have g:aA ((cE b9 ch b_ rb).J i s2 am/\cg F w i am/\¬i (w.heap.size+1)):=⟨cH,(cg.of ag.o.drew).trans t3,an⟩;have aF:=(aQ (a:=⟨b9,5,none⟩) (q b9 (aM rfl))).trans c5;have aR:=(aQ (a:=⟨w.heap.size,1,none⟩) (q w.heap.size (aL ⟨aG _,l1⟩))).trans y1;have ai:=(q (w.heap.size+1) (aL ⟨Nat.le_succ _,lt_of_some p.o⟩)).trans p.o;obtain⟨W,ab,ad,lw⟩:=dq ai;have m:aA (_=_):=ai;clear cH t3 c5 y1 q ai an))
    all_goals
     clear aF aR p;go_wp2_with fail
     first
      |(
       obtain⟨r0,r1,_,_⟩:=dq (gN (v1:=ak 0) (v2:=ak 0) m.o)
       exact a5 (v:=.tuple #[.agg #[ak 0,ak 0],ak 4]) (by simp[results,results207,go_sem,r0,r1]) rfl ⟨rfl,i,dx.set2 _ g.o.1 g.o.2.2 _ _,g.o.2.1.set2 (Nat.le_succ _) _ _⟩)
      |(
       refine(oG _ _).mono ?_;rintro e ao ⟨rfl,u⟩
       have m:aA (_=_):=(u.block _ lw).trans m.o;have g:aA ((cE b9 ch b_ rb).J i s2 ao/\cg F w i ao/\¬i (w.heap.size+1)):=⟨(cE b9 ch b_ rb).below g.o.1 u,g.o.2.1.below u,g.o.2.2⟩
       clear u W ab ad lw;obtain⟨W,ab,ad,lw⟩:=dq m.o;go_wp2_with fail;obtain⟨r0,r1,_,_⟩:=dq (gN (v1:=ak 3) (v2:=ak z) m.o)
       exact a5 (v:=.tuple #[.agg #[ak 3,ak z],ak 0]) (by simp[results,results207,go_sem,r0,r1]) rfl ⟨rfl,i,dx.set2 _ g.o.1 g.o.2.2 _ _,g.o.2.1.set2 (Nat.le_succ _) _ _⟩)
  have f:=f.o;by_cases hi:dV x s.wt<s.wt.length
  ·rw[aK hi];simp only [if_pos hi,decide_eq_true hi] at f;exact key true _ _ f
  ·rw[aI hi];simp only [if_neg hi,decide_eq_false hi] at f;exact key false _ _ f
theorem IL (h:(cE b9 ch b_ rb).J F s w)(v y:Int×Int)(i:Int)(hv:v.1=3->0<=v.2/\cz s.T v.2.toNat)(m:s.T.length<=10000)(B:∀i,(s.T.getD i t0).2.1.length<=12):
 Calls prog 133 #[aq b9,.agg #[ak v.1,ak v.2],ak i,.agg #[ak y.1,ak y.2]] w fun e w'=>∃f,e=.returned (ak (s.set v i y).1)/\(cE b9 ch b_ rb).J f (s.set v i y).2 w'/\cg F w f w':=by
 obtain⟨l,h,u,o⟩:=h;have no:∀c:Int,c≠0->s.fc v i=c->(∀w',Below w.heap.size w w'->Calls prog 201 #[aq b9,.agg #[ak v.1,ak v.2],ak i] w' fun e N=>e=.returned (.tuple #[.agg #[ak 0,ak 0],ak c])/\Below w'.heap.size w' N)->
  Calls prog 133 #[aq b9,.agg #[ak v.1,ak v.2],ak i,.agg #[ak y.1,ak y.2]] w fun e w'=>∃f,e=.returned (ak (s.set v i y).1)/\(cE b9 ch b_ rb).J f (s.set v i y).2 w'/\cg F w f w':=fun c hc p P=>by
  refine(Ij v y i c hc P).mono ?_;rintro e w' ⟨rfl,hb⟩
  unfold cn.set;rw[p,aI hc];exact⟨F,rfl,⟨l,h.below hb,u,o⟩,cg.of hb⟩
 by_cases q:v.1=3/\(s.T.getD v.2.toNat t0).1≠5
 ·obtain⟨d,j⟩:=q;have hd:kJ s.T v=true:=jL.2 ⟨d,j⟩
  have t:=hv d;clear hv;obtain⟨k,x⟩:=v;dsimp only at d j t no⊢;subst d;by_cases hi:i<0\/((s.T.getD x.toNat t0).2.1.length:Int)<=i
  ·exact no 1 ae (by unfold cn.fc;rw[aK hd,aK hi]) (fun w' hb=>Av (h.below hb) x i t m j hi)
  ·have p:s.fc (3,x) i=0:=by unfold cn.fc;rw[aK hd,aI hi]
   obtain⟨n,rfl⟩:=Int.eq_ofNat_of_zero_le (a:=i) aa;have hn:n<(s.T.getD x.toNat t0).2.1.length:=aa;refine(Ii h x n y t m j hn (aO hn (B _))).mono ?_;rintro e w' ⟨rfl,g,fr⟩
   unfold cn.set;rw[p,aK rfl];exact⟨F,rfl,⟨l,g,u,o⟩,fr.mono (fun b hb=>(o b).2 hb),fun b hb=>aM hb⟩
 ·exact no 2 ae (by unfold cn.fc;rw[aI (fun c=>q (jL.1 c))]) (fun w' hb=>Au (h.below hb) v i hv m (fun d=>Classical.byContradiction (fun c=>q ⟨d,c⟩)))
end
def eS (f:Nat->Int):Nat->Int
 |0=>0
 |n+1=>eS f n+f n
theorem nI {f g:Nat->Int}:∀n,(∀i,i<n->f i=g i)->eS f n=eS g n
 |0,_=>rfl
 |n+1,h=>by rw[eS,eS,nI n (fun i hi=>h i aa),h n aa]
theorem uI:∀n,eS (fun _=>0) n=0
 |0=>rfl
 |n+1=>by rw[eS,uI n];rfl
theorem AG {f g:Nat->Int}{k:Nat}(b:∀i,i≠k->f i=g i):∀n,k<n->eS g n=eS f n+(g k-f k)
 |0,h=>by omega
 |n+1,h=>by
  rw[eS,eS];by_cases e:k=n
  ·subst e;rw[nI k (fun i hi=>b i aa)];omega
  ·rw[AG b n aa,b n aa];omega
theorem AH {f:Nat->Int}(h:∀i,0<=f i/\f i<=13):∀n,0<=eS f n/\eS f n<=13*n
 |0=>⟨Int.le_refl _,Int.le_refl _⟩
 |n+1=>by have b:=AH h n;have c:=h n;rw[eS];omega
def jm (T:List cI)(i:Nat):Int:=if(T.getD i t0).2.2.2=true then 0 else if(T.getD i t0).2.2.1=true then 0 else 1+(T.getD i t0).2.1.length
def jn (T:List cI)(i:Nat):Int:=if(T.getD i t0).2.2.2=true then 0 else if(T.getD i t0).2.2.1=true then 1+(T.getD i t0).2.1.length else 0
theorem IM (T:List cI):ey T=(eS (jm T) T.length,eS (jn T) T.length):=by
 have key:∀n,n<=T.length->ey (T.take n)=(eS (jm T) n,eS (jn T) n):=fun n=>by
  induction n with
  |zero=>intro _;rfl
  |succ n b=>
   intro hn;have e:T.take (n+1)=T.take n++[T.getD n t0]:=by rw[List.take_add_one,aJ,aN aa];rfl
   rw[e,yh,b aa,eS,eS];unfold jc jm jn;split
   ·simp
   ·split
    ·simp
    ·simp
 have:=key T.length b7
 rwa [List.take_of_length_le b7] at this
theorem AI (T:List cI)(L:List Bool):∀n,iN T L n=eS (fun i=>if L.getD i false=true then 1+(T.getD i t0).2.1.length else 0) n
 |0=>rfl
 |n+1=>by rw[eS,<-AI T L n,iN];split<;>simp
def gJ (left:Int->Bool)(f:Nat->Int)(i:Nat):Int:=if left i=true then 0 else f i
theorem uJ (left:Int->Bool)(f:Nat->Int)(k n:Nat)(hk:k<n)(hl:left k=true):eS (gJ (fun y=>left y&&!(y==(k:Int))) f) n=eS (gJ left f) n+f k:=by
 have h:=AG (f:=gJ left f) (g:=gJ (fun y=>left y&&!(y==(k:Int))) f) (fun i hi=>by
  unfold gJ;have:((i:Int)==(k:Int))=false:=by simp;omega
  simp[this]) n hk
 rw[h];unfold gJ;rw[aK hl,aI ac];omega
theorem rF {f:Nat->Int}(left:Int->Bool)(h:∀i,0<=f i/\f i<=13)(n:Nat):0<=eS (gJ left f) n/\eS (gJ left f) n<=13*n:=AH (fun i=>by
 unfold gJ;split
 ·omega
 ·exact h i) n
end Go.Proofs.YtpkjkjhanlbcoaaGreat
