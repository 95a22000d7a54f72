import Derived.Test.YtpkjkjhanlbcoaaGreatJ17
open Array renaming size->I
open Bool renaming false->K,true->D
open Classical renaming byContradiction->mg
open Go renaming Addr->bG,Calls->J,Value->bD
open Go.Ending renaming returned->M6
open Go.IntKind renaming i64->Q
open Go.Obj renaming cells->R
open Go.Proofs.Tryz renaming prog->O
open Go.RowKit renaming Below->C
open Go.Value renaming agg->bF,bool->bK,int->U,ownBlock->P,slice->M0,tuple->a8
open Go.World renaming alloc->bj,cell?->V,heap->G,ownsRow->aC,setCell->ay
open Iff renaming rfl->iy
open Int renaming eq_ofNat_of_zero_le->bH,le_refl->tF,toNat->M
open List renaming getD->X,length->L,mem_map->fo,mem_singleton->bQ,take_add_one->yw,take_of_length_le->p2
open Nat renaming le_succ->nC
open Option renaming none->Y,some->Z
open Option.some renaming inj->qo
namespace Go.Proofs.YtpkjkjhanlbcoaaGreat
set_option maxRecDepth 100000
set_option maxHeartbeats 4000000
open Tryz
open Go.RowKit W Kp cq
theorem Bo {P:Prop}(h:P:=by obtain⟨F',j,t⟩:=Jp g1 (g4.trans hrb) hF (fr.mono (fun b e=>by rw[e,h.g3.so];decide)) g2;exact⟨F',rfl,j,t,fr.block ce sa (fun c=>by have:=h.bo;rw[c,h.g3.so] at this;omega)⟩):P:=h
theorem Bp {P:Prop}(h:P:=by
 go_wp2_with fail;refine P2.mono ?_;rintro e w2 ⟨vp,vu,n12,n22,hm2,rfl,g2,t2⟩
 have HF:=c8 g2 t2;go_wp2_with fail;go_end0;exact⟨vp,vu,n12,n22,hm2,rfl,HF.o.1,HF.o.2⟩):P:=h
theorem Bq (w:az):(zeroValue 57).run O w=.ok (M0 Y 0 0) w:=ah
section
variable {c:Cp}{own own':Nat->Nat}{vt cT:bD}{n1 n2 n1' et:Nat}{hm hm':Int->Option bG×Nat}{st st':dE}{F:Nat->Prop}{w w':az}
abbrev vv (hd:Int->List (Int×Int))(hm:Int->Option bG×Nat)(x:Int):Value:=(hdF hd hm x).getD (M0 Y 0 0)
theorem Jq {hd:Int->List (Int×Int)}{x:Int}(h:hd x=[]):hdF hd hm x=Y:=by unfold hdF;rw[h];rfl
theorem Br {hd:Int->List _}{x:Int}(h:hd x≠[]):hdF hd hm x=Z (M0 (hm x).1 (L (hd x)) (hm x).2):=by unfold hdF;rw[aI (by simpa using h)]
theorem Jr (w:az):aC w 0 97 2 (M0 Y 0 0) 0 (ev []):=⟨rfl,aM ⟨rfl,rfl⟩⟩
theorem cZ.hrow (h:cZ c own vt n1 n2 hm st w)(x:Int):∃ad cap,vv st.hd hm x=M0 ad (st.hd x).length cap/\aC w 0 97 2 (M0 ad (st.hd x).length cap) (st.hd x).length (ev (st.hd x))/\(∀k,Z k=P (Value.slice ad (st.hd x).length cap)->own k=10+x.toNat):=by
 by_cases e:st.hd x=[]
 ·rw[vv,Jq e,e];exact⟨Y,0,rfl,Jr w,fun k e=>by cases e⟩
 ·rw[vv,Br e];exact⟨_,_,rfl,(h.hr x e).2,h.hro x e⟩
theorem Jt (k:cZ c own' cT n1' et hm' st' w')(e:∀b,F b↔b<I (G c.w0)\/own b≠0)(fr:Fr (fun b=>own b≠0) w w')(hn:∀b,own' b≠0->own b≠0\/I (G w)<=b):∃f,(r_ c).J f st' w'/\ch F w f w':=
 ⟨fun b=>b<I (G c.w0)\/own' b≠0,⟨own',cT,n1',et,hm',k,fun _=>iy⟩,fr.mono (fun b hb=>(e b).2 (aK hb)),fun b hb=>hb.elim (fun d=>aM ((e b).2 (aM d))) (fun d=>(hn b d).imp (fun d=>(e b).2 (aK d)) id)⟩
theorem cZ.hold {x:Int}{u:Int×Int}{b4 g:Nat}(h:cZ c own vt n1 n2 hm st w)(j:0<=x)(fr:Fr (fun b=>own b=4\/own b=10+M x) w w')(hM:eQ w' c.hb (n2+1) (j8 (hdF st.hd hm) x (M0 (au b4) (L (st.hd x)+1) g)))
 (i:aC w' 0 97 2 (M0 (au b4) (L (st.hd x)+1) g) (L (st.hd x)+1) (ev (st.hd x++[u])))(hb:own b4=10+M x\/I (G w)<=b4):
 ∃own',cZ c own' vt n1 (n2+1) (fun y=>if y=x then(au b4,g) else hm y) {st with hd:=fun y=>if y=x then st.hd y++[u] else st.hd y,m:=st.m+1} w'/\(∀b,own' b≠0->own b≠0\/I (G w)<=b):=by
 have he:∀b,own b≠0->(if I (G w)<=b then(if b=b4 then 10+M x else 0) else own b)=own b:=fun b hb=>aI (by have:=(h.lt b hb).2;omega)
 have hk:∀b,own b≠0->own b≠4->own b≠10+M x->_=_:=fun b h0 n o=>fr.block b (h.lt b h0).2 aa;have hs:=h.sz;refine⟨fun b=>if I (G w)<=b then(if b=b4 then 10+M x else 0) else own b,?_,fun b hb=>?_⟩
 ·refine {
   ol:=fun k l=>(fr.block k aa (fun cc=>?_)).trans (h.ol k l),sz:=aU h.sz fr.size,cb:=(hk _ (by rw[h.co];decide) (by rw[h.co];decide) (by rw[h.co];omega)).trans h.cb,co:=(he _ (by rw[h.co];decide)).trans h.co,am:=h.am.same (hk _ (by rw[h.ao];decide) (by rw[h.ao];decide) (by rw[h.ao];omega)),ao:=(he _ (by rw[h.ao];decide)).trans h.ao,an:=h.an
   tr:=cM h.tr (fun k e=>hk k (by rw[h.tw k e];decide) (by rw[h.tw k e];decide) (by rw[h.tw k e];omega)),tw:=fun k e=>(he k (by rw[h.tw k e];decide)).trans (h.tw k e),tn:=h.tn,hq:=?_,ho:=(he _ (by rw[h.ho];decide)).trans h.ho,hn:=by have:=h.hn;dsimp only;omega,hr:=fun y hy=>?_,hro:=fun y hy k e=>?_,lt:=fun b hb=>?_}
  ·have:=(h.lt k aa).1;omega
  ·refine(show j8 _ x _=hdF _ _ from ?_)▸hM
   funext y
   unfold j8;by_cases e:y=x
   ·subst e;rw[aJ rfl,Br ac];simp
   ·rw[aI e];unfold hdF;simp only [if_neg e]
  ·by_cases e:y=x
   ·subst e;simp only;exact⟨j,by simpa using i⟩
   ·simp only [if_neg e] at hy⊢;exact⟨(h.hr y hy).1,cM (h.hr y hy).2 (fun k d=>hk k (by rw[h.hro y hy k d];omega) (by rw[h.hro y hy k d];omega) (by have:=(h.hr y hy).1;rw[h.hro y hy k d];omega))⟩
  ·by_cases d:y=x
   ·subst d;simp only at e;cases e;show(if _ then _ else _)=_;rcases hb with f|f
    ·rw[aI (by have:=(h.lt b4 (by rw[f];omega)).2;simpa using this)];exact f
    ·rw[aJ f,aJ rfl]
   ·simp only [if_neg d] at hy e;exact(he k (by rw[h.hro y hy k e];omega)).trans (h.hro y hy k e)
  ·split at hb
   ·split at hb
    ·rename_i e;rw[e];exact⟨aa,(cv i b4 rfl).2⟩
    ·exact absurd rfl hb
   ·exact⟨(h.lt b hb).1,aO (h.lt b hb).2 fr.size⟩
 ·dsimp only at hb;split at hb
  ·exact aK ‹_›
  ·exact aM hb
theorem j9.one (h:cZ c own vt n1 n2 hm st w)(v:Int×Int):j9 own (bj w (R #[U Q v.1,U Q v.2] 97)) (au (I (G w))) [v]:=by
 obtain⟨d,f,_,lw⟩:=du (aP w (R #[U Q v.1,U Q v.2] 97))
 refine⟨fun _=>⟨I (G w),0,rfl,lw,fun i hi=>?_⟩,fun _ z e b=>?_⟩
 ·obtain rfl:i=0:=by simp at hi;exact hi
  exact⟨d,f⟩
 ·cases e;have:=(h.lt (I (G w)) (by rcases b with b|b|b<;>(dsimp only at b;omega))).2;omega
theorem Ju (hg:dS c.ce c.cj c.b_ c.l c.s c.w0)(l:L c.s.T<=10000)(m:L st.A=L c.s.T)(h:cZ c own vt n1 n2 hm st w)(k v:Int×Int)(hk:k.1=3->0<=k.2/\cA c.s.T (M k.2))(hv:v.1=3->0<=v.2/\cA c.s.T (M v.2))(hi:d_ st.A k=D):
 J O 255 #[aq c.cp,bF #[ak k.1,ak k.2],bF #[ak v.1,ak v.2]] w fun e w'=>∃own' cT n1',e=M6 (a8 #[])/\cZ c own' cT n1' n2 hm (ej st v) w'/\fV own w own' w':=by
 obtain⟨k0,k1⟩:=k;obtain⟨v0,v1⟩:=v;have b1:C (I (G w)) w (bj (bj w (R #[U Q k0,U Q k1] 97)) (R #[U Q v0,U Q v1] 97)):=(b9.alloc b8 _).alloc ac _;have P:=vo (h.below b1) (k0,k1) (fun d=>⟨(hk d).1,by have:=(hk d).2.1;omega⟩)
 rw[hi] at P;have n:aA (∀w1,C (I (G w)) w w1->J O 245 #[aq c.cp,M0 (au (I (G w1))) 1 1] (bj w1 (R #[U Q v0,U Q v1] 97)) fun e w'=>∃own' cT n1',e=M6 (a8 #[])/\cZ c own' cT n1' n2 hm (ej st (v0,v1)) w'/\fV own w own' w'):=fun w1 hb=>by
  have f:=hb.alloc hb.size (R #[U Q v0,U Q v1] 97)
  refine(mW hg l m (h.below f) (au (I (G w1))) 1 [(v0,v1)] (j9.one (h.below hb) (v0,v1)) (fun u i d=>by simp at i;rw[i] at d⊢;exact hv d) ac).mono ?_;rintro e w' ⟨own',cT,n1',rfl,g,t⟩
  exact⟨own',cT,n1',rfl,g,(fV.of f (fun b hb=>(h.lt b hb).2)).trans t⟩
 go_enter func255,ntmps255;go_wp2_with fail;refine P.mono ?_;rintro e w1 ⟨rfl,hb⟩
 obtain⟨q0,q1,_,_⟩:=du ((hb.block (I (G w)+1) ac).trans (gH w (R #[U Q k0,U Q k1] 97) (R #[U Q v0,U Q v1] 97)))
 have P:=n.o w1 (b1.trans (hb.mono b1.size))
 go_wp2_with fail;refine P.mono ?_;rintro e o ⟨own',cT,n1',rfl,g,t⟩
 have j:aA (_/\_):=⟨g,t⟩
 go_wp2_with fail;go_end0;exact⟨own',cT,n1',rfl,j.o.1,j.o.2⟩
theorem Jv (h:cZ c own vt n1 n2 hm st w)(k v:Int×Int)(hk:k.1=3->0<=k.2/\k.2<10000)(hi:d_ st.A k=K)(b3:st.m<=20000)(a2:(st.hd k.2).length<=20000):
 J O 255 #[aq c.cp,.agg #[ak k.1,ak k.2],.agg #[ak v.1,ak v.2]] w fun e w'=>∃own' hm',e=M6 (a8 #[])/\cZ c own' vt n1 (n2+1) hm' {st with hd:=fun y=>if y=k.2 then st.hd y++[v] else st.hd y,m:=st.m+1} w'/\Fr (fun b=>own b≠0) w w'/\(∀b,own' b≠0->own b≠0\/I (G w)<=b):=by
 obtain⟨k0,x⟩:=k;obtain⟨an,_⟩:=nh hi;dsimp only at an hk a2⊢;subst an;obtain⟨F,b5⟩:=hk rfl;obtain⟨v0,v1⟩:=v;have b1:C (I (G w)) w ((w.alloc (R #[.int Q 3,.int Q x] 97)).alloc (R #[.int Q v0,.int Q v1] 97)):=(b9.alloc b8 _).alloc ac _;have P:=vo (h.below b1) (3,x) (fun _=>⟨F,by dsimp only;omega⟩)
 rw[hi] at P;obtain⟨ad,cap,ao,hrow,o⟩:=h.hrow x;have N:aA (∀w1,C (I (G w)) w w1->V w1 (av c.cp 3)=Z (.map (Z c.hb))/\(Instr.lookup 250 (.map (Z c.hb)) (ak x) K).run O w1=.ok (M0 ad (st.hd x).length cap) w1/\aC w1 0 97 2 (M0 ad (st.hd x).length cap) (st.hd x).length (ev (st.hd x))/\
  ∀d b4 n,w1.grownBy d (Value.slice ad (st.hd x).length cap).ownBlock->aC d 0 97 2 (M0 (au b4) ((st.hd x).length+1) n) ((st.hd x).length+1) (ev (st.hd x++[(v0,v1)]))->(Z b4=(Value.slice ad (st.hd x).length cap).ownBlock\/I (G w1)<=b4)->
   ∃g,(Instr.mapUpdate 250 (.map (Z c.hb)) (ak x) (M0 (au b4) ((st.hd x).length+1) n)).run O d=.ok () g/\(∀b,b=c.cp\/(I (G w)<=b/\b<I (G w1))->d.heap[b]?=w1.heap[b]?/\g.heap[b]?=w1.heap[b]?)/\aA (∃own' hm',cZ c own' vt n1 (n2+1) hm' {st with hd:=fun y=>if y=x then st.hd y++[(v0,v1)] else st.hd y,m:=st.m+1} g/\Fr (fun b=>own b≠0) w g/\(∀b,own' b≠0->own b≠0\/I (G w)<=b))):=fun w1 hb=>by
  have g1:=h.below hb;obtain⟨_,_,_,q3,_,_⟩:=g1.cells;have L:=g1.hq.look (t:=250) (e:=57) underlying250 (Bq _) (x:=x) F aa;rw[show(hdF st.hd hm x).getD (M0 Y 0 0)=_ from ao] at L;have a3:=cM hrow (fun k e=>hb.block k (cv hrow k e).2)
  refine⟨q3,L,a3,fun d b4 n S ap ar=>?_⟩
  have aB:∀k,Z k=(Value.slice ad (st.hd x).length cap).ownBlock->k≠c.hb:=fun k e f=>by have p:=o k e;rw[f,g1.ho] at p;omega
  have a4:eQ d c.hb n2 (hdF st.hd hm):=g1.hq.same (S.block c.hb g1.hq.lt (fun e=>aB c.hb e rfl))
  obtain⟨g,ba,bb,W⟩:=a4.put (t:=250) (e:=57) underlying250 (by have:=g1.hn;omega) F aa (M0 (au b4) ((st.hd x).length+1) n)
  have bd:∀b,b=c.cp\/(I (G w)<=b/\b<I (G w1))->d.heap[b]?=w1.heap[b]?/\g.heap[b]?=w1.heap[b]?:=fun b ab=>by
   have l1:b<I (G w1):=ab.elim (fun e=>by rw[e];exact(g1.lt c.cp (by rw[g1.co];decide)).2) (fun e=>e.2)
   have l2:b≠c.hb:=ab.elim (fun e f=>by have p:=g1.co;rw[<-e,f,g1.ho] at p;omega) (fun e f=>by have:=h.hq.lt;omega)
   have q:d.heap[b]?=w1.heap[b]?:=S.block b l1 (fun e=>by
    have p:=o b e;rcases ab with f|f
    ·rw[f,g1.co] at p;omega
    ·have:=(h.lt b aa).2;omega)
   exact⟨q,(W.block b (aO l1 S.size) (fun e=>l2 (qo e))).trans q⟩
  refine⟨g,ba,bd,?_⟩
  have be:b4≠c.hb:=by
   rcases ar with e|e
   ·exact aB b4 e
   ·have:=g1.hq.lt;omega
  have aF:Fr (fun b=>own b=4\/own b=10+x.toNat) w1 g:=((Fr.refl _ w1).grown S (fun k e=>aM (aK (o k e.symm)))).grown W (fun k e=>aM (by cases e;exact aM g1.ho))
  obtain⟨own',c1,c2⟩:=g1.hold F aF bb (cM ap (fun k e=>by cases e;exact W.block _ (cv ap b4 rfl).2 (fun e=>be (qo e)))) (ar.imp (fun e=>o b4 e) id)
  have hs:=hb.size;exact⟨own',_,c1,((Fr.of hb).trans aF (fun i f=>aM f)).mono (fun b f=>by omega),fun b f=>(c2 b f).imp id (fun e=>by omega)⟩
 clear h hi hk o hrow ao;generalize st.hd x=H at*;generalize ({st with hd:=fun y=>if y=x then st.hd y++[(v0,v1)] else st.hd y,m:=st.m+1}:dE)=b6 at*;go_enter func255,ntmps255;go_wp2_with fail;refine P.mono ?_;clear P;rintro e w1 ⟨rfl,hb⟩
 have s:=b1.trans (hb.mono b1.size)
 obtain⟨ca,aR,_,_⟩:=du ((hb.block (I (G w)) (by simp;omega)).trans ((aS _ _ _ ac).trans (aP w (R #[.int Q 3,.int Q x] 97))))
 obtain⟨q0,q1,_,_⟩:=du ((hb.block (I (G w)+1) ac).trans (gH w (R #[.int Q 3,.int Q x] 97) (R #[.int Q v0,.int Q v1] 97)))
 obtain⟨aV,_,_,_⟩:=N.o w1 s;obtain⟨_,cb,_,_⟩:=N.o w1.drew s.drew;obtain⟨_,cc,ag,ai⟩:=N.o (w1.alloc (R #[.int Q v0,.int Q v1] 97)).drew (s.alloc s.size _).drew;have ai:aA (_):=ai;have ag:aA (_):=ag;have a0:aA (∀d:az,(∀b,b=c.cp\/(I (G w)<=b/\b<I (G (w1.alloc (R #[.int Q v0,.int Q v1] 97)).drew))->d.heap[b]?=(w1.alloc (R #[.int Q v0,.int Q v1] 97)).drew.heap[b]?)->V d (av c.cp 3)=Z (.map (Z c.hb))/\V d (av (I (G w)) 1)=Z (ak x)/\V d (av (I (G w)+1) 0)=Z (ak v0)/\V d (av (I (G w)+1) 1)=Z (ak v1)):=fun d hk=>by
  have al:∀a:bG,a.block<I (G w1)->V (w1.alloc (R #[.int Q v0,.int Q v1] 97)).drew a=V w1 a:=fun a ha=>aQ (aS w1 _ _ ha)
  have s1:I (G w1)<=I (G (w1.alloc (R #[.int Q v0,.int Q v1] 97)).drew):=by simp[World.drew]
  have q:=aT w1 _ aV;have a1:=aT w1 _ aR;have am:=aT w1 _ q0;dsimp only at q a1 am;exact⟨(aQ (a:=⟨c.cp,3,Y⟩) (hk _ (aM rfl))).trans ((al _ q).trans aV),(aQ (a:=⟨I (G w),1,Y⟩) (hk _ (aK ⟨aG _,by dsimp only;omega⟩))).trans ((al _ a1).trans aR),
   (aQ (a:=⟨I (G w)+1,0,Y⟩) (hk _ (aK ⟨nC _,by dsimp only;omega⟩))).trans ((al _ am).trans q0),(aQ (a:=⟨I (G w)+1,1,Y⟩) (hk _ (aK ⟨nC _,by dsimp only;omega⟩))).trans ((al _ am).trans q1)⟩
 clear hb b1 N s;obtain⟨bg,bi,bl,bn,bo⟩:=info_parts yT;go_wp2_with fail
 go_region_held3 (fun w'=>V w' (av c.cp 3)=Z (.map (Z c.hb))/\V w' (av (I (G w)) 1)=Z (ak x)/\V w' (av (I (G w)+1) 0)=Z (ak v0)/\V w' (av (I (G w)+1) 1)=Z (ak v1)) (go_keep)
  (first|(refine step_append_lies _ rfl (.tmp 21) (.tmp 23) 57 rfl 0 97 bg (.agg #[ak 0,ak 0]) 2 16 underlying57 bi bl bn bo rfl ae (M0 ad H.length cap) H.length (ev H) (by simp[Act.eval]) ag.o ⟨I (G w1),0,Y⟩ 1 1 [ak v0,ak v1] (by simp[Act.eval]) rfl ?_ ?_ ae (by unfold maxLen;omega) aa ac _ rfl ?_;(intro j u l;match j,l with|0,l=>(simp at l;subst l;simp[Addr.add])|1,l=>(simp at l;subst l;simp[Addr.add]));(intro u B;simp at B;rcases B with B|B<;>(subst B;rfl));intro b4 n d bp br bs cd;obtain⟨g,ce,k5,bt⟩:=ai.o d b4 n br (by rw[jp];simpa[ev] using bp) (bs.imp Eq.symm (fun e=>Nat.le_of_eq e.symm));obtain⟨cf,m1,cg,ch⟩:=a0.o d (fun b hb=>(k5 b hb).1);obtain⟨ci,cj,ck,cl⟩:=a0.o g (fun b hb=>(k5 b hb).2);clear k5))
 all_goals
  go_wp2_with fail;obtain⟨own',hm',bx,b0,b2⟩:=bt.o;exact a6 (v:=a8 #[]) (by simp[results,results255,go_sem]) rfl ⟨own',hm',rfl,bx,b0,b2⟩
end
structure eR (own:Nat->Nat)(w:az)(own':Nat->Nat)(w':az):Prop where
 fr:Fr (fun b=>own b≠0) w w'
 nw:∀b,own' b≠0->own b≠0\/I (G w)<=b
section
variable {c:Cp}{own own' mV:Nat->Nat}{vt cT:bD}{n1 n2 n1' et:Nat}{hm hm':Int->Option bG×Nat}{st:dE}{F:Nat->Prop}{w w' w'':az}
theorem fV.tk (t:fV own w own' w'):eR own w own' w':=⟨t.fr.mono (fun b hb=>by omega),fun b hb=>by
 by_cases e:b<I (G w)
 ·rw[t.old b e] at hb;exact aM hb
 ·exact aK aa⟩
theorem eR.of (h:C (I (G w)) w w'):eR own w own w':=⟨Fr.of h,fun _ h=>aM h⟩
theorem eR.trans (h:eR own w own' w')(k:eR own' w' mV w''):eR own w mV w'':=⟨h.fr.trans k.fr h.nw,fun b hb=>(k.nw b hb).elim (h.nw b) (fun c=>aK (aU h.fr.size c))⟩
structure iD (c:Cp):Prop where
 g:dS c.ce c.cj c.b_ c.l c.s c.w0
 t:L c.s.T<=10000
 iv:ey c.s.T c.s.wt
 wl:L c.s.wt<=90000
structure ju (c:Cp)(st:dE):Prop where
 len:L st.A=L c.s.T
 hv:∀x,∀v∈st.hd x,v.1=3->0<=v.2/\cA c.s.T (M v.2)
 hl:∀x,L (st.hd x)<=20000
 m:st.m<=20000
theorem cZ.vx (hg:iD c)(h:cZ c own vt n1 n2 hm st w){i:Nat}(hi:cA c.s.T i):j9 own w (c.l.fm i).1 (X c.s.T i t0).2.1:=by
 have hr:=(h.gv hg.g).g2.fl i hi;refine⟨it hr,fun hp z e f=>?_⟩
 obtain⟨b,cp,d⟩:=eW hr hp;have hb:z.block=b:=by
  dsimp only [eV] at d;rw[e] at d;injection d with g
  injection g with j
  rw[j]
 have k:=hg.g.g2.fg i hi b (by rw[d];rfl)
 have l:=hg.g.lt b aa;rw[hb] at f;have m:=(h.lt b aa).1;omega
theorem Jw (hg:iD c)(h:cZ c own vt n1 n2 hm st w)(hk:ju c st)(x:Int)(b:0<=x)(g:x<10000):∃ad cap,V w (av c.cp 3)=Z (.map (Z c.hb))/\(Instr.lookup 250 (.map (Z c.hb)) (ak x) K).run O w=.ok (M0 ad (st.hd x).length cap) w/\
 J O 245 #[aq c.cp,M0 ad (st.hd x).length cap] w fun e w'=>∃own' cT n1',e=M6 (a8 #[])/\cZ c own' cT n1' n2 hm (dy st (st.hd x)) w'/\fV own w own' w':=by
 obtain⟨ad,cap,d,hrow,f⟩:=h.hrow x;obtain⟨_,_,_,q3,_,_⟩:=h.cells;have L:=h.hq.look underlying250 (Bq _) b aa;rw[show(hdF st.hd hm x).getD (M0 Y 0 0)=_ from d] at L;refine⟨ad,cap,q3,L,mW hg.g hg.t hk.len h ad cap (st.hd x) ⟨it hrow,fun hp z e i=>?_⟩ (hk.hv x) (by have:=hk.hl x;omega)⟩
 have:=f z.block (by rw[e];rfl)
 omega
def Jx (c:Cp)(own:Nat->Nat)(w:az)(x:Int)(b:dE)(w1:az):Prop:=∃ad n cap,V w1 (av c.cp 3)=Z (.map (Z c.hb))/\(Instr.lookup 250 (.map (Z c.hb)) (ak x) K).run O w1=.ok (M0 ad n cap) w1/\
 J O 245 #[aq c.cp,M0 ad n cap] w1 fun e w'=>∃own' cT n1' et hm',e=M6 (a8 #[])/\cZ c own' cT n1' et hm' (dy b (b.hd x)) w'/\eR own w own' w'
theorem qj (hg:iD c)(h:cZ c own' vt n1 n2 hm st w')(hk:ju c st)(t:eR own w own' w')(x:Int)(b:0<=x)(d:x<10000):Jx c own w x st w':=by
 obtain⟨ad,cap,q3,L,P⟩:=Jw hg h hk x b d;refine⟨ad,_,cap,q3,L,P.mono ?_⟩
 rintro e l ⟨f,i,j,rfl,g,k⟩
 exact⟨f,i,j,n2,hm,rfl,g,t.trans k.tk⟩
theorem ju.marks (h:ju c st)(l:List _):ju c (dy st l):=by obtain⟨a,b,d⟩:=jF st l;exact⟨d.trans h.len,by rw[a];exact h.hv,by rw[a];exact h.hl,by rw[b];exact h.m⟩
theorem Jy (hg:iD c)(h:cZ c own vt n1 n2 hm st w)(hk:ju c st)(x:Int)(j:0<=x)(k:cx st.A (M x))(d:cA c.s.T (M x))(l:(X c.s.T (M x) t0).1=1\/(X c.s.T (M x) t0).1=2):
 J O 253 #[aq c.cp,ak x] w fun e w'=>∃own' cT n1' et hm',e=M6 (a8 #[])/\cZ c own' cT n1' et hm' (hL c.s.T c.s.wt st x) w'/\eR own w own' w':=by
 have B:x<10000:=by have:=d.1;have:=hg.t;omega
 have L:=h.am.look (t:=184) (e:=220) underlying184 (mU w) (x:=x) j aa;rw[show fi c.s.T c.l.fm st.A x=Z (gA c.s.T c.l.fm (M x)) from by unfold fi;rw[aJ ⟨j,k⟩]] at L;dsimp only [Option.getD,gA,eV] at L;obtain⟨_,c1,_,_,_,al⟩:=h.cells;have b1:=aw w (R #[U Q (X c.s.T (M x) t0).1,M0 (c.l.fm (M x)).1 (X c.s.T (M x) t0).2.1.length (c.l.fm (M x)).2] 220)
 have P:=mW hg.g hg.t hk.len (h.below b1) _ (c.l.fm (M x)).2 _ ((h.below b1).vx hg d) (fun v hv F=>hg.iv.fv _ d v hv F) (by have:=hg.iv.tl (M x);omega)
 have m:hL c.s.T c.s.wt st x=dy (dy st (X c.s.T (M x) t0).2.1) ((dy st (X c.s.T (M x) t0).2.1).hd x):=by unfold hL g6;rw[aJ l]
 rw[m];have o:aA (∀b f i w1,cZ c b f i n2 hm (dy st (X c.s.T (M x) t0).2.1) w1->eR own w b w1->_):=fun b f i w1 g t=>qj hg g (hk.marks _) t x j B;have p:=hide b1;clear hg h hk k d m b1;generalize dy st (X c.s.T (M x) t0).2.1=am at*;generalize (X c.s.T (M x) t0).1=kd at*;generalize (X c.s.T (M x) t0).2.1.length=n at*;generalize (c.l.fm (M x)).1=ad at*;generalize (c.l.fm (M x)).2=cp at*;rcases l with rfl|rfl
 all_goals
  go_enter func253,ntmps253;go_wp2_with fail;refine P.mono ?_;clear P;rintro e w1 ⟨b,f,i,rfl,g,t⟩
  obtain⟨an,ao,ap,q3,N,q⟩:=o.o b f i w1 g ((eR.of p.o).trans t.tk)
  clear o p g t L c1;go_wp2_with fail;refine q.mono ?_;clear q;rintro e ar ⟨S,W,ab,ag,ai,rfl,g2,s⟩
  have u:=c8 g2 s;clear g2 s q3 N;go_wp2_with fail;go_end0;exact⟨S,W,ab,ag,ai,rfl,u.o.1,u.o.2⟩
abbrev mX (c:Cp)(x:Int):Obj:=R #[ak (X c.s.T (M x) t0).1,M0 (c.l.fm (M x)).1 (L (X c.s.T (M x) t0).2.1) (c.l.fm (M x)).2] 220
theorem sc (h:cZ c own vt n1 n2 hm st w)(x:Int)(b:0<=x)(e:x<10000)(d:cx st.A (M x)):(Instr.lookup 184 (.map (Z c.ab)) (ak x) K).run O w=.ok (bF #[ak (X c.s.T (M x) t0).1,M0 (c.l.fm (M x)).1 (X c.s.T (M x) t0).2.1.length (c.l.fm (M x)).2]) w:=by have L:=h.am.look underlying184 (mU w) b aa;rw[show fi c.s.T c.l.fm st.A x=Z (gA c.s.T c.l.fm (M x)) from by unfold fi;rw[aJ ⟨b,d⟩]] at L;exact L
theorem Jz (hg:iD c)(h:cZ c own vt n1 n2 hm st w)(hk:ju c st)(x:Int)(b:0<=x)(d:cx st.A (M x))(f:cA c.s.T (M x))(k0:¬((X c.s.T (M x) t0).1=1\/(X c.s.T (M x) t0).1=2))(l:¬(X c.s.T (M x) t0).1=3)(m:¬(X c.s.T (M x) t0).1=4)(k5:¬(X c.s.T (M x) t0).1=5):
 J O 253 #[aq c.cp,ak x] w fun e w'=>∃own' cT n1' et hm',e=M6 (a8 #[])/\cZ c own' cT n1' et hm' (hL c.s.T c.s.wt st x) w'/\eR own w own' w':=by
 have g:x<10000:=by have:=f.1;have:=hg.t;omega
 have L:=sc h x b g d;obtain⟨_,c1,_,_,_,B⟩:=h.cells;have b1:=aw w (mX c x)
 have i:hL c.s.T c.s.wt st x=dy st (st.hd x):=by unfold hL g6;rw[aI k0,aI l,aI m,aI k5]
 rw[i];have j:=qj hg (h.below b1) hk (eR.of b1) x b g;dsimp only [mX] at j;clear hg h hk d f i b1;generalize (X c.s.T (M x) t0).1=kd at*;generalize (X c.s.T (M x) t0).2.1.length=n at*;generalize (c.l.fm (M x)).1=ad at*;generalize (c.l.fm (M x)).2=cp at*;have k1:¬kd=1:=fun e=>k0 (aM e)
 obtain⟨F,N,S,q3,W,o⟩:=j;go_enter func253,ntmps253;go_wp2_with fail;refine o.mono ?_;rintro e ab ⟨p,q,s,t,u,rfl,g2,v⟩
 have k:aA (_/\_):=⟨g2,v⟩
 go_wp2_with fail;go_end0;exact⟨p,q,s,t,u,rfl,k.o.1,k.o.2⟩
theorem JA (hg:iD c)(h:cZ c own vt n1 n2 hm st w)(hk:ju c st)(x:Int)(m:0<=x)(q:cx st.A (M x))(f:cA c.s.T (M x))(l:(X c.s.T (M x) t0).1=3):
 J O 253 #[aq c.cp,ak x] w fun e w'=>∃own' cT n1' et hm',e=M6 (a8 #[])/\cZ c own' cT n1' et hm' (hL c.s.T c.s.wt st x) w'/\eR own w own' w':=by
 have n:x<10000:=by have:=f.1;have:=hg.t;omega
 have L:=sc h x m n q;obtain⟨_,c1,_,_,_,ab⟩:=h.cells;have b1:=aw w (mX c x)
 have l2:=hg.iv.fl _ f (aM l)
 obtain⟨b,o,s,lb,B⟩:=(h.vx hg f).lp aa;obtain⟨z0,ad⟩:=B 1 aa;have F:(X (X c.s.T (M x) t0).2.1 1 (0,0)).1=3->_:=fun i=>hg.iv.fv _ f _ (getD_in aa) i;have N:hL c.s.T c.s.wt st x=dy (dy st [X (X c.s.T (M x) t0).2.1 1 (0,0)]) ((dy st [X (X c.s.T (M x) t0).2.1 1 (0,0)]).hd x):=by unfold hL g6;rw[aI aa,aJ l];rfl
 rw[N];dsimp only [mX] at b1;rw[l,l2,s] at L b1;generalize X (X c.s.T (M x) t0).2.1 1 (0,0)=v at*;generalize (c.l.fm (M x)).2=cp at*;obtain⟨v0,v1⟩:=v;have b2:=b1.alloc b1.size (R #[U Q v0,U Q v1] 97)
 have P:=mW hg.g hg.t hk.len (h.below b2) (au (I (G (bj w (R #[U Q 3,M0 (Z ⟨b,o,Y⟩) 2 cp] 220))))) 1 [(v0,v1)] (j9.one (h.below b1) (v0,v1)) (fun u p i=>by simp at p;rw[p] at i⊢;exact F i) ac;have S:aA (∀d j k w1,cZ c d j k n2 hm (dy st [(v0,v1)]) w1->eR own w d w1->_):=fun d j k w1 g t=>qj hg g (hk.marks _) t x m n;have W:=hide b2;rw[show I (G (bj w (R #[U Q 3,M0 (Z ⟨b,o,Y⟩) 2 cp] 220)))=I (G w)+1 by simp] at P;generalize dy st [(v0,v1)]=ag at*;go_enter func253,ntmps253;go_wp2_with fail;refine P.mono ?_;rintro e w1 ⟨d,j,k,rfl,g,t⟩
 obtain⟨ai,al,am,q3,an,P2⟩:=S.o d j k w1 g ((eR.of W.o).trans t.tk)
 exact Bp
theorem iD.fb (hg:iD c){i b o:Nat}(hi:cA c.s.T i)(hp:0<L (X c.s.T i t0).2.1)(e:(c.l.fm i).1=Z ⟨b,o,Y⟩):b<I (G c.w0):=by
 obtain⟨f,cp,d⟩:=eW (hg.g.g2.fl i hi) hp;have g:=hg.g.lt f (by rw[hg.g.g2.fg i hi f (by rw[d];rfl)];omega)
 dsimp only [eV] at d;rw[e] at d;have j:b=f:=congrArg Addr.block (qo (Value.slice.inj d).1)
 rw[j];exact g
theorem JB (hg:iD c)(h:cZ c own vt n1 n2 hm st w)(hk:ju c st)(k v:Int×Int)(b:k.1=3->0<=k.2/\cA c.s.T (M k.2))(hv:v.1=3->0<=v.2/\cA c.s.T (M v.2)):
 J O 255 #[aq c.cp,bF #[ak k.1,ak k.2],bF #[ak v.1,ak v.2]] w fun e w'=>∃own' cT n1' et hm',e=M6 (a8 #[])/\cZ c own' cT n1' et hm' (lH st k v) w'/\eR own w own' w':=by
 unfold lH;cases hi:d_ st.A k
 ·refine(Jv h k v (fun d=>⟨(b d).1,by have:=(b d).2.1;have:=hg.t;omega⟩) hi hk.m (hk.hl _)).mono ?_;rintro e w' ⟨own',hm',rfl,g,f,i⟩
  exact⟨own',vt,n1,n2+1,hm',rfl,g,f,i⟩
 ·refine(Ju hg.g hg.t hk.len h k v b hv hi).mono ?_;rintro e w' ⟨own',cT,n1',rfl,g,t⟩
  exact⟨own',cT,n1',n2,hm,rfl,g,t.tk⟩
theorem JC (hg:iD c)(h:cZ c own vt n1 n2 hm st w)(hk:ju c st)(x:Int)(N:ju c (g6 c.s.T c.s.wt st x))(S:0<=x)(an:cx st.A (M x))(l:cA c.s.T (M x))(m:(X c.s.T (M x) t0).1=4):
 J O 253 #[aq c.cp,ak x] w fun e w'=>∃own' cT n1' et hm',e=M6 (a8 #[])/\cZ c own' cT n1' et hm' (hL c.s.T c.s.wt st x) w'/\eR own w own' w':=by
 have ab:x<10000:=by have:=l.1;have:=hg.t;omega
 have L:=sc h x S ab an;obtain⟨_,c1,_,_,_,bl⟩:=h.cells;have b1:=aw w (mX c x)
 have l2:=hg.iv.fl _ l (aK m)
 obtain⟨b,o,ad,lb,ag⟩:=(h.vx hg l).lp aa;obtain⟨ai,y1⟩:=ag 0 aa;obtain⟨z0,ao⟩:=ag 1 aa;have ap:=mf hg.iv l m 0 ae;have ar:=mf hg.iv l m 1 ae;have aB:g6 c.s.T c.s.wt st x=lH st (X (X c.s.T (M x) t0).2.1 0 (0,0)) (X (X c.s.T (M x) t0).2.1 1 (0,0)):=by unfold g6;rw[aI aa,aI aa,aJ m]
 unfold hL;rw[aB] at N⊢;dsimp only [mX] at b1;rw[m,l2,ad] at L b1;generalize X (X c.s.T (M x) t0).2.1 0 (0,0)=u at*;generalize X (X c.s.T (M x) t0).2.1 1 (0,0)=v at*;generalize (c.l.fm (M x)).2=cp at*;obtain⟨u0,q⟩:=u;obtain⟨v0,v1⟩:=v;rw[Nat.zero_mul,Nat.add_zero] at ai y1;have P:=JB hg (h.below b1.drew) hk (u0,q) (v0,v1) ap ar;have aF:aA (∀d f i j k w1,cZ c d f i j k (lH st (u0,q) (v0,v1)) w1->eR own w d w1->_):=fun d f i j k w1 g t=>qj hg g N t x S ab;have n:=hide b1;have aR:aA (∀d f i j k B (w1:az),cZ c d f i j k B w1->eR own (bj w (R #[U Q 4,M0 (Z ⟨b,o,Y⟩) 2 cp] 220)).drew d w1->w1.heap[b]?=(bj w (R #[U Q 4,M0 (Z ⟨b,o,Y⟩) 2 cp] 220)).heap[b]?/\w1.heap[I (G w)]?=Z (R #[ak 4,M0 (Z ⟨b,o,Y⟩) 2 cp] 220 (0,0))):=fun d f i j k B w1 g t=>by have al:=hg.fb l aa ad;refine⟨(g.ol b al).trans (((h.below b1).ol b al).symm),(t.fr.block (I (G w)) (by simp[World.drew]) (fun aV=>by have:=(h.lt _ aV).2;omega)).trans (aP w _)⟩
 generalize lH st (u0,q) (v0,v1)=B at*;go_enter func253,ntmps253;go_wp2_with fail;have hw:=aP w (R #[U Q 4,M0 (Z ⟨b,o,Y⟩) 2 cp] 220)
 have a0:=(n.o.cell (p:=av b o) lb).trans ai;have a1:=(n.o.cell (p:=av b (o+1)) lb).trans y1;have j0:=(n.o.cell (p:=av b (o+1*2)) lb).trans z0;have a2:=(n.o.cell (p:=av b (o+1*2+1)) lb).trans ao;generalize bj w (R #[U Q 4,M0 (Z ⟨b,o,Y⟩) 2 cp] 220)=W at*;obtain⟨_,bn,_,_⟩:=du hw
 go_region_held3 (fun w'=>V w' (av (I (G w)) 1)=Z (M0 (Z ⟨b,o,Y⟩) 2 cp)/\V w' (av b o)=Z (ak u0)/\V w' (av b (o+1))=Z (ak q)/\V w' (av b (o+1*2))=Z (ak v0)/\V w' (av b (o+1*2+1))=Z (ak v1)) (go_keep)
  (first|(go_at_call 255;refine P.mono ?_;rintro e w1 ⟨d,f,i,j,k,rfl,g,t⟩;obtain⟨s,a3⟩:=aR.o d f i j k _ w1 g t;have bo:=(aQ (a:=⟨b,o,Y⟩) s).trans a0;have bp:=(aQ (a:=⟨b,o+1,Y⟩) s).trans a1;have br:=(aQ (a:=⟨b,o+1*2,Y⟩) s).trans j0;have bs:=(aQ (a:=⟨b,o+1*2+1,Y⟩) s).trans a2;obtain⟨_,bt,_,_⟩:=du a3;have F:=aF.o d f i j k w1 g ((eR.of n.o.drew).trans t);have F:=hide F))
 all_goals
  obtain⟨bx,b0,b2,q3,b3,a4⟩:=F.o;go_wp2_with fail;refine a4.mono ?_;rintro e b4 ⟨ba,bb,bd,be,bg,rfl,g2,bi⟩
  have am:=c8 g2 bi;go_wp2_with fail;go_end0;exact⟨ba,bb,bd,be,bg,rfl,am.o.1,am.o.2⟩
structure se (own:Nat->Nat)(w:az)(ad:Option bG)(l:List Int):Prop where
 lp:jb w ad l
 no:0<L l->∀z,ad=Z z->¬(own z.block=1\/own z.block=2\/own z.block=3)
theorem se.tm {ad:Option bG}{l:List Int}(h:se own w ad l)(t:fV own w own' w'):se own' w' ad l:=
 ⟨h.lp.keep t.fr.size (fun hp z e=>t.fr.block _ (by obtain⟨b,o,c,hb,_⟩:=h.lp hp;rw[e] at c;cases c;exact hb) (h.no hp z e)),fun hp z e=>by rw[t.old _ (by obtain⟨b,o,c,hb,_⟩:=h.lp hp;rw[e] at c;cases c;exact hb)];exact h.no hp z e⟩
abbrev k7 (l:List Int):List (Int×Int):=l.map fun x=>(3,x)
theorem JD (hg:iD c)(h:cZ c own vt n1 n2 hm st w)(hk:ju c st)(x:Int)(W:0<=x)(ab:cx st.A (M x))(ag:cA c.s.T (M x))(k5:(X c.s.T (M x) t0).1=5):
 J O 253 #[aq c.cp,ak x] w fun e w'=>∃own' cT n1' et hm',e=M6 (a8 #[])/\cZ c own' cT n1' et hm' (hL c.s.T c.s.wt st x) w'/\eR own w own' w':=by
 have ai:x<10000:=by have:=ag.1;have:=hg.t;omega
 have L:=sc h x W ai ab;obtain⟨c0,c1,_,_,_,bn⟩:=h.cells;have b1:=aw w (mX c x)
 have p:=(h.below b1).gv hg.g;obtain⟨_,_,_,_,_,g5,_,_,bo⟩:=(h.gv hg.g).cells;have l:=t5 _ c.l.bp _ c.l.a1 c.l.k1 c.s.wt x p.g3.sd.blk (it p.g3.sd.q0) hg.wl;have al:∀v∈k7 (eK c.s.wt x),v.1=3->0<=v.2/\cA c.s.T (M v.2):=fun v hv _=>by obtain⟨y,hy,rfl⟩:=fo.1 hv;obtain⟨e,q,aV,rfl⟩:=vh.1 hy;exact hg.iv.wv e q
 have am:=pJ c.s.wt x;have am:=aU am hg.wl;have an:hL c.s.T c.s.wt st x=dy (dy st (k7 (eK c.s.wt x))) ((dy st (k7 (eK c.s.wt x))).hd x):=by unfold hL g6;rw[aI aa,aI aa,aI aa,aJ k5]
 rw[an];dsimp only [mX] at b1 l;rw[k5] at L b1 l;have a0:aA (∀d f k w1,cZ c d f k n2 hm (dy st (k7 (eK c.s.wt x))) w1->eR own w d w1->_):=fun d f k w1 g t=>qj hg g (hk.marks _) t x W ai;have a1:aA (∀d f k (w1:az)(j:Nat),j<(eK c.s.wt x).length->cZ c d f k n2 hm (dy st (k7 ((eK c.s.wt x).take j))) w1->J O 245 #[aq c.cp,M0 (au (I (G w1))) 1 1] (bj w1 (R #[U Q 3,U Q (X (eK c.s.wt x) j 0)] 97)) fun e w'=>∃own' cT n1',e=M6 (a8 #[])/\cZ c own' cT n1' n2 hm (dy st (k7 ((eK c.s.wt x).take (j+1)))) w'/\fV d w1 own' w'):=fun d f k w1 j s g=>by
  have m:=aw w1 (R #[U Q 3,U Q (X (eK c.s.wt x) j 0)] 97)
  have a2:k7 ((eK c.s.wt x).take (j+1))=k7 ((eK c.s.wt x).take j)++[(3,X (eK c.s.wt x) j 0)]:=by
   have a3:(eK c.s.wt x).take (j+1)=(eK c.s.wt x).take j++[X (eK c.s.wt x) j 0]:=by rw[yw,aL,aN s];rfl
   rw[a3,k7,List.map_append];rfl
  rw[a2,A9];refine(mW hg.g hg.t (hk.marks _).len (g.below m) (au (I (G w1))) 1 [(3,X (eK c.s.wt x) j 0)] (j9.one g (3,X (eK c.s.wt x) j 0)) (fun u ao ap=>?_) ac).mono ?_
  ·simp only [bQ] at ao;rw[ao] at ap⊢;exact al _ (fo.2 ⟨_,getD_in s,rfl⟩) rfl
  ·rintro e w' ⟨own',cT,n1',rfl,a4,t⟩
   exact⟨own',cT,n1',rfl,a4,(fV.of m (fun b hb=>(g.lt b hb).2)).trans t⟩
 have B:=hide h;have F:=hide b1;clear hg h hk ab ag an b1 k5 p al;generalize eK c.s.wt x=A at*;generalize (X c.s.T (M x) t0).2.1.length=n at*;generalize (c.l.fm (M x)).1=ad at*;generalize (c.l.fm (M x)).2=cp at*;go_enter func253,ntmps253;go_wp2_with fail;refine l.mono ?_;clear l;rintro e w1 ⟨ba,gN,rfl,N,ar⟩
 have S:=hide (F.o.trans (ar.mono F.o.size))
 have bb:aA (se own w1 ba A):=⟨hZ N,fun hp z e bp=>by
  have q:=(cv N z.block (by rw[e];rfl)).1;have aV:=(B.o.lt z.block aa).2;have ap:I (G w)+1<=z.block:=by simpa using q
  omega⟩
 clear ar N F L c1 g5;go_wp2_with fail
 go_loopw [55] (fun i wr=>∃(j:Nat)(own':Nat->Nat)(cT:bD)(n1':Nat),j<=A.length/\i=ak j/\cZ c own' cT n1' n2 hm (dy st (k7 (A.take j))) wr/\fV own w1 own' wr) (fun i _=>A.length-M (intOf i))
 exact⟨0,own,vt,n1,a5 _,rfl,B.o.below S.o,fV.of b9 (fun b hb=>((B.o.below S.o).lt b hb).2)⟩
 ·
   obtain⟨j,own',cT,n1',s,rfl,g,t⟩:=hrel;by_cases aB:j<A.length
   ·obtain⟨br,o,aF,lb,aR⟩:=(bb.o.tm t).lp aa;have hc:=aR j aB;have bd:aA (∀w2,C (I (G wr)) wr w2->J O 245 #[aq c.cp,M0 (au (I (G w2))) 1 1] (bj w2 (R #[U Q 3,U Q (X A j 0)] 97)) fun e w'=>∃own' cT n1',e=M6 (a8 #[])/\cZ c own' cT n1' n2 hm (dy st (k7 (A.take (j+1)))) w'/\fV own w1 own' w'):=fun w2 hb=>by
     refine(a1.o own' cT n1' w2 j aB (g.below hb)).mono ?_;rintro e w' ⟨vp,vu,n12,rfl,g2,t2⟩
     exact⟨vp,vu,n12,rfl,g2,(t.trans (fV.of hb (fun b hb=>(g.lt b hb).2))).trans t2⟩
    rw[aF];have be:(j:Int)<A.length:=aa;clear g t aR aF;generalize X A j 0=y at*;go_wp2_with fail;refine(o4 y wr).mono ?_;rintro e w2 ⟨rfl,m⟩
    have P:=bd.o w2 m;go_wp2_with fail;refine P.mono ?_;rintro e bs ⟨bg,bi,bl,rfl,g3,t3⟩
    have HF:=c8 g3 t3;go_wp2_with fail;go_roundw;exact⟨j+1,bg,bi,bl,aa,aj,HF.o.1,HF.o.2⟩
    simp[intOf];omega
   ·have e:A.take j=A:=p2 aa;rw[e] at g;obtain⟨bt,be,bx,q3,b0,P2⟩:=a0.o own' cT n1' wr g ((eR.of S.o).trans t.tk)
    exact Bp
theorem JE (hg:iD c)(h:cZ c own vt n1 n2 hm st w)(hk:ju c st)(x:Int)(j:ju c (g6 c.s.T c.s.wt st x))(b:0<=x)(d:cx st.A (M x))(f:cA c.s.T (M x)):
 J O 253 #[aq c.cp,ak x] w fun e w'=>∃own' cT n1' et hm',e=M6 (a8 #[])/\cZ c own' cT n1' et hm' (hL c.s.T c.s.wt st x) w'/\eR own w own' w':=by
 by_cases k1:(X c.s.T (M x) t0).1=1\/(X c.s.T (M x) t0).1=2
 ·exact Jy hg h hk x b d f k1
 by_cases g:(X c.s.T (M x) t0).1=3
 ·exact JA hg h hk x b d f g
 by_cases i:(X c.s.T (M x) t0).1=4
 ·exact JC hg h hk x j b d f i
 by_cases k5:(X c.s.T (M x) t0).1=5
 ·exact JD hg h hk x b d f k5
 exact Jz hg h hk x b d f k1 g i k5
end
structure gI (T:List cJ)(wt:List cf)(is:List Bool)(s:dE):Prop where
 mi:ff T wt is s []
 hl:∀x,L (s.hd x)<=s.m
 mm:s.m+(L s.td+cnt s.A)<=L T
structure Bt (T:List cJ)(wt:List cf)(is:List Bool)(s s':dE):Prop where
 dz:gI T wt is s'
 td:s'.td=[]
 up:∀k,cx s.A k->cx s'.A k
section
variable {T:List cJ}{wt:List cf}{is:List Bool}{s:dE}
theorem Bu (hl:∀x,L (s.hd x)<=s.m)(i:Int):(∀x,L ((g6 T wt s i).hd x)<=(g6 T wt s i).m)/\(g6 T wt s i).m<=s.m+1:=by
 have hm:∀l,(∀x,L ((dy s l).hd x)<=(dy s l).m)/\(dy s l).m<=s.m+1:=fun l=>by obtain⟨a,b,_⟩:=jF s l;rw[a,b];exact⟨hl,aa⟩
 unfold g6;split
 ·exact hm _
 split
 ·exact hm [_]
 split
 ·unfold lH;split
  ·exact hm [_]
  ·dsimp only;refine⟨fun x=>?_,aG _⟩
   have:=hl x;split
   ·simp;omega
   ·omega
 split
 ·exact hm _
 ·exact hm []
theorem JF (hl:∀x,L (s.hd x)<=s.m)(i:Int):∀x,L ((hL T wt s i).hd x)<=(hL T wt s i).m:=by unfold hL;obtain⟨a,b,_⟩:=jF _ _;rw[a,b];exact(Bu hl i).1
theorem ff.hv {E:List Int}(h:ff T wt is s E)(f:ey T wt)(x:Int)(v:Int×Int)(hv:v∈s.hd x)(d:v.1=3):0<=v.2/\cA T (M v.2):=by obtain⟨j,a,b,c,e⟩:=h.hd _ _ hv;rw[e] at d⊢;exact mf f (h.al j a) b 1 ae d
theorem JG {i:Nat}(h:ff T wt is s [(i:Int)])(c:ey T wt)(hi:cA T i):∀x,∀v∈(g6 T wt s i).hd x,v.1=3->0<=v.2/\cA T (M v.2):=by
 have hm:∀l,∀x,∀v∈(dy s l).hd x,v.1=3->0<=v.2/\cA T (M v.2):=fun l x v hv b=>by rw[(jF s l).1] at hv;exact h.hv c x v hv b
 unfold g6;split
 ·exact hm _
 split
 ·exact hm [_]
 split
 ·rename_i d;unfold lH;split
  ·exact hm [_]
  ·intro x v hv b;dsimp only at hv;split at hv
   ·rcases List.mem_append.1 hv with hv|hv
    ·exact h.hv c x v hv b
    ·simp only [bQ] at hv;rw[hv] at b⊢;exact mf c hi d 1 ae b
   ·exact h.hv c x v hv b
 split
 ·exact hm _
 ·exact hm []
theorem JH (i:Int):L (g6 T wt s i).A=L s.A:=by
 have hm:∀l,_=_:=fun l=>(jF s l).2.2;unfold g6;split
 ·exact hm _
 split
 ·exact hm [_]
 split
 ·unfold lH;split
  ·exact hm [_]
  ·rfl
 split
 ·exact hm _
 ·rfl
end
section
variable {c:Cp}{own own':Nat->Nat}{vt cT:bD}{n1 n2 n1' et:Nat}{hm hm':Int->Option bG×Nat}{st:dE}{w w':az}{is:List Bool}
theorem cZ.todo (h:cZ c own vt n1 n2 hm st w){cT:bD}{t:List Int}(hr:aC w 0 2 1 cT (L t) (t.map (Value.int Q)))(ho:∀k,Z k=P cT->own k=3)(hl:L t<=L st.td):cZ c own cT n1 n2 hm {st with td:=t} (ay w ⟨c.cp,2,Y⟩ cT)/\eR own w own (ay w ⟨c.cp,2,Y⟩ cT):=by
 have fr:Fr (fun b=>own b=1) w (ay w ⟨c.cp,2,Y⟩ cT):=(Fr.refl _ w).set c.cp 2 cT h.co;have hk:∀b,own b≠1->b<I (G w)->_=_:=fun b hb hl=>fr.block b hl hb;have g:=h.sz;refine⟨{
  ol:=fun k f=>(fr.block k aa (fun cc=>?_)).trans (h.ol k f),sz:=aU h.sz fr.size,cb:=?_,co:=h.co,am:=h.am.same (hk _ (by rw[h.ao];decide) h.am.lt),ao:=h.ao,an:=h.an,tr:=cM hr (fun k e=>hk k (by rw[ho k e];decide) (cv hr k e).2),tw:=ho,tn:=by have:=h.tn;dsimp only;omega
  hq:=h.hq.same (hk _ (by rw[h.ho];decide) h.hq.lt),ho:=h.ho,hn:=h.hn,hr:=fun x d=>⟨(h.hr x d).1,cM (h.hr x d).2 (fun k e=>hk k (by rw[h.hro x d k e];omega) (cv (h.hr x d).2 k e).2)⟩,hro:=h.hro,lt:=fun b hb=>⟨(h.lt b hb).1,aO (h.lt b hb).2 fr.size⟩},fr.mono (fun b hb=>by omega),fun b hb=>aM hb⟩
 ·have:=(h.lt k aa).1;omega
 ·simp only [World.setCell,Array.getElem?_modify,if_true,h.cb,Option.map_some];rfl
theorem Bv (hg:iD c)(h:cZ c own vt n1 n2 hm st w)(ho:gI c.s.T c.s.wt is st):
 J O 246 #[aq c.cp] w fun e w'=>∃own' cT n1' et hm' d,e=M6 (a8 #[])/\cZ c own' cT n1' et hm' d w'/\eR own w own' w'/\Bt c.s.T c.s.wt is st d:=by
 have f:=hide hg;have F:=c8 h ho;obtain⟨_,_,c2,_,_,_⟩:=h.cells;obtain⟨ad,cap,ev⟩:=eZ h.tr;rw[ev] at c2;go_enter func246,ntmps246;go_wp2_with fail
 go_loopg [2] (L st.td+cnt st.A) (fun m nv wr=>∃(own':Nat->Nat)(cT:bD)(n1' et:Nat)(hm':Int->Option bG×Nat)(d:dE),nv=ak (L d.td)/\aA (cZ c own' cT n1' et hm' d wr/\eR own w own' wr/\gI c.s.T c.s.wt is d/\(∀k,cx st.A k->cx d.A k)/\L d.td+cnt d.A<=m))
 exact⟨own,vt,n1,n2,hm,st,rfl,F.o.1,eR.of b9,F.o.2,fun _ h=>h,aG _⟩
 case round=>
  obtain⟨own',cT,n1',et,hm',s1,rfl,N⟩:=hrel;obtain⟨g,t,dz,up,an⟩:=N.o;by_cases S:0<L s1.td
  ·obtain⟨_,_,ao,_,ap,lk⟩:=g.cells;have tr:=g.tr;obtain⟨b,cap,ar⟩:=eW tr S;subst ar;have aB:=tq tr;obtain⟨n,hn⟩:∃n,L s1.td=n+1:=⟨L s1.td-1,aa⟩
   have aF:V wr (av b n)=Z (ak (X s1.td n 0)):=by obtain⟨bt,o',e,_,hc⟩:=hZ tr S;cases e;have:=hc n aa;rwa [Nat.zero_add] at this
   have W:L (s1.td.take n)=n:=by rw[bz];omega
   have ab:s1.td=s1.td.take n++[X s1.td n 0]:=by
    rw[aL,aN aa];have:=yw (l:=s1.td) (i:=n)
    rw[aN aa,p2 aa] at this
    exact this
   have o:=dz.mi.td (X s1.td n 0) (aK (getD_in aa))
   have B:=dz.mi.pop f.o.iv ab;obtain⟨i,hi⟩:=bH o.1;have ag:cA c.s.T i:=dz.mi.al i (by have:=o.2;rwa [hi] at this)
   obtain⟨g2,aR⟩:=g.todo (cT:=M0 (au b) n cap) (t:=s1.td.take n) (by rw[W,List.map_take];exact ti tr n aa) (fun k e=>g.tw k e) aa;have aV:=dz.mm;have bx:=f.o.t;have a0:ju c {s1 with td:=s1.td.take n}:=⟨dz.mi.len,fun x v hv a1=>dz.mi.hv f.o.iv x v hv a1,fun x=>by have:=dz.hl x;dsimp only;omega,by dsimp only;omega⟩
   rw[hi] at o B ab;have ai:cx s1.A i:=by simpa using o.2
   have hb:=Bu (T:=c.s.T) (wt:=c.s.wt) (s:={s1 with td:=s1.td.take n}) dz.hl i;have a2:ju c (g6 c.s.T c.s.wt {s1 with td:=s1.td.take n} i):=⟨(JH _).trans dz.mi.len,JG B f.o.iv ag,fun x=>by have al:=hb.1 x;have p:=hb.2;dsimp only at p;omega,by have p:=hb.2;dsimp only at p;omega⟩
   have a3:=JE f.o g2 a0 i a2 aa (by simpa using ai) (by simpa using ag)
   have q:=hide (B.look f.o.iv ai)
   have a4:aA (∀x,L ((hL c.s.T c.s.wt {s1 with td:=s1.td.take n} i).hd x)<=(hL c.s.T c.s.wt {s1 with td:=s1.td.take n} i).m):=JF (s:={s1 with td:=s1.td.take n}) dz.hl i;have ba:=hide (t.trans aR)
   have bb:=c8 hn W;have u:=g_ up aV an;rw[hi] at aF;rw[hn] at ao aB⊢;have b0:=ap 2;generalize hL c.s.T c.s.wt {s1 with td:=s1.td.take n} i=j at*;go_wp2_with fail;refine a3.mono ?_;rintro e b1 ⟨bd,be,bg,bi,bl,rfl,g4,bn⟩
   obtain⟨_,_,bo,_⟩:=g4.cells;obtain⟨b2,b3,bp⟩:=eZ g4.tr;rw[bp] at bo;have br:=q.o.td;have b4:=bb.o;dsimp only at br;have b5:1<=gk:=by have:=u.o.2.2;omega
   have bs:aA (_/\_/\gI c.s.T c.s.wt is j/\(∀k,cx st.A k->cx j.A k)/\L j.td+cnt j.A<=gk-1):=⟨g4,ba.o.trans bn,⟨q.o.mi,a4.o,by have al:=q.o.mm;have p:=u.o.2.1;dsimp only at al;omega⟩,fun k hk=>q.o.up k (u.o.1 k hk),by have:=u.o.2.2;omega⟩
   go_wp2_with fail
   go_roundg (gk-1)
   case measure=>omega
   exact⟨bd,be,bg,bi,bl,j,rfl,bs⟩
  ·have am:s1.td=[]:=List.eq_nil_of_length_eq_zero aa;rw[am];go_wp2_with fail;go_end0;obtain⟨g,t,dz,up,_⟩:=N.o;exact⟨own',cT,n1',et,hm',s1,rfl,g,t,dz,am,up⟩
end
theorem JJ {q:List cf}{g:Int}{i:Nat}(hi:i<L q)(e:(X q i (0,0)).1=g)(hn:∀e∈q.take i,¬e.1=g):dW g q=i:=by
 unfold dW;rw[List.findIdx_eq hi];refine⟨?_,fun j b=>?_⟩
 ·rw[aL,aN hi] at e;simpa using e
 ·have:=hn (q[j]'aa) (by rw[List.mem_take_iff_getElem];exact⟨j,aa,rfl⟩)
  simpa using this
section
variable {ce rb:Nat}{cj b_:Int}{l:hP}{F:Nat->Prop}{s:cn}{w w':az}
theorem dS.side (h:dS ce cj b_ l s w){r q:List cf}{a0 a1:Option bG}{k0 k1:Nat}(f:fU w' l.bp a0 k0 a1 k1 r q)(fr:Fr (fun k=>k=l.bp) w w')
 (n0:∀k,Z k=P (Value.slice a0 (L r) k0)->l.own k=5\/I (G w)<=k)(n1:∀k,Z k=P (Value.slice a1 (L q) k1)->l.own k=6\/I (G w)<=k)
 (j:∀k,I (G w)<=k->Z k=P (Value.slice a0 (L r) k0)->Z k≠P (Value.slice a1 (L q) k1)):
 ∃d,dS ce cj b_ d {s with rg:=r,wt:=q} w'/\(∀b,d.own b≠0->l.own b≠0\/I (G w)<=b)/\d.fm=l.fm/\d.rb=l.rb:=by
 refine⟨{l with own:=fun b=>if I (G w)<=b then(if Z b=P (Value.slice a0 (L r) k0) then 5 else if Z b=P (Value.slice a1 (L q) k1) then 6 else 0) else l.own b,a0:=a0,k0:=k0,a1:=a1,k1:=k1},?_,?_,rfl,rfl⟩
 ·have ho:∀b,l.own b≠0->¬I (G w)<=b:=fun b hb=>by have:=h.lt b hb;omega
  have he:∀b,l.own b≠0->(if I (G w)<=b then(if Z b=P (Value.slice a0 (L r) k0) then 5 else if Z b=P (Value.slice a1 (L q) k1) then 6 else 0) else l.own b)=l.own b:=fun b hb=>(by grind)
  have hk:∀b,l.own b≠0->l.own b≠3->_=_:=fun b hb g=>fr.block b (by grind) (fun c=>g (by rw[c];exact h.g3.so))
  refine {blk:=(by grind [bo,blk]),bo:=?_,g2:=?_,g3:=?_,g4:=?_,lt:=?_}
  ·grind [bo]
  ·exact {
    mp:=h.g2.mp.same (hk _ (by rw[h.g2.dz];decide) (by rw[h.g2.dz];decide)),mn:=h.g2.mn,dz:=(he _ (by rw[h.g2.dz];decide)).trans h.g2.dz
    fl:=fun i hi=>cM (h.g2.fl i hi) (fun k e=>hk k (by rw[h.g2.fg i hi k e];omega) (by rw[h.g2.fg i hi k e];omega))
    fg:=fun i hi k e=>(he k (by rw[h.g2.fg i hi k e];omega)).trans (h.g2.fg i hi k e),fM:=h.g2.fM,al:=h.g2.al}
  ·refine {sd:=f,so:=(he _ (by rw[h.g3.so];decide)).trans h.g3.so,ro:=fun k e=>?_,mT:=fun k e=>?_}
   all_goals grind
  ·exact {rt:=(by grind [G4.ro,g4,G4.rt]),rl:=h.g4.rl,ro:=(he _ (by rw[h.g4.ro];decide)).trans h.g4.ro}
  ·intro b hb;dsimp only at hb;by_cases c:I (G w)<=b
   ·rw[aJ c] at hb;by_cases c1:Z b=P (Value.slice a0 (L r) k0)
    ·exact(cv f.r0 b c1).2
    ·rw[aI c1] at hb;by_cases c2:Z b=P (Value.slice a1 (L q) k1)
     ·exact(cv f.q0 b c2).2
     grind
   grind [Fr.size,aO]
 grind
theorem Jp {c:hP}{d:cn}(h:dS ce cj b_ c d w')(f:c.rb=rb)(g:∀b,F b↔l.own b≠0)(fr:Fr (fun b=>l.own b≠0) w w')(ho:∀b,c.own b≠0->l.own b≠0\/I (G w)<=b):∃e,(cG ce cj b_ rb).J e d w'/\ch F w e w':=
 ⟨fun b=>c.own b≠0,⟨c,h,f,fun _=>iy⟩,(by grind [Fr.mono]),fun b hb=>(by grind)⟩
theorem JK (h:(cG ce cj b_ rb).J F s w)(g z:Int)(h0:L s.rg<=90000)(f:L s.wt<=90000):∃bp,V w (av ce 5)=Z (aq bp)/\
 Calls O 49 #[aq bp,bF #[ak g,ak z]] w fun e w'=>∃F',e=M6 (bK (!ku (L s.rg+L s.wt)))/\(cG ce cj b_ rb).J F' (if 24<=L s.rg+L s.wt then s else {s with rg:=s.rg++[(g,z)]}) w'/\ch F w F' w'/\w'.heap[ce]?=w.heap[ce]?:=by
 obtain⟨l,h,hrb,hF⟩:=h;obtain⟨_,_,_,_,_,c5,_,_,sa⟩:=h.cells;refine⟨l.bp,c5,(zo w l.bp l.a0 l.a1 l.k0 l.k1 s.rg s.wt g z h.g3.sd h0 f).mono ?_⟩
 rintro e w' ⟨rfl,⟨d,hb⟩|⟨d,b1,c1,i,hn,fr⟩⟩
 ·rw[aJ d];exact⟨F,rfl,⟨l,h.below hb,hrb,hF⟩,ch.of hb,hb.block ce sa⟩
 ·rw[aI d];obtain⟨n,g1,g2,_,g4⟩:=h.side i fr (fun k e=>aK (by cases e;omega)) (fun k e=>aM (h.g3.mT k e)) (fun k hk e m=>by have:=(cv h.g3.sd.q0 k m).2;omega)
  exact Bo
theorem JL (h:(cG ce cj b_ rb).J F s w)(g:Int)(d:L s.wt<=90000):∃bp,V w (av ce 5)=Z (aq bp)/\
 Calls O 194 #[aq bp,ak g] w fun e w'=>∃F',e=M6 (a8 #[ak (if dW g s.wt<L s.wt then(X s.wt (dW g s.wt) (0,0)).2 else 0),bK (decide (dW g s.wt<L s.wt))])/\
  (cG ce cj b_ rb).J F' (if dW g s.wt<L s.wt then {s with wt:=s.wt.take (dW g s.wt)++s.wt.drop (dW g s.wt+1)} else s) w'/\ch F w F' w'/\w'.heap[ce]?=w.heap[ce]?:=by
 obtain⟨l,h,hrb,hF⟩:=h;obtain⟨_,_,_,_,_,c5,_,_,sa⟩:=h.cells;refine⟨l.bp,c5,(AS w l.bp l.a0 l.a1 l.k0 l.k1 s.rg s.wt g h.g3.sd d).mono ?_⟩
 rintro e w' (⟨rfl,hn,hb⟩|⟨i,b1,c1,rfl,hi,f,hn,m,hz,fr⟩)
 ·have hp:¬dW g s.wt<L s.wt:=by grind [dW]
  rw[aI hp,aI hp,bC hp];exact⟨F,rfl,⟨l,h.below hb,hrb,hF⟩,ch.of hb,hb.block ce sa⟩
 ·rw[(JJ hi f hn),aJ hi,aJ hi,bv hi];obtain⟨n,g1,g2,_,g4⟩:=h.side m fr (fun k e=>aM (h.g3.ro k e)) (fun k e=>aK (by
   cases b1 with
   |none=>cases e
   |some z=>cases e;grind)) (fun k hk e o=>by
   have:=(cv h.g3.sd.r0 k e).2;omega)
  exact Bo
theorem dC.set2 {d:Type}(o:dC d){t:d}{b:Nat}(h:o.J F t w)(hn:¬F b)(v1 v2:bD):o.J F t (ay (ay w ⟨b,0,Y⟩ v1) ⟨b,1,Y⟩ v2):=
 o.fr h (((Fr.refl (fun k=>k=b) w).set b _ _ rfl).set b _ _ rfl) (fun k hk c=>hn (by rw[<-c];exact hk))
theorem ch.set2 {d:Nat->Prop}{b:Nat}(t:ch F w d w')(hb:I (G w)<=b)(v1 v2:bD):ch F w d (ay (ay w' ⟨b,0,Y⟩ v1) ⟨b,1,Y⟩ v2):=
 ⟨t.fr.trans (((Fr.refl (fun k=>k=b) w').set b _ _ rfl).set b _ _ rfl) (fun k c=>aK (by rw[c];exact hb)),t.sub⟩
theorem JM (h:(cG ce cj b_ rb).J F s w)(t p:Int×Int)(ht:t.1=3->0<=t.2/\cA s.T (M t.2))(hd:p.1=3->0<=p.2/\cA s.T (M p.2))(B:L s.T<=10000)(h0:L s.rg<=90000)(ag:L s.wt<=90000):
 Calls O 132 #[aq ce,bF #[ak t.1,ak t.2],bF #[ak p.1,ak p.2]] w fun e w'=>∃f,e=M6 (ak (s.reg t p).1)/\(cG ce cj b_ rb).J f (s.reg t p).2 w'/\ch F w f w':=by
 obtain⟨ai,b⟩:=t;obtain⟨g,d⟩:=p;have b1:C (I (G w)) w (bj (bj w (R #[U Q ai,U Q b] 97)) (R #[U Q g,U Q d] 97)):=(b9.alloc b8 _).alloc ac _;have N:aA ((cG ce cj b_ rb).J F s w):=h;have u:aA (∀w1,C (I (G w)) w w1->Calls O 200 #[aq ce,bF #[ak g,ak d]] w1 fun e w'=>e=M6 (bK (ie s.T (g,d)))/\C (I (G w1)) w1 w'):=fun w1 hb=>by obtain⟨l,h,aV,a0⟩:=N.o;exact Bg (h.below hb) (g,d) hd B
 have m:aA (∀w1,C (I (G w)) w w1->∃bp,V w1 (av ce 5)=Z (aq bp)/\Calls O 49 #[aq bp,bF #[ak d,ak b]] w1 fun e w'=>∃f,e=M6 (bK (!ku (L s.rg+L s.wt)))/\
  (cG ce cj b_ rb).J f (if 24<=L s.rg+L s.wt then s else {s with rg:=s.rg++[(d,b)]}) w'/\ch F w f w'/\∀a:bG,a.block=ce\/(I (G w)<=a.block/\a.block<I (G w1))->V w' a=V w1 a):=fun w1 hb=>by
  obtain⟨bp,c5,P⟩:=JK ((cG ce cj b_ rb).below N.o hb) d b h0 ag;refine⟨bp,c5,P.mono ?_⟩
  rintro e w' ⟨f,rfl,j,t,hg⟩
  refine⟨f,rfl,j,(ch.of hb).trans t,fun a ha=>aQ ?_⟩
  rcases ha with e|⟨a1,a2⟩
  ·rw[e];exact hg
  ·exact t.fr.block _ a2 (fun c=>by have:=(cG ce cj b_ rb).lt N.o _ c;omega)
 unfold cn.reg;by_cases an:ai=3
 ·subst an;have P:Calls O 199 #[aq ce,bF #[ak 3,ak b]] (bj (bj w (R #[U Q 3,U Q b] 97)) (R #[U Q g,U Q d] 97)) fun e w'=>∃k ad n c,e=M6 (a8 #[bF #[ak k,M0 ad n c],bK D])/\C (I (G w)) w (bj w' (R #[U Q k,M0 ad n c] 220))/\
   (bj w' (R #[U Q k,M0 ad n c] 220)).heap[I (G w)]?=Z (R #[ak 3,ak b] 97 (0,0))/\(bj w' (R #[U Q k,M0 ad n c] 220)).heap[I (G w)+1]?=Z (R #[ak g,ak d] 97 (0,0)):=by
   obtain⟨l,h,aV,a0⟩:=h;refine(r7 (h.below b1) b (ht rfl) B).mono ?_;rintro e w' ⟨rfl,hb⟩
   have ap:=b1.trans (hb.mono b1.size)
   have v:=(hb.block (I (G w)) (by simp;omega)).trans ((aS _ _ _ ac).trans (aP w (R #[U Q 3,U Q b] 97)))
   have o:=(hb.block (I (G w)+1) ac).trans (gH w (R #[U Q 3,U Q b] 97) (R #[U Q g,U Q d] 97))
   exact⟨_,_,_,_,rfl,ap.alloc ap.size _,(aS _ _ _ (lt_of_some v)).trans v,(aS _ _ _ (lt_of_some o)).trans o⟩
  cases hg:ie s.T (g,d)
  ·rw[aI (fun c=>by cases c.2)];rw[hg] at u;clear h ht hd B h0 ag m hg;go_enter func132,ntmps132;go_wp2_with fail;refine P.mono ?_;clear P;rintro e w1 ⟨k,ad,n,c,rfl,hb,v,o⟩
   have S:=u.o _ hb;obtain⟨q0,q1,_,_⟩:=du o;have q:aA (_):=hb;clear hb u v o b1;go_wp2_with fail;refine S.mono ?_;clear S;rintro e al ⟨rfl,i⟩
   have i:=q.o.trans (i.mono q.o.size)
   have W:aA ((cG ce cj b_ rb).J F s al/\ch F w F al):=⟨(cG ce cj b_ rb).below N.o i,ch.of i⟩
   clear i q0 q1;go_wp2_with fail;go_ret;exact⟨F,rfl,W.o.1,W.o.2⟩
  ·rw[aJ ⟨rfl,rfl⟩];rw[hg] at u;have key:∀(fb:Bool)(cd:Int)(s2:cn),(cd=if fb=D then 3 else 0)->aA (∀w1,C (I (G w)) w w1->∃bp,V w1 (av ce 5)=Z (aq bp)/\Calls O 49 #[aq bp,bF #[ak d,ak b]] w1 fun e w'=>∃f,e=M6 (bK (!fb))/\(cG ce cj b_ rb).J f s2 w'/\ch F w f w'/\∀a:bG,a.block=ce\/(I (G w)<=a.block/\a.block<I (G w1))->V w' a=V w1 a)->
    Calls O 132 #[aq ce,bF #[ak 3,ak b],bF #[ak g,ak d]] w fun e w'=>∃f,e=M6 (ak cd)/\(cG ce cj b_ rb).J f s2 w'/\ch F w f w':=by
    intro fb cd s2 a3 m;clear h ht hd B h0 ag hg;cases fb<;>subst a3
    all_goals
     go_enter func132,ntmps132;go_wp2_with fail;refine P.mono ?_;clear P;rintro e w1 ⟨k,ad,n,c,rfl,hb,v,o⟩
     have S:=u.o _ hb;obtain⟨q0,q1,_,_⟩:=du o;have q:aA (_):=hb;have ab:aA (_/\_):=⟨v,o⟩
     clear hb u v o b1;go_wp2_with fail;refine S.mono ?_;clear S;rintro e al ⟨rfl,i⟩
     have ar:=q.o.trans (i.mono q.o.size)
     obtain⟨bp,c5,aB⟩:=m.o _ ar.drew;obtain⟨_,y1,_,l1⟩:=du ((i.block _ (lt_of_some ab.o.1)).trans ab.o.1)
     obtain⟨_,aF,_,l2⟩:=du ((i.block _ (lt_of_some ab.o.2)).trans ab.o.2)
     have c5:V al (av ce 5)=Z (aq bp):=c5;clear i ar q0 q1 ab m;go_wp2_with fail
     go_region_held3 (fun w'=>V w' (av ce 5)=Z (aq bp)/\V w' (av (I (G w)) 1)=Z (ak b)/\V w' (av (I (G w)+1) 1)=Z (ak d)) (go_keep)
      (first|(go_at_call 49;refine aB.mono ?_;clear aB;rintro e aR ⟨ao,rfl,cI,t3,am⟩;have W:aA ((cG ce cj b_ rb).J ao s2 aR/\ch F w ao aR):=⟨cI,t3⟩;have a4:=(am ⟨ce,5,Y⟩ (aM rfl)).trans c5;have ba:=(am ⟨I (G w),1,Y⟩ (aK ⟨aG _,l1⟩)).trans y1;have bb:=(am ⟨I (G w)+1,1,Y⟩ (aK ⟨nC _,l2⟩)).trans aF;clear cI t3 c5 y1 aF am))
     all_goals
      go_wp2_with fail;go_ret;exact⟨rfl,ao,W.o.1,W.o.2⟩
   by_cases x:24<=L s.rg+L s.wt
   ·rw[aJ x];simp only [if_pos x,rn x] at m;exact key D 3 s rfl m
   ·rw[aI x];simp only [if_neg x,ru x] at m;exact key K 0 _ rfl m
 ·rw[aI (fun c=>an c.1)];have P:=vk (ce:=ce) (w:=bj (bj w (R #[U Q ai,U Q b] 97)) (R #[U Q g,U Q d] 97)) (ai,b) an;clear h ht hd B h0 ag u m;go_enter func132,ntmps132;go_wp2_with fail;refine P.mono ?_;clear P;rintro e w1 ⟨rfl,hb⟩
  have q:aA (C (I (G w)) w w1):=b1.trans (hb.mono b1.size)
  clear hb b1;go_wp2_with fail;go_ret;have hb:=q.o.alloc q.o.size (R #[U Q 0,M0 Y 0 0] 220)
  exact⟨F,rfl,(cG ce cj b_ rb).below N.o hb,ch.of hb⟩
theorem JN (h:(cG ce cj b_ rb).J F s w)(v:Int×Int)(hv:v.1=3->0<=v.2/\cA s.T (M v.2))(B:L s.T<=10000)(N:L s.wt<=90000):
 Calls O 207 #[aq ce,bF #[ak v.1,ak v.2]] w fun e w'=>∃d,e=M6 (a8 #[bF #[ak (s.pop v).1.1,ak (s.pop v).1.2],ak (s.pop v).2.1])/\(cG ce cj b_ rb).J d (s.pop v).2.2 w'/\ch F w d w':=by
 obtain⟨k,x⟩:=v;have b1:C (I (G w)) w (bj (bj w (R #[U Q k,U Q x] 97)) (R #[U Q 0,U Q 0] 97)):=(b9.alloc b8 _).alloc ac _;have S:aA ((cG ce cj b_ rb).J F s w):=h;have P:Calls O 200 #[aq ce,bF #[ak k,ak x]] (bj (bj w (R #[U Q k,U Q x] 97)) (R #[U Q 0,U Q 0] 97)) fun e w'=>e=M6 (bK (ie s.T (k,x)))/\C (I (G w)) w w'/\
  w'.heap[I (G w)]?=Z (R #[ak k,ak x] 97 (0,0))/\w'.heap[I (G w)+1]?=Z (R #[ak 0,ak 0] 97 (0,0)):=by
  obtain⟨l,h,aV,a0⟩:=h;refine(Bg (h.below b1) (k,x) hv B).mono ?_;rintro e w' ⟨rfl,hb⟩
  exact⟨rfl,b1.trans (hb.mono b1.size),(hb.block (I (G w)) (by simp;omega)).trans ((aS _ _ _ ac).trans (aP w _)),(hb.block (I (G w)+1) ac).trans (gH w _ _)⟩
 have f:aA (∀w1,C (I (G w)) w w1->∃bp,V w1 (av ce 5)=Z (aq bp)/\Calls O 194 #[aq bp,ak x] w1 fun e w'=>∃d,e=M6 (a8 #[ak (if dW x s.wt<L s.wt then(X s.wt (dW x s.wt) (0,0)).2 else 0),bK (decide (dW x s.wt<L s.wt))])/\
  (cG ce cj b_ rb).J d (if dW x s.wt<L s.wt then {s with wt:=s.wt.take (dW x s.wt)++s.wt.drop (dW x s.wt+1)} else s) w'/\ch F w1 d w'/\∀b,b=ce\/(I (G w)<=b/\b<I (G w1))->w'.heap[b]?=w1.heap[b]?):=fun w1 hb=>by
  obtain⟨bp,c5,P⟩:=JL ((cG ce cj b_ rb).below S.o hb) x N;refine⟨bp,c5,P.mono ?_⟩
  rintro e w' ⟨d,rfl,j,t,hg⟩
  refine⟨d,rfl,j,t,fun a ha=>?_⟩
  rcases ha with e|⟨a1,a2⟩
  ·rw[e];exact hg
  ·exact t.fr.block _ a2 (fun c=>by have:=(cG ce cj b_ rb).lt S.o _ c;omega)
 unfold cn.pop;cases hg:ie s.T (k,x)
 ·rw[aI ae];rw[hg] at P;clear h hv B N f hg b1;go_enter func207,ntmps207;go_wp2_with fail;refine P.mono ?_;clear P;rintro e w1 ⟨rfl,hb,o,n⟩
  obtain⟨W,ab,ad,lw⟩:=du n;have m:aA (_=_):=n;have ag:aA (_):=hb;clear hb o n;go_wp2_with fail;obtain⟨r0,r1,_,_⟩:=du (hD (v1:=ak 0) (v2:=ak 0) m.o)
  have hb:C (I (G w)) w (ay (ay w1 ⟨I (G w)+1,0,Y⟩ (U Q 0)) ⟨I (G w)+1,1,Y⟩ (U Q 0)):=(ag.o.setCell ac _).setCell ac _;exact a6 (v:=a8 #[bF #[ak 0,ak 0],ak 2]) (by simp[results,results207,go_sem,r0,r1]) rfl ⟨F,rfl,(cG ce cj b_ rb).below S.o hb,ch.of hb⟩
 ·rw[aJ rfl];rw[hg] at P;have key:∀(fb:Bool)(z:Int)(s2:cn),(∀w1,C (I (G w)) w w1->∃bp,V w1 (av ce 5)=Z (aq bp)/\Calls O 194 #[aq bp,ak x] w1 fun e w'=>∃d,e=M6 (a8 #[ak z,bK fb])/\
   (cG ce cj b_ rb).J d s2 w'/\ch F w1 d w'/\∀b,b=ce\/(I (G w)<=b/\b<I (G w1))->w'.heap[b]?=w1.heap[b]?)->
   Calls O 207 #[aq ce,bF #[ak k,ak x]] w fun e w'=>∃d,e=M6 (a8 #[bF #[ak (if fb=D then 3 else 0),ak (if fb=D then z else 0)],ak (if fb=D then 0 else 4)])/\(cG ce cj b_ rb).J d s2 w'/\ch F w d w':=by
   intro fb z s2 f;have f:aA (∀w1,C (I (G w)) w w1->∃bp,V w1 (av ce 5)=Z (aq bp)/\Calls O 194 #[aq bp,ak x] w1 fun e w'=>∃d,e=M6 (a8 #[ak z,bK fb])/\
    (cG ce cj b_ rb).J d s2 w'/\ch F w1 d w'/\∀b,b=ce\/(I (G w)<=b/\b<I (G w1))->w'.heap[b]?=w1.heap[b]?):=f
   have ap:aA (∀b,F b->b<I (G w)):=fun b hb=>(cG ce cj b_ rb).lt h b hb;clear h hv B N hg b1;rename_i ar aB;clear ar aB;cases fb
   all_goals
    go_enter func207,ntmps207;go_wp2_with fail;refine P.mono ?_;clear P;rintro e w1 ⟨rfl,hb,o,n⟩
    obtain⟨_,y1,_,l1⟩:=du o;obtain⟨bp,c5,al⟩:=f.o _ hb.drew;have c5:V w1 (av ce 5)=Z (aq bp):=c5;have ag:aA (_):=hb;have p:aA (_=_):=n;clear hb o n f;go_wp2_with fail
    go_region_held3 (fun w'=>V w' (av ce 5)=Z (aq bp)/\V w' (av (I (G w)) 1)=Z (ak x)) (go_keep)
     (first|(go_at_call 194;refine al.mono ?_;clear al;rintro e am ⟨i,rfl,cI,t3,q⟩;have an:¬i (I (G w)+1):=(fun c=>(t3.sub _ c).elim (fun c=>by have:=ap.o _ c;omega) (fun c=>by have:=lt_of_some p.o;have c:I (G w1)<=_:=c;omega));have g:aA ((cG ce cj b_ rb).J i s2 am/\ch F w i am/\¬i (I (G w)+1)):=⟨cI,(ch.of ag.o.drew).trans t3,an⟩;have aF:=(aQ (a:=⟨ce,5,Y⟩) (q ce (aM rfl))).trans c5;have aR:=(aQ (a:=⟨I (G w),1,Y⟩) (q (I (G w)) (aK ⟨aG _,l1⟩))).trans y1;have ai:=(q (I (G w)+1) (aK ⟨nC _,lt_of_some p.o⟩)).trans p.o;obtain⟨W,ab,ad,lw⟩:=du ai;have m:aA (_=_):=ai;clear cI t3 c5 y1 q ai an))
    all_goals
     clear aF aR p;go_wp2_with fail
     first
      |(
       obtain⟨r0,r1,_,_⟩:=du (hD (v1:=ak 0) (v2:=ak 0) m.o)
       exact a6 (v:=a8 #[bF #[ak 0,ak 0],ak 4]) (by simp[results,results207,go_sem,r0,r1]) rfl ⟨rfl,i,dC.set2 _ g.o.1 g.o.2.2 _ _,g.o.2.1.set2 (nC _) _ _⟩)
      |(
       refine(o4 _ _).mono ?_;rintro e ao ⟨rfl,u⟩
       have m:aA (_=_):=(u.block _ lw).trans m.o;have g:aA ((cG ce cj b_ rb).J i s2 ao/\ch F w i ao/\¬i (I (G w)+1)):=⟨(cG ce cj b_ rb).below g.o.1 u,g.o.2.1.below u,g.o.2.2⟩
       clear u W ab ad lw;obtain⟨W,ab,ad,lw⟩:=du m.o;go_wp2_with fail;obtain⟨r0,r1,_,_⟩:=du (hD (v1:=ak 3) (v2:=ak z) m.o)
       exact a6 (v:=a8 #[bF #[ak 3,ak z],ak 0]) (by simp[results,results207,go_sem,r0,r1]) rfl ⟨rfl,i,dC.set2 _ g.o.1 g.o.2.2 _ _,g.o.2.1.set2 (nC _) _ _⟩)
  have f:=f.o;by_cases hi:dW x s.wt<L s.wt
  ·rw[aJ hi];simp only [if_pos hi,decide_eq_true hi] at f;exact key D _ _ f
  ·rw[aI hi];simp only [if_neg hi,decide_eq_false hi] at f;exact key K _ _ f
theorem JO (h:(cG ce cj b_ rb).J F s w)(v y:Int×Int)(i:Int)(hv:v.1=3->0<=v.2/\cA s.T (M v.2))(m:L s.T<=10000)(B:∀i,L (X s.T i t0).2.1<=12):
 Calls O 133 #[aq ce,bF #[ak v.1,ak v.2],ak i,bF #[ak y.1,ak y.2]] w fun e w'=>∃f,e=M6 (ak (s.set v i y).1)/\(cG ce cj b_ rb).J f (s.set v i y).2 w'/\ch F w f w':=by
 obtain⟨l,h,u,o⟩:=h;have no:∀c:Int,c≠0->s.fc v i=c->(∀w',C (I (G w)) w w'->Calls O 201 #[aq ce,bF #[ak v.1,ak v.2],ak i] w' fun e N=>e=M6 (a8 #[bF #[ak 0,ak 0],ak c])/\C (I (G w')) w' N)->
  Calls O 133 #[aq ce,bF #[ak v.1,ak v.2],ak i,bF #[ak y.1,ak y.2]] w fun e w'=>∃f,e=M6 (ak (s.set v i y).1)/\(cG ce cj b_ rb).J f (s.set v i y).2 w'/\ch F w f w':=fun c hc p P=>by
  refine(Jh v y i c hc P).mono ?_;rintro e w' ⟨rfl,hb⟩
  unfold cn.set;rw[p,aI hc];exact⟨F,rfl,⟨l,h.below hb,u,o⟩,ch.of hb⟩
 by_cases q:v.1=3/\(X s.T (M v.2) t0).1≠5
 ·obtain⟨d,j⟩:=q;have hd:jy s.T v=D:=jq.2 ⟨d,j⟩
  have t:=hv d;clear hv;obtain⟨k,x⟩:=v;dsimp only at d j t no⊢;subst d;by_cases hi:i<0\/(L (X s.T (M x) t0).2.1:Int)<=i
  ·exact no 1 ae (by unfold cn.fc;rw[aJ hd,aJ hi]) (fun w' hb=>Bk (h.below hb) x i t m j hi)
  ·have p:s.fc (3,x) i=0:=by unfold cn.fc;rw[aJ hd,aI hi]
   obtain⟨n,rfl⟩:=bH (a:=i) aa;have hn:n<L (X s.T (M x) t0).2.1:=aa;refine(Jg h x n y t m j hn (aO hn (B _))).mono ?_;rintro e w' ⟨rfl,g,fr⟩
   unfold cn.set;rw[p,aJ rfl];exact⟨F,rfl,⟨l,g,u,o⟩,fr.mono (fun b hb=>(o b).2 hb),fun b hb=>aM hb⟩
 ·exact no 2 ae (by unfold cn.fc;rw[aI (fun c=>q (jq.1 c))]) (fun w' hb=>Bj (h.below hb) v i hv m (fun d=>mg (fun c=>q ⟨d,c⟩)))
end
def e7 (f:Nat->Int):Nat->Int
 |0=>0
 |n+1=>e7 f n+f n
theorem n3 {f g:Nat->Int}:∀n,(∀i,i<n->f i=g i)->e7 f n=e7 g n
 |0,_=>rfl
 |n+1,h=>by rw[e7,e7,n3 n (fun i hi=>h i aa),h n aa]
theorem vy:∀n,e7 (fun _=>0) n=0
 |0=>rfl
 |n+1=>by rw[e7,vy n];rfl
theorem Bw {f g:Nat->Int}{k:Nat}(b:∀i,i≠k->f i=g i):∀n,k<n->e7 g n=e7 f n+(g k-f k)
 |0,h=>by omega
 |n+1,h=>by
  rw[e7,e7];by_cases e:k=n
  ·subst e;rw[n3 k (fun i hi=>b i aa)];omega
  ·rw[Bw b n aa,b n aa];omega
theorem Bx {f:Nat->Int}(h:∀i,0<=f i/\f i<=13):∀n,0<=e7 f n/\e7 f n<=13*n
 |0=>⟨tF _,tF _⟩
 |n+1=>by have b:=Bx h n;have c:=h n;rw[e7];omega
def jH (T:List cJ)(i:Nat):Int:=if(X T i t0).2.2.2=D then 0 else if(X T i t0).2.2.1=D then 0 else 1+L (X T i t0).2.1
def jI (T:List cJ)(i:Nat):Int:=if(X T i t0).2.2.2=D then 0 else if(X T i t0).2.2.1=D then 1+L (X T i t0).2.1 else 0
theorem JP (T:List cJ):eI T=(e7 (jH T) (L T),e7 (jI T) (L T)):=by
 have key:∀n,n<=L T->eI (T.take n)=(e7 (jH T) n,e7 (jI T) n):=fun n=>by
  induction n with
  |zero=>intro _;rfl
  |succ n b=>
   intro hn;have e:T.take (n+1)=T.take n++[X T n t0]:=by rw[yw,aL,aN aa];rfl
   rw[e,xl,b aa,e7,e7];unfold jx jH jI;split
   ·simp
   ·split
    ·simp
    ·simp
 have:=key (L T) b8
 rwa [p2 b8] at this
theorem By (T:List cJ)(L:List Bool):∀n,iV T L n=e7 (fun i=>if X L i K=D then 1+(X T i t0).2.1.length else 0) n
 |0=>rfl
 |n+1=>by rw[e7,<-By T L n,iV];split<;>simp
def g7 (left:Int->Bool)(f:Nat->Int)(i:Nat):Int:=if left i=D then 0 else f i
theorem vz (left:Int->Bool)(f:Nat->Int)(k n:Nat)(hk:k<n)(hl:left k=D):e7 (g7 (fun y=>left y&&!(y==(k:Int))) f) n=e7 (g7 left f) n+f k:=by
 have h:=Bw (f:=g7 left f) (g:=g7 (fun y=>left y&&!(y==(k:Int))) f) (fun i hi=>by
  unfold g7;have:((i:Int)==(k:Int))=K:=by simp;omega
  simp[this]) n hk
 rw[h];unfold g7;rw[aJ hl,aI ac];omega
theorem sf {f:Nat->Int}(left:Int->Bool)(h:∀i,0<=f i/\f i<=13)(n:Nat):0<=e7 (g7 left f) n/\e7 (g7 left f) n<=13*n:=Bx (fun i=>by
 unfold g7;split
 ·omega
 ·exact h i) n
end Go.Proofs.YtpkjkjhanlbcoaaGreat
