import Derived.Test.YtpkjkjhanlbcoaaGreatJ31
namespace Go.Proofs.YtpkjkjhanlbcoaaGreat
set_option maxRecDepth 100000
set_option maxHeartbeats 4000000
open Tryz
open Go.RowKit W Kp cf
theorem uh {P:Prop}(h:P:=by
 go_enter func232,ntmps232;go_wp2_with fail;refine P.mono ?_;clear P;rintro e w1 ⟨rfl,hb⟩
 have HB:ay (aw w w1):=((aH _ w).alloc bW _).trans (hb.mono Z)
 clear hb;go_wp2_with fail;go_ret2;exact⟨rfl,HB.out.alloc HB.out.size _⟩):P:=h
theorem z3 {P:Prop}(h:P:=by
 go_wp2_with fail;refine(q7 _ _).mono ?_;rintro e w2 ⟨rfl,hb2⟩
 have hq:=(hb2.block (w.heap.size+1+1) Z).trans (ui w _ _ _)
 obtain⟨e0,e1,f0,lw⟩:=di hq;have HN:=hide hq;have HB:=hide (b1.trans (hb2.mono b1.size))
 go_wp2_with fail;obtain⟨r0,r1,_,_⟩:=di (gy (v1:=ah 1) (v2:=ah 0) HN.out)
 exact a3 (v:=.agg #[ah 1,ah 0]) (by simp[results,results209,go_sem,r0,r1]) rfl ⟨rfl,(HB.out.setCell (by simp;omega) _).setCell (by simp;omega) _⟩):P:=h
theorem z4 {P:Prop}(h:P:=by
 go_enter func200,ntmps200;go_wp2_with fail;refine P.mono ?_;clear P;rintro e w1 ⟨rfl,hb⟩
 have HB:ay (aw w w1):=((aH _ w).alloc bW _).trans (hb.mono Z)
 clear hb;go_wp2_with fail;go_ret;exact⟨rfl,HB.out.alloc HB.out.size _⟩):P:=h
theorem mr (w:ax):(zeroValue 220).run prog w=.ok (.agg #[ah 0,.slice none 0 0]) w:=by kernel_rfl
theorem iR (w:ax)(a o:Obj):((w.alloc a).alloc o).heap[w.heap.size+1]?=some o:=by have h:=aN (w.alloc a) o;rwa [show(w.alloc a).heap.size=w.heap.size+1 by simp] at h
theorem di {w:ax}{p:Nat}{a b:Value}{T:TypeId}(h:w.heap[p]?=some (.cells #[a,b] T (0,0))):w.cell? (aq p 0)=some a/\w.cell? (aq p 1)=some b/\(∀o,w.frozen? (aq p o)=false)/\p<w.heap.size:=
 ⟨by simp[World.cell?,h],by simp[World.cell?,h],fun o=>by simp[World.frozen?,h],lt_of_some h⟩
section
variable {bY:Nat}{b_ bZ:Int}{l:gF}{s:ck}{w:ax}
theorem uj (v:Int×Int)(hv:v.1≠3):
 Calls prog 199 #[aj bY,.agg #[ah v.1,ah v.2]] w fun e w'=>e=.returned (.tuple #[.agg #[ah 0,.slice none 0 0],.bool false])/\aw w w':=by
 obtain⟨k,x⟩:=v;dsimp only at hv⊢;go_enter func199,ntmps199;go_wp2_with fail;exact a3 (v:=.tuple #[.agg #[ah 0,.slice none 0 0],.bool false]) (by simp[results,results199,go_sem]) rfl ⟨rfl,(bX.alloc bW _).alloc Z _⟩
theorem q8 (h:dS bY b_ bZ l s w)(x:Int)(b:0<=x/\cv s.T x.toNat)(d:s.T.length<=10000):
 Calls prog 199 #[aj bY,.agg #[ah 3,ah x]] w fun e w'=>e=.returned (.tuple #[fW s.T l.fm x.toNat,.bool true])/\aw w w':=by
 obtain⟨_,_,c2,_,_,_,_,_,f⟩:=h.cells;have hl:x<10000:=by have:=b.2.1;omega
 have L:∀W,aw w W->(Instr.lookup 184 (.map (some l.mb)) (ah x) true).run prog W=.ok (.tuple #[fW s.T l.fm x.toNat,.bool true]) W:=fun W hb=>by
  have:=(h.below hb).g2.mp.look_ok (t:=184) (e:=220) Tryz.underlying184 (mr W) (x:=x) b.1 V;rw[jb b] at this
  exact this
 have b1:aw w ((w.alloc (.cells #[.int .i64 3,.int .i64 x] 97)).alloc (.cells #[.int .i64 0,.slice none 0 0] 220)):=(bX.alloc bW _).alloc Z _;have k:=(b1.cell (p:=aq bY 2) f).trans c2;have m:((w.alloc (.cells #[.int .i64 3,.int .i64 x] 97)).alloc (.cells #[.int .i64 0,.slice none 0 0] 220)).cell? (aq w.heap.size 1)=some (ah x):=by simp[go_sem]
 have hn:=iR w (.cells #[.int .i64 3,.int .i64 x] 97) (.cells #[.int .i64 0,.slice none 0 0] 220)
 clear h d;dsimp only [fW,eD] at L⊢;generalize (s.T.getD x.toNat t0).1=kd at*;generalize (s.T.getD x.toNat t0).2.1.length=n at*;generalize (l.fm x.toNat).1=ad at*;generalize (l.fm x.toNat).2=cp at*;clear b;go_enter func199,ntmps199;go_wp2_with fail;generalize (w.alloc (.cells #[.int .i64 3,.int .i64 x] 97)).alloc (.cells #[.int .i64 0,.slice none 0 0] 220)=W at*;obtain⟨o,q,u,lw⟩:=di hn;have g:ay (_=_):=hn;have c:ay (aw w W):=b1;have i:=L _ b1.drew;have j:=L _ (b1.alloc b1.size (.cells #[.int .i64 0,.slice none 0 0] 220)).drew;clear L b1 hn
 go_region_held3 (fun w'=>w'.cell? (aq bY 2)=some (.map (some l.mb))/\w'.cell? (aq w.heap.size 1)=some (ah x)) (go_keep) (fail)
 all_goals
  clear i j;go_wp2_with fail;have hs:=c.out.size;obtain⟨r0,r1,_,_⟩:=di ((aS _ (.cells #[.int .i64 kd,.slice ad n cp] 220) _ (by simpa using lw)).trans (gy (v1:=ah kd) (v2:=.slice ad n cp) g.out))
  exact a3 (v:=.tuple #[.agg #[ah kd,.slice ad n cp],.bool true]) (by simp[results,results199,go_sem,r0,r1]) rfl ⟨rfl,(((c.out.setCell Z _).setCell Z _).alloc (by simpa using hs) _).drew⟩
theorem z5 (h:dS bY b_ bZ l s w)(v:Int×Int)(hv:v.1=3->0<=v.2/\cv s.T v.2.toNat)(b:s.T.length<=10000):
 Calls prog 200 #[aj bY,.agg #[ah v.1,ah v.2]] w fun e w'=>e=.returned (.bool (iF s.T v))/\aw w w':=by
 obtain⟨k,x⟩:=v;by_cases c:k=3
 ·subst c;have P:=q8 (h.below ((aH _ w).alloc bW (.cells #[.int .i64 3,.int .i64 x] 97))) x (hv rfl) b;have e:iF s.T (3,x)=decide ((s.T.getD x.toNat t0).1=5):=by unfold iF;rw[Bool.eq_iff_iff];simp
  rw[e];clear h hv b e;dsimp only [fW,eD] at P⊢;generalize (s.T.getD x.toNat t0).1=kd at*;generalize (s.T.getD x.toNat t0).2.1.length=n at*;generalize (l.fm x.toNat).1=ad at*;generalize (l.fm x.toNat).2=cp at*;exact z4
 ·have P:=uj (bY:=bY) (w:=w.alloc (.cells #[.int .i64 k,.int .i64 x] 97)) (k,x) c;have e:iF s.T (k,x)=false:=by unfold iF;simp[c]
  rw[e];clear h hv b e;exact z4
theorem z6 (h:dS bY b_ bZ l s w)(v:Int×Int)(hv:v.1=3->0<=v.2/\cv s.T v.2.toNat)(b:s.T.length<=10000)(hk:v.1=3->(s.T.getD v.2.toNat t0).1=5):
 Calls prog 232 #[aj bY,.agg #[ah v.1,ah v.2]] w fun e w'=>e=.returned (.tuple #[.slice none 0 0,ah 2])/\aw w w':=by
 obtain⟨k,x⟩:=v;by_cases c:k=3
 ·subst c;have P:=q8 (h.below ((aH _ w).alloc bW (.cells #[.int .i64 3,.int .i64 x] 97))) x (hv rfl) b;have hk:=hk rfl;clear h hv b;dsimp only [fW,eD] at P hk⊢;rw[hk] at P;clear hk;generalize (s.T.getD x.toNat t0).2.1.length=n at*;generalize (l.fm x.toNat).1=ad at*;generalize (l.fm x.toNat).2=cp at*;exact uh
 ·have P:=uj (bY:=bY) (w:=w.alloc (.cells #[.int .i64 k,.int .i64 x] 97)) (k,x) c;clear h hv b hk;exact uh
theorem uk (h:dS bY b_ bZ l s w)(x:Int)(hv:0<=x/\cv s.T x.toNat)(b:s.T.length<=10000)(hk:(s.T.getD x.toNat t0).1≠5):
 Calls prog 232 #[aj bY,.agg #[ah 3,ah x]] w fun e w'=>e=.returned (.tuple #[eD s.T l.fm x.toNat,ah 0])/\aw w w':=by
 have P:=q8 (h.below ((aH _ w).alloc bW (.cells #[.int .i64 3,.int .i64 x] 97))) x hv b;clear h hv b;dsimp only [fW,eD] at P hk⊢;generalize (s.T.getD x.toNat t0).1=kd at*;generalize (s.T.getD x.toNat t0).2.1.length=n at*;generalize (l.fm x.toNat).1=ad at*;generalize (l.fm x.toNat).2=cp at*;exact uh
theorem z7 (h:dS bY b_ bZ l s w)(v:Int×Int)(i:Int)(hv:v.1=3->0<=v.2/\cv s.T v.2.toNat)(b:s.T.length<=10000)(hk:v.1=3->(s.T.getD v.2.toNat t0).1=5):
 Calls prog 201 #[aj bY,.agg #[ah v.1,ah v.2],ah i] w fun e w'=>e=.returned (.tuple #[.agg #[ah 0,ah 0],ah 2])/\aw w w':=by
 obtain⟨k,x⟩:=v;have b1:aw w ((w.alloc (.cells #[.int .i64 k,.int .i64 x] 97)).alloc (.cells #[.int .i64 0,.int .i64 0] 97)):=(bX.alloc bW _).alloc Z _;have P:=z6 (h.below b1) (k,x) hv b hk;clear h hv b hk;go_enter func201,ntmps201;go_wp2_with fail;refine P.mono ?_;clear P;rintro e w1 ⟨rfl,hb⟩
 have hq:=(hb.block (w.heap.size+1) Z).trans (iR w (.cells #[.int .i64 k,.int .i64 x] 97) (.cells #[.int .i64 0,.int .i64 0] 97))
 obtain⟨f,g,j,lw⟩:=di hq;have c:ay (_=_):=hq;have d:ay (aw w w1):=b1.trans (hb.mono (by simp;omega))
 clear hb b1 hq;go_wp2_with fail;obtain⟨r0,r1,_,_⟩:=di (gy (v1:=ah 0) (v2:=ah 0) c.out)
 exact a3 (v:=.tuple #[.agg #[ah 0,ah 0],ah 2]) (by simp[results,results201,go_sem,r0,r1]) rfl ⟨rfl,(d.out.setCell Z _).setCell Z _⟩
theorem z8 (h:dS bY b_ bZ l s w)(x i:Int)(hv:0<=x/\cv s.T x.toNat)(b:s.T.length<=10000)(hk:(s.T.getD x.toNat t0).1≠5)(hi:i<0\/((s.T.getD x.toNat t0).2.1.length:Int)<=i):
 Calls prog 201 #[aj bY,.agg #[ah 3,ah x],ah i] w fun e w'=>e=.returned (.tuple #[.agg #[ah 0,ah 0],ah 1])/\aw w w':=by
 have b1:aw w ((w.alloc (.cells #[.int .i64 3,.int .i64 x] 97)).alloc (.cells #[.int .i64 0,.int .i64 0] 97)):=(bX.alloc bW _).alloc Z _;have P:=uk (h.below b1) x hv b hk;clear h hv b hk;dsimp only [eD] at P;generalize (s.T.getD x.toNat t0).2.1.length=n at*;generalize (l.fm x.toNat).1=ad at*;generalize (l.fm x.toNat).2=cp at*;by_cases h0:i<0
 all_goals
  first
   |(have f:(n:Int)<=i:=by omega)
   |skip
  go_enter func201,ntmps201;go_wp2_with fail;refine P.mono ?_;clear P;rintro e w1 ⟨rfl,hb⟩
  have hq:=(hb.block (w.heap.size+1) Z).trans (iR w (.cells #[.int .i64 3,.int .i64 x] 97) (.cells #[.int .i64 0,.int .i64 0] 97))
  obtain⟨g,j,k,lw⟩:=di hq;have c:ay (_=_):=hq;have d:ay (aw w w1):=b1.trans (hb.mono (by simp;omega))
  clear hb b1 hq hi;go_wp2_with fail;obtain⟨r0,r1,_,_⟩:=di (gy (v1:=ah 0) (v2:=ah 0) c.out)
  exact a3 (v:=.tuple #[.agg #[ah 0,ah 0],ah 1]) (by simp[results,results201,go_sem,r0,r1]) rfl ⟨rfl,(d.out.setCell Z _).setCell Z _⟩
theorem z9 (h:dS bY b_ bZ l s w)(x:Int)(i:Nat)(hv:0<=x/\cv s.T x.toNat)(d:s.T.length<=10000)(hk:(s.T.getD x.toNat t0).1≠5)(hi:i<(s.T.getD x.toNat t0).2.1.length):
 Calls prog 201 #[aj bY,.agg #[ah 3,ah x],ah i] w fun e w'=>e=.returned (.tuple #[.agg #[ah ((s.T.getD x.toNat t0).2.1.getD i (0,0)).1,ah ((s.T.getD x.toNat t0).2.1.getD i (0,0)).2],ah 0])/\aw w w':=by
 have b1:aw w ((w.alloc (.cells #[.int .i64 3,.int .i64 x] 97)).alloc (.cells #[.int .i64 0,.int .i64 0] 97)):=(bX.alloc bW _).alloc Z _;have P:=uk (h.below b1) x hv d hk;have j:=g7 (h.g2.fl _ hv.2)
 obtain⟨b,o,f,lb,g⟩:=j V;have hc:=g i hi;clear h hv d hk g;dsimp only [eD] at P;rw[f] at P;generalize (s.T.getD x.toNat t0).2.1.getD i (0,0)=y at*;generalize (s.T.getD x.toNat t0).2.1.length=n at*;generalize (l.fm x.toNat).2=cp at*;clear f;go_enter func201,ntmps201;go_wp2_with fail;refine P.mono ?_;clear P;rintro e w1 ⟨rfl,hb⟩
 have hq:=(hb.block (w.heap.size+1) Z).trans (iR w (.cells #[.int .i64 3,.int .i64 x] 97) (.cells #[.int .i64 0,.int .i64 0] 97))
 obtain⟨m,q,t,lw⟩:=di hq;have k:ay (_=_):=hq;have c:ay (aw w w1):=b1.trans (hb.mono (by simp;omega))
 have g0:=(c.out.cell (p:=aq b (o+i*2)) lb).trans hc.1;have g1:=(c.out.cell (p:=aq b (o+i*2+1)) lb).trans hc.2;clear hb b1 hq hc;go_wp2_with fail;obtain⟨r0,r1,_,_⟩:=di (gy (v1:=ah y.1) (v2:=ah y.2) k.out)
 exact a3 (v:=.tuple #[.agg #[ah y.1,ah y.2],ah 0]) (by simp[results,results201,go_sem,r0,r1]) rfl ⟨rfl,(c.out.setCell Z _).setCell Z _⟩
theorem q7 (x:Int)(w:ax):Calls prog 205 #[ah x] w fun e w'=>e=.returned (.agg #[ah 1,ah x])/\aw w w':=by go_enter func205,ntmps205;go_wp2_with fail;exact a3 (v:=.agg #[ah 1,ah x]) (by simp[results,results205,go_sem]) rfl ⟨rfl,bX.alloc bW _⟩
theorem ow (x:Int)(w:ax):Calls prog 239 #[ah x] w fun e w'=>e=.returned (.agg #[ah 3,ah x])/\aw w w':=by go_enter func239,ntmps239;go_wp2_with fail;exact a3 (v:=.agg #[ah 3,ah x]) (by simp[results,results239,go_sem]) rfl ⟨rfl,bX.alloc bW _⟩
end
section
variable {bY:Nat}{b_ bZ:Int}{l:gF}{F:Nat->Prop}{s:ck}{w w':ax}{T T':List cD}
theorem HL {fm:Fm}(b:∀i,cv T' i↔cv T i)(d:∀i,(T'.getD i t0).1=(T.getD i t0).1/\(T'.getD i t0).2.1.length=(T.getD i t0).2.1.length):hJ T' fm=hJ T fm:=by
 funext x
 by_cases h:0<=x/\cv T x.toNat
 ·rw[jb h,jb ⟨h.1,(b _).2 h.2⟩];dsimp only [fW,eD];rw[(d _).1,(d _).2]
 ·rw[lH h,lH (fun c=>h ⟨c.1,(b _).1 c.2⟩)]
theorem q9 (T:List cD)(j i:Nat)(y:Int×Int)(k:Nat):(i_ T j i y).getD k t0=if j=k/\j<T.length then((T.getD j t0).1,(T.getD j t0).2.1.set i y,(T.getD j t0).2.2) else T.getD k t0:=by
 by_cases b:j=k
 ·subst b;by_cases c:j<T.length
  ·simp[c]
  ·simp[c]
 ·simp[b]
theorem q_ (T:List cD)(j i:Nat)(y:Int×Int)(k:Nat):cv (i_ T j i y) k↔cv T k:=by
 unfold cv;rw[a4,q9];split
 ·rename_i h;rw[<-h.1]
 ·exact Iff.rfl
theorem dS.field (h:dS bY b_ bZ l s w){j i:Nat}(n:cv s.T j)(hi:i<(s.T.getD j t0).2.1.length)(y:Int×Int):∃b cp,eD s.T l.fm j=.slice (ak b) (s.T.getD j t0).2.1.length cp/\
 w.cell? (aq b (i*2))=some (ah ((s.T.getD j t0).2.1.getD i (0,0)).1)/\w.cell? (aq b (i*2+1))=some (ah ((s.T.getD j t0).2.1.getD i (0,0)).2)/\(∀o,w.frozen? (aq b o)=false)/\b<w.heap.size/\l.own b=10+j/\
 ∀w' W:ax,(∀k,l.own k≠0->k≠b->w'.heap[k]?=w.heap[k]?)->w.heap.size<=w'.heap.size->W.heap[b]?=w.heap[b]?->w'.heap[b]?=((W.setCell ⟨b,i*2,none⟩ (.int .i64 y.1)).setCell ⟨b,i*2+1,none⟩ (.int .i64 y.2)).heap[b]?->dS bY b_ bZ l {s with T:=i_ s.T j i y} w':=by
 have hr:=h.g2.fl j n;obtain⟨b,cp,e⟩:=eU hr V;have ho:=h.g2.eR j n b (by rw[e];rfl)
 obtain⟨E,t⟩:=e5 hr b (by rw[e];rfl)
 obtain⟨F,o,u,lb,x⟩:=g7 hr V;have A:(l.fm j).1=ak b:=by injection e
 rw[A] at u;cases u;have hc:=x i hi;rw[Nat.zero_add] at hc;refine⟨b,cp,e,hc.1,hc.2,fun o=>by simp[World.frozen?,t],lt_of_some t,ho,fun w' W hk hs B hb=>?_⟩
 have v:((i_ s.T j i y).getD j t0)=((s.T.getD j t0).1,(s.T.getD j t0).2.1.set i y,(s.T.getD j t0).2.2):=by rw[q9,aI ⟨rfl,n.1⟩]
 have m:∀k,((i_ s.T j i y).getD k t0).1=(s.T.getD k t0).1/\((i_ s.T j i y).getD k t0).2.1.length=(s.T.getD k t0).2.1.length/\((i_ s.T j i y).getD k t0).2.2=(s.T.getD k t0).2.2:=fun k=>by
  rw[q9];split
  ·rename_i C;rw[<-C.1];exact⟨rfl,Z,rfl⟩
  ·exact⟨rfl,rfl,rfl⟩
 refine {blk:=?_,bo:=h.bo,g2:=?_,g3:=h.g3.keep (fun k d=>hk k V (fun c=>by rw[c] at d;omega)),g4:=h.g4.keep (fun k d=>hk k V (fun c=>by rw[c] at d;omega)),lt:=fun k d=>aM (h.lt k d) hs}
 ·rw[hk bY (by rw[h.bo];decide) (fun c=>by have:=h.bo;rw[c] at this;omega),h.blk];rw[a4]
 ·refine {mp:=?_,mn:=by rw[a4];exact h.g2.mn,dp:=h.g2.dp,fl:=fun k d=>?_,eR:=fun k d=>?_,fe:=fun k d=>?_,al:=by rw[a4];exact h.g2.al}
  ·rw[HL (fun k=>q_ _ _ _ _ k) (fun k=>⟨(m k).1,(m k).2.1⟩)];exact h.g2.mp.same (hk _ (by rw[h.g2.dp];decide) (fun c=>by have:=h.g2.dp;rw[c] at this;omega))
  ·have p:=(q_ _ _ _ _ k).1 d;by_cases e6:k=j
   ·rw[e6,v];dsimp only [eD] at hr e⊢;rw[v];rw[a4,sX];have q:=nQ (nQ (cH (e▸hr) (fun g f=>by cases f;exact B)) (i*2) (ah y.1)) (i*2+1) (ah y.2)
    rw[e];exact cH q (fun g f=>by cases f;exact hb)
   ·have D:(i_ s.T j i y).getD k t0=s.T.getD k t0:=by rw[q9,aG (fun c=>e6 c.1.symm)]
    dsimp only [eD];rw[D];exact cH (h.g2.fl k p) (fun g f=>hk g (by rw[h.g2.eR k p g f];omega) (fun c=>by have q:=h.g2.eR k p g f;rw[c,ho] at q;omega))
  ·intro g f;refine h.g2.eR k ((q_ _ _ _ _ k).1 d) g ?_;dsimp only [eD] at f⊢;rw[(m k).2.1] at f;exact f
  ·rw[(m k).2.2];exact h.g2.fe k ((q_ _ _ _ _ k).1 d)
end
structure Cp where
 w0:ax
 bY:Nat
 b_:Int
 bZ:Int
 l:gF
 s:ck
 cp:Nat
 ab:Nat
 hb:Nat
def eS (T:List cD)(fm:Fm)(A:List Bool)(x:Int):Option Value:=if 0<=x/\A.getD x.toNat false=true then some (fW T fm x.toNat) else none
def hdF (hd:Int->List (Int×Int))(hm:Int->Option Addr×Nat)(x:Int):Option Value:=if(hd x).isEmpty=true then none else some (.slice (hm x).1 (hd x).length (hm x).2)
structure cU (c:Cp)(own:Nat->Nat)(vt:Value)(n1 n2:Nat)(hm:Int->Option Addr×Nat)(st:dw)(w:ax):Prop where
 ol:∀k,k<c.w0.heap.size->w.heap[k]?=c.w0.heap[k]?
 sz:c.w0.heap.size<=w.heap.size
 cb:w.heap[c.cp]?=some (.cells #[aj c.bY,.map (some c.ab),vt,.map (some c.hb)] 252 (0,0))
 co:own c.cp=1
 am:es w c.ab n1 (eS c.s.T c.l.fm st.A)
 ao:own c.ab=2
 an:n1+cnt st.A<=c.s.T.length
 tr:w.ownsRow 0 2 1 vt st.td.length (st.td.map (Value.int .i64))
 tw:∀k,some k=vt.ownBlock->own k=3
 tn:st.td.length+cnt st.A<=c.s.T.length
 hq:es w c.hb n2 (hdF st.hd hm)
 ho:own c.hb=4
 hn:n2<=st.m
 hr:∀x,st.hd x≠[]->0<=x/\w.ownsRow 0 97 2 (.slice (hm x).1 (st.hd x).length (hm x).2) (st.hd x).length (ev (st.hd x))
 hro:∀x,st.hd x≠[]->∀k,some k=(Value.slice (hm x).1 (st.hd x).length (hm x).2).ownBlock->own k=10+x.toNat
 lt:∀b,own b≠0->c.w0.heap.size<=b/\b<w.heap.size
section
variable {c:Cp}{own:Nat->Nat}{vt:Value}{n1 n2:Nat}{hm:Int->Option Addr×Nat}{st:dw}{w w':ax}
theorem cU.keep (h:cU c own vt n1 n2 hm st w)(hs:w.heap.size<=w'.heap.size)(hk:∀b,b<c.w0.heap.size\/own b≠0->w'.heap[b]?=w.heap[b]?):cU c own vt n1 n2 hm st w':=
 {
  h with
  ol:=fun k f=>(hk k (aK f)).trans (h.ol k f)
  sz:=aT h.sz hs
  cb:=(hk _ (aJ (by rw[h.co];decide))).trans h.cb
  am:=h.am.same (hk _ (aJ (by rw[h.ao];decide)))
  tr:=cH h.tr (fun k e=>hk k (aJ (by rw[h.tw k e];decide)))
  hq:=h.hq.same (hk _ (aJ (by rw[h.ho];decide)))
  hr:=fun x d=>⟨(h.hr x d).1,cH (h.hr x d).2 (fun k e=>hk k (aJ (by rw[h.hro x d k e];omega)))⟩
  lt:=fun b hb=>⟨(h.lt b hb).1,aM (h.lt b hb).2 hs⟩}
theorem cU.below (h:cU c own vt n1 n2 hm st w)(hb:aw w w'):cU c own vt n1 n2 hm st w':=h.keep hb.size (fun b ho=>hb.block b (ho.elim (fun c=>aM c h.sz) (fun c=>(h.lt b c).2)))
end
def rd (c:Cp):dr dw where
 J F st w:=∃own vt n1 d hm,cU c own vt n1 d hm st w/\∀b,F b↔b<c.w0.heap.size\/own b≠0
 lt:=by
  rintro F st w ⟨own,vt,n1,d,hm,h,f⟩ b hb;rcases(f b).1 hb with e|e
  ·exact aM e h.sz
  ·exact(h.lt b e).2
 keep:=by rintro F st w w' ⟨own,vt,n1,d,hm,h,f⟩ hs hk;exact⟨own,vt,n1,d,hm,h.keep hs (fun b hb=>hk b ((f b).2 hb)),f⟩
structure fA (own:Nat->Nat)(w:ax)(own':Nat->Nat)(w':ax):Prop where
 fr:Fr (fun b=>own b=1\/own b=2\/own b=3) w w'
 old:∀b,b<w.heap.size->own' b=own b
 nw:∀b,w.heap.size<=b->own' b≠0->own' b=3
section
variable {c:Cp}{own own' mv:Nat->Nat}{vt:Value}{n1 n2:Nat}{hm:Int->Option Addr×Nat}{st:dw}{w w' w'':ax}
theorem fA.of (h:aw w w')(hl:∀b,own b≠0->b<w.heap.size):fA own w own w':=⟨Fr.of h,fun _ _=>rfl,fun b hb ho=>by have:=hl b ho;omega⟩
theorem fA.trans (h:fA own w own' w')(k:fA own' w' mv w''):fA own w mv w'':=by
 refine⟨h.fr.trans k.fr (fun i hi=>?_),fun b hb=>(k.old b (aM hb h.fr.size)).trans (h.old b hb),fun b hb ho=>?_⟩
 ·by_cases c:i<w.heap.size
  ·rw[h.old i c] at hi;exact aK hi
  ·exact aJ V
 ·by_cases d:b<w'.heap.size
  ·rw[k.old b d] at ho⊢;exact h.nw b hb ho
  ·exact k.nw b V ho
theorem cU.cells (h:cU c own vt n1 n2 hm st w):w.cell? (aq c.cp 0)=some (aj c.bY)/\w.cell? (aq c.cp 1)=some (.map (some c.ab))/\w.cell? (aq c.cp 2)=some vt/\w.cell? (aq c.cp 3)=some (.map (some c.hb))/\(∀o,w.frozen? (aq c.cp o)=false)/\c.cp<w.heap.size:=by have b:=h.cb;refine⟨?_,?_,?_,?_,fun o=>by simp[World.frozen?,b],lt_of_some b⟩<;>simp[World.cell?,b]
theorem cU.gv (h:cU c own vt n1 n2 hm st w)(hg:dS c.bY c.b_ c.bZ c.l c.s c.w0):dS c.bY c.b_ c.bZ c.l c.s w:=hg.keep h.sz (fun b hb=>h.ol b (hg.lt b hb))
theorem HM (T:List cD)(fm:Fm)(A:List Bool){x:Int}(h0:0<=x)(hl:x.toNat<A.length):jG (eS T fm A) x (fW T fm x.toNat)=eS T fm (A.set x.toNat true):=by
 funext y
 unfold jG eS;by_cases e:y=x
 ·subst e;rw[aI rfl,aI ⟨h0,by rw[i9 _ _ _ hl,aI rfl]⟩]
 ·rw[aG e];by_cases b:0<=y
  ·rw[i9 _ _ _ hl,aG (show¬x.toNat=y.toNat by omega)]
  ·rw[aG (fun c=>b c.1),aG (fun c=>b c.1)]
theorem ul {T:List cD}{fm:Fm}{A:List Bool}{x:Int}(h0:0<=x):(eS T fm A x).isSome=cL A x:=by
 unfold eS cL;cases h:A.getD x.toNat false
 ·rw[aG Z];rfl
 ·rw[aI ⟨h0,rfl⟩];rfl
theorem cU.fX {cM:Value}{v:Int×Int}(h:cU c own vt n1 n2 hm st w)(hi:dH st.A v=false)(h0:0<=v.2)(hl:v.2.toNat<st.A.length)(fr:Fr (fun b=>own b=1\/own b=2\/own b=3) w w')
 (hM:es w' c.ab (n1+1) (jG (eS c.s.T c.l.fm st.A) v.2 (fW c.s.T c.l.fm v.2.toNat)))
 (f:w'.ownsRow 0 2 1 cM (st.td.length+1) ((st.td++[v.2]).map (Value.int .i64)))(hb:w'.heap[c.cp]?=some (.cells #[aj c.bY,.map (some c.ab),cM,.map (some c.hb)] 252 (0,0)))
 (ht:∀k,some k=cM.ownBlock->own k=3\/w.heap.size<=k):∃own',cU c own' cM (n1+1) n2 hm (dZ st v) w'/\fA own w own' w':=by
 obtain⟨j,g⟩:=me hi;have hc:=ua st.A v.2.toNat (by rw[aE,aL hl] at g⊢;exact g)
 have he:∀b,own b≠0->(if w.heap.size<=b then(if some b=cM.ownBlock then 3 else 0) else own b)=own b:=fun b hb=>aG (by have:=(h.lt b hb).2;omega)
 have hk:∀b,own b=4\/10<=own b->_=_:=fun b hb=>fr.block b (h.lt b V).2 V;have hs:=h.sz;refine⟨fun b=>if w.heap.size<=b then(if some b=cM.ownBlock then 3 else 0) else own b,?_,fr,fun b hb=>aG V,fun b hb ho=>?_⟩
 ·rw[qY hi];refine {
   ol:=fun k i=>(fr.block k V (fun cc=>?_)).trans (h.ol k i),sz:=aT h.sz fr.size,cb:=hb,co:=(he _ (by rw[h.co];decide)).trans h.co,am:=?_,ao:=(he _ (by rw[h.ao];decide)).trans h.ao,an:=?_,tr:=by simpa using f,tw:=fun k e=>?_,tn:=?_
   hq:=h.hq.same (hk _ (aK h.ho)),ho:=(he _ (by rw[h.ho];decide)).trans h.ho,hn:=h.hn,hr:=fun x d=>⟨(h.hr x d).1,cH (h.hr x d).2 (fun k e=>hk k (aJ (by rw[h.hro x d k e];omega)))⟩,hro:=fun x d k e=>(he k (by rw[h.hro x d k e];omega)).trans (h.hro x d k e),lt:=fun b hb=>?_}
  ·have:=(h.lt k V).1;omega
  ·rw[<-HM _ _ _ h0 hl];exact hM
  ·have:=h.an;dsimp only;omega
  ·rcases ht k e with cc|cc
   ·exact(he k (by rw[cc];decide)).trans cc
   ·show(if _ then _ else _)=_;rw[aI cc,aI e]
  ·have:=h.tn;simp only [List.length_append,List.length_singleton];omega
  ·split at hb
   ·rename_i hw;split at hb
    ·rename_i e;exact⟨V,(cn f b e).2⟩
    ·exact absurd rfl hb
   ·exact⟨(h.lt b hb).1,aM (h.lt b hb).2 fr.size⟩
 ·rw[aI hb] at ho⊢;split at ho
  ·rename_i e;rw[aI e]
  ·exact absurd rfl ho
end
theorem HO (k:Int)(ad:Option Addr)(n c:Nat)(w:ax):(Instr.field 220 (.agg #[ah k,.slice ad n c]) 1).run prog w=.ok (.slice ad n c) w:=ae
theorem ui (w:ax)(a b o:Obj):(((w.alloc a).alloc b).alloc o).heap[w.heap.size+1+1]?=some o:=by have h:=aN ((w.alloc a).alloc b) o;rwa [show((w.alloc a).alloc b).heap.size=w.heap.size+1+1 by simp] at h
section
variable {bY:Nat}{b_ bZ:Int}{l:gF}{F:Nat->Prop}{s:ck}{w:ax}
theorem HQ (h:dS bY b_ bZ l s w)(v:Int×Int)(hv:v.1=3->0<=v.2/\cv s.T v.2.toNat)(b:s.T.length<=10000)(hk:v.1=3->(s.T.getD v.2.toNat t0).1=5):
 Calls prog 208 #[aj bY,.agg #[ah v.1,ah v.2]] w fun e w'=>e=.returned (.tuple #[.agg #[ah 0,ah 0],ah 2])/\aw w w':=by
 obtain⟨k,x⟩:=v;have b1:aw w ((w.alloc (.cells #[.int .i64 k,.int .i64 x] 97)).alloc (.cells #[.int .i64 0,.int .i64 0] 97)):=(bX.alloc bW _).alloc Z _;have P:=z6 (h.below b1) (k,x) hv b hk;go_enter func208,ntmps208;go_wp2_with fail;refine P.mono ?_;rintro e w1 ⟨rfl,hb⟩
 have hq:=(hb.block (w.heap.size+1) Z).trans (iR w (.cells #[.int .i64 k,.int .i64 x] 97) (.cells #[.int .i64 0,.int .i64 0] 97))
 obtain⟨f,g,i,lw⟩:=di hq;have c:=hide hq;have d:=hide (b1.trans (hb.mono (by simp;omega)))
 go_wp2_with fail;obtain⟨r0,r1,_,_⟩:=di (gy (v1:=ah 0) (v2:=ah 0) c.out)
 exact a3 (v:=.tuple #[.agg #[ah 0,ah 0],ah 2]) (by simp[results,results208,go_sem,r0,r1]) rfl ⟨rfl,(d.out.setCell Z _).setCell Z _⟩
theorem HR (h:dS bY b_ bZ l s w)(x:Int)(hv:0<=x/\cv s.T x.toNat)(d:s.T.length<=10000)(hk:(s.T.getD x.toNat t0).1≠5):
 Calls prog 208 #[aj bY,.agg #[ah 3,ah x]] w fun e w'=>e=.returned (.tuple #[.agg #[ah 1,ah (s.T.getD x.toNat t0).2.1.length],ah 0])/\aw w w':=by
 have b1:aw w ((w.alloc (.cells #[.int .i64 3,.int .i64 x] 97)).alloc (.cells #[.int .i64 0,.int .i64 0] 97)):=(bX.alloc bW _).alloc Z _;have P:=uk (h.below b1) x hv d hk;dsimp only [eD] at P;generalize (s.T.getD x.toNat t0).2.1.length=n at*;go_enter func208,ntmps208;go_wp2_with fail;refine P.mono ?_;clear P;rintro e w1 ⟨rfl,hb⟩
 have hq:=(hb.block (w.heap.size+1) Z).trans (iR w (.cells #[.int .i64 3,.int .i64 x] 97) (.cells #[.int .i64 0,.int .i64 0] 97))
 have b:=hide (b1.trans (hb.mono (by simp;omega)))
 clear hb b1;go_wp2_with fail;refine(q7 n w1).mono ?_;rintro e f ⟨rfl,c⟩
 have hq:=(c.block _ (lt_of_some hq)).trans hq;obtain⟨g,i,j,lw⟩:=di hq;go_wp2_with fail;obtain⟨r0,r1,_,_⟩:=di (gy (v1:=ah 1) (v2:=ah n) (hide hq).out)
 exact a3 (by simp[results,results208,go_sem,r0,r1]) rfl ⟨rfl,((hide (b.out.trans (c.mono b.out.size))).out.setCell Z _).setCell Z _⟩
theorem HS (x y:Int×Int)(w:ax):
 Calls prog 209 #[.agg #[ah x.1,ah x.2],.agg #[ah y.1,ah y.2]] w fun e w'=>e=.returned (.agg #[ah 1,ah (if x=y then 1 else 0)])/\aw w w':=by
 obtain⟨b,g⟩:=x;obtain⟨d,y1⟩:=y;have b1:aw w (((w.alloc (.cells #[.int .i64 b,.int .i64 g] 97)).alloc (.cells #[.int .i64 d,.int .i64 y1] 97)).alloc (.cells #[.int .i64 0,.int .i64 0] 97)):=((bX.alloc bW _).alloc Z _).alloc (by simp;omega) _;by_cases h0:b=d/\g=y1
 ·obtain⟨h0,f⟩:=h0;subst h0 f;rw[aI rfl];go_enter func209,ntmps209;go_wp2_with fail;refine(q7 _ _).mono ?_;rintro e w2 ⟨rfl,hb2⟩
  have hq:=(hb2.block (w.heap.size+1+1) Z).trans (ui w _ _ _)
  obtain⟨e0,e1,f0,lw⟩:=di hq;have HN:=hide hq;have HB:=hide (b1.trans (hb2.mono b1.size))
  go_wp2_with fail;obtain⟨r0,r1,_,_⟩:=di (gy (v1:=ah 1) (v2:=ah 1) HN.out)
  exact a3 (v:=.agg #[ah 1,ah 1]) (by simp[results,results209,go_sem,r0,r1]) rfl ⟨rfl,(HB.out.setCell (by simp;omega) _).setCell (by simp;omega) _⟩
 ·rw[aG (fun c=>h0 (by cases c;exact⟨rfl,rfl⟩))];by_cases f:b=d
  ·subst f;go_enter func209,ntmps209;exact z3
  ·go_enter func209,ntmps209;exact z3
theorem HU (h:dS bY b_ bZ l s w)(x:Int)(i:Nat)(y:Int×Int)(hv:0<=x/\cv s.T x.toNat)(v:s.T.length<=10000)(hk:(s.T.getD x.toNat t0).1≠5)(hi:i<(s.T.getD x.toNat t0).2.1.length)(F:i<12):
 Calls prog 133 #[aj bY,.agg #[ah 3,ah x],ah i,.agg #[ah y.1,ah y.2]] w fun e w'=>e=.returned (ah 0)/\dS bY b_ bZ l {s with T:=i_ s.T x.toNat i y} w'/\Fr (fun b=>l.own b≠0) w w':=by
 obtain⟨f,y1⟩:=y;have b1:aw w ((w.alloc (.cells #[.int .i64 3,.int .i64 x] 97)).alloc (.cells #[.int .i64 f,.int .i64 y1] 97)):=(bX.alloc bW _).alloc Z _;have P:=z9 (h.below b1) x i hv v hk hi;obtain⟨b,cp,A,g0,g1,B,lb,m,q⟩:=h.field hv.2 hi (f,y1)
 obtain⟨_,_,c2,_,_,_,_,_,C⟩:=h.cells;have hl:x<10000:=by have:=hv.2.1;omega
 have L:∀W,aw w W->(Instr.lookup 184 (.map (some l.mb)) (ah x) false).run prog W=.ok (fW s.T l.fm x.toNat) W:=fun W hb=>by
  have:=(h.below hb).g2.mp.look (t:=184) (e:=220) Tryz.underlying184 (mr W) (x:=x) hv.1 V;rw[jb hv] at this
  exact this
 have G:=hv.1;dsimp only [fW] at L;rw[A] at L;have q:=hide q;have D:=hide m;have E:=hide h.lt;have H:b≠bY:=fun c=>by have:=h.bo;rw[<-c,m] at this;omega
 have m1:b≠w.heap.size:=V;have I:b≠w.heap.size+1:=V;clear h hv v hk A m;generalize (s.T.getD x.toNat t0).2.1.getD i (0,0)=z at*;generalize (s.T.getD x.toNat t0).2.1.length=n at*;generalize (s.T.getD x.toNat t0).1=kd at*;go_enter func133,ntmps133;go_wp2_with fail;refine P.mono ?_;clear P;rintro e w1 ⟨rfl,hb⟩
 have d:=hide (b1.trans (hb.mono (by simp;omega)))
 have g:=(hb.block w.heap.size (by simp;omega)).trans ((aS _ _ _ Z).trans (aN w (.cells #[.int .i64 3,.int .i64 x] 97)))
 have j:=(hb.block (w.heap.size+1) Z).trans (iR w (.cells #[.int .i64 3,.int .i64 x] 97) (.cells #[.int .i64 f,.int .i64 y1] 97))
 have b2:=d.out.alloc d.out.size (.cells #[.int .i64 z.1,.int .i64 z.2] 97)
 have g:=(aS w1 (.cells #[.int .i64 z.1,.int .i64 z.2] 97) _ (lt_of_some g)).trans g;have j:=(aS w1 (.cells #[.int .i64 z.1,.int .i64 z.2] 97) _ (lt_of_some j)).trans j;clear hb b1 d;go_wp2_with fail;generalize w1.alloc (.cells #[.int .i64 z.1,.int .i64 z.2] 97)=W at*;obtain⟨_,J,_,_⟩:=di g;obtain⟨q0,q1,_,_⟩:=di j;have K:=(b2.cell (p:=aq bY 2) C).trans c2;have k0:=(b2.cell (p:=aq b (i*2)) lb).trans g0;have k1:=(b2.cell (p:=aq b (i*2+1)) lb).trans g1;have kf:∀o,W.frozen? (aq b o)=false:=fun o=>(b2.frozen (p:=aq b o) lb).trans (B o)
 have M:=L _ b2.drew;have N:=HO kd (ak b) n cp;have n1:(0:Int)<=i:=V;have O:(i:Int)<n:=V;have d:ay (aw w W):=b2;clear g j L g0 g1 B c2 b2
 go_region_held3 (fun w'=>w'.cell? (aq bY 2)=some (.map (some l.mb))/\w'.cell? (aq w.heap.size 1)=some (ah x)/\w'.cell? (aq (w.heap.size+1) 0)=some (ah f)/\w'.cell? (aq (w.heap.size+1) 1)=some (ah y1)) (go_keep) (fail)
 go_wp2_with fail;go_ret;have hs:=d.out.size;have fr:Fr (fun k=>k=b) W ((W.setCell ⟨b,i*2,none⟩ (.int .i64 f)).setCell ⟨b,i*2+1,none⟩ (.int .i64 y1)).drew:=(((Fr.refl (fun k=>k=b) W).set b _ _ rfl).set b _ _ rfl).drew;have u:=(Fr.of d.out).trans fr (fun _ c=>aK c)
 exact⟨rfl,q.out _ W (fun k hk hn=>u.block k (E.out k hk) hn) u.size (d.out.block b lb) rfl,u.mono (fun k e=>by rw[e,D.out];omega)⟩
theorem HV (v y:Int×Int)(i c:Int)(hc:c≠0)
 (P:∀w',aw w w'->Calls prog 201 #[aj bY,.agg #[ah v.1,ah v.2],ah i] w' fun e d=>e=.returned (.tuple #[.agg #[ah 0,ah 0],ah c])/\aw w' d):
 Calls prog 133 #[aj bY,.agg #[ah v.1,ah v.2],ah i,.agg #[ah y.1,ah y.2]] w fun e w'=>e=.returned (ah c)/\aw w w':=by
 obtain⟨f,y1⟩:=y;obtain⟨k,x⟩:=v;have b1:aw w ((w.alloc (.cells #[.int .i64 k,.int .i64 x] 97)).alloc (.cells #[.int .i64 f,.int .i64 y1] 97)):=(bX.alloc bW _).alloc Z _;go_enter func133,ntmps133;go_wp2_with fail;refine(P _ b1).mono ?_;rintro e w1 ⟨rfl,hb⟩
 have b:=hide (b1.trans (hb.mono b1.size))
 go_wp2_with fail;go_ret;exact⟨rfl,b.out.alloc b.out.size _⟩
end
end Go.Proofs.YtpkjkjhanlbcoaaGreat
