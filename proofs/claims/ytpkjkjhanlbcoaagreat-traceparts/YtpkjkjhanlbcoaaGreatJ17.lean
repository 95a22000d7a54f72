import Derived.Test.YtpkjkjhanlbcoaaGreatJ16
namespace Go.Proofs.YtpkjkjhanlbcoaaGreat
set_option maxRecDepth 100000
set_option maxHeartbeats 8000000
open Tryz
open Go.RowKit W Kp ck
theorem Ap {P:Prop}(h:P:=by
 go_wp2_with fail;refine(ru _ _).mono ?_;rintro e w2 ⟨rfl,hb2⟩
 have hq:=(hb2.block (w.heap.size+1+1) ac).trans (uz w _ _ _)
 obtain⟨e0,e1,f0,lw⟩:=dq hq;have HN:=hide hq;have HB:=hide (b1.trans (hb2.mono b1.size))
 go_wp2_with fail;obtain⟨r0,r1,_,_⟩:=dq (gN (v1:=ak 1) (v2:=ak 0) HN.o)
 exact a5 (v:=.agg #[ak 1,ak 0]) (by simp[results,results209,go_sem,r0,r1]) rfl ⟨rfl,(HB.o.setCell (by simp;omega) _).setCell (by simp;omega) _⟩):P:=h
theorem Aq {P:Prop}(h:P:=by
 rintro e w1 ⟨rfl,hb⟩
 have HB:=hide (((aH _ w).alloc b7 _).trans (hb.mono ac))
 go_wp2;go_ret2;exact⟨rfl,HB.o.alloc HB.o.size _⟩):P:=h
theorem mC (w:az):(zeroValue 220).run prog w=.ok (.agg #[ak 0,.slice none 0 0]) w:=by kernel_rfl
theorem gb (w:az)(a o:Obj):((w.alloc a).alloc o).heap[w.heap.size+1]?=some o:=by have h:=aP (w.alloc a) o;rwa [show(w.alloc a).heap.size=w.heap.size+1 by simp] at h
theorem dq {w:az}{p:Nat}{a b:Value}{T:TypeId}(h:w.heap[p]?=some (.cells #[a,b] T (0,0))):w.cell? (av p 0)=some a/\w.cell? (av p 1)=some b/\(∀o,w.frozen? (av p o)=false)/\p<w.heap.size:=
 ⟨by simp[World.cell?,h],by simp[World.cell?,h],fun o=>by simp[World.frozen?,h],lt_of_some h⟩
section
variable {b9:Nat}{ch b_:Int}{l:gU}{s:cn}{w:az}
theorem uA (v:Int×Int)(hv:v.1≠3):
 Calls prog 199 #[aq b9,.agg #[ak v.1,ak v.2]] w fun e w'=>e=.returned (.tuple #[.agg #[ak 0,.slice none 0 0],.bool false])/\Below w.heap.size w w':=by
 go_wp2;exact a5 (by simp[results,results199,go_sem]) rfl ⟨rfl,(b8.alloc b7 _).alloc ac _⟩
theorem rx (h:dN b9 ch b_ l s w)(x:Int)(b:0<=x/\cz s.T x.toNat)(d:s.T.length<=10000):
 Calls prog 199 #[aq b9,.agg #[ak 3,ak x]] w fun e w'=>e=.returned (.tuple #[ga s.T l.fm x.toNat,.bool true])/\Below w.heap.size w w':=by
 obtain⟨_,_,c2,_,_,_,_,_,f⟩:=h.cells;have hl:x<10000:=by have:=b.2.1;omega
 have L:∀W,Below w.heap.size w W->(Instr.lookup 184 (.map (some l.mb)) (ak x) true).run prog W=.ok (.tuple #[ga s.T l.fm x.toNat,.bool true]) W:=fun W hb=>by
  have:=(h.below hb).g2.mp.look_ok (t:=184) (e:=220) underlying184 (mC W) (x:=x) b.1 aa;rw[jk b] at this
  exact this
 have b1:Below w.heap.size w ((w.alloc (.cells #[.int .i64 3,.int .i64 x] 97)).alloc (.cells #[.int .i64 0,.slice none 0 0] 220)):=(b8.alloc b7 _).alloc ac _;have k:=(b1.cell (p:=av b9 2) f).trans c2;have m:((w.alloc (.cells #[.int .i64 3,.int .i64 x] 97)).alloc (.cells #[.int .i64 0,.slice none 0 0] 220)).cell? (av w.heap.size 1)=some (ak x):=by simp[go_sem]
 have hn:=gb w (.cells #[.int .i64 3,.int .i64 x] 97) (.cells #[.int .i64 0,.slice none 0 0] 220)
 clear h d;dsimp only [ga,eL] at L⊢;generalize (s.T.getD x.toNat t0).1=kd at*;generalize (s.T.getD x.toNat t0).2.1.length=n at*;generalize (l.fm x.toNat).1=ad at*;generalize (l.fm x.toNat).2=cp at*;clear b;go_enter func199,ntmps199;go_wp2_with fail;generalize (w.alloc (.cells #[.int .i64 3,.int .i64 x] 97)).alloc (.cells #[.int .i64 0,.slice none 0 0] 220)=W at*;obtain⟨o,q,u,lw⟩:=dq hn;have g:aA (_=_):=hn;have c:aA (Below w.heap.size w W):=b1;have i:=L _ b1.drew;have j:=L _ (b1.alloc b1.size (.cells #[.int .i64 0,.slice none 0 0] 220)).drew;clear L b1 hn
 go_region_held3 (fun w'=>w'.cell? (av b9 2)=some (.map (some l.mb))/\w'.cell? (av w.heap.size 1)=some (ak x)) (go_keep) (fail)
 all_goals
  clear i j;go_wp2_with fail;have hs:=c.o.size;obtain⟨r0,r1,_,_⟩:=dq ((aS _ (.cells #[.int .i64 kd,.slice ad n cp] 220) _ (by simpa using lw)).trans (gN (v1:=ak kd) (v2:=.slice ad n cp) g.o))
  exact a5 (v:=.tuple #[.agg #[ak kd,.slice ad n cp],.bool true]) (by simp[results,results199,go_sem,r0,r1]) rfl ⟨rfl,(((c.o.setCell ac _).setCell ac _).alloc (by simpa using hs) _).drew⟩
theorem Ar (h:dN b9 ch b_ l s w)(v:Int×Int)(hv:v.1=3->0<=v.2/\cz s.T v.2.toNat)(d:s.T.length<=10000):
 Calls prog 200 #[aq b9,.agg #[ak v.1,ak v.2]] w fun e w'=>e=.returned (.bool (iO s.T v))/\Below w.heap.size w w':=by
 obtain⟨k,x⟩:=v;by_cases c:k=3
 ·subst c;have P:=rx (h.below ((aH _ w).alloc b7 (.cells #[.int .i64 3,.int .i64 x] 97))) x (hv rfl) d;have e:iO s.T (3,x)=decide ((s.T.getD x.toNat t0).1=5):=by unfold iO;rw[Bool.eq_iff_iff];simp
  rw[e];dsimp only [ga,eL] at P⊢;generalize (s.T.getD x.toNat t0).1=kd at*;generalize (s.T.getD x.toNat t0).2.1.length=n at*;generalize (l.fm x.toNat).1=ad at*;generalize (l.fm x.toNat).2=cp at*;go_enter func200,ntmps200;go_wp2_with fail;refine P.mono ?_;clear P;rintro e w1 ⟨rfl,hb⟩
  have b:=hide (((aH _ w).alloc b7 _).trans (hb.mono ac))
  clear hb;go_wp2;go_ret;exact⟨rfl,b.o.alloc b.o.size _⟩
 ·have e:iO s.T (k,x)=false:=by unfold iO;simp[c]
  rw[e];go_enter func200,ntmps200;go_wp2_with fail;refine(uA (b9:=b9) (w:=w.alloc (.cells #[.int .i64 k,.int .i64 x] 97)) (k,x) c).mono ?_;rintro e w1 ⟨rfl,hb⟩
  have b:=hide (((aH _ w).alloc b7 _).trans (hb.mono ac))
  go_wp2;go_ret;exact⟨rfl,b.o.alloc b.o.size _⟩
theorem As (h:dN b9 ch b_ l s w)(v:Int×Int)(hv:v.1=3->0<=v.2/\cz s.T v.2.toNat)(c:s.T.length<=10000)(hk:v.1=3->(s.T.getD v.2.toNat t0).1=5):
 Calls prog 232 #[aq b9,.agg #[ak v.1,ak v.2]] w fun e w'=>e=.returned (.tuple #[.slice none 0 0,ak 2])/\Below w.heap.size w w':=by
 obtain⟨k,x⟩:=v;by_cases b:k=3
 ·subst b;have P:=rx (h.below ((aH _ w).alloc b7 (.cells #[.int .i64 3,.int .i64 x] 97))) x (hv rfl) c;have hk:=hk rfl;dsimp only [ga,eL] at P hk⊢;rw[hk] at P;generalize (s.T.getD x.toNat t0).2.1.length=n at*;generalize (l.fm x.toNat).1=ad at*;generalize (l.fm x.toNat).2=cp at*;go_enter func232,ntmps232;go_wp2_with fail;refine P.mono ?_;exact Aq
 ·go_enter func232,ntmps232;go_wp2_with fail;refine(uA (b9:=b9) (w:=w.alloc (.cells #[.int .i64 k,.int .i64 x] 97)) (k,x) b).mono ?_;exact Aq
theorem uB (h:dN b9 ch b_ l s w)(x:Int)(hv:0<=x/\cz s.T x.toNat)(c:s.T.length<=10000)(hk:(s.T.getD x.toNat t0).1≠5):
 Calls prog 232 #[aq b9,.agg #[ak 3,ak x]] w fun e w'=>e=.returned (.tuple #[eL s.T l.fm x.toNat,ak 0])/\Below w.heap.size w w':=by
 have P:=rx (h.below ((aH _ w).alloc b7 (.cells #[.int .i64 3,.int .i64 x] 97))) x hv c;dsimp only [ga,eL] at P hk⊢;generalize (s.T.getD x.toNat t0).1=kd at*;go_enter func232,ntmps232;go_wp2_with fail;refine P.mono ?_;clear P;rintro e w1 ⟨rfl,hb⟩
 have b:=hide (((aH _ w).alloc b7 _).trans (hb.mono ac))
 clear hb;go_wp2_with fail;go_ret2;exact⟨rfl,b.o.alloc b.o.size _⟩
theorem Au (h:dN b9 ch b_ l s w)(v:Int×Int)(i:Int)(hv:v.1=3->0<=v.2/\cz s.T v.2.toNat)(b:s.T.length<=10000)(hk:v.1=3->(s.T.getD v.2.toNat t0).1=5):
 Calls prog 201 #[aq b9,.agg #[ak v.1,ak v.2],ak i] w fun e w'=>e=.returned (.tuple #[.agg #[ak 0,ak 0],ak 2])/\Below w.heap.size w w':=by
 obtain⟨k,x⟩:=v;have b1:Below w.heap.size w ((w.alloc (.cells #[.int .i64 k,.int .i64 x] 97)).alloc (.cells #[.int .i64 0,.int .i64 0] 97)):=(b8.alloc b7 _).alloc ac _;go_enter func201,ntmps201;go_wp2_with fail;refine(As (h.below b1) (k,x) hv b hk).mono ?_;rintro e w1 ⟨rfl,hb⟩
 have hq:=(hb.block (w.heap.size+1) ac).trans (gb w (.cells #[.int .i64 k,.int .i64 x] 97) (.cells #[.int .i64 0,.int .i64 0] 97))
 obtain⟨c,d,f,lw⟩:=dq hq;go_wp2_with fail;obtain⟨r0,r1,_,_⟩:=dq (gN (v1:=ak 0) (v2:=ak 0) (hide hq).o)
 exact a5 (by simp[results,results201,go_sem,r0,r1]) rfl ⟨rfl,((hide (b1.trans (hb.mono (by simp;omega)))).o.setCell ac _).setCell ac _⟩
theorem Av (h:dN b9 ch b_ l s w)(x i:Int)(hv:0<=x/\cz s.T x.toNat)(b:s.T.length<=10000)(hk:(s.T.getD x.toNat t0).1≠5)(hi:i<0\/((s.T.getD x.toNat t0).2.1.length:Int)<=i):
 Calls prog 201 #[aq b9,.agg #[ak 3,ak x],ak i] w fun e w'=>e=.returned (.tuple #[.agg #[ak 0,ak 0],ak 1])/\Below w.heap.size w w':=by
 have b1:Below w.heap.size w ((w.alloc (.cells #[.int .i64 3,.int .i64 x] 97)).alloc (.cells #[.int .i64 0,.int .i64 0] 97)):=(b8.alloc b7 _).alloc ac _;have P:=uB (h.below b1) x hv b hk;clear h hv b hk;dsimp only [eL] at P;generalize (s.T.getD x.toNat t0).2.1.length=n at*;generalize (l.fm x.toNat).1=ad at*;generalize (l.fm x.toNat).2=cp at*;by_cases h0:i<0
 all_goals
  first
   |(have f:(n:Int)<=i:=by omega)
   |skip
  go_enter func201,ntmps201;go_wp2_with fail;refine P.mono ?_;clear P;rintro e w1 ⟨rfl,hb⟩
  have hq:=(hb.block (w.heap.size+1) ac).trans (gb w (.cells #[.int .i64 3,.int .i64 x] 97) (.cells #[.int .i64 0,.int .i64 0] 97))
  obtain⟨g,j,k,lw⟩:=dq hq;have c:=hide hq;have d:=hide (b1.trans (hb.mono (by simp;omega)))
  clear hb b1 hq hi;go_wp2_with fail;obtain⟨r0,r1,_,_⟩:=dq (gN (v1:=ak 0) (v2:=ak 0) c.o)
  exact a5 (v:=.tuple #[.agg #[ak 0,ak 0],ak 1]) (by simp[results,results201,go_sem,r0,r1]) rfl ⟨rfl,(d.o.setCell ac _).setCell ac _⟩
theorem Aw (h:dN b9 ch b_ l s w)(x:Int)(i:Nat)(hv:0<=x/\cz s.T x.toNat)(f:s.T.length<=10000)(hk:(s.T.getD x.toNat t0).1≠5)(hi:i<(s.T.getD x.toNat t0).2.1.length):
 Calls prog 201 #[aq b9,.agg #[ak 3,ak x],ak i] w fun e w'=>e=.returned (.tuple #[.agg #[ak ((s.T.getD x.toNat t0).2.1.getD i (0,0)).1,ak ((s.T.getD x.toNat t0).2.1.getD i (0,0)).2],ak 0])/\Below w.heap.size w w':=by
 have b1:Below w.heap.size w ((w.alloc (.cells #[.int .i64 3,.int .i64 x] 97)).alloc (.cells #[.int .i64 0,.int .i64 0] 97)):=(b8.alloc b7 _).alloc ac _;have P:=uB (h.below b1) x hv f hk;have g:=hZ (h.g2.fl _ hv.2)
 obtain⟨b,o,d,lb,j⟩:=g aa;have hc:=j i hi;dsimp only [eL] at P;rw[d] at P;generalize (s.T.getD x.toNat t0).2.1.getD i (0,0)=y at*;generalize (s.T.getD x.toNat t0).2.1.length=n at*;generalize (l.fm x.toNat).2=cp at*;clear d;go_enter func201,ntmps201;go_wp2_with fail;refine P.mono ?_;clear P;rintro e w1 ⟨rfl,hb⟩
 have hq:=(hb.block (w.heap.size+1) ac).trans (gb w (.cells #[.int .i64 3,.int .i64 x] 97) (.cells #[.int .i64 0,.int .i64 0] 97))
 obtain⟨m,q,t,lw⟩:=dq hq;have k:=hide hq;have c:=hide (b1.trans (hb.mono (by simp;omega)))
 have g0:=(c.o.cell (p:=av b (o+i*2)) lb).trans hc.1;have g1:=(c.o.cell (p:=av b (o+i*2+1)) lb).trans hc.2;clear hb b1 hq hc;go_wp2_with fail;obtain⟨r0,r1,_,_⟩:=dq (gN (v1:=ak y.1) (v2:=ak y.2) k.o)
 exact a5 (v:=.tuple #[.agg #[ak y.1,ak y.2],ak 0]) (by simp[results,results201,go_sem,r0,r1]) rfl ⟨rfl,(c.o.setCell ac _).setCell ac _⟩
theorem ru (x:Int)(w:az):Calls prog 205 #[ak x] w fun e w'=>e=.returned (.agg #[ak 1,ak x])/\Below w.heap.size w w':=by go_enter func205,ntmps205;go_wp2;exact a5 (v:=.agg #[ak 1,ak x]) (by simp[results,results205,go_sem]) rfl ⟨rfl,b8.alloc b7 _⟩
theorem oG (x:Int)(w:az):Calls prog 239 #[ak x] w fun e w'=>e=.returned (.agg #[ak 3,ak x])/\Below w.heap.size w w':=by go_enter func239,ntmps239;go_wp2;exact a5 (v:=.agg #[ak 3,ak x]) (by simp[results,results239,go_sem]) rfl ⟨rfl,b8.alloc b7 _⟩
end
section
variable {b9:Nat}{ch b_:Int}{l:gU}{F:Nat->Prop}{s:cn}{w w':az}{T T':List cI}
theorem Ib {fm:Fm}(b:∀i,cz T' i↔cz T i)(d:∀i,(T'.getD i t0).1=(T.getD i t0).1/\(T'.getD i t0).2.1.length=(T.getD i t0).2.1.length):ib T' fm=ib T fm:=by
 funext x
 by_cases h:0<=x/\cz T x.toNat
 ·rw[jk h,jk ⟨h.1,(b _).2 h.2⟩];dsimp only [ga,eL];rw[(d _).1,(d _).2]
 ·rw[lR h,lR (fun c=>h ⟨c.1,(b _).1 c.2⟩)]
theorem rz (T:List cI)(j i:Nat)(y:Int×Int)(k:Nat):(jh T j i y).getD k t0=if j=k/\j<T.length then((T.getD j t0).1,(T.getD j t0).2.1.set i y,(T.getD j t0).2.2) else T.getD k t0:=by
 by_cases b:j=k
 ·subst b;by_cases c:j<T.length
  ·simp[c]
  ·simp[c]
 ·simp[b]
theorem rA (T:List cI)(j i:Nat)(y:Int×Int)(k:Nat):cz (jh T j i y) k↔cz T k:=by
 unfold cz;rw[bf,rz];split
 ·rename_i h;rw[<-h.1]
 ·exact Iff.rfl
theorem dN.field (h:dN b9 ch b_ l s w){j i:Nat}(n:cz s.T j)(hi:i<(s.T.getD j t0).2.1.length)(y:Int×Int):∃b cp,eL s.T l.fm j=.slice (au b) (s.T.getD j t0).2.1.length cp/\
 w.cell? (av b (i*2))=some (ak ((s.T.getD j t0).2.1.getD i (0,0)).1)/\w.cell? (av b (i*2+1))=some (ak ((s.T.getD j t0).2.1.getD i (0,0)).2)/\(∀o,w.frozen? (av b o)=false)/\b<w.heap.size/\l.own b=10+j/\
 ∀w' W:az,(∀k,l.own k≠0->k≠b->w'.heap[k]?=w.heap[k]?)->w.heap.size<=w'.heap.size->W.heap[b]?=w.heap[b]?->w'.heap[b]?=((W.setCell ⟨b,i*2,none⟩ (.int .i64 y.1)).setCell ⟨b,i*2+1,none⟩ (.int .i64 y.2)).heap[b]?->dN b9 ch b_ l {s with T:=jh s.T j i y} w':=by
 have hr:=h.g2.fl j n;obtain⟨b,cp,e⟩:=eT hr aa;have ho:=h.g2.e3 j n b (by rw[e];rfl)
 obtain⟨ab,t⟩:=fp hr b (by rw[e];rfl)
 obtain⟨ad,o,u,lb,x⟩:=hZ hr aa;have B:(l.fm j).1=au b:=by injection e
 rw[B] at u;cases u;have hc:=x i hi;rw[Nat.zero_add] at hc;refine⟨b,cp,e,hc.1,hc.2,fun o=>by simp[World.frozen?,t],lt_of_some t,ho,fun w' W hk hs F hb=>?_⟩
 have v:((jh s.T j i y).getD j t0)=((s.T.getD j t0).1,(s.T.getD j t0).2.1.set i y,(s.T.getD j t0).2.2):=by rw[rz,aK ⟨rfl,n.1⟩]
 have m:∀k,((jh s.T j i y).getD k t0).1=(s.T.getD k t0).1/\((jh s.T j i y).getD k t0).2.1.length=(s.T.getD k t0).2.1.length/\((jh s.T j i y).getD k t0).2.2=(s.T.getD k t0).2.2:=fun k=>by
  rw[rz];split
  ·rename_i N;rw[<-N.1];exact⟨rfl,ac,rfl⟩
  ·exact⟨rfl,rfl,rfl⟩
 refine {blk:=?_,bo:=h.bo,g2:=?_,g3:=h.g3.keep (fun k d=>hk k aa (fun c=>by rw[c] at d;omega)),g4:=h.g4.keep (fun k d=>hk k aa (fun c=>by rw[c] at d;omega)),lt:=fun k d=>aO (h.lt k d) hs}
 ·rw[hk b9 (by rw[h.bo];decide) (fun c=>by have:=h.bo;rw[c] at this;omega),h.blk];rw[bf]
 ·refine {mp:=?_,mn:=by rw[bf];exact h.g2.mn,dw:=h.g2.dw,fl:=fun k d=>?_,e3:=fun k d=>?_,fw:=fun k d=>?_,al:=by rw[bf];exact h.g2.al}
  ·rw[Ib (fun k=>rA _ _ _ _ k) (fun k=>⟨(m k).1,(m k).2.1⟩)];exact h.g2.mp.same (hk _ (by rw[h.g2.dw];decide) (fun c=>by have:=h.g2.dw;rw[c] at this;omega))
  ·have p:=(rA _ _ _ _ k).1 d;by_cases fU:k=j
   ·rw[fU,v];dsimp only [eL] at hr e⊢;rw[v];rw[bf,tq];have q:=mU (mU (cL (e▸hr) (fun g f=>by cases f;exact F)) (i*2) (ak y.1)) (i*2+1) (ak y.2)
    rw[e];exact cL q (fun g f=>by cases f;exact hb)
   ·have S:(jh s.T j i y).getD k t0=s.T.getD k t0:=by rw[rz,aI (fun c=>fU c.1.symm)]
    dsimp only [eL];rw[S];exact cL (h.g2.fl k p) (fun g f=>hk g (by rw[h.g2.e3 k p g f];omega) (fun c=>by have q:=h.g2.e3 k p g f;rw[c,ho] at q;omega))
  ·intro g f;refine h.g2.e3 k ((rA _ _ _ _ k).1 d) g ?_;dsimp only [eL] at f⊢;rw[(m k).2.1] at f;exact f
  ·rw[(m k).2.2];exact h.g2.fw k ((rA _ _ _ _ k).1 d)
end
structure Cp where
 w0:az
 b9:Nat
 ch:Int
 b_:Int
 l:gU
 s:cn
 cp:Nat
 ab:Nat
 hb:Nat
def e4 (T:List cI)(fm:Fm)(A:List Bool)(x:Int):Option Value:=if 0<=x/\A.getD x.toNat false=true then some (ga T fm x.toNat) else none
def hdF (hd:Int->List (Int×Int))(hm:Int->Option Addr×Nat)(x:Int):Option Value:=if(hd x).isEmpty=true then none else some (.slice (hm x).1 (hd x).length (hm x).2)
structure cY (c:Cp)(own:Nat->Nat)(vt:Value)(n1 n2:Nat)(hm:Int->Option Addr×Nat)(st:dA)(w:az):Prop where
 ol:∀k,k<c.w0.heap.size->w.heap[k]?=c.w0.heap[k]?
 sz:c.w0.heap.size<=w.heap.size
 cb:w.heap[c.cp]?=some (.cells #[aq c.b9,.map (some c.ab),vt,.map (some c.hb)] 252 (0,0))
 co:own c.cp=1
 am:eF w c.ab n1 (e4 c.s.T c.l.fm st.A)
 ao:own c.ab=2
 an:n1+cnt st.A<=c.s.T.length
 tr:w.ownsRow 0 2 1 vt st.td.length (st.td.map (Value.int .i64))
 tw:∀k,some k=vt.ownBlock->own k=3
 tn:st.td.length+cnt st.A<=c.s.T.length
 hq:eF w c.hb n2 (hdF st.hd hm)
 ho:own c.hb=4
 hn:n2<=st.m
 hr:∀x,st.hd x≠[]->0<=x/\w.ownsRow 0 97 2 (.slice (hm x).1 (st.hd x).length (hm x).2) (st.hd x).length (ev (st.hd x))
 hro:∀x,st.hd x≠[]->∀k,some k=(Value.slice (hm x).1 (st.hd x).length (hm x).2).ownBlock->own k=10+x.toNat
 lt:∀b,own b≠0->c.w0.heap.size<=b/\b<w.heap.size
section
variable {c:Cp}{own:Nat->Nat}{vt:Value}{n1 n2:Nat}{hm:Int->Option Addr×Nat}{st:dA}{w w':az}
theorem cY.keep (h:cY c own vt n1 n2 hm st w)(hs:w.heap.size<=w'.heap.size)(hk:∀b,b<c.w0.heap.size\/own b≠0->w'.heap[b]?=w.heap[b]?):cY c own vt n1 n2 hm st w':=
 {
  h with
  ol:=fun k e=>(by grind [ol])
  sz:=aU h.sz hs
  cb:=(by grind [co,cb])
  am:=h.am.same (by grind [ao])
  tr:=cL h.tr (by grind [tw])
  hq:=h.hq.same (by grind [ho])
  hr:=fun x d=>⟨(h.hr x d).1,cL (h.hr x d).2 (by grind [hro])⟩
  lt:=fun b hb=>⟨(h.lt b hb).1,aO (h.lt b hb).2 hs⟩}
theorem cY.below (h:cY c own vt n1 n2 hm st w)(hb:Below w.heap.size w w'):cY c own vt n1 n2 hm st w':=h.keep hb.size (fun b ho=>hb.block b (ho.elim (fun c=>aO c h.sz) (fun c=>(h.lt b c).2)))
end
def rB (c:Cp):dx dA where
 J F st w:=∃own vt n1 d hm,cY c own vt n1 d hm st w/\∀b,F b↔b<c.w0.heap.size\/own b≠0
 lt:=by
  rintro F st w ⟨own,vt,n1,d,hm,h,f⟩ b hb;rcases(f b).1 hb with e|e
  ·exact aO e h.sz
  ·exact(h.lt b e).2
 keep:=by rintro F st w w' ⟨own,vt,n1,d,hm,h,f⟩ hs hk;exact⟨own,vt,n1,d,hm,h.keep hs (fun b hb=>hk b ((f b).2 hb)),f⟩
structure fI (own:Nat->Nat)(w:az)(own':Nat->Nat)(w':az):Prop where
 fr:Fr (fun b=>own b=1\/own b=2\/own b=3) w w'
 old:∀b,b<w.heap.size->own' b=own b
 nw:∀b,w.heap.size<=b->own' b≠0->own' b=3
section
variable {c:Cp}{own own' mD:Nat->Nat}{vt:Value}{n1 n2:Nat}{hm:Int->Option Addr×Nat}{st:dA}{w w' w'':az}
theorem fI.of (h:Below w.heap.size w w')(hl:∀b,own b≠0->b<w.heap.size):fI own w own w':=⟨Fr.of h,fun _ _=>rfl,fun b hb ho=>by grind⟩
theorem fI.trans (h:fI own w own' w')(k:fI own' w' mD w''):fI own w mD w'':=by
 refine⟨h.fr.trans k.fr (fun i hi=>?_),fun b hb=>(k.old b (aO hb h.fr.size)).trans (h.old b hb),fun b hb ho=>?_⟩
 ·grind [old]
 ·by_cases c:b<w'.heap.size
  all_goals grind [old,nw]
theorem cY.cells (h:cY c own vt n1 n2 hm st w):w.cell? (av c.cp 0)=some (aq c.b9)/\w.cell? (av c.cp 1)=some (.map (some c.ab))/\w.cell? (av c.cp 2)=some vt/\w.cell? (av c.cp 3)=some (.map (some c.hb))/\(∀o,w.frozen? (av c.cp o)=false)/\c.cp<w.heap.size:=by have b:=h.cb;refine⟨?_,?_,?_,?_,fun o=>by simp[World.frozen?,b],lt_of_some b⟩<;>simp[World.cell?,b]
theorem cY.gv (h:cY c own vt n1 n2 hm st w)(hg:dN c.b9 c.ch c.b_ c.l c.s c.w0):dN c.b9 c.ch c.b_ c.l c.s w:=(by grind [dN.keep,sz,ol,dN.lt])
theorem Ic (T:List cI)(fm:Fm)(A:List Bool){x:Int}(h0:0<=x)(hl:x.toNat<A.length):jM (e4 T fm A) x (ga T fm x.toNat)=e4 T fm (A.set x.toNat true):=by grind [jM,e4]
theorem uC {T:List cI}{fm:Fm}{A:List Bool}{x:Int}(h0:0<=x):(e4 T fm A x).isSome=cV A x:=by grind [e4,cV]
theorem cY.gd {cS:Value}{v:Int×Int}(h:cY c own vt n1 n2 hm st w)(hi:d6 st.A v=false)(h0:0<=v.2)(hl:v.2.toNat<st.A.length)(fr:Fr (fun b=>own b=1\/own b=2\/own b=3) w w')
 (hM:eF w' c.ab (n1+1) (jM (e4 c.s.T c.l.fm st.A) v.2 (ga c.s.T c.l.fm v.2.toNat)))
 (f:w'.ownsRow 0 2 1 cS (st.td.length+1) ((st.td++[v.2]).map (Value.int .i64)))(hb:w'.heap[c.cp]?=some (.cells #[aq c.b9,.map (some c.ab),cS,.map (some c.hb)] 252 (0,0)))
 (ht:∀k,some k=cS.ownBlock->own k=3\/w.heap.size<=k):∃own',cY c own' cS (n1+1) n2 hm (d_ st v) w'/\fI own w own' w':=by
 obtain⟨i,j⟩:=ny hi;have hc:=ur st.A v.2.toNat (by simp_all)
 have he:∀b,own b≠0->(if w.heap.size<=b then(if some b=cS.ownBlock then 3 else 0) else own b)=own b:=fun b hb=>aI (by have:=(h.lt b hb).2;omega)
 have hk:∀b,own b=4\/10<=own b->_=_:=fun b hb=>fr.block b (by grind) aa;have hs:=h.sz;refine⟨fun b=>if w.heap.size<=b then(if some b=cS.ownBlock then 3 else 0) else own b,?_,fr,fun b hb=>aI aa,fun b hb ho=>?_⟩
 ·rw[rk hi];refine {
   ol:=fun k g=>(fr.block k aa (fun cc=>?_)).trans (h.ol k g),sz:=aU h.sz fr.size,cb:=hb,co:=(by grind [co]),am:=?_,ao:=(by grind [ao]),an:=?_,tr:=by grind,tw:=fun k e=>?_,tn:=?_
   hq:=h.hq.same (hk _ (aM h.ho)),ho:=(by grind [ho]),hn:=h.hn,hr:=fun x d=>⟨(h.hr x d).1,cL (h.hr x d).2 (by grind [hro])⟩,hro:=fun x d k e=>(by grind [hro]),lt:=fun b hb=>?_}
  ·have:=(h.lt k aa).1;omega
  ·grind [Ic]
  ·have:=h.an
   grind
  ·grind
  ·have:=h.tn
   grind
  ·split at hb
   ·rename_i hw;split at hb
    ·rename_i e;exact⟨aa,(cu f b e).2⟩
    omega
   grind [lt,Fr.size,aO]
 grind
end
theorem Ie (k:Int)(ad:Option Addr)(n c:Nat)(w:az):(Instr.field 220 (.agg #[ak k,.slice ad n c]) 1).run prog w=.ok (.slice ad n c) w:=ah
theorem uz (w:az)(a b o:Obj):(((w.alloc a).alloc b).alloc o).heap[w.heap.size+1+1]?=some o:=by have h:=aP ((w.alloc a).alloc b) o;rwa [show((w.alloc a).alloc b).heap.size=w.heap.size+1+1 by simp] at h
section
variable {b9:Nat}{ch b_:Int}{l:gU}{F:Nat->Prop}{s:cn}{w:az}
theorem If (h:dN b9 ch b_ l s w)(v:Int×Int)(hv:v.1=3->0<=v.2/\cz s.T v.2.toNat)(b:s.T.length<=10000)(hk:v.1=3->(s.T.getD v.2.toNat t0).1=5):
 Calls prog 208 #[aq b9,.agg #[ak v.1,ak v.2]] w fun e w'=>e=.returned (.tuple #[.agg #[ak 0,ak 0],ak 2])/\Below w.heap.size w w':=by
 obtain⟨k,x⟩:=v;have b1:Below w.heap.size w ((w.alloc (.cells #[.int .i64 k,.int .i64 x] 97)).alloc (.cells #[.int .i64 0,.int .i64 0] 97)):=(b8.alloc b7 _).alloc ac _;have P:=As (h.below b1) (k,x) hv b hk;go_enter func208,ntmps208;go_wp2_with fail;refine P.mono ?_;rintro e w1 ⟨rfl,hb⟩
 have hq:=(hb.block (w.heap.size+1) ac).trans (gb w (.cells #[.int .i64 k,.int .i64 x] 97) (.cells #[.int .i64 0,.int .i64 0] 97))
 obtain⟨f,g,i,lw⟩:=dq hq;have c:=hide hq;have d:=hide (b1.trans (hb.mono (by simp;omega)))
 go_wp2_with fail;obtain⟨r0,r1,_,_⟩:=dq (gN (v1:=ak 0) (v2:=ak 0) c.o)
 exact a5 (v:=.tuple #[.agg #[ak 0,ak 0],ak 2]) (by simp[results,results208,go_sem,r0,r1]) rfl ⟨rfl,(d.o.setCell ac _).setCell ac _⟩
theorem Ig (h:dN b9 ch b_ l s w)(x:Int)(hv:0<=x/\cz s.T x.toNat)(d:s.T.length<=10000)(hk:(s.T.getD x.toNat t0).1≠5):
 Calls prog 208 #[aq b9,.agg #[ak 3,ak x]] w fun e w'=>e=.returned (.tuple #[.agg #[ak 1,ak (s.T.getD x.toNat t0).2.1.length],ak 0])/\Below w.heap.size w w':=by
 have b1:Below w.heap.size w ((w.alloc (.cells #[.int .i64 3,.int .i64 x] 97)).alloc (.cells #[.int .i64 0,.int .i64 0] 97)):=(b8.alloc b7 _).alloc ac _;have P:=uB (h.below b1) x hv d hk;dsimp only [eL] at P;generalize (s.T.getD x.toNat t0).2.1.length=n at*;go_enter func208,ntmps208;go_wp2_with fail;refine P.mono ?_;clear P;rintro e w1 ⟨rfl,hb⟩
 have hq:=(hb.block (w.heap.size+1) ac).trans (gb w (.cells #[.int .i64 3,.int .i64 x] 97) (.cells #[.int .i64 0,.int .i64 0] 97))
 have b:=hide (b1.trans (hb.mono (by simp;omega)))
 clear hb b1;go_wp2_with fail;refine(ru n w1).mono ?_;rintro e f ⟨rfl,c⟩
 have hq:=(c.block _ (lt_of_some hq)).trans hq;obtain⟨g,i,j,lw⟩:=dq hq;go_wp2_with fail;obtain⟨r0,r1,_,_⟩:=dq (gN (v1:=ak 1) (v2:=ak n) (hide hq).o)
 exact a5 (by simp[results,results208,go_sem,r0,r1]) rfl ⟨rfl,((hide (b.o.trans (c.mono b.o.size))).o.setCell ac _).setCell ac _⟩
theorem Ih (x y:Int×Int)(w:az):
 Calls prog 209 #[.agg #[ak x.1,ak x.2],.agg #[ak y.1,ak y.2]] w fun e w'=>e=.returned (.agg #[ak 1,ak (if x=y then 1 else 0)])/\Below w.heap.size w w':=by
 obtain⟨b,g⟩:=x;obtain⟨d,y1⟩:=y;have b1:Below w.heap.size w (((w.alloc (.cells #[.int .i64 b,.int .i64 g] 97)).alloc (.cells #[.int .i64 d,.int .i64 y1] 97)).alloc (.cells #[.int .i64 0,.int .i64 0] 97)):=((b8.alloc b7 _).alloc ac _).alloc (by simp;omega) _;by_cases h0:b=d/\g=y1
 ·obtain⟨h0,f⟩:=h0;subst h0 f;rw[aK rfl];go_enter func209,ntmps209;go_wp2_with fail;refine(ru _ _).mono ?_;rintro e w2 ⟨rfl,hb2⟩
  have hq:=(hb2.block (w.heap.size+1+1) ac).trans (uz w _ _ _)
  obtain⟨e0,e1,f0,lw⟩:=dq hq;have HN:=hide hq;have HB:=hide (b1.trans (hb2.mono b1.size))
  go_wp2_with fail;obtain⟨r0,r1,_,_⟩:=dq (gN (v1:=ak 1) (v2:=ak 1) HN.o)
  exact a5 (v:=.agg #[ak 1,ak 1]) (by simp[results,results209,go_sem,r0,r1]) rfl ⟨rfl,(HB.o.setCell (by simp;omega) _).setCell (by simp;omega) _⟩
 ·rw[aI (fun c=>h0 (by cases c;exact⟨rfl,rfl⟩))];by_cases f:b=d
  ·subst f;go_enter func209,ntmps209;exact Ap
  ·go_enter func209,ntmps209;exact Ap
theorem Ii (h:dN b9 ch b_ l s w)(x:Int)(i:Nat)(y:Int×Int)(hv:0<=x/\cz s.T x.toNat)(v:s.T.length<=10000)(hk:(s.T.getD x.toNat t0).1≠5)(hi:i<(s.T.getD x.toNat t0).2.1.length)(ad:i<12):
 Calls prog 133 #[aq b9,.agg #[ak 3,ak x],ak i,.agg #[ak y.1,ak y.2]] w fun e w'=>e=.returned (ak 0)/\dN b9 ch b_ l {s with T:=jh s.T x.toNat i y} w'/\Fr (fun b=>l.own b≠0) w w':=by
 obtain⟨f,y1⟩:=y;have b1:Below w.heap.size w ((w.alloc (.cells #[.int .i64 3,.int .i64 x] 97)).alloc (.cells #[.int .i64 f,.int .i64 y1] 97)):=(b8.alloc b7 _).alloc ac _;have P:=Aw (h.below b1) x i hv v hk hi;obtain⟨b,cp,B,g0,g1,F,lb,m,q⟩:=h.field hv.2 hi (f,y1)
 obtain⟨_,_,c2,_,_,_,_,_,N⟩:=h.cells;have hl:x<10000:=by have:=hv.2.1;omega
 have L:∀W,Below w.heap.size w W->(Instr.lookup 184 (.map (some l.mb)) (ak x) false).run prog W=.ok (ga s.T l.fm x.toNat) W:=fun W hb=>by
  have:=(h.below hb).g2.mp.look (t:=184) (e:=220) underlying184 (mC W) (x:=x) hv.1 aa;rw[jk hv] at this
  exact this
 have ag:=hv.1;dsimp only [ga] at L;rw[B] at L;have q:=hide q;have S:=hide m;have ab:=hide h.lt;have ai:b≠b9:=fun c=>by have:=h.bo;rw[<-c,m] at this;omega
 have m1:b≠w.heap.size:=aa;have al:b≠w.heap.size+1:=aa;clear h hv v hk B m;generalize (s.T.getD x.toNat t0).2.1.getD i (0,0)=z at*;generalize (s.T.getD x.toNat t0).2.1.length=n at*;generalize (s.T.getD x.toNat t0).1=kd at*;go_enter func133,ntmps133;go_wp2_with fail;refine P.mono ?_;clear P;rintro e w1 ⟨rfl,hb⟩
 have d:=hide (b1.trans (hb.mono (by simp;omega)))
 have g:=(hb.block w.heap.size (by simp;omega)).trans ((aS _ _ _ ac).trans (aP w (.cells #[.int .i64 3,.int .i64 x] 97)))
 have j:=(hb.block (w.heap.size+1) ac).trans (gb w (.cells #[.int .i64 3,.int .i64 x] 97) (.cells #[.int .i64 f,.int .i64 y1] 97))
 have b2:=d.o.alloc d.o.size (.cells #[.int .i64 z.1,.int .i64 z.2] 97)
 have g:=(aS w1 (.cells #[.int .i64 z.1,.int .i64 z.2] 97) _ (lt_of_some g)).trans g;have j:=(aS w1 (.cells #[.int .i64 z.1,.int .i64 z.2] 97) _ (lt_of_some j)).trans j;clear hb b1 d;go_wp2_with fail;generalize w1.alloc (.cells #[.int .i64 z.1,.int .i64 z.2] 97)=W at*;obtain⟨_,am,_,_⟩:=dq g;obtain⟨q0,q1,_,_⟩:=dq j;have an:=(b2.cell (p:=av b9 2) N).trans c2;have k0:=(b2.cell (p:=av b (i*2)) lb).trans g0;have k1:=(b2.cell (p:=av b (i*2+1)) lb).trans g1;have kf:∀o,W.frozen? (av b o)=false:=fun o=>(b2.frozen (p:=av b o) lb).trans (F o)
 have ao:=L _ b2.drew;have ap:=Ie kd (au b) n cp;have n1:(0:Int)<=i:=aa;have ar:(i:Int)<n:=aa;have d:aA (Below w.heap.size w W):=b2;clear g j L g0 g1 F c2 b2
 go_region_held3 (fun w'=>w'.cell? (av b9 2)=some (.map (some l.mb))/\w'.cell? (av w.heap.size 1)=some (ak x)/\w'.cell? (av (w.heap.size+1) 0)=some (ak f)/\w'.cell? (av (w.heap.size+1) 1)=some (ak y1)) (go_keep) (fail)
 go_wp2_with fail;go_ret;have hs:=d.o.size;have fr:Fr (fun k=>k=b) W ((W.setCell ⟨b,i*2,none⟩ (.int .i64 f)).setCell ⟨b,i*2+1,none⟩ (.int .i64 y1)).drew:=(((Fr.refl (fun k=>k=b) W).set b _ _ rfl).set b _ _ rfl).drew;have u:=(Fr.of d.o).trans fr (fun _ c=>aM c)
 exact⟨rfl,q.o _ W (fun k hk hn=>u.block k (ab.o k hk) hn) u.size (d.o.block b lb) rfl,u.mono (fun k e=>by rw[e,S.o];omega)⟩
theorem Ij (v y:Int×Int)(i c:Int)(hc:c≠0)
 (P:∀w',Below w.heap.size w w'->Calls prog 201 #[aq b9,.agg #[ak v.1,ak v.2],ak i] w' fun e d=>e=.returned (.tuple #[.agg #[ak 0,ak 0],ak c])/\Below w'.heap.size w' d):
 Calls prog 133 #[aq b9,.agg #[ak v.1,ak v.2],ak i,.agg #[ak y.1,ak y.2]] w fun e w'=>e=.returned (ak c)/\Below w.heap.size w w':=by
 obtain⟨f,y1⟩:=y;obtain⟨k,x⟩:=v;have b1:Below w.heap.size w ((w.alloc (.cells #[.int .i64 k,.int .i64 x] 97)).alloc (.cells #[.int .i64 f,.int .i64 y1] 97)):=(b8.alloc b7 _).alloc ac _;go_enter func133,ntmps133;go_wp2_with fail;refine(P _ b1).mono ?_;rintro e w1 ⟨rfl,hb⟩
 have b:=hide (b1.trans (hb.mono b1.size))
 go_wp2_with fail;go_ret;exact⟨rfl,b.o.alloc b.o.size _⟩
end
theorem Ik:(prog.info? 2).map (fun i=>(i.zero,i.size,i.bytes))=some (some (ak 0),1,8):=ah
section
variable {c:Cp}{own:Nat->Nat}{vt:Value}{n1 n2:Nat}{hm:Int->Option Addr×Nat}{st:dA}{w:az}
theorem Ax {cp ab:Nat}{T:List cI}{fm:Fm}{A:List Bool}(c1:w.cell? (av cp 1)=some (.map (some ab)))(hM:eF w ab n1 (e4 T fm A))(x:Int)(h0:0<=x)(b:x<1152921504606846976):
 Calls prog 247 #[aq cp,ak x] w fun e w'=>e=.returned (.bool (cV A x))/\Below w.heap.size w w':=by
 have L:=hM.look_ok underlying184 (mC w) h0 b;rw[uC h0] at L;have hv:∃k ad n c,(e4 T fm A x).getD (.agg #[ak 0,.slice none 0 0])=.agg #[ak k,.slice ad n c]:=by
  unfold e4;split
  ·exact⟨_,_,_,_,rfl⟩
  ·exact⟨_,_,_,_,rfl⟩
 obtain⟨k,ad,n,cc,ev⟩:=hv;rw[ev] at L;exact kl
theorem Ay {cp ab:Nat}{T:List cI}{fm:Fm}{A:List Bool}(c1:w.cell? (av cp 1)=some (.map (some ab)))(hM:eF w ab n1 (e4 T fm A))(v:Int×Int)(hv:v.1=3->0<=v.2/\v.2<1152921504606846976):
 Calls prog 250 #[aq cp,.agg #[ak v.1,ak v.2]] w fun e w'=>e=.returned (.bool (!d6 A v))/\Below w.heap.size w w':=by
 obtain⟨k,x⟩:=v;by_cases c:k=3
 ·subst c;have b1:=aw w (.cells #[.int .i64 3,.int .i64 x] 97)
  have P:=Ax ((b1.cell (p:=av cp 1) (aT w _ c1)).trans c1) (hM.same (b1.block ab hM.lt)) x (hv rfl).1 (hv rfl).2;have e:d6 A (3,x)=cV A x:=by unfold d6 cV;simp
  rw[e];generalize cV A x=b at*;go_enter func250,ntmps250;go_wp2_with fail;refine P.mono ?_;rintro e w1 ⟨rfl,hb⟩
  have d:=hide (b1.trans (hb.mono b1.size))
  go_wp2;go_ret;exact⟨rfl,d.o⟩
 ·have e:d6 A (k,x)=true:=by unfold d6;simp[c]
  rw[e];go_enter func250,ntmps250;exact kl
theorem Il (h:cY c own vt n1 n2 hm st w)(x:Int)(h0:0<=x)(b:x<1152921504606846976):
 Calls prog 247 #[aq c.cp,ak x] w fun e w'=>e=.returned (.bool (cV st.A x))/\Below w.heap.size w w':=Ax h.cells.2.1 h.am x h0 b
theorem uD (h:cY c own vt n1 n2 hm st w)(v:Int×Int)(hv:v.1=3->0<=v.2/\v.2<1152921504606846976):
 Calls prog 250 #[aq c.cp,.agg #[ak v.1,ak v.2]] w fun e w'=>e=.returned (.bool (!d6 st.A v))/\Below w.heap.size w w':=Ay h.cells.2.1 h.am v hv
structure jN (own:Nat->Nat)(w:az)(ad:Option Addr)(l:List (Int×Int)):Prop where
 lp:dz w ad l
 no:0<l.length->∀z,ad=some z->¬(own z.block=1\/own z.block=2\/own z.block=3)
theorem jN.tm {own d:Nat->Nat}{w w':az}{ad:Option Addr}{l:List _}(h:jN own w ad l)(t:fI own w d w'):jN d w' ad l:=
 ⟨h.lp.keep t.fr.size (fun hp z e=>t.fr.block _ (by obtain⟨b,o,c,hb,_⟩:=h.lp hp;rw[e] at c;cases c;exact hb) (h.no hp z e)),fun hp z e=>by rw[t.old _ (by obtain⟨b,o,c,hb,_⟩:=h.lp hp;rw[e] at c;cases c;exact hb)];exact h.no hp z e⟩
theorem mE (hg:dN c.b9 c.ch c.b_ c.l c.s c.w0)(am:c.s.T.length<=10000)(ab:st.A.length=c.s.T.length)(h:cY c own vt n1 n2 hm st w)(ad:Option Addr)(cap:Nat)(l:List (Int×Int))(hl:jN own w ad l)(hv:∀v∈l,v.1=3->0<=v.2/\cz c.s.T v.2.toNat)(cT:l.length<=100000):
 Calls prog 245 #[aq c.cp,.slice ad l.length cap] w fun e w'=>∃f cS n,e=.returned (.tuple #[])/\cY c f cS n n2 hm (dv st l) w'/\fI own w f w':=by
 have ba:aA (dN c.b9 c.ch c.b_ c.l c.s c.w0):=hg;have ci:aA (∀v∈l,v.1=3->0<=v.2/\cz c.s.T v.2.toNat):=hv;have bb:aA (cY c own vt n1 n2 hm st w/\jN own w ad l):=⟨h,hl⟩
 have cj:aA (c.s.T.length<=10000/\st.A.length=c.s.T.length):=⟨am,ab⟩
 have cU:=h.cells.2.2.2.2.2;clear hg h hl hv am ab;go_enter func245,ntmps245;go_wp2_with fail
 go_loopw [8] (fun i wr=>∃(j:Nat)(f:Nat->Nat)(cS:Value)(n:Nat),j<=l.length/\i=ak j/\cY c f cS n n2 hm (dv st (l.take j)) wr/\fI own w f wr) (fun i _=>l.length-(intOf i).toNat)
 case atStart=>exact⟨0,own,vt,n1,a4 _,rfl,bb.o.1,fI.of b8 (fun b hb=>(bb.o.1.lt b hb).2)⟩
 case round=>
  obtain⟨j,f,cS,n,an,rfl,g,t⟩:=hrel;by_cases bd:j<l.length
  ·have be:l.take (j+1)=l.take j++[l.getD j (0,0)]:=by rw[List.take_add_one,aJ,aN bd];rfl
   have ag:=ci.o (l.getD j (0,0)) (getD_in bd)
   obtain⟨am,ab⟩:=cj.o;have aB:(dv st (l.take j)).A.length=c.s.T.length:=((jj st (l.take j)).2.2).trans ab;have bg:aA (dv st (l.take (j+1))=d_ (dv st (l.take j)) (l.getD j (0,0))):=by show _=_;rw[be,Ak]
   generalize dv st (l.take j)=S at g bg aB;obtain⟨cV,o,aF,lb,bi⟩:=(bb.o.2.tm t).lp aa;have hc:=bi j bd;obtain⟨z0,ck⟩:=hc;generalize l.getD j (0,0)=v at*;obtain⟨k,x⟩:=v;dsimp only at z0 ck ag;have b1:=aw wr (.cells #[.int .i64 k,.int .i64 x] 97)
   have P:=uD (g.below b1) (k,x) (fun ao=>⟨(ag ao).1,by have:=(ag ao).2.1;omega⟩)
   have cW:aA (wr.heap.size+1=wr.heap.size+1):=rfl;have cX:(j:Int)<l.length:=aa;have cZ:IntKind.i64.wrap ((j:Int)+1)=(j:Int)+1:=by rw[bu];omega
   cases hi:d6 S.A (k,x)
   ·rw[hi] at P;obtain⟨ao,cl⟩:=ny hi;dsimp only at ao cl;subst ao;obtain⟨aR,aV⟩:=ag rfl;have c0:x<10000:=by have:=aV.1;omega
    obtain⟨s,B,cm⟩:=eN g.tr;subst cm;have c3:S.td.length<=10000:=by have:=g.tn;omega
    have bs:n<100000:=by have:=g.an;omega
    have np:∀b,f b=3->b≠c.cp:=fun b hb e=>by rw[e,g.co] at hb;omega
    have bt:aA (∀w1,Below wr.heap.size wr w1->w1.heap[wr.heap.size]?=some (.cells #[ak 3,ak x] 97 (0,0))->∃kd bl bn fc d,(w1.cell? (av c.cp 0)=some (aq c.b9)/\w1.cell? (av c.cp 1)=some (.map (some c.ab))/\w1.cell? (av c.b9 2)=some (.map (some c.l.mb)))/\
     (Instr.lookup 184 (.map (some c.l.mb)) (ak x) false).run prog w1.drew=.ok (.agg #[ak kd,.slice bl bn fc]) w1.drew/\(Instr.mapUpdate 184 (.map (some c.ab)) (ak x) (.agg #[ak kd,.slice bl bn fc])).run prog w1.drew=.ok () d/\
     (d.cell? (av c.cp 0)=some (aq c.b9)/\d.cell? (av c.cp 1)=some (.map (some c.ab))/\d.cell? (av c.b9 2)=some (.map (some c.l.mb))/\d.cell? (av wr.heap.size 1)=some (ak x)/\d.cell? (av c.cp 2)=some (.slice s S.td.length B)/\(∀o,d.frozen? (av c.cp o)=false)/\c.cp<d.heap.size)/\
     aA (d.ownsRow 0 2 1 (.slice s S.td.length B) S.td.length (S.td.map (Value.int .i64))/\some c.cp≠(Value.slice s S.td.length B).ownBlock/\∀m b4 q,(d.alloc (.cells #[.int .i64 x] 2)).drew.grownBy m (Value.slice s S.td.length B).ownBlock->m.ownsRow 0 2 1 (.slice (au b4) (S.td.length+1) q) (S.td.length+1) ((S.td++[x]).map (Value.int .i64))->(some b4=(Value.slice s S.td.length B).ownBlock\/d.heap.size<=b4)->
      ∃ai,cY c ai (.slice (au b4) (S.td.length+1) q) (n+1) n2 hm (dv st (l.take (j+1))) (m.setCell ⟨c.cp,2,none⟩ (.slice (some ⟨b4,0,none⟩) (S.td.length+1) q))/\fI own w ai (m.setCell ⟨c.cp,2,none⟩ (.slice (some ⟨b4,0,none⟩) (S.td.length+1) q)))):=fun w1 hb al=>by
     have g1:=g.below hb;have gv:=g1.gv ba.o;have bx:=g.below hb.drew;have L:=(bx.gv ba.o).g2.mp.look (t:=184) (e:=220) underlying184 (mC _) (x:=x) aR aa;rw[jk ⟨aR,aV⟩] at L;obtain⟨d,cn,bo,W⟩:=bx.am.put (t:=184) (e:=220) underlying184 bs aR aa (ga c.s.T c.l.fm x.toNat)
     obtain⟨q0,q1,co,_,cp,a0⟩:=g1.cells;obtain⟨_,_,b0,_,_,_,_,_,pl⟩:=gv.cells;have a1:∀b,b<w1.heap.size->b≠c.ab->d.heap[b]?=w1.heap[b]?:=fun b hb hn=>W.block b hb (fun e=>hn (Option.some.inj e))
     have b2:c.cp≠c.ab:=fun e=>by have N:=g1.co;rw[e,g1.ao] at N;omega
     have cq:c.b9≠c.ab:=fun e=>by have N:=ba.o.cells.2.2.2.2.2.2.2.2;have cr:=(g1.lt c.ab (by rw[g1.ao];decide)).1;omega
     have cs:wr.heap.size≠c.ab:=fun e=>by have cr:=(g.lt c.ab (by rw[g.ao];decide)).2;omega
     have ap:=a1 c.cp a0 b2;refine⟨_,_,_,_,d,⟨q0,q1,b0⟩,L,cn,⟨(aQ (a:=⟨c.cp,0,none⟩) ap).trans q0,(aQ (a:=⟨c.cp,1,none⟩) ap).trans q1,(aQ (a:=⟨c.b9,2,none⟩) (a1 c.b9 pl cq)).trans b0,(aQ (a:=⟨wr.heap.size,1,none⟩) (a1 wr.heap.size (lt_of_some al) cs)).trans (by simp[World.cell?,al]),(aQ (a:=⟨c.cp,2,none⟩) ap).trans co,fun o=>(World.frozen?_of_block (a:=⟨c.cp,o,none⟩) ap).trans (cp o),aO a0 W.size⟩,?_⟩
     have ct:d.ownsRow 0 2 1 (.slice s S.td.length B) S.td.length (S.td.map (Value.int .i64)):=cL g1.tr (fun k e=>a1 k (cu g1.tr k e).2 (fun cc=>by have N:=g1.tw k e;rw[cc,g1.ao] at N;omega))
     refine⟨ct,fun e=>np c.cp (g1.tw c.cp e) rfl,fun m b4 q bp cv b3=>?_⟩
     have cw:Fr (fun b=>f b=1\/f b=2\/f b=3) w1 d:=((Fr.refl _ w1).drew).grown W (fun k e=>aM (by cases e;exact aL (aM g1.ao)))
     have cx:Fr (fun b=>f b=1\/f b=2\/f b=3) d m:=(((Fr.refl _ d).alloc _).drew).grown bp (fun k e=>aM (aL (aL (g1.tw k e.symm))))
     have cy:=(cw.trans cx (fun _ cA=>aM cA)).set c.cp 2 (.slice (au b4) (S.td.length+1) q) (aM g1.co)
     have cB:b4≠c.cp:=by
      rcases b3 with e|e
      ·exact np b4 (g1.tw b4 e)
      ·have:=W.size;have:w1.heap.size<=d.heap.size:=this
       omega
     have b5:∀b,b≠c.cp->(m.setCell ⟨c.cp,2,none⟩ (.slice (some ⟨b4,0,none⟩) (S.td.length+1) q)).heap[b]?=m.heap[b]?:=fun b hn=>aW _ _ _ _ hn;have cC:(m.setCell ⟨c.cp,2,none⟩ (.slice (some ⟨b4,0,none⟩) (S.td.length+1) q)).heap[c.ab]?=d.heap[c.ab]?:=(b5 c.ab b2.symm).trans ((bp.block c.ab (by have:=bo.lt;simp[World.drew];omega) (fun e=>by have N:=g1.tw c.ab e;rw[g1.ao] at N;omega)).trans (aS _ _ _ bo.lt))
     have cD:m.heap[c.cp]?=w1.heap[c.cp]?:=(bp.block c.cp (by have:=aO a0 W.size;simp[World.drew];omega) (fun e=>np c.cp (g1.tw c.cp e) rfl)).trans ((aS _ _ _ (aO a0 W.size)).trans ap)
     obtain⟨ai,c1,c2⟩:=g1.gd (cS:=.slice (au b4) (S.td.length+1) q) hi aR (by rw[aB];exact aV.1) cy (bo.same cC) (cL cv (fun k e=>by cases e;exact b5 _ cB)) (by
      have N:=cD.trans g1.cb;simp only [World.setCell,Array.getElem?_modify,if_true,N,Option.map_some];rfl) (fun k e=>by
      cases e;exact b3.imp (fun e=>g1.tw _ e) (fun e=>aU (show w1.heap.size<=d.heap.size from W.size) e))
     rw[bg.o];exact⟨ai,c1,(t.trans (fI.of hb (fun b hb=>(g.lt b hb).2))).trans c2⟩
    rw[aF];clear g t bi ag be hi aB am ab aF np bs aV;go_wp2_with fail;refine P.mono ?_;clear P;rintro e w1 ⟨rfl,hb⟩
    have al:=(hb.block wr.heap.size ac).trans (aP wr (.cells #[.int .i64 3,.int .i64 x] 97))
    obtain⟨kd,bl,bn,fc,d,⟨cE,y1,cF⟩,cG,cH,⟨u0,cI,cJ,c4,b6,b9,br⟩,a2⟩:=bt.o w1 (b1.trans (hb.mono b1.size)) al;obtain⟨_,cK,_,_⟩:=dq al;clear hb b1 al bt;go_wp2_with fail
    go_region_held3 (fun w'=>w'.cell? (av c.cp 0)=some (aq c.b9)/\w'.cell? (av c.cp 1)=some (.map (some c.ab))/\w'.cell? (av c.b9 2)=some (.map (some c.l.mb))/\w'.cell? (av wr.heap.size 1)=some (ak x)) (go_keep) (fail)
    clear cG cH cE y1 cF cK u0 cI cJ;obtain⟨cM,cN,cO,cP,cQ⟩:=info_parts Ik;have ar:=(aw d (.cells #[.int .i64 x] 2)).drew;have ca:aA ((d.alloc (.cells #[.int .i64 x] 2)).drew.ownsRow 0 2 1 (.slice s S.td.length B) S.td.length (S.td.map (Value.int .i64))):=cL (f9 a2.o.1 _) (fun _ _=>rfl)
    have cb:some c.cp≠(Value.slice s S.td.length B).ownBlock:=a2.o.2.1;have cR:=b9 2;clear b9;go_wp2_with fail
    go_region_law (refine step_append_lies _ rfl (.tmp 35) (.tmp 38) 53 rfl 0 2 cM (ak 0) 1 8 underlying53 cN cO cP cQ rfl ae (.slice s S.td.length B) S.td.length (S.td.map (Value.int .i64)) (by simp[Act.eval]) ca.o ⟨d.heap.size,0,none⟩ 1 1 [ak x] (by simp[Act.eval]) rfl ?_ ?_ ae (by unfold maxLen;omega) aa ac _ rfl ?_;(intro j u an;match j,an with|0,an=>(simp at an;subst an;simp[Addr.add]));(intro u cd;simp at cd;subst cd;rfl);intro b4 q m ce a3 cf c5;have c6:=a3.cell (a:=⟨c.cp,2,none⟩) (v:=.slice s S.td.length B) ((ar.cell (p:=av c.cp 2) br).trans b6) cb;have c7:m.frozen? (av c.cp 2)=false:=(World.frozen?_of_block (a:=⟨c.cp,2,none⟩) (a3.block _ (aO br ar.size) cb)).trans ((ar.frozen (p:=av c.cp 2) br).trans cR))
    all_goals
     obtain⟨ai,cg,ch⟩:=a2.o.2.2 m b4 q a3 (by simpa using ce) (cf.imp Eq.symm (fun e=>by rw[e];exact ar.size))
     have F:aA (_/\_):=⟨cg,ch⟩
     clear ce a3 cf a2 ca cg ch ar b6;go_wp2_with fail;go_roundw
     case rel=>exact⟨j+1,ai,_,n+1,aa,aj,F.o.1,F.o.2⟩
     case measure=>simp[intOf];omega
   ·rw[hi] at P;have F:aA (∀w1,Below wr.heap.size wr w1->cY c f cS n n2 hm (dv st (l.take (j+1))) w1/\fI own w f w1):=fun w1 hb=>by rw[bg.o,uw hi];exact⟨g.below hb,t.trans (fI.of hb (fun b hb=>(g.lt b hb).2))⟩
    rw[aF];clear g t bi ag be hi aB am ab aF;go_wp2_with fail;refine P.mono ?_;clear P;rintro e w1 ⟨rfl,hb⟩
    have hb:=b1.trans (hb.mono b1.size)
    have F:aA (_/\_):=F.o w1 hb;clear hb b1;go_wp2_with fail;go_roundw
    case rel=>exact⟨j+1,f,cS,n,aa,aj,F.o.1,F.o.2⟩
    case measure=>simp[intOf];omega
  ·have e:l.take j=l:=List.take_of_length_le aa;rw[e] at g;have F:aA (cY c f cS n n2 hm (dv st l) wr/\fI own w f wr):=⟨g,t⟩
   have c8:(l.length:Int)<=j:=aa;clear g t e;go_wp2_with fail;go_end0;exact⟨f,cS,n,rfl,F.o.1,F.o.2⟩
end
def i0 (A:List Bool)(t:cI):List (Int×Int):=if t.1=4/\d6 A (t.2.1.getD 0 (0,0))=false then[(2,0),(2,0)] else if t.1=3/\d6 A (t.2.1.getD 0 (0,0))=false then[(2,0),t.2.1.getD 1 (0,0)] else t.2.1
def ge (A:List Bool)(T:List cI)(left:Int->Bool)(i:Nat):List (Int×Int):=if left i=true then(T.getD i t0).2.1 else i0 A (T.getD i t0)
structure hQ (T:List cI)(fm:Fm)(A:List Bool)(lab:Nat->Nat)(cp ab n1:Nat)(fs:Nat->List (Int×Int))(w:az):Prop where
 c1:w.cell? (av cp 1)=some (.map (some ab))
 hM:eF w ab n1 (e4 T fm A)
 row:∀i,cw A i->w.ownsRow 0 97 2 (eL T fm i) (T.getD i t0).2.1.length (ev (fs i))
 lb:∀i,cw A i->∀k,some k=(eL T fm i).ownBlock->lab k=10+i
 no:lab cp=0/\lab ab=0
structure pR (T:List cI)(A:List Bool):Prop where
 l2:∀i,cw A i->(T.getD i t0).1=3\/(T.getD i t0).1=4->(T.getD i t0).2.1.length=2
 v0:∀i,cw A i->((T.getD i t0).2.1.getD 0 (0,0)).1=3->0<=((T.getD i t0).2.1.getD 0 (0,0)).2/\((T.getD i t0).2.1.getD 0 (0,0)).2<10000
section
variable {T:List cI}{fm:Fm}{A:List Bool}{lab:Nat->Nat}{cp ab n1:Nat}{fs:Nat->List (Int×Int)}{w w':az}
theorem hQ.keep (h:hQ T fm A lab cp ab n1 fs w)(hk:∀b,b=cp\/b=ab\/10<=lab b->w'.heap[b]?=w.heap[b]?):hQ T fm A lab cp ab n1 fs w':=
 ⟨(aQ (hk cp (aM rfl))).trans h.c1,h.hM.same (hk ab (aL (aM rfl))),fun i hi=>cL (h.row i hi) (fun k e=>hk k (aL (aL (by rw[h.lb i hi k e];omega)))),h.lb,h.no⟩
theorem hQ.set (h:hQ T fm A lab cp ab n1 fs w){i b cap:Nat}(hi:cw A i)(e:eL T fm i=.slice (au b) (T.getD i t0).2.1.length cap){d:Nat->List _}(hg:∀j,j≠i->d j=fs j)
 (hr:w'.ownsRow 0 97 2 (eL T fm i) (T.getD i t0).2.1.length (ev (d i)))(fr:Fr (fun k=>k=b) w w'):hQ T fm A lab cp ab n1 d w':=by
 have lb:=h.lb i hi b (by rw[e];rfl)
 have h0:=h.no;refine⟨(aQ (fr.block cp (aT w _ h.c1) (fun c=>by rw[c] at h0;omega))).trans h.c1,h.hM.same (fr.block ab h.hM.lt (fun c=>by rw[c] at h0;omega)),fun j f=>?_,h.lb,h.no⟩
 by_cases g:j=i
 ·subst g;exact hr
 ·rw[hg j g];exact cL (h.row j f) (fun k l=>fr.block k (cu (h.row j f) k l).2 (fun c=>by have m:=h.lb j f k l;rw[c,lb] at m;omega))
theorem hQ.put (h:hQ T fm A lab cp ab n1 fs w){i b cap:Nat}(hi:cw A i)(e:eL T fm i=.slice (au b) (T.getD i t0).2.1.length cap)(j:Nat)(y:Int×Int):
 hQ T fm A lab cp ab n1 (fun k=>if k=i then(fs i).set j y else fs k) ((w.setCell ⟨b,j*2,none⟩ (.int .i64 y.1)).setCell ⟨b,j*2+1,none⟩ (.int .i64 y.2))/\Fr (fun k=>k=b) w ((w.setCell ⟨b,j*2,none⟩ (.int .i64 y.1)).setCell ⟨b,j*2+1,none⟩ (.int .i64 y.2)):=by
 have fr:Fr (fun k=>k=b) w ((w.setCell ⟨b,j*2,none⟩ (.int .i64 y.1)).setCell ⟨b,j*2+1,none⟩ (.int .i64 y.2)):=((Fr.refl (fun k=>k=b) w).set b _ _ rfl).set b _ _ rfl;refine⟨h.set hi e (fun f d=>aI d) ?_ fr,fr⟩
 have c:=h.row i hi;rw[aK rfl,tq,e];rw[e] at c;exact mU (mU c (j*2) (ak y.1)) _ _
theorem hQ.congr {b:Nat->List _}(h:hQ T fm A lab cp ab n1 fs w)(e:∀j,b j=fs j):hQ T fm A lab cp ab n1 b w:=by rwa [show b=fs from funext e]
theorem Im (left:Int->Bool)(i:Nat):(∀j,j≠i->ge A T (fun y=>left y&&!(y==(i:Int))) j=ge A T left j)/\ge A T (fun y=>left y&&!(y==(i:Int))) i=i0 A (T.getD i t0):=by
 refine⟨fun j b=>?_,?_⟩
 ·unfold ge;have:((j:Int)==(i:Int))=false:=by simp;omega
  simp[this]
 ·unfold ge;rw[aI ac]
theorem In (h:hQ T fm A lab cp ab n1 (fun i=>(T.getD i t0).2.1) w)(ht:pR T A)(hl:∀b,lab b≠0->b<w.heap.size)(b1:∀i,cw A i->i<10000):
 Calls prog 236 #[aq cp] w fun e w'=>e=.returned (.tuple #[])/\hQ T fm A lab cp ab n1 (fun i=>i0 A (T.getD i t0)) w'/\Fr (fun b=>10<=lab b) w w':=by
 obtain⟨w1,cD,ai,aF,gr,sz⟩:=h.hM.range (t:=184) (e:=220) underlying184;have ci:=b8.grown gr b7 (fun j cE=>by cases cE)
 have c1:=h.c1;have cj:=aT w _ h.c1;have cF:=gM ht hl b1;have ck:aA (_/\Below w.heap.size w w1/\hQ T fm A lab cp ab n1 (ge A T (fun x=>(e4 T fm A x).isSome)) w1):=⟨aF,ci,by
  have a3:=h.keep (w':=w1) (fun b hb=>ci.block b (by
   rcases hb with d|d|d
   ·rw[d];exact cj
   ·rw[d];exact h.hM.lt
   ·exact hl b aa))
  refine⟨a3.c1,a3.hM,fun i hi=>?_,a3.lb,a3.no⟩
  unfold ge;rw[aK (by dsimp only;rw[uC aa,cV,Int.toNat_natCast];exact hi)];exact a3.row i hi⟩
 go_enter func236,ntmps236;go_wp2_with fail
 go_loopw [3] (fun _ wr=>∃(left:Int->Bool)(k:Nat),aA (gC wr ab w.heap.size n1 (e4 T fm A) left k/\hQ T fm A lab cp ab n1 (ge A T left) wr/\Fr (fun b=>10<=lab b) w wr)) (fun _ wr=>wr.rangeLeft ab w.heap.size)
 case atStart=>
  obtain⟨r,b,g⟩:=ck.o;exact⟨_,cD,r,g,Fr.of b⟩
 case round=>
  clear ai c1;obtain⟨left,k,b2⟩:=hrel;obtain⟨aF,g,fr⟩:=b2.o;rcases aF.next 0 with⟨h0,hl,ai⟩|⟨x,v,l,ag,cl,ap,ai,bg,cm,cn,cG,ba⟩
  ·have co:ge A T left=fun i=>i0 A (T.getD i t0):=by
    funext i
    unfold ge;rw[hl,aI ae]
   rw[co] at g;have ar:aA (_/\_):=⟨g,fr⟩
   clear aF g fr hl b2 co;go_wp2_with fail;go_end0;exact⟨rfl,ar.o.1,ar.o.2⟩
  ·have bi:0<=x/\A.getD x.toNat false=true:=by
    unfold e4 at ap;split at ap
    ·assumption
    ·cases ap
   obtain⟨i,rfl⟩:=Int.eq_ofNat_of_zero_le bi.1;have aR:cw A i:=by simpa[cw] using bi.2
   have hv:v=ga T fm i:=by unfold e4 at ap;rw[aK bi] at ap;exact(Option.some.inj ap).symm
   obtain⟨b3,bl,b1⟩:=cF.o;obtain⟨b4,b5⟩:=Im (A:=A) (T:=T) left i;have bn:ge A T left i=(T.getD i t0).2.1:=by unfold ge;rw[aK cl]
   have bo:Fr (fun b=>b=w.heap.size) wr l:=(Fr.refl _ wr).grown cn (fun j e=>aM (by cases e;rfl))
   have g2:hQ T fm A lab cp ab n1 (ge A T left) l:=g.keep (fun b hb=>bo.block b (by
    rcases hb with d|d|d
    ·rw[d];exact aT wr _ g.c1
    ·rw[d];exact g.hM.lt
    ·exact aO (bl b aa) fr.size) (by
    rcases hb with d|d|d
    ·rw[d];exact Nat.ne_of_lt cj
    ·rw[d];exact Nat.ne_of_lt h.hM.lt
    ·have:=bl b aa;omega))
   have bb:aA (∀c,Below l.heap.size l c->_/\_/\Fr (fun b=>10<=lab b) w c):=fun c hb=>⟨bg.same (hb.block _ bg.nE.lt) (hb.block _ bg.lt),g2.keep (fun b cI=>hb.block b (by
    rcases cI with d|d|d
    ·rw[d];exact aT l _ g2.c1
    ·rw[d];exact g2.hM.lt
    ·have:=bl b aa;exact aO this (aU fr.size bo.size))),(fr.trans bo (fun b e=>aL (by rw[e];exact aG _))).trans (Fr.of (X:=fun b=>10<=lab b) hb) (fun _ d=>aM d)⟩
   have al:aA (_/\ag<k):=⟨aF.left_eq,cm⟩
   have bp:aA (i0 A (T.getD i t0)=(T.getD i t0).2.1->ge A T (fun y=>left y&&!(y==(i:Int)))=ge A T left):=fun e=>by
    funext j
    by_cases s:j=i
    ·subst s;rw[b5,e,bn]
    ·exact b4 j s
   have v0:=b3.v0 i aR;have b6:=b3.l2 i aR;have hrow:=g2.row i aR;rw[bn] at hrow;have W:aA (_/\_/\_/\_):=⟨aR,b4,b5,bn⟩
   have b9:=g2.lb i aR;have cq:=g2.no;have aV:aA (_):=g2;dsimp only [ga] at hv;subst hv;clear aF g fr cl ap bg cm cn cG bi aR b3 b1 b4 b5 bn bo g2 b2 ck;by_cases am:(T.getD i t0).1=3\/(T.getD i t0).1=4
   ·have l2:=b6 am;obtain⟨b,cap,an⟩:=eT hrow aa;have a0:=lt_of_some (fp hrow b (by rw[an];rfl)).choose_spec;obtain⟨cR,cr⟩:=fp hrow b (by rw[an];rfl)
    have cs:∀o,l.frozen? (av b o)=false:=fun o=>by simp[World.frozen?,cr]
    obtain⟨cS,cT,ct,_,ca⟩:=hZ hrow aa;have cu:_=_:=(Value.slice.inj an).1;rw[cu] at ct;cases ct;obtain⟨z0,cb⟩:=ca 0 aa;obtain⟨cc,y1⟩:=ca 1 aa;rw[Nat.zero_mul,Nat.add_zero] at z0 cb;rw[Nat.zero_add,Nat.one_mul] at cc y1;rw[l2] at an;have cv:aA (eL T fm i=.slice (au b) (T.getD i t0).2.1.length cap):=by show _=_;rw[l2];exact an
    have cd:10<=lab b:=by rw[b9 b (by rw[an];rfl)];omega
    have oA:_:=bl b aa;have cU:b≠l.heap.size:=aa;have cW:l.heap.size≠b:=aa;have cX:aA (_/\_):=⟨cd,a0⟩
    have cx:aA ((T.getD i t0).2.1=[(T.getD i t0).2.1.getD 0 (0,0),(T.getD i t0).2.1.getD 1 (0,0)]):=by
     show _=_
     match hq:(T.getD i t0).2.1,l2 with
     |[p,q],_=>rfl
    have cy:aA (d6 A ((T.getD i t0).2.1.getD 0 (0,0))=true->i0 A (T.getD i t0)=(T.getD i t0).2.1):=fun e=>by unfold i0;rw[aI (fun d=>by rw[e] at d;cases d.2),aI (fun d=>by rw[e] at d;cases d.2)]
    have B:aA ((T.getD i t0).1=3->d6 A ((T.getD i t0).2.1.getD 0 (0,0))=false->i0 A (T.getD i t0)=(T.getD i t0).2.1.set 0 (2,0)):=fun F e=>by
     unfold i0;rw[aI (fun d=>by omega),aK ⟨F,e⟩]
     conv=>rhs;rw[cx.o]
     rfl
    have cz:aA ((T.getD i t0).1=4->d6 A ((T.getD i t0).2.1.getD 0 (0,0))=false->i0 A (T.getD i t0)=((T.getD i t0).2.1.set 0 (2,0)).set 1 (2,0)):=fun ce e=>by
     unfold i0;rw[aK ⟨ce,e⟩]
     conv=>rhs;rw[cx.o]
     rfl
    have br:aA (∀c,Below l.heap.size l c->gC ((c.setCell ⟨b,0*2,none⟩ (.int .i64 2)).setCell ⟨b,0*2+1,none⟩ (.int .i64 0)) ab w.heap.size n1 (e4 T fm A) (fun y=>left y&&!(y==(i:Int))) ag/\hQ T fm A lab cp ab n1 (fun k=>if k=i then(ge A T left i).set 0 (2,0) else ge A T left k) ((c.setCell ⟨b,0*2,none⟩ (.int .i64 2)).setCell ⟨b,0*2+1,none⟩ (.int .i64 0))/\Fr (fun b=>10<=lab b) w ((c.setCell ⟨b,0*2,none⟩ (.int .i64 2)).setCell ⟨b,0*2+1,none⟩ (.int .i64 0))/\Fr (fun k=>k=b) c ((c.setCell ⟨b,0*2,none⟩ (.int .i64 2)).setCell ⟨b,0*2+1,none⟩ (.int .i64 0))):=fun c hb=>by
     obtain⟨r,m,f⟩:=bb.o c hb;obtain⟨cf,fb⟩:=m.put W.o.1 cv.o 0 (2,0)
     exact⟨r.same (fb.block _ r.nE.lt (fun d=>by have h0:=cq.2;rw[d] at h0;omega)) (fb.block _ r.lt (fun d=>by omega)),cf,f.trans fb (fun k e=>aM (by rw[e];exact cd)),fb⟩
    have cg:aA (∀c,Below l.heap.size l c->∀bd,bd=(((c.setCell ⟨b,0*2,none⟩ (.int .i64 2)).setCell ⟨b,0*2+1,none⟩ (.int .i64 0)).setCell ⟨b,1*2,none⟩ (.int .i64 2)).setCell ⟨b,1*2+1,none⟩ (.int .i64 0)->gC bd ab w.heap.size n1 (e4 T fm A) (fun y=>left y&&!(y==(i:Int))) ag/\hQ T fm A lab cp ab n1 (fun k=>if k=i then((ge A T left i).set 0 (2,0)).set 1 (2,0) else ge A T left k) bd/\Fr (fun b=>10<=lab b) w bd):=fun c hb bd cJ=>by
     obtain⟨r,m,f,_⟩:=br.o c hb;obtain⟨cf,fb⟩:=m.put W.o.1 cv.o 1 (2,0)
     rw[cJ];refine⟨r.same (fb.block _ r.nE.lt (fun d=>by have h0:=cq.2;rw[d] at h0;omega)) (fb.block _ r.lt (fun d=>by omega)),cf.congr (fun j=>?_),f.trans fb (fun k e=>aM (by rw[e];exact cd))⟩
     by_cases s:j=i
     ·rw[aK s,aK s,aK rfl]
     ·rw[aI s,aI s,aI s]
    have be:=aw l (.cells #[.int .i64 (T.getD i t0).1,.slice (some ⟨b,0,none⟩) 2 cap] 220)
    have cA:=aP l (.cells #[.int .i64 (T.getD i t0).1,.slice (some ⟨b,0,none⟩) 2 cap] 220)
    have P:=Ay (cp:=cp) ((be.cell (p:=av cp 1) (aT l _ aV.o.c1)).trans aV.o.c1) (aV.o.hM.same (be.block ab aV.o.hM.lt)) ((T.getD i t0).2.1.getD 0 (0,0)) (fun cB=>⟨(v0 cB).1,by have:=(v0 cB).2;omega⟩)
    have ch:∀c,Below l.heap.size l c->_/\_/\_/\_/\∀o,c.frozen? (av b o)=false:=fun c hb=>⟨(hb.cell (p:=av b 0) a0).trans z0,(hb.cell (p:=av b 1) a0).trans cb,(hb.cell (p:=av b 2) a0).trans cc,(hb.cell (p:=av b (2+1)) a0).trans y1,fun o=>(hb.frozen (p:=av b o) a0).trans (cs o)⟩
    have bs:aA (_):=ch;obtain⟨a1,a2,_,_,_⟩:=ch _ be;have ev:(Value.agg #[ak (T.getD i t0).1,eL T fm i])=.agg #[ak (T.getD i t0).1,.slice (au b) 2 cap]:=by rw[an]
    rw[ev] at ai ba;have S:aA (_):=be;have ao:aA (_=_):=cA;clear hrow b9 b6 v0 cr cs ca z0 cb cc y1 cu an ch be cA aV ev l2;generalize (T.getD i t0).2.1.getD 0 (0,0)=u at*;generalize (T.getD i t0).2.1.getD 1 (0,0)=t at*;obtain⟨u0,cK⟩:=u;dsimp only at a1 a2 P;cases hin:d6 A (u0,cK)
    ·rw[hin] at P;have bt:aA ((T.getD i t0).1=3->∀j,ge A T (fun y=>left y&&!(y==(i:Int))) j=(fun k=>if k=i then(ge A T left i).set 0 (2,0) else ge A T left k) j):=fun F j=>by
      dsimp only;by_cases s:j=i
      ·subst s;rw[aK rfl,W.o.2.2.1,B.o F hin,W.o.2.2.2]
      ·rw[aI s];exact W.o.2.1 j s
     have bx:aA ((T.getD i t0).1=4->∀j,ge A T (fun y=>left y&&!(y==(i:Int))) j=(fun k=>if k=i then((ge A T left i).set 0 (2,0)).set 1 (2,0) else ge A T left k) j):=fun ce j=>by
      dsimp only;by_cases s:j=i
      ·subst s;rw[aK rfl,W.o.2.2.1,cz.o ce hin,W.o.2.2.2]
      ·rw[aI s];exact W.o.2.1 j s
     clear bb bp W cy B cz hin;rcases am with F|F
     ·have bt:aA (_):=bt.o F;rw[F] at P ai ba a1 a2 S ao;clear bx;go_wp2_with fail;refine P.mono ?_;clear P;rintro e c ⟨rfl,B⟩
      have aB:=S.o.trans (B.mono S.o.size)
      obtain⟨j0,cL,j2,cH,cM⟩:=bs.o c aB;obtain⟨cN,cO,_,cP⟩:=dq ((B.block _ (lt_of_some ao.o)).trans ao.o)
      have N:aA (_):=br.o c aB;clear B aB S ao br cg bs a1 a2;go_wp2_with fail;go_roundw
      case rel=>exact⟨_,ag,N.o.1,N.o.2.1.congr bt.o,N.o.2.2.1⟩
      rw[N.o.1.left_eq,al.o.1];exact al.o.2
     ·have bx:aA (_):=bx.o F;rw[F] at P ai ba a1 a2 S ao;clear bt;go_wp2_with fail;refine P.mono ?_;clear P;rintro e c ⟨rfl,B⟩
      have aB:=S.o.trans (B.mono S.o.size)
      obtain⟨j0,cL,j2,cH,cM⟩:=bs.o c aB;obtain⟨cN,cO,_,cP⟩:=dq ((B.block _ (lt_of_some ao.o)).trans ao.o)
      have N:aA (_):=cg.o c aB;clear B aB S ao br cg bs a1 a2;go_wp2_with fail;go_roundw
      case rel=>exact⟨_,ag,(N.o _ rfl).1,(N.o _ rfl).2.1.congr bx.o,(N.o _ rfl).2.2⟩
      rw[(N.o _ rfl).1.left_eq,al.o.1];exact al.o.2
    ·rw[hin] at P;have b0:=bp.o (cy.o hin)
     have ar:aA (∀c,Below l.heap.size l c->gC c ab w.heap.size n1 (e4 T fm A) (fun y=>left y&&!(y==(i:Int))) ag/\hQ T fm A lab cp ab n1 (ge A T (fun y=>left y&&!(y==(i:Int)))) c/\Fr (fun b=>10<=lab b) w c):=by show∀c,_;rw[b0];exact bb.o
     rcases am with F|F
     all_goals
      rw[F] at P ai ba a1 a2 S;go_wp2_with fail;refine P.mono ?_;rintro e c ⟨rfl,B⟩
      have N:=hide (ar.o c (S.o.trans (B.mono S.o.size)))
      go_wp2_with fail;go_roundw;exact⟨_,ag,N⟩
      case measure=>rw[N.o.1.left_eq,al.o.1];exact al.o.2
   ·have cC:i0 A (T.getD i t0)=(T.getD i t0).2.1:=by unfold i0;rw[aI (fun d=>am (aL d.1)),aI (fun d=>am (aM d.1))]
    have b0:=bp.o cC;have ar:aA (∀c,Below l.heap.size l c->gC c ab w.heap.size n1 (e4 T fm A) (fun y=>left y&&!(y==(i:Int))) ag/\hQ T fm A lab cp ab n1 (ge A T (fun y=>left y&&!(y==(i:Int)))) c/\Fr (fun b=>10<=lab b) w c):=by show∀c,_;rw[b0];exact bb.o
    have cY:_:=fun e=>am (aM e)
    have n4:_:=fun e=>am (aL e)
    clear cC b0 bb bp W aV hrow b9 b6 v0 am;dsimp only [eL] at ai ba;generalize (T.getD i t0).1=kd at*;generalize (T.getD i t0).2.1.length=n at*;generalize (fm i).1=ad at*;generalize (fm i).2=cQ at*;go_wp2_with fail;go_roundw
    case rel=>exact⟨_,ag,ar.o _ (b8.alloc b7 _)⟩
    case measure=>rw[(ar.o _ ((aH _ l).alloc b7 (.cells #[.int .i64 kd,.slice ad n cQ] 220))).1.left_eq,al.o.1];exact al.o.2
end
end Go.Proofs.YtpkjkjhanlbcoaaGreat
