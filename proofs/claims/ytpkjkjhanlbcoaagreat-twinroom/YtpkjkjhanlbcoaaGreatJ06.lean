import Derived.Test.YtpkjkjhanlbcoaaGreatJ05
import Derived.OrdersHeld
namespace Go.Proofs.YtpkjkjhanlbcoaaGreat
theorem ac{P:Prop}(h:P:=by rfl):P:=h
set_option maxRecDepth 100000
set_option maxHeartbeats 2000000
open Tryz
open Go.RowKit W Kp cf
theorem lu {P:Prop}(h:P:=by rw[hW0,a5 _ _ _ _ Z];exact bf _ _ _ y0):P:=h
theorem xv {P:Prop}(h:P:=by
 have E2:=hide ((o2 a).trans hbt.symm)
 have E3:ay (bt=true->_=_):=fun e=>o3 a (by rw[hbt] at e;simpa using e)
 clear o2 o3 hbt n5 HJ;go_wp2_with (at_lookup;refine wpList_lookup_own_ok_int _ rfl _ _ 127 rfl 3 3 .i64 iN underlying127 underlying3 (lX _) c.ch k.T.length D rfl o1 _ _ rfl xw ?_;intro z hat hwc;rw[E2.o];have E4:=hide (fun e=>by have:=hat.symm.trans (E3.o e);simpa using this);clear hat hwc)
 go_ret2;exact⟨z,rfl,E4.o,hb1⟩):P:=h
theorem qh {P:Prop}(h:P:=by go_ret;rw[E2.o.1,E2.o.2];exact⟨_,by simp[hll],⟨_,_,sU.o.1⟩,⟨sU.o.2,fun b hb=>hb.elim (xx.o b) (fun e=>aJ (xy.o b e))⟩⟩):P:=h
theorem xz {P:Prop}(h:P:=by
 have hk:0<x.2.2.2.length->∀b,x.2.1=some b->w'.heap[b.block]?=w.heap[b.block]?:=fun hp b e=>by obtain⟨b0,o0,cs,e0,hb⟩:=hl.2 hp;have e':=e;rw[e0] at e';cases e';exact f.block _ (lt_of_some hb) (fun c=>(hX _ (lt_of_some hb) c).2.1 ⟨x,hx,hp,o0,e0⟩)
 refine⟨hl.1.keep f.size hk,fun hp=>?_⟩
 obtain⟨b0,o0,cs,e0,hb⟩:=hl.2 hp;exact⟨b0,o0,cs,e0,(hk hp _ e0).trans hb⟩):P:=h
theorem qi {P:Prop}(h:P:=by rw[hW0];exact bf _ _ _ ((a5 w1 ⟨w.heap.size,0,none⟩ ⟨w.heap.size,1,none⟩ _ Z).trans y1)):P:=h
theorem qj {P:Prop}(h:P:=by
 go_wp2_with fail;refine P.mono ?_;rintro e w1 ⟨v,rfl,hv,hb1⟩
 have hv:=hv trivial;subst hv;go_wp2;go_ret;exact⟨rfl,hb1⟩):P:=h
theorem xA {P:Prop}(h:P:=by
 go_wp2_with fail;refine P.mono ?_;rintro e w1 ⟨v,rfl,hv,hb1⟩
 have hv:=hv trivial;subst hv;go_wp2_with fail;refine(sg v w1).mono ?_;rintro e w2 ⟨rfl,hb2⟩
 go_wp2;go_ret;exact⟨rfl,hb1.trans (hb2.mono hb1.size)⟩):P:=h
theorem xB {P:Prop}(h:P:=by rw[hW0];exact bf _ _ _ ((a5 w3 ⟨w.heap.size,0,none⟩ ⟨w.heap.size,1,none⟩ _ Z).trans y1)):P:=h
theorem xC {P:Prop}(h:P:=by
 go_wp2_with fail;refine P.mono ?_;rintro e w1 ⟨rfl,hb1⟩
 go_wp2_with fail;go_ret2;exact⟨0,rfl,fun h=>by simp at h,hb1⟩):P:=h
theorem xD {P:Prop}(h:P:=by obtain⟨x,hx,hl,o,e⟩:=hk;obtain⟨b,o',cs,e',hb⟩:=(h.fl x hx).2 hl;rw[e] at e';cases e';exact lt_of_some hb):P:=h
def fF (w0 w:ax)(m:List dT)(w':ax)(b:List dT):Prop:=Kf w0.heap.size w w'/\∀k,fp b k->fp m k\/w.heap.size<=k
theorem fF.refl (w0 w:ax)(m:List dT):fF w0 w m w m:=⟨Kf.refl _ _,fun _ h=>aK h⟩
theorem fF.trans {w0 w w' b:ax}{m d e:List dT}(h:fF w0 w m w' d)(k:fF w0 w' d b e):fF w0 w m b e:=
 ⟨h.1.trans k.1,fun i hi=>(k.2 i hi).elim (h.2 i) (fun c=>aJ (aT h.1.size c))⟩
theorem fF.of {w0 w w':ax}{m:List dT}(h:Below w.heap.size w w'):fF w0 w m w' m:=⟨Kf.of h,fun _ h=>aK h⟩
theorem fF.new {w0 w w' b:ax}{m d:List dT}{X:Nat->Prop}(h:fF w0 w m w' d)(f:Fr X w' b)(g:∀k,X k->w.heap.size<=k):fF w0 w m b d:=
 ⟨⟨f.os.trans h.1.os,f.tape.trans h.1.tape,f.output.trans h.1.output,aT h.1.size f.size,fun k hk hb=>(f.block k (aM hk h.1.size) (fun c=>by have:=g k c;omega)).trans (h.1.low k hk hb),
  fun k i e mm hk j l=>(f.block k (aM (lt_of_some hk) h.1.size) (fun c=>by have:=g k c;have:=lt_of_some hk;omega)).trans (h.1.ib k i e mm hk j l)⟩,h.2⟩
section
variable {w0 w w':ax}{kb ch pw:Nat}{T:List Int}{s:cQ}{vn:Value}{m:List dT}
theorem Wk.fb (h:Wk w0 w kb ch pw T s vn m)(k:Nat)(hk:fp m k):k<w.heap.size:=by exact xD
theorem Wk.but {X:Nat->Prop}(h:Wk w0 w kb ch pw T s vn m)(f:Fr X w w')(hX:∀k,k<w.heap.size->X k->(∃cs,w.heap[k]?=some (.cells cs 97 (0,0)))/\¬fp m k/\w0.heap.size<=k):Wk w0 w' kb ch pw T s vn m:=by
 obtain⟨D,o1,i,j⟩:=h.mp;have n1:¬X kb:=fun c=>by obtain⟨⟨cs,hc⟩,_⟩:=hX kb (lt_of_some h.blk) c;rw[h.blk] at hc;simp at hc
 have d:¬X ch:=fun c=>by obtain⟨⟨cs,hc⟩,_⟩:=hX ch o1.lt c;obtain⟨l,n,hb,_⟩:=o1;rw[hb] at hc;simp at hc
 refine⟨(f.block kb (lt_of_some h.blk) n1).trans h.blk,h.lo,h.mp.same (f.block ch o1.lt d),cH h.row (fun k hk=>f.block k (cn h.row k hk).2 (fun c=>?_)),h.nd,fun x hx=>?_,h.eH.trans ⟨f.os,f.tape,f.output,f.size,fun k hk=>f.block k (aM hk h.eH.size) (fun c=>by have:=(hX k (aM hk h.eH.size) c).2.2;omega)⟩⟩
 ·obtain⟨⟨cs,hc⟩,_⟩:=hX k (cn h.row k hk).2 c;obtain⟨o,g⟩:=e6 h.row k hk;rw[g] at hc;simp at hc
 ·have hl:=h.fl x hx;exact xz
end
def n6 (w0:ax)(b ch pw:Nat)(T:List Int)(M:cQ->Int->cQ)(n:Nat):Prop:=
 ∀(w:ax)(s:cQ)(d:Value)(m:List dT)(a:Int),Wk w0 w b ch pw T s d m->e5 T s->a∈T->a∉s.1->T.length<=s.1.length+n->
  Calls prog 231 #[aj b,ah a] w fun e w'=>∃f c,e=.returned (ah s.1.length)/\Wk w0 w' b ch pw T (M s a) f c/\fF w0 w m w' c
theorem xE:(prog.info? 97).map (fun i=>(i.zero,i.size,i.bytes))=some (some (.agg #[ah 0,ah 0]),2,16):=ae
section
variable {w0 w:ax}{kb ch pw n:Nat}{T:List Int}{kd:Int->Int}{sh:Int->List Int}{M:cQ->Int->cQ}{s:cQ}{vn:Value}{m:List dT}
theorem DQ (h:Wk w0 w kb ch pw T s vn m)(a:Int)(a0:0<=a)(a1:a<1152921504606846976)(d:T.contains a=false):
 Calls prog 198 #[aj kb,ah a] w fun e w'=>∃x,e=.returned (.tuple #[ah x,.bool false])/\w'=w:=by
 obtain⟨c0,c1,c2,lk⟩:=h.cells;obtain⟨D,o1,f,g⟩:=h.mp;have b:=f a;rw[d] at b;have b:=hide b;go_enter func198,ntmps198;go_wp2_with (at_lookup;refine wpList_lookup_own_ok_int _ rfl _ _ 127 rfl 3 3 .i64 iN underlying127 underlying3 (lX _) ch T.length D rfl o1 _ _ rfl (jd a0 a1) ?_;intro c i j;rw[b.o])
 go_ret2;exact⟨c,rfl,rfl⟩
def lY (s:cQ)(a:Int):Int:=if s.1.contains a=true then(s.1.idxOf a:Int) else s.1.length
def lZ (M:cQ->Int->cQ)(s:cQ)(a:Int):cQ:=if s.1.contains a=true then s else M s a
theorem DR (hM:n6 w0 kb ch pw T M n)(h:Wk w0 w kb ch pw T s vn m)(ho:e5 T s)(hn:T.length<=s.1.length+n)(a:Int)(a0:0<=a)(a1:a<1152921504606846976)(i:a∈T):
 Calls prog 198 #[aj kb,ah a] w fun e w'=>∃j d,e=.returned (.tuple #[ah (lY s a),.bool true])/\Wk w0 w' kb ch pw T (lZ M s a) j d/\fF w0 w m w' d:=by
 have H:=hide h;have u:=hide hM;obtain⟨c0,c1,c2,lk⟩:=h.cells;obtain⟨D,o1,v,x⟩:=h.mp;have p:=jd a0 a1;have q:ay (Maps.has D (.int .i64 a)=true):=(v a).trans (by simpa using i)
 have f:=x a i;by_cases b:a∈s.1
 ·rw[DH b] at f;have g:ay (_=_):=f;have k:lY s a=(s.1.idxOf a:Int):=by unfold lY;rw[aI (by simpa using b)]
  have l:lZ M s a=s:=by unfold lZ;rw[aI (by simpa using b)]
  rw[k,l];generalize s.1.idxOf a=L at g⊢;go_enter func198,ntmps198;go_wp2_with (at_lookup;refine wpList_lookup_own_ok_int _ rfl _ _ 127 rfl 3 3 .i64 iN underlying127 underlying3 (lX _) ch T.length D rfl o1 _ _ rfl p ?_;intro c o A;rw[q.o];(have hc:c=(L:Int):=by have:=o.symm.trans g.o;simpa using this);subst hc)
  go_ret2;exact⟨vn,m,rfl,H.o,fF.refl _ _ _⟩
 ·rw[DG b] at f;have g:ay (_=_):=f;have k:lY s a=s.1.length:=by unfold lY;rw[aG (by simpa using b)]
  have l:lZ M s a=M s a:=by unfold lZ;rw[aG (by simpa using b)]
  rw[k,l];have P:=u.o w s vn m a H.o ho i b hn;generalize M s a=C at P⊢;generalize s.1.length=L at P⊢;go_enter func198,ntmps198;go_wp2_with (at_lookup;refine wpList_lookup_own_ok_int _ rfl _ _ 127 rfl 3 3 .i64 iN underlying127 underlying3 (lX _) ch T.length D rfl o1 _ _ rfl p ?_;intro c o A;rw[q.o];(have hc:c=-1:=by have:=o.symm.trans g.o;simpa using this);subst hc)
  refine P.mono ?_;rintro e w1 ⟨j,d,rfl,B,k1⟩
  have t:=dq B k1;go_wp2_with fail;go_ret2;exact⟨j,d,rfl,t.o.1,t.o.2⟩
theorem xF (x:Int)(h:dk x=3):0<=de x/\de x<1152921504606846976:=by
 have h0:dc x=0:=by
  by_cases c:dc x=0
  ·exact c
  ·unfold dk at h;omega
 have b:=(vF x h0).1;rw[h] at b;rw[sc] at b;unfold rc at b;split at b
 ·omega
 ··omega
theorem DS (hM:n6 w0 kb ch pw T M n)(h:Wk w0 w kb ch pw T s vn m)(ho:e5 T s)(hn:T.length<=s.1.length+n)(x:Int):
 Calls prog 130 #[aj kb,ah x] w fun e w'=>∃O B,e=.returned (.agg #[ah (ei M T s x).1.1,ah (ei M T s x).1.2])/\Wk w0 w' kb ch pw T (ei M T s x).2 O B/\fF w0 w m w' B:=by
 have H:ay (Wk w0 w kb ch pw T s vn m):=h;have C:=au w (.cells #[.int .i64 0,.int .i64 0] 97)
 have D:=aO w (.cells #[.int .i64 0,.int .i64 0] 97)
 have P:=vM x (w.alloc (.cells #[.int .i64 0,.int .i64 0] 97))
 by_cases o:dk x=3
 ·have u:=xF x o;rw[o] at P;cases hT:T.contains (de x)
  ·have ev:ei M T s x=((0,0),s):=by unfold ei;rw[aI o,hT,aG Z]
   rw[ev];generalize de x=a at P u hT;generalize dc x=cc at P;have A:ay (∀w1,Below w.heap.size w w1->Calls prog 198 #[aj kb,ah a] w1 fun e w'=>∃x,e=.returned (.tuple #[ah x,.bool false])/\w'=w1):=fun w1 hb=>DQ (H.o.below hb) a u.1 u.2 hT;go_enter func130,ntmps130;go_wp2_with fail;refine P.mono ?_;rintro e w1 ⟨rfl,d⟩
   have g:=(d.block w.heap.size Z).trans D;have q:=C.trans (d.mono Z)
   have E:=d.size;simp at E;have t:=au w1 (.cells #[.int .i64 3,.int .i64 a] 97)
   have j:=q.trans (t.mono V)
   have i:=(t.block w.heap.size V).trans g;clear D g C d;go_wp2_with fail;refine(A.o _ j).mono ?_;rintro e w3 ⟨z,rfl,Q⟩
   rw[<-Q] at i j t;have R:w.heap.size<w3.heap.size:=by rw[Q];simp;omega
   clear Q;have y0:w3.cell? (aq w.heap.size 0)=some (ah 0):=aA i
   have y1:w3.cell? (aq w.heap.size 1)=some (ah 0):=aA i
   have S:w3.frozen? (aq w.heap.size 0)=false:=aC i
   have U:w3.frozen? (aq w.heap.size 1)=false:=aC i
   have F:ay (fF w0 w m w3 m):=fF.of j;have G:ay (∀I,Fr (fun k=>k=w.heap.size) w3 I->_):=fun I f=>(H.o.below j).but f (fun k _ e=>by have e:=e;rw[e];exact⟨⟨_,i⟩,fun c=>by have:=H.o.fb _ c;omega,H.o.eH.size⟩)
   clear A i t q j H;go_wp2_with fail;obtain⟨b,hW0⟩:∃b,b=(w3.setCell ⟨w.heap.size,0,none⟩ (.int .i64 0)).setCell ⟨w.heap.size,1,none⟩ (.int .i64 0):=⟨_,rfl⟩
   rw[<-hW0];have g0:b.cell? (aq w.heap.size 0)=some (ah 0):=by exact lu
   have g1:b.cell? (aq w.heap.size 1)=some (ah 0):=by exact xB
   have l:Fr (fun k=>k=w.heap.size) w3 b:=by rw[hW0];exact((Fr.refl (fun k=>k=w.heap.size) w3).set w.heap.size 0 _ rfl).set w.heap.size 1 _ rfl
   exact a4 (v:=.agg #[ah 0,ah 0]) (by simp[results,results130,go_sem,g0,g1]) rfl ⟨vn,m,rfl,G.o b l,F.o.new l (fun k e=>Nat.le_of_eq (Eq.symm e))⟩
  ·have W:de x∈T:=by simpa using hT
   have ev:ei M T s x=((3,lY s (de x)),lZ M s (de x)):=by unfold ei lY lZ;rw[aI o,aI hT];split<;>rfl
   rw[ev];generalize de x=a at P u W⊢;generalize dc x=cc at P;have A:ay (∀w1,Below w.heap.size w w1->_):=fun w1 hb=>DR hM (H.o.below hb) ho hn a u.1 u.2 W;generalize lY s a=z at A⊢;generalize lZ M s a=ad at A⊢;go_enter func130,ntmps130;go_wp2_with fail;refine P.mono ?_;rintro e w1 ⟨rfl,d⟩
   have g:=(d.block w.heap.size Z).trans D;have q:=C.trans (d.mono Z)
   have E:=d.size;simp at E;have t:=au w1 (.cells #[.int .i64 3,.int .i64 a] 97)
   have j:=q.trans (t.mono V)
   have i:=(t.block w.heap.size V).trans g;go_wp2_with fail;refine(A.o _ j).mono ?_;rintro e w3 ⟨O,B,rfl,X,L⟩
   have J:=(L.1.ib _ _ _ _ i aa aa).trans i;have R:=L.1.size;simp at R;have y0:w3.cell? (aq w.heap.size 0)=some (ah 0):=aA J
   have y1:w3.cell? (aq w.heap.size 1)=some (ah 0):=aA J
   have S:w3.frozen? (aq w.heap.size 0)=false:=aC J
   have U:w3.frozen? (aq w.heap.size 1)=false:=aC J
   have Y:¬fp B w.heap.size:=fun c=>(L.2 _ c).elim (fun c=>by have:=H.o.fb _ c;omega) (fun c=>by simp at c;omega)
   have F:=hide ((fF.of j).trans L)
   have G:ay (∀I,Fr (fun k=>k=w.heap.size) w3 I->_):=fun I f=>X.but f (fun k _ e=>by have e:=e;rw[e];exact⟨⟨_,J⟩,Y,H.o.eH.size⟩)
   go_wp2_with fail;obtain⟨b,hW0⟩:∃b,b=(w3.setCell ⟨w.heap.size,0,none⟩ (.int .i64 3)).setCell ⟨w.heap.size,1,none⟩ (.int .i64 z):=⟨_,rfl⟩
   rw[<-hW0];have g0:b.cell? (aq w.heap.size 0)=some (ah 3):=by exact lu
   have g1:b.cell? (aq w.heap.size 1)=some (ah z):=by exact xB
   have l:Fr (fun k=>k=w.heap.size) w3 b:=by rw[hW0];exact((Fr.refl (fun k=>k=w.heap.size) w3).set w.heap.size 0 _ rfl).set w.heap.size 1 _ rfl
   exact a4 (v:=.agg #[ah 3,ah z]) (by simp[results,results130,go_sem,g0,g1]) rfl ⟨O,B,rfl,G.o b l,F.o.new l (fun k e=>Nat.le_of_eq (Eq.symm e))⟩
 ·have ev:ei M T s x=((dk x,de x),s):=by unfold ei;rw[aG o]
  rw[ev];have ab:(dk x !=3)=true:=by simpa using o
  clear ev o hM ho hn;generalize dk x=K at P ab⊢;generalize de x=v at P⊢;generalize dc x=cc at P;go_enter func130,ntmps130;go_wp2_with fail;refine P.mono ?_;clear P;rintro e w1 ⟨rfl,d⟩
  have g:=(d.block w.heap.size Z).trans D;have q:=C.trans (d.mono Z)
  have E:=d.size;simp at E;have y0:w1.cell? (aq w.heap.size 0)=some (ah 0):=aA g
  have y1:w1.cell? (aq w.heap.size 1)=some (ah 0):=aA g
  have S:w1.frozen? (aq w.heap.size 0)=false:=aC g
  have U:w1.frozen? (aq w.heap.size 1)=false:=aC g
  have l1:w.heap.size<w1.heap.size:=V;have n1:¬w.heap.size=w1.heap.size:=V;have ag:¬w1.heap.size=w.heap.size:=V;have g:=hide g;clear D C d;go_wp2_with fail;obtain⟨b,hW0⟩:∃b,b=(w1.setCell ⟨w.heap.size,0,none⟩ (.int .i64 K)).setCell ⟨w.heap.size,1,none⟩ (.int .i64 v):=⟨_,rfl⟩
  rw[<-hW0];have g0:b.cell? (aq w.heap.size 0)=some (ah K):=by exact lu
  have g1:b.cell? (aq w.heap.size 1)=some (ah v):=by exact qi
  have l:Fr (fun k=>k=w.heap.size) w1 b:=by rw[hW0];exact((Fr.refl (fun k=>k=w.heap.size) w1).set w.heap.size 0 _ rfl).set w.heap.size 1 _ rfl
  have ai:b.heap.size=w1.heap.size:=by rw[hW0];simp[World.setCell]
  have N:=au b (.cells #[.int .i64 K,.int .i64 v] 97)
  have G:=((H.o.below q).but l (fun k _ e=>by have e:=e;rw[e];exact⟨⟨_,g.o⟩,fun c=>by have:=H.o.fb _ c;omega,H.o.eH.size⟩)).below N;have F:=((fF.of (w0:=w0) (m:=m) q).new l (fun k e=>Nat.le_of_eq (Eq.symm e))).trans (fF.of N)
  have r0:=(N.cell (p:=aq w.heap.size 0) (by show w.heap.size<_;omega)).trans g0;have r1:=(N.cell (p:=aq w.heap.size 1) (by show w.heap.size<_;omega)).trans g1;generalize b.alloc (.cells #[.int .i64 K,.int .i64 v] 97)=al at*;exact a4 (v:=.agg #[ah K,ah v]) (by simp[results,results130,go_sem,r0,r1]) rfl ⟨vn,m,rfl,G,F⟩
end
theorem sV {x:Int}(h:cY x=true):0<=cg x/\cg x<1152921504606846976:=by rw[lP x h];unfold cY at h;simp at h;exact xF x h.2
section
variable {c:gn}{k:ce}{cG cr:Value}{F:Nat->Prop}{s:cj}{w:ax}
theorem xG (h:(cutV c k cG cr).J F s w)(x:Int):
 Calls prog 227 #[aj c.pk,ah x] w fun e w'=>∃v,e=.returned (.tuple #[ah v,.bool (k.cK x)])/\(k.cK x=true->v=s.f (cg x))/\Below w.heap.size w w':=by
 have HJ:=hide h;have P:=nM x w;cases ha:cY x
 ·rw[ha] at P;have b:k.cK x=false:=by unfold ce.cK;rw[ha];rfl
  rw[b];go_enter func227,ntmps227;exact xC
 ·have b:k.cK x=k.T.contains (cg x):=by unfold ce.cK;rw[ha];rfl
  have d:=sV ha;rw[b];rw[ha] at P;generalize cg x=a at P d⊢;have xw:=jd d.1 d.2;obtain⟨bt,hbt⟩:∃bt,bt=k.T.contains a:=⟨_,rfl⟩
  rw[<-hbt];go_enter func227,ntmps227;go_wp2_with fail;refine P.mono ?_;clear P;rintro e w1 ⟨rfl,hb1⟩
  have n5:=(cutV c k cG cr).below HJ.o hb1;obtain⟨c0,c1,_⟩:=d_ n5;obtain⟨⟨D,o1,o2,o3⟩,_⟩:=xr n5;exact xv
theorem n7 (h:(cutV c k cG cr).J F s w)(x:Int):
 Calls prog 189 #[aj c.pk,ah x] w fun e w'=>e=.returned (.bool (k.ls s x))/\Below w.heap.size w w':=by
 have P:=xG h x;cases hy:k.cK x
 ·have b:k.ls s x=false:=by unfold ce.ls;rw[hy];rfl
  rw[b];rw[hy] at P;go_enter func189,ntmps189;go_wp2_with fail;refine P.mono ?_;rintro e w1 ⟨v,rfl,_,hb1⟩
  go_wp2;go_ret;exact⟨rfl,hb1⟩
 ·have b:k.ls s x=(s.f (cg x)==-1):=by unfold ce.ls;rw[hy];rfl
  rw[b];rw[hy] at P;go_enter func189,ntmps189;exact qj
theorem qk (h:(cutV c k cG cr).J F s w)(x:Int):
 Calls prog 190 #[aj c.pk,ah x] w fun e w'=>e=.returned (ah (k.nw s x))/\Below w.heap.size w w':=by
 have P:=xG h x;cases hy:k.cK x
 ·have b:k.nw s x=x:=by unfold ce.nw;rw[hy];simp
  rw[b];rw[hy] at P;go_enter func190,ntmps190;go_wp2_with fail;refine P.mono ?_;rintro e w1 ⟨v,rfl,_,hb1⟩
  go_wp2_with fail;go_ret;exact⟨rfl,hb1⟩
 ·rw[hy] at P;by_cases d:s.f (cg x)=-1
  ·have b:k.nw s x=x:=by unfold ce.nw;rw[hy,d];simp
   rw[b];rw[d] at P;go_enter func190,ntmps190;exact qj
  ·have b:k.nw s x=ew 3 (s.f (cg x)):=by unfold ce.nw;rw[hy,aI (by simp[d])]
   rw[b];generalize s.f (cg x)=a at P d⊢;go_enter func190,ntmps190;exact xA
theorem ql (h:(cutV c k cG cr).J F s w)(i:CI k s)(x:Int):
 Calls prog 182 #[aj c.pk,ah x] w fun e w'=>e=.returned (ah (k.br s x).1)/\(cutV c k cG cr).J F (k.br s x).2 w'/\b8 F w F w':=by
 have p:ay ((cutV c k cG cr).J F s w):=h;have P:=n7 h x;clear h;cases hl:k.ls s x
 ·have m:k.br s x=(k.nw s x,s):=by unfold ce.br;rw[hl];rfl
  rw[m];rw[hl] at P;go_enter func182,ntmps182;go_wp2_with fail;refine P.mono ?_;clear P;rintro e w1 ⟨rfl,d⟩
  have G:=(cutV c k cG cr).below p.o d;have H:=qk G x;clear G;go_wp2_with fail;refine H.mono ?_;rintro e n ⟨rfl,j⟩
  have hb:=d.trans (j.mono d.size)
  clear H d j;go_wp2_with fail;go_ret;exact⟨rfl,(cutV c k cG cr).below p.o hb,b8.of hb⟩
 ·have m:k.br s x=(k.nw (k.cp s (cg x)) x,k.cp s (cg x)):=by unfold ce.br;rw[aI hl]
  rw[m];obtain⟨l1,l2,al⟩:=ce.mY hl;have I:=sV l1;have q:=nM x;rw[hl] at P;rw[l1] at q;have J:=jd I.1 I.2;have E:ay (k.cp s (cg x)={s with g:=jK k.N k.O k.y s.g s.ws (cg x),ws:=jL k.N k.O k.y s.g s.ws (cg x),f:=gA s.f (cg x) (mQ k.N k.O k.y s.g s.ws (cg x))}):=rfl;have n1:=i.hN';have aF:=i.hO;have aR:=i.hg;have a0:=i.tl;have K:(Lit.int .i64 (mQ k.N k.O k.y s.g s.ws (cg x))).wf=true:=by
   unfold mQ;split
   ·exact WalkArith.wf_i64 ⟨V,V⟩
   ·decide
  have hv:=m0 _ K;generalize k.cp s (cg x)=s2 at E⊢;clear i m hl l1 al K;generalize cg x=a at*;go_enter func182,ntmps182;go_wp2_with fail;refine P.mono ?_;clear P;rintro e w1 ⟨rfl,d⟩
  go_wp2_with fail;refine(q w1).mono ?_;rintro e n ⟨rfl,j⟩
  have hb:=d.trans (j.mono d.size)
  have u:=(cutV c k cG cr).below p.o hb;obtain⟨c0,c1,_,_,_,c5,_⟩:=d_ u;have L:=(cutV c k cG cr).below u (aH _ n).drew;obtain⟨am,M⟩:=iO L;have v:ay (_/\_):=⟨hb,M⟩
  have C:=wQ a n.drew am;clear d j hb q M L u;go_wp2_with fail
  go_region_held3 (fun w'=>w'.cell? (aq c.pk 0)=some (aj c.pw)/\w'.cell? (aq c.pk 1)=some (.map (some c.ch))/\w'.cell? (aq c.pw 0)=some (aj c.p)) (go_keep)
   (first
     |(go_at_call 165;refine C.mono ?_;clear C;rintro e N ⟨rfl,O,Q⟩;obtain⟨o,R⟩:=v.o.2 N _ _ O Q;obtain⟨S,U,_,_,_,W,_⟩:=d_ o;obtain⟨n4,an⟩:=DK o;obtain⟨⟨D,o1,X,Y⟩,hM⟩:=xr o;obtain⟨A,ao,ab,l⟩:=o1.update (t:=127) (e:=3) iN underlying127 (by unfold maxLen;omega) J hv;have ap:=l.cell S (by simpa using n4);have ar:=l.cell U (by simpa using n4);have aB:=l.cell W (by simpa using an);obtain⟨ad,ag⟩:=hM A _ (Mp.put o1 X Y l2 ab) ((Fr.refl _ N).grown l (fun b e=>aK (by cases e;rfl)));have B:ay ((cutV c k cG cr).J F s2 A/\b8 F w F A):=⟨(by rw[E.o];exact ad),(((b8.of v.o.1).below (aH _ n).drew).trans R).trans ag⟩;clear O Q o R o1 X Y hM ab l ad ag))
  clear ap ar aB S U W ao c0 c1 c5 E hv J v;go_wp2_with fail;refine(qk B.o.1 x).mono ?_;rintro e a1 ⟨rfl,ai⟩
  go_wp2_with fail;go_ret;exact⟨rfl,(cutV c k cG cr).below B.o.1 ai,B.o.2.below ai⟩
theorem qm (h:(cutV c k cG cr).J F s w)(m:CI k s)(a:Int):
 Calls prog 226 #[aj c.pk,ah a] w fun e w'=>e=.returned (.tuple #[])/\(cutV c k cG cr).J F (k.kf s a) w'/\b8 F w F w':=by
 have d:=(cutV c k cG cr).below h (aH _ w).drew;obtain⟨c0,_,_,_,_,c5,_⟩:=d_ h;obtain⟨n,_⟩:=iO d;have L:=jI a w.drew n;have I:ay (CI k s):=m;have o:ay ((cutV c k cG cr).J F s w.drew):=d;have E:ay (k.kf s a=k.st (k.br s (k.ld s a)).2 a (k.br s (k.ld s a)).1):=rfl;have p:ld k.N k.y s.g s.ws a=k.ld s a:=rfl;rw[p] at L;generalize k.kf s a=s2 at E⊢;generalize k.ld s a=x at E L;clear h m d n p;go_enter func226,ntmps226
 go_region_held3 (fun w'=>w'.cell? (aq c.pk 0)=some (aj c.pw)/\w'.cell? (aq c.pw 0)=some (aj c.p)) (go_keep)
  (first
    |(go_at_call 98;refine L.mono ?_;clear L;rintro e q ⟨rfl,t⟩;have f:=(cutV c k cG cr).below o.o t;obtain⟨u,_,_,_,_,v,_⟩:=d_ f;have A:ay ((cutV c k cG cr).J F s q/\b8 F w F q):=⟨f,(b8.of (aH _ w).drew).below t⟩;clear f o)
    |(go_at_call 182;refine(ql A.o.1 I.o x).mono ?_;rintro e J ⟨rfl,g,B⟩;obtain⟨u,_,_,_,_,v,_⟩:=d_ g;obtain⟨C,b⟩:=iO g;have i:ay (_/\_/\_):=⟨A.o.2.trans B,C,b⟩;clear g B C b)
    |(go_at_call 93;refine(k7 a (k.br s x).1 J i.o.2.1).mono ?_;rintro e j ⟨rfl,b,D⟩;obtain⟨l,G⟩:=i.o.2.2 j _ _ b D;obtain⟨u,_,_,_,_,v,_⟩:=d_ l;have H:ay ((cutV c k cG cr).J F s2 j/\b8 F w F j):=⟨(by rw[E.o];exact l),i.o.1.trans G⟩;clear b D l G))
 go_wp2_with fail;go_end0;exact⟨rfl,H.o.1,H.o.2⟩
end
section
variable {c:gn}{k:ce}{F:Nat->Prop}{s:cj}{w:ax}
theorem DT {a:Int}(h:pk (k.ld s a)=1\/pk (k.ld s a)=2):k.lk s a=k.fV s a (pf (k.ld s a)).toNat:=by unfold ce.lk;rw[aI h]
theorem DU {a:Int}(h:pk (k.ld s a)=3):k.lk s a=k.kf {s with wk:=s.wk++[a]} (a+2):=by unfold ce.lk;rw[aG V,aI h]
theorem DV {a:Int}(h:pk (k.ld s a)=4):k.lk s a={s with ep:=s.ep++[a]}:=by unfold ce.lk;rw[aG V,aG V,aI h]
theorem DW {a:Int}(d:pk (k.ld s a)≠1)(e:pk (k.ld s a)≠2)(b:pk (k.ld s a)≠3)(c:pk (k.ld s a)≠4):k.lk s a=s:=by unfold ce.lk;rw[aG V,aG b,aG c]
theorem xH (h:(d9 c k).J F s w)(l:CI k s)(a:Int)(a0:(k.N:Int)<=a)(a1:a<=2000)(hk:pk (k.ld s a)=1\/pk (k.ld s a)=2):
 Calls prog 185 #[aj c.pk,ah a] w fun e w'=>∃o,e=.returned (ah (1+pf (k.ld s a)))/\(d9 c k).J o (k.lk s a) w'/\b8 F w o w':=by
 rw[DT hk];obtain⟨cG,b,h⟩:=h;obtain⟨c0,_,_,_,_,c5,_⟩:=d_ h;obtain⟨p,_⟩:=iO h;have L:=gf a w p;have t:ld k.N k.y s.g s.ws a=k.ld s a:=rfl;rw[t] at L;have hp:=dj (k.ld s a)
 have D:ay (CI k s):=l;have d:ay ((cutV c k cG b).J F s w):=h;clear p l h t;generalize pf (k.ld s a)=n at L hp⊢;obtain⟨m,rfl⟩:∃m:Nat,n=m:=⟨n.toNat,V⟩
 rw[Int.toNat_natCast];have hm:m<=12:=V;generalize pc (k.ld s a)=q at L;have E:(0:Int)<=k.N:=V;rcases hk with hk|hk
 all_goals
  rw[hk] at L;clear hk;go_enter func185,ntmps185;go_wp2_with fail;refine L.mono ?_;clear L;rintro e w1 ⟨rfl,f⟩
  have u:=(cutV c k cG b).below d.o f;have v:b8 F w F w1:=b8.of f;clear d f c0 c5;go_wp2_with fail
  go_loopw [27] (fun iv wr=>∃(j:Nat),j<=m/\iv=ah j/\(cutV c k cG b).J F (k.fV s a j) wr/\b8 F w F wr) (fun iv _=>m-(intOf iv).toNat)
  case atStart=>exact⟨0,aX _,rfl,u,v⟩
  case round=>
   clear u v;obtain⟨j,G,rfl,g,i⟩:=hrel;by_cases H:j<m
   ·have d:ay ((cutV c k cG b).J F (k.fV s a j) wr/\b8 F w F wr):=⟨g,i⟩
    clear g i;go_wp2_with fail;refine(qm d.o.1 (D.o.fV a0 j).1 (a+1+j)).mono ?_;rintro e x ⟨rfl,A,B⟩
    have C:ay ((cutV c k cG b).J F (k.fV s a (j+1)) x/\b8 F w F x):=⟨A,d.o.2.trans B⟩
    clear A B d;go_wp2_with fail;go_roundw
    case rel=>exact⟨j+1,V,af,C.o.1,C.o.2⟩
    case measure=>simp[intOf];omega
   ·obtain rfl:j=m:=V;go_wp2_with fail;go_ret;exact⟨F,rfl,⟨cG,b,g⟩,i⟩
theorem DX (h:(d9 c k).J F s w)(a:Int)(b:pk (k.ld s a)≠1)(d:pk (k.ld s a)≠2)(f:pk (k.ld s a)≠3)(g:pk (k.ld s a)≠4):
 Calls prog 185 #[aj c.pk,ah a] w fun e w'=>∃j,e=.returned (ah (1+pf (k.ld s a)))/\(d9 c k).J j (k.lk s a) w'/\b8 F w j w':=by
 rw[DW b d f g];obtain⟨cG,i,h⟩:=h;obtain⟨c0,_,_,_,_,c5,_⟩:=d_ h;obtain⟨l,_⟩:=iO h;have L:=gf a w l;have m:ld k.N k.y s.g s.ws a=k.ld s a:=rfl;rw[m] at L;have hp:=dj (k.ld s a)
 have p:ay ((cutV c k cG i).J F s w):=h;clear l h m;generalize pf (k.ld s a)=n at L hp⊢;generalize pc (k.ld s a)=q at L;generalize pk (k.ld s a)=kd at L b d f g;have t:(kd==1)=false:=by simpa using b
 have u:(kd==2)=false:=by simpa using d
 have v:(kd==3)=false:=by simpa using f
 have x:(kd==4)=false:=by simpa using g
 go_enter func185,ntmps185;go_wp2_with fail;refine L.mono ?_;clear L;rintro e w1 ⟨rfl,o⟩
 go_wp2_with fail;go_ret;exact⟨F,rfl,⟨cG,i,(cutV c k cG i).below p.o o⟩,b8.of o⟩
theorem DY (h:(d9 c k).J F s w)(a:Int)(W:s.ep.length<=10000)(i:pk (k.ld s a)=4):
 Calls prog 185 #[aj c.pk,ah a] w fun e w'=>∃d,e=.returned (ah (1+pf (k.ld s a)))/\(d9 c k).J d (k.lk s a) w'/\b8 F w d w':=by
 rw[DV i];obtain⟨G,hi,H,I,J⟩:=info_parts kF;obtain⟨cG,o,h⟩:=h;obtain⟨c0,_,_,_,_,c5,_⟩:=d_ h;obtain⟨p,_⟩:=iO h;have L:=gf a w p;have t:ld k.N k.y s.g s.ws a=k.ld s a:=rfl;rw[t] at L;have hp:=dj (k.ld s a)
 have u:ay ((cutV c k cG o).J F s w):=h;clear p h t;rw[i] at L;generalize pf (k.ld s a)=n at L hp⊢;generalize pc (k.ld s a)=q at L;clear i;go_enter func185,ntmps185;go_wp2_with fail;refine L.mono ?_;clear L;rintro e w1 ⟨rfl,m⟩
 have f:=(cutV c k cG o).below u.o m;obtain⟨X,_,_,Y,v,ab,_,_,_,x,_,er,_,lk,_⟩:=d_ f;obtain⟨K,_⟩:=sT f (aJ v)
 obtain⟨ad,cap,rfl⟩:=eE er;have M:=x 4;have A:ay ((cutV c k cG (.slice ad s.ep.length cap)).J F s w1/\b8 F w F w1):=⟨f,b8.of m⟩
 clear f c0 c5 m u x;go_wp2_with (at_builtin;refine wpList_append_own_at _ rfl _ _ 74 rfl 0 3 G (ah 0) 1 8 underlying74 hi H I J rfl aa (.slice ad s.ep.length cap) s.ep.length (s.ep.map (Value.int .i64)) rfl (gd er _) ⟨w1.heap.size,0,none⟩ 1 1 [ah a] rfl rfl ?_ ?_ ?_ ?_ ?_ ?_;(intro j N g;match j,g with|0,g=>(simp at g;subst g;simp[Addr.add]));(intro N B;simp at B;subst B;rfl);(unfold maxLen;omega);(first|omega|simp);(first|omega|(simp;done)|(simp;omega));intro ag ai C D _ O;obtain⟨b4,P,Q⟩:=eU C (Nat.succ_pos _);subst Q;have E:=(D.block c.pk (by simp;omega) K).trans (aS _ _ _ lk);have g4:=(aP (a:=⟨c.pk,4,none⟩) E).trans v;have al:=(World.frozen?_of_block (a:=⟨c.pk,4,none⟩) E).trans M)
 go_ret;obtain⟨d,R,S⟩:=DO A.o.1 (((Fr.refl _ w1).alloc _).grown D (fun b e=>aK e.symm)) (v1:=.slice (ak b4) (s.ep.length+1) P) (l:=s.ep++[a]) (by simpa using C) (fun b e=>by
  have U:some b4=(Value.slice ad s.ep.length cap).ownBlock\/b4=w1.heap.size+1:=O.imp id (fun e=>by simpa[Value.ownBlock] using e)
  simp[Value.ownBlock] at e;subst e;exact U.imp id (fun e=>by omega))
 exact⟨d,rfl,⟨_,_,R⟩,A.o.2.trans S⟩
theorem DZ (h:(d9 c k).J F s w)(x:CI k s)(a:Int)(a0:(k.N:Int)<=a)(a1:a<=2000)(ap:s.wk.length<=10000)(i:pk (k.ld s a)=3):
 Calls prog 185 #[aj c.pk,ah a] w fun e w'=>∃d,e=.returned (ah (1+pf (k.ld s a)))/\(d9 c k).J d (k.lk s a) w'/\b8 F w d w':=by
 rw[DU i];obtain⟨P,hi,Q,R,S⟩:=info_parts kF;obtain⟨cG,m,h⟩:=h;obtain⟨c0,_,_,_,_,c5,_⟩:=d_ h;obtain⟨A,_⟩:=iO h;have L:=gf a w A;have B:ld k.N k.y s.g s.ws a=k.ld s a:=rfl;rw[B] at L;have hp:=dj (k.ld s a)
 have C:ay ((cutV c k cG m).J F s w):=h;have U:ay (CI k {s with wk:=s.wk++[a]}):=x.xq a0 a1;clear A h B x;rw[i] at L;generalize pf (k.ld s a)=n at L hp⊢;generalize pc (k.ld s a)=q at L;clear i;have ar:(0:Int)<=k.N:=V;go_enter func185,ntmps185;go_wp2_with fail;refine L.mono ?_;clear L;rintro e w1 ⟨rfl,o⟩
 have f:=(cutV c k cG m).below C.o o;obtain⟨W,_,_,p,X,Y,_,_,_,D,er,_,_,lk,_⟩:=d_ f;obtain⟨ab,_⟩:=sT f (aK p)
 obtain⟨ad,cap,rfl⟩:=eE er;have ag:=D 3;have E:ay ((cutV c k (.slice ad s.wk.length cap) m).J F s w1/\b8 F w F w1):=⟨f,b8.of o⟩
 clear f c0 c5 o C D X;go_wp2_with (at_builtin;refine wpList_append_own_at _ rfl _ _ 74 rfl 0 3 P (ah 0) 1 8 underlying74 hi Q R S rfl aa (.slice ad s.wk.length cap) s.wk.length (s.wk.map (Value.int .i64)) rfl (gd er _) ⟨w1.heap.size,0,none⟩ 1 1 [ah a] rfl rfl ?_ ?_ ?_ ?_ ?_ ?_;(intro j ai g;match j,g with|0,g=>(simp at g;subst g;simp[Addr.add]));(intro ai G;simp at G;subst G;rfl);(unfold maxLen;omega);(first|omega|simp);(first|omega|(simp;done)|(simp;omega));intro aB aF t u _ H;obtain⟨b4,al,am⟩:=eU t (Nat.succ_pos _);subst am;have v:=(u.block c.pk (by simp;omega) ab).trans (aS _ _ _ lk);have g4:=(aP (a:=⟨c.pk,3,none⟩) v).trans p;have an:=(World.frozen?_of_block (a:=⟨c.pk,3,none⟩) v).trans ag)
 obtain⟨d,I,J⟩:=DN E.o.1 (((Fr.refl _ w1).alloc _).grown u (fun b e=>aK e.symm)) (v1:=.slice (ak b4) (s.wk.length+1) al) (l:=s.wk++[a]) (by simpa using t) (fun b e=>by
  have ao:some b4=(Value.slice ad s.wk.length cap).ownBlock\/b4=w1.heap.size+1:=H.imp id (fun e=>by simpa[Value.ownBlock] using e)
  simp[Value.ownBlock] at e;subst e;exact ao.imp id (fun e=>by omega))
 have K:ay (_/\_):=⟨I,E.o.2.trans J⟩
 refine(qm K.o.1 U.o (a+2)).mono ?_;clear I J g4 an v t u H W p Y er;rintro e aR ⟨rfl,M,N⟩
 have O:ay (_/\_):=⟨M,K.o.2.trans N⟩
 clear M N;go_wp2_with fail;go_ret;exact⟨d,rfl,⟨_,_,O.o.1⟩,O.o.2⟩
theorem xI (h:(d9 c k).J F s w)(b:CI k s)(a:Int)(a0:(k.N:Int)<=a)(a1:a<=2000)(l:s.wk.length<=10000)(m:s.ep.length<=10000):
 Calls prog 185 #[aj c.pk,ah a] w fun e w'=>∃d,e=.returned (ah (1+pf (k.ld s a)))/\(d9 c k).J d (k.lk s a) w'/\b8 F w d w':=by
 by_cases f:pk (k.ld s a)=1
 ·exact xH h b a a0 a1 (aK f)
 by_cases g:pk (k.ld s a)=2
 ·exact xH h b a a0 a1 (aJ g)
 by_cases i:pk (k.ld s a)=3
 ·exact DZ h b a a0 a1 l i
 by_cases j:pk (k.ld s a)=4
 ·exact DY h a m j
 exact DX h a f g i j
def qn (w:ax)(p:Nat):Int:=match w.cell? (aq p 2) with
 |some (.int _ v)=>v
 |_=>0
theorem sW {p:Nat}{v:Int}(h:w.cell? (aq p 2)=some (ah v)):qn w p=v:=by unfold qn;rw[h]
theorem D0 (h:(d9 c k).J F s w)(f:CI k s)(hB:ef k s):
 Calls prog 186 #[aj c.pk] w fun e w'=>∃A,e=.returned (.tuple #[])/\(d9 c k).J A (k.lb (k.O+1) s) w'/\b8 F w A w':=by
 have O:ay (CI k s/\ef k s):=⟨f,hB⟩
 have n0:=f.hO;have n1:=f.hN';have ao:=f.g9;clear f hB;go_enter func186,ntmps186;go_wp2_with fail
 go_loopw [] (fun wr=>∃(n:Nat)(d:Nat->Prop)(s1:cj),(d9 c k).J d s1 wr/\ay (CI k s1/\ef k s1)/\b8 F w d wr/\ay (k.lb n s1=k.lb (k.O+1) s)/\(k.N:Int)+k.O-s1.nx<n) (fun wr=>(2000-qn wr c.pk).toNat)
 case atStart=>exact⟨k.O+1,F,s,h,O,b8.refl _ _,rfl,V⟩
 case round=>
  obtain⟨n,d,s1,⟨cG,g,j⟩,b,B,o,hn⟩:=hrel;obtain⟨c0,_,c2,_,_,c5,_,_,_,C,_⟩:=d_ j;have P:=sW c2;have Q:=C 2;obtain⟨D,_⟩:=iO ((cutV c k cG g).below j (aH _ wr).drew)
  have L:=mO s1.nx wr.drew D;have p:ay ((cutV c k cG g).J d s1 wr/\b8 F w d wr):=⟨j,B⟩
  clear j B D C;go_wp2_with fail
  go_region_held3 (fun w'=>w'.cell? (aq c.pk 0)=some (aj c.pw)/\w'.cell? (aq c.pk 2)=some (ah s1.nx)/\w'.cell? (aq c.pw 0)=some (aj c.p)) (go_keep)
   (first
     |(go_at_call 96;refine L.mono ?_;clear L;rintro e l ⟨rfl,E⟩;have q:=(cutV c k cG g).below ((cutV c k cG g).below p.o.1 (aH _ wr).drew) E;obtain⟨R,_,S,_,_,U,_,_,_,G,_⟩:=d_ q;have W:=G 2;have i:ay ((d9 c k).J d s1 l/\b8 F w d l):=⟨⟨cG,g,q⟩,(p.o.2.below (aH _ wr).drew).below E⟩;clear q p G c0 c2 c5 Q))
  cases hb:hB k.N s1.g s1.nx
  ·go_wp2_with fail;go_end0;have e:k.lb n s1=s1:=by
    cases n with
    |zero=>rfl
    |succ n=>unfold ce.lb;rw[hb];rfl
   rw[<-o.o,e];exact⟨d,rfl,i.o.1,i.o.2⟩
  ·have b1:=js hb;have b2:=b.o.1.hg;have b3:=b.o.1.g9;have b4:=b.o.2.wk;have b5:=b.o.2.ep;obtain⟨n,rfl⟩:∃m,n=m+1:=⟨n-1,V⟩
   have hp:=dj (k.ld s1 s1.nx)
   have X:ay (k.lb n {k.lk s1 s1.nx with nx:=s1.nx+(1+pf (k.ld s1 s1.nx))}=k.lb (k.O+1) s):=by
    have:=o.o;unfold ce.lb at this
    rw[aI hb] at this
    exact this
   have Y:ay (CI k {k.lk s1 s1.nx with nx:=s1.nx+(1+pf (k.ld s1 s1.nx))}/\ef k {k.lk s1 s1.nx with nx:=s1.nx+(1+pf (k.ld s1 s1.nx))}):=⟨(b.o.1.kI hb).1,ef.kI b.o.1 hb b.o.2⟩
   have ab:=(b.o.1.lk (a:=s1.nx) b3 V).2.nx;have L:=xI ((d9 c k).below i.o.1 (aH _ l).drew) b.o.1 s1.nx b3 V V V;generalize pf (k.ld s1 s1.nx)=m at*;generalize k.lk s1 s1.nx=s2 at*;clear hb b4 b5 o;have ap:IntKind.i64.wrap (s1.nx+(1+m))=s1.nx+(1+m):=by rw[bk];omega
   go_wp2_with fail
   go_region_with (go_at_call 185;refine L.mono ?_;rintro e H ⟨t,rfl,⟨ad,ag,u⟩,I⟩;obtain⟨ai,_,J,_,_,al,_,_,_,K,_⟩:=d_ u;rw[ab] at J;have v2:=K 2;have v:ay ((cutV c k ad ag).J t s2 H/\b8 F w t H):=⟨u,(i.o.2.below (aH _ l).drew).trans I⟩;clear u I K)
   all_goals
    obtain⟨x,M⟩:=DL v.o.1 (s1.nx+(1+m))
    obtain⟨_,_,am,_⟩:=d_ x;have an:=sW am;have N:ay (_/\_):=⟨x,v.o.2.trans M⟩
    clear x M v ai J al v2 L R S U W i;go_wp2_with fail;go_roundw
    case rel=>exact⟨n,t,_,⟨_,_,N.o.1⟩,Y,N.o.2,X,by show(k.N:Int)+k.O-(s1.nx+(1+m))<n;omega⟩
    case measure=>
     rw[an,P];show(2000-(s1.nx+(1+m))).toNat<_;omega
end
section
variable {c:gn}{k:ce}{F:Nat->Prop}{s:cj}{w:ax}
theorem bA {α:Type _}{i:Nat}{a:α}{l:List α}(h:a ∈ List.take i l):a ∈ l:=by intros;apply List.mem_of_mem_take<;>assumption
theorem D1 (h:(d9 c k).J F s w)(N:CI k s)(hB:ef k s):
 Calls prog 187 #[aj c.pk] w fun e w'=>∃an,e=.returned (.bool (k.kv s).1)/\(d9 c k).J an (k.kv s).2 w'/\b8 F w an w':=by
 obtain⟨bs,hi,bt,bx,bY⟩:=info_parts kF;obtain⟨cG,b9,h⟩:=h;obtain⟨c0,_,_,_,c4,c5,_,_,_,ca,_,er,_,lk,_⟩:=d_ h;obtain⟨cb,_⟩:=sT h (aJ c4)
 obtain⟨ad,cap,rfl⟩:=eE er;have ao:=hide N;have cc:=hide h;have cd:=hB.ep;have ap:=N.ia;have aB:=hide ap;have aF:ay (k.kv s=(decide ((k.dv s s.ep).1.length<s.ep.length),{(k.dv s s.ep).2 with ep:=(k.dv s s.ep).1})):=rfl;have cf:(0:Int)<=k.N:=V;clear N hB ap;go_enter func187,ntmps187;go_wp2_with fail
 go_loopw [3,12] (fun vr iv wr=>∃(j:Nat)(R:List Int)(s1:cj)(ar:Option Addr)(d:Nat)(g:Nat->Prop),j<=s.ep.length/\iv=ah j/\ay (k.dv s (s.ep.take j)=(R,s1))/\vr=.slice ar R.length d/\wr.ownsRow w.heap.size 3 1 (.slice ar R.length d) R.length (R.map (Value.int .i64))/\(cutV c k cG (.slice ad s.ep.length cap)).J g s1 wr/\b8 F w g wr/\ay (∀b,some b=(Value.slice ar R.length d).ownBlock->¬g b)/\ay (CI k s1/\eC k s s1)) (fun _ iv _=>s.ep.length-(intOf iv).toNat)
 exact⟨0,[],s,none,0,F,aX _,rfl,rfl,rfl,bc _ _ _ _,h,b8.refl _ _,fun b e=>by simp[Value.ownBlock] at e,⟨ao.o,eC.refl _ _⟩⟩
 ·
   obtain⟨j,R,s1,ar,d,g,u,rfl,v,rfl,i,o,m,A,B⟩:=hrel;obtain⟨aR,_,_,_,aV,a0,_,_,_,O,_,C,_,cg,_⟩:=d_ o;have a1:=O 4;have bZ:=B.o.2.ep;rw[bZ] at C;have ch:R.length<=10000:=by have D:=(ao.o.dv (s.ep.take j) (fun a ha=>(aB.o a (bA ha)).1)).2.2.1;rw[v.o] at D;simp at D;omega
   by_cases I:j<s.ep.length
   ·obtain⟨p,q,b0,ci,hc⟩:=gI C V;have Q:=hc j I;subst b0;have a2:s.ep.getD j 0∈s.ep:=by rw[aE,aL I];exact a6 I
    have b1:=aB.o _ a2;have S:ay (k.dv s (s.ep.take (j+1))=k.cP (R,s1) (s.ep.getD j 0)):=by
     show _=_;rw[gy s.ep j I 0];unfold ce.dv;rw[List.foldl_append];have:=v.o;unfold ce.dv at this
     rw[this];rfl
    generalize s.ep.getD j 0=a at Q b1 S;obtain⟨bb,_⟩:=iO o;have L:=jI (a+1) wr bb;have bd:ld k.N k.y s1.g s1.ws (a+1)=k.ld s1 (a+1):=rfl;rw[bd] at L;have n:=dq o m;have ck:=m.fr.size;have b2:ay (∀b,some b=(Value.slice ar R.length d).ownBlock->b<wr.heap.size):=fun b e=>(cn i b e).2;clear hc a2 o m bb bd O;cases hls:k.ls s1 (k.ld s1 (a+1))
    ·have U:ay (k.dv s (s.ep.take (j+1))=(R,k.kf (k.kf s1 (a+1)) (a+2))):=by show _=_;rw[S.o];unfold ce.cP;rw[hls];rfl
     generalize k.ld s1 (a+1)=x at L hls;go_wp2_with fail;refine L.mono ?_;clear L;rintro e w1 ⟨rfl,f⟩
     have P:=n7 ((cutV c k cG (.slice (some ⟨p,q,none⟩) s.ep.length cap)).below n.o.1 f) x;rw[hls] at P;clear Q aR a0 aV a1 C;go_wp2_with fail;refine P.mono ?_;clear P;rintro e be ⟨rfl,E⟩
     have hb:=f.trans (E.mono f.size)
     clear f E;go_wp2_with fail;refine(qm ((cutV c k cG (.slice (some ⟨p,q,none⟩) s.ep.length cap)).below n.o.1 hb) B.o.1 (a+1)).mono ?_;rintro e cl ⟨rfl,bg,bi⟩
     obtain⟨G,H⟩:=B.o.1.kf (a:=a+1) V;have t:=jr bg ((b8.of hb).trans bi) G H;clear bg bi G H hb;go_wp2_with fail;refine(qm t.o.1 t.o.2.2.1 (a+2)).mono ?_;rintro e W ⟨rfl,J,K⟩
     obtain⟨G,H⟩:=t.o.2.2.1.kf (a:=a+2) V;have X:=t.o.2.1.trans K;have M:=jr J (n.o.2.trans X) G ((B.o.2.trans t.o.2.2.2).trans H)
     have Y:=hY i X.fr (fun b e=>A.o b e)
     clear J K G H X i t;go_wp2_with fail;go_roundw;exact⟨j+1,R,_,ar,d,g,V,af,U,rfl,Y,M.o.1,M.o.2.1,A,⟨M.o.2.2.1,M.o.2.2.2⟩⟩
     simp[intOf];omega
    ·have U:ay (k.dv s (s.ep.take (j+1))=(R++[a],s1)):=by show _=_;rw[S.o];unfold ce.cP;rw[aI hls]
     generalize k.ld s1 (a+1)=x at L hls;go_wp2_with fail;refine L.mono ?_;clear L;rintro e w1 ⟨rfl,f⟩
     have P:=n7 ((cutV c k cG (.slice (some ⟨p,q,none⟩) s.ep.length cap)).below n.o.1 f) x;rw[hls] at P;clear Q aR a0 aV a1 C;go_wp2_with fail;refine P.mono ?_;clear P;rintro e be ⟨rfl,E⟩
     have hb:=f.trans (E.mono f.size)
     have ab:=cH i (fun b e=>hb.block b (b2.o b e))
     have cm:=hb.size;clear f E;go_wp2_with (at_builtin;refine wpList_append_own_at _ rfl _ _ 74 rfl w.heap.size 3 bs (ah 0) 1 8 underlying74 hi bt bx bY rfl aa (.slice ar R.length d) R.length (R.map (Value.int .i64)) rfl (gd ab _) ⟨be.heap.size,0,none⟩ 1 1 [ah a] rfl rfl ?_ ?_ ?_ ?_ ?_ ?_;(intro j b3 u;match j,u with|0,u=>(simp at u;subst u;simp[Addr.add]));(intro b3 bl;simp at bl;subst bl;rfl);(unfold maxLen;omega);omega;(simp;omega);intro co W ag ai _ bn;obtain⟨b4,al,b5⟩:=eU ag (Nat.succ_pos _);subst b5)
     have Y:W.ownsRow w.heap.size 3 1 (.slice (ak b4) (R++[a]).length al) (R++[a]).length ((R++[a]).map (Value.int .i64)):=by simpa using ag
     have am:=(cutV c k cG (.slice (some ⟨p,q,none⟩) s.ep.length cap)).below n.o.1 hb;have J:=pZ (cutV c k cG (.slice (some ⟨p,q,none⟩) s.ep.length cap)) am ai (fun b e=>A.o b e)
     have K:b8 F w g W:=⟨((n.o.2.below hb).fr.alloc _).grown ai (fun b e=>aJ (cn ab b e.symm).1),n.o.2.sub⟩
     have b6:ay (∀b,some b=(Value.slice (ak b4) (R++[a]).length al).ownBlock->¬g b):=fun b e bo=>by
      have b7:=bn.imp id (fun e=>by simpa[Value.ownBlock] using e)
      simp[Value.ownBlock] at e;subst e;rcases b7 with e|e
      ·exact A.o _ e bo
      ·have:=(cutV c k cG (.slice (some ⟨p,q,none⟩) s.ep.length cap)).lt am _ bo;omega
     clear am ag ai bn ab i hb;go_wp2_with fail;go_roundw;exact⟨j+1,R++[a],s1,ak b4,al,g,V,af,U,Z,Y,J,K,b6,B⟩
     simp[intOf];omega
   ·obtain rfl:j=s.ep.length:=V;rw[bm] at v;obtain⟨bp,br⟩:=xt o (v1:=.slice ar R.length d) (l:=R) (Fr.refl _ wr) (eV i (fun _ _=>aX _)) (fun b e=>aJ (A.o b e))
    have sU:=dq bp (m.fr.trans br m.sub)
    have xy:ay (∀b,some b=(Value.slice ar R.length d).ownBlock->w.heap.size<=b):=fun b e=>(cn i b e).1;have xx:=hide m.sub;have E2:ay ((k.kv s).1=decide (R.length<s.ep.length)/\(k.kv s).2={s1 with ep:=R}):=by have D:=aF.o;rw[v.o] at D;rw[D];exact⟨rfl,rfl⟩
    clear bp br o m i C v aF O;by_cases hll:R.length<s.ep.length
    ·go_wp2_with fail;exact qh
    ·go_wp2_with fail;exact qh
end
theorem qp {w:ax}{base size n g cap:Nat}{e:TypeId}{b:List Value}(h:w.ownsRow base e size (.slice (ak g) n cap) n b)(i:Nat)(u:Value):(w.setCell ⟨g,i,none⟩ u).ownsRow base e size (.slice (ak g) n cap) n (b.set i u):=by exact vK
theorem sX:∀(l:List b7)(i:Nat)(g z:Int),ev (l.set i (g,z))=((ev l).set (i*2) (ah g)).set (i*2+1) (ah z)
 |[],_,_,_=>rfl
 |e::l,0,g,z=>by simp[ev]
 |e::l,i+1,g,z=>by
  have b:ev (e::l)=ah e.1::ah e.2::ev l:=by simp[ev]
  have c:ev ((e::l).set (i+1) (g,z))=ah e.1::ah e.2::ev (l.set i (g,z)):=by simp[ev]
  rw[b,c,(sX l i g z),show(i+1)*2=i*2+1+1 by omega];simp
theorem xJ {G:Type}(o:dr G)(p:Nat)(vr:Value):qc (c7 o p vr) where
 xg:=by
  rintro F s w ⟨B,ad,cap,C,c,l,m,d,n,t,u⟩ w1 q a1 c1 hb x;have d:F p:=d;have lp:=lt_of_some c;have f:∀k,k≠p->(w1.setCell ⟨p,1,none⟩ (.slice a1 q.length c1)).heap[k]?=w1.heap[k]?:=fun k hk=>aU _ _ _ _ hk;have hs:(w1.setCell ⟨p,1,none⟩ (.slice a1 q.length c1)).heap.size=w1.heap.size:=by simp[World.setCell]
  have L:=hb.size;refine⟨B,a1,c1,o.keep (o.below C hb) (by show w1.heap.size<=(w1.setCell ⟨p,1,none⟩ _).heap.size;rw[hs];exact aD _) (fun k h=>f k (fun e=>n (by rw[<-e];exact h))),?_,eV (cH x (fun k e=>f k (by have:=(cn x k e).1;omega))) (fun _ _=>aX _),fun k h=>aK (m k h),aK d,n,fun k e=>?_,fun k h=>?_⟩
  ·have H:=(hb.block p lp).trans c;show(w1.setCell ⟨p,1,none⟩ _).heap[p]?=_;simp only [World.setCell,Array.getElem?_modify,if_true,H,Option.map_some];simp;rfl
  ·exact⟨aJ e,fun h=>by have M:=u k (m k h);have:=(cn x k e).1;omega⟩
  ·show k<(w1.setCell ⟨p,1,none⟩ _).heap.size;rw[hs];rcases h with h|h
   ·have:=u k h;omega
   ·exact(cn x k h).2
 xh:=by
  rintro F s w ⟨B,I,D,C,c,l,m,d,n,t,u⟩ ad cap hp i hi g z;have hp:w.heap[p]?=some (.cells #[vr,.slice ad s.2.length cap] 153 (0,0)):=hp;have hi:i<s.2.length:=hi;have he:=c.symm.trans hp;obtain⟨rfl,rfl⟩:=he;obtain⟨b,rfl⟩:∃b,I=some _:=by
   rcases l.2 with⟨_,h0⟩|⟨J,N,K,hv,_⟩
   ·omega
   ·simp at hv;exact⟨J,hv.1⟩
  obtain⟨K,A⟩:=e6 l b rfl;have E:b≠p:=fun e=>by rw[e,c] at A;simp at A
  have f:∀(j v:Value) k,k≠b->((w.setCell ⟨b,0+i*2,none⟩ j).setCell ⟨b,0+i*2+1,none⟩ v).heap[k]?=w.heap[k]?:=fun j v k hk=>(aU _ _ _ _ hk).trans (aU _ _ _ _ hk)
  have hs:∀(j v:Value),((w.setCell ⟨b,0+i*2,none⟩ j).setCell ⟨b,0+i*2+1,none⟩ v).heap.size=w.heap.size:=fun j v=>by simp[World.setCell]
  refine⟨b,0,rfl,(t b rfl).1,E,by simp[World.frozen?,A],by simp[World.frozen?,A],B,ak b,D,o.keep C (by rw[hs];exact aD _) (fun k h=>f _ _ k (fun e=>(t b rfl).2 (by rw[<-e];exact h))),?_,?_,m,d,n,?_,?_⟩
  ·show((w.setCell _ _).setCell _ _).heap[p]?=some (.cells #[vr,.slice (ak b) (s.2.set i (g,z)).length D] 153 (0,0))
   rw[a3];exact(f _ _ p (Ne.symm E)).trans c
  ·show((w.setCell _ _).setCell _ _).ownsRow 0 103 2 (.slice (ak b) (s.2.set i (g,z)).length D) (s.2.set i (g,z)).length (ev (s.2.set i (g,z)))
   rw[a3,sX,Nat.zero_add];exact qp (qp l (i*2) _) _ _
  ·intro k e;exact t k e
  ·intro k h;rw[hs];exact u k h
def xK {b:Type}(o:dr b)(I:b->Prop):dr b where
 J F t w:=o.J F t w/\I t
 lt:=fun h=>o.lt h.1
 keep:=fun h hs hk=>⟨o.keep h.1 hs hk,h.2⟩
def da {f:Type}(o:dr f)(bx:Nat)(x:Obj):dr f where
 J F t w:=∃c,o.J c t w/\w.heap[bx]?=some x/\¬c bx/\∀b,F b↔(c b\/b=bx)
 lt:=by
  rintro F t w ⟨c,h,e,_,d⟩ b hb;rcases(d b).1 hb with hb|hb
  ·exact o.lt h b hb
  ·rw[hb];exact lt_of_some e
 keep:=by rintro F t w w' ⟨c,h,e,hn,d⟩ hs hk;exact⟨c,o.keep h hs (fun b hb=>hk b ((d b).2 (aK hb))),(hk bx ((d bx).2 (aJ rfl))).trans e,hn,d⟩
section
variable {g6:Type}{o:dr g6}{bx p:Nat}{x:Obj}{vr:Value}{F:Nat->Prop}{w w':ax}
theorem n8 {t:g6×List b7}(h:(c7 o p vr).J F t w):∃d,o.J d t.1 w/\∀c f w',o.J c f w'->b8 d w c w'->∃j,(c7 o p vr).J j (f,t.2) w'/\b8 F w j w':=by
 obtain⟨d,ad,cap,s,l,g,m,u,n,i,v⟩:=h;refine⟨d,s,fun c f w' q b=>?_⟩
 have lp:=lt_of_some l;refine⟨fun k=>F k\/c k,⟨c,ad,cap,q,(b.fr.block p lp n).trans l,cH g (fun k e=>b.fr.block k (cn g k e).2 (i k e).2),fun k h=>aJ h,aK u,fun h=>(b.sub p h).elim n (fun h=>by omega),fun k e=>⟨aK (i k e).1,fun h=>(b.sub k h).elim (i k e).2 (fun h=>by have:=(cn g k e).2;omega)⟩,fun k h=>?_⟩,b.fr.mono m,fun k h=>?_⟩
 ·rcases h with h|h
  ·exact aM (v k h) b.fr.size
  ·exact o.lt q k h
 ·rcases h with h|h
  ·exact aK h
  ·exact(b.sub k h).imp (m k) id
theorem kc {t:g6×List b7}(h:(c7 o p vr).J F t w)(f:w.heap[bx]?=some x)(hn:¬F bx):(c7 (da o bx x) p vr).J (fun b=>F b\/b=bx) t w:=by obtain⟨g,ad,cap,k,l,m,i,j,n,d,q⟩:=h;refine⟨fun b=>g b\/b=bx,ad,cap,⟨g,k,f,fun c=>hn (i _ c),fun b=>Iff.rfl⟩,l,m,fun b hb=>hb.imp (i b) id,aK j,fun c=>c.elim n (fun e=>hn (by rw[<-e];exact j)),fun b e=>⟨aK (d b e).1,fun c=>c.elim (d b e).2 (fun s=>hn (by rw[<-s];exact(d b e).1))⟩,fun b hb=>hb.elim (q b) (fun e=>by rw[e];exact lt_of_some f)⟩
theorem sY {t:g6×List b7}(h:(c7 (da o bx x) p vr).J F t w):(c7 o p vr).J F t w:=by obtain⟨n,ad,cap,⟨f,g1,g2,g3,g4⟩,g,i,j,k,l,d,m⟩:=h;exact⟨f,ad,cap,g1,g,i,fun b hb=>j b ((g4 b).2 (aK hb)),k,fun c=>l ((g4 p).2 (aK c)),fun b e=>⟨(d b e).1,fun c=>(d b e).2 ((g4 b).2 (aK c))⟩,m⟩
theorem sZ {D:Int->Prop}{f:Nat}{b c:Array Value}{kp:g6->Int->Int×g6}(hk:nT o D f b c kp):nT (da o bx x) D f b c kp:=by
 rintro F t w y k ⟨l,h,d,hn,e⟩
 refine(hk l t w y k h).mono ?_;rintro r w' ⟨g,rfl,m,i,j⟩
 refine⟨fun b=>g b\/b=bx,rfl,⟨g,m,(i.block bx (lt_of_some d) hn).trans d,fun c=>(j bx c).elim hn (fun c=>by have:=lt_of_some d;omega),fun b=>Iff.rfl⟩,i.mono (fun b hb=>(e b).2 (aK hb)),fun b hb=>?_⟩
 rcases hb with hb|hb
 ·exact(j b hb).imp (fun c=>(e b).2 (aK c)) id
 ·exact aK ((e b).2 (aJ hb))
theorem l4 {D:Int->Prop}{f:Nat}{b c:Array Value}{nw:g6->Int->Int}(ht:k9 o D f b c nw):k9 (da o bx x) D f b c nw:=by
 rintro F t w y d ⟨e,h,_⟩
 exact ht e t w y d h
end
def gK (c:gn)(k:ce):dr cj:=xK (d9 c k) (fun s=>CI k s/\ef k s)
abbrev iZ (c:gn):Obj:=.cells #[aj c.pk] 164 (0,0)
abbrev kh (bx:Nat):fQ:=⟨188,#[],#[aj bx]⟩
abbrev lv (c:gn):fQ:=⟨190,#[aj c.pk],#[]⟩
abbrev m2 (c:gn):fQ:=⟨182,#[aj c.pk],#[]⟩
abbrev m3 (c:gn):fQ:=⟨111,#[aj c.pk],#[]⟩
theorem xL:dN 188:=gb func188 ae rfl
theorem xM:dN 190:=gb func190 ae rfl
theorem D2:dN 182:=gb func182 ae rfl
theorem D3:dN 111:=gb func111 ae rfl
section
variable {c:gn}{k:ce}{F:Nat->Prop}{s:cj}{w:ax}
theorem xN (fv:fQ)(w:ax)(p:Nat):
 Calls prog 110 #[aj p,fv.v] w fun e w'=>e=.returned (.agg #[(kh w.heap.size).v,fv.v,.func (.func 190) #[aj p] #[]])/\w'.heap[w.heap.size]?=some (.cells #[aj p] 164 (0,0))/\Below w.heap.size w w':=by
 obtain⟨f,b,c⟩:=fv;go_enter func110,ntmps110;go_wp2_with fail;refine a4 (v:=.agg #[(kh w.heap.size).v,.func (.func f) b c,.func (.func 190) #[aj p] #[]]) (by simp[results,results110,go_sem]) rfl ⟨rfl,?_,((aH _ w).alloc bW _).alloc Z _⟩
 rw[aS _ _ _ Z];exact aO _ _
theorem xO (bx:Nat):j_ (da (gK c k) bx (iZ c)) (fun _=>True) (kh bx).f (kh bx).b (kh bx).c k.al:=by
 rintro F s w x _ ⟨d,⟨⟨cG,f,h⟩,_⟩,b,_⟩
 have P:=n7 h x;have c0:w.cell? (aq bx 0)=some (aj c.pk):=aA b
 have E:k.al s x=!k.ls s x:=rfl;go_enter func188,ntmps188;go_wp2_with fail;refine P.mono ?_;exact pX
theorem xP:k9 (gK c k) (fun _=>True) (lv c).f (lv c).b (lv c).c k.nw:=by
 rintro F s w x _ ⟨⟨cG,b,h⟩,_⟩
 exact qk h x
theorem D4:nT (gK c k) (fun _=>True) (m2 c).f (m2 c).b (m2 c).c k.br:=by
 rintro F s w x _ ⟨⟨cG,e,h⟩,b,hB⟩
 refine(ql h b x).mono ?_;rintro r w' ⟨rfl,f,d⟩
 obtain⟨g,i,_⟩:=b.br x;exact⟨F,rfl,⟨⟨cG,e,f⟩,g,i.cb hB⟩,d.fr,d.sub⟩
end
open Go
section
variable {P:Program}{ops:Array Oper}{Q:Exit->Act->ax->Prop}{md:Region.Mode}{T S:ax->Prop}{St:List Nat}
def came (St:List Nat)(b:Array Bool):Prop:=∃s∈St,b.getD s false=true
def lx (P:Program)(md:Region.Mode)(ops:Array Oper)(Q:Exit->Act->ax->Prop)(T S:ax->Prop)(St:List Nat):Nat->Array Bool->Act->ax->Prop
 |0,b,a,w=>Region.ready md ops b=[]/\Q .normal a w
 |c+1,b,a,w=>(Region.ready md ops b=[]->Q .normal a w)/\
  ∀i∈Region.ready md ops b,wpOp P ops Q i (fun d w'=>(T w'/\(came St (b.setIfInBounds i true)\/S w'))/\lx P md ops Q T S St c (b.setIfInBounds i true) d w') a w
theorem s3:∀(b:Nat)(c:Array Bool)(a:Act)(w:ax),lx P md ops Q T S St b c a w->wpAny P md ops Q b c a w
 |0,_,_,_,h=>h
 |b+1,_,_,_,h=>⟨h.1,fun i hi=>wpOp_mono (fun d w' e=>s3 b _ d w' e.2) (h.2 i hi)⟩
def waits (md:Region.Mode)(ops:Array Oper)(St:List Nat)(i:Nat):Bool:=
 St.all fun s=>match ops[s]? with
  |some o=>o.after.any fun e=>Region.binds md e&&e.on==i
  |none=>false
theorem D5 {i:Nat}{g:Oper}{v:Value}(hi:ops[i]?=some g)(I:i∉St)(B:∀(j:Nat)(o:Oper) m b,ops[j]?=some o->o.op≠.select m b)
 (J:∀c a w,Q (.panic c) (a.put g.dst v) w->Q (.panic c) a w):
 ∀(n:Nat)(d:Array Bool)(a:Act)(w:ax),
  (∀j l,ops[j]?=some l->j≠i->d.getD j true=false->(∀e∈l.after,Region.binds md e=true->e.on≠i)->g.apart ops l=true)->
  i∈Region.ready md ops d->YieldsIf P ops T g v a->T w->(came St d\/S w)->
  lx P md ops Q T S St n (d.setIfInBounds i true) (a.put g.dst v) w->lx P md ops Q T S St (n+1) d a w:=by
 have up:∀{d:Array Bool}{k:Nat},came St d->came St (d.setIfInBounds k true):=fun⟨s,hs,h⟩=>⟨s,hs,getD_set_true h⟩
 intro n
 induction n with
 |zero=>
  intro d a w _ hr hy p hc H;refine⟨fun h=>absurd hr (by rw[h];simp),fun j t=>?_⟩
  by_cases f:j=i
  ·rw[f];exact hy.wpOp hi p ⟨⟨p,hc.imp up id⟩,H⟩
  ·have hm:=ready_mono t f;rw[H.1] at hm;simp at hm
 |succ n K=>
  intro d a w C hr hy p hc H;refine⟨fun h=>absurd hr (by rw[h];simp),fun j t=>?_⟩
  by_cases f:j=i
  ·rw[f];exact hy.wpOp hi p ⟨⟨p,hc.imp up id⟩,H⟩
  ·have L:=H.2 j (ready_mono t f)
   obtain⟨D,l,u,M⟩:=mem_ready.1 t;have N:g.apart ops l=true:=C j l u f D (fun e he hb O=>by
    have q:=M e he hb;rw[O] at q;have E:=(mem_ready.1 hr).1;rcases Nat.lt_or_ge i d.size with x|x
    ·simp[x] at q E;rw[E] at q;cases q
    ·simp[Array.getElem?_eq_none x] at q)
   refine wpOp_mono (fun R w' h=>?_) (wpOp_putIf u N (fun m b=>B i g m b hi) (fun m b=>B j l m b u) J hy L)
   obtain⟨U,A,ad⟩:=h;have F:came St (d.setIfInBounds j true)\/S w':=A.2.imp (fun⟨s,hs,h⟩=>by
    have W:i≠s:=fun e=>I (by rw[e];exact hs)
    refine⟨s,hs,?_⟩
    rw[Array.setIfInBounds_comm _ _ (Ne.symm f),getD_set_ne false W] at h;exact h) id
   refine⟨⟨A.1,F⟩,K (d.setIfInBounds j true) R w' (fun k ok hk X Y ab=>C k ok hk X ?_ ab) (ready_mono hr (Ne.symm f)) U A.1 F ?_⟩
   ·by_cases G:j=k
    ·rw[<-G];exact D
    ·rwa [getD_set_ne true G] at Y
   ·rwa [Array.setIfInBounds_comm _ _ f]
theorem fL {i:Nat}{d:Oper}{v:Value}{e:Nat}{b:Array Bool}{a:Act}{w:ax}(hi:ops[i]?=some d)
 (hs:Region.noSelect ops=true)(g:Region.free md ops b i=true)(hr:(Region.ready md ops b).contains i=true)(f:St.contains i=false)
 (j:∀c a w,Q (.panic c) (a.put d.dst v) w->Q (.panic c) a w)(hy:YieldsIf P ops T d v a)(k:T w)(hc:came St b\/S w)
 (h:lx P md ops Q T S St e (b.setIfInBounds i true) (a.put d.dst v) w):lx P md ops Q T S St (e+1) b a w:=
 D5 hi (fun h=>by rw[List.contains_iff_mem.2 h] at f;cases f) (Region.noSelect_spec hs) j e b a w (Region.free_spec hi g) (by simpa using hr) hy k hc h
theorem xQ {i:Nat}{o:Oper}{K:Act->ax->Prop}{a:Act}{w:ax}(hi:ops[i]?=some o)(hg:Region.wanted o (yielded ops a.tmps)=true)(h:o.wp P a w K Q):wpOp P ops Q i K a w:=by unfold wpOp;rw[hi];dsimp only;rw[aI hg];exact aK h
theorem xR {i:Nat}{d:Nat}{b:Array Bool}{a:Act}{w:ax}(hr:Region.ready md ops b=[i])
 (h:wpOp P ops Q i (fun e w'=>(T w'/\(came St (b.setIfInBounds i true)\/S w'))/\lx P md ops Q T S St d (b.setIfInBounds i true) e w') a w):lx P md ops Q T S St (d+1) b a w:=
 ⟨fun h0=>(by rw[hr] at h0;cases h0),fun j c=>(by rw[hr] at c;rw[bw] at c;rw[c];exact h)⟩
theorem xS {b:Array Bool}{a:Act}{w:ax}(hr:Region.ready md ops b=[])(h:Q .normal a w):∀c,lx P md ops Q T S St c b a w
 |0=>⟨hr,h⟩
 |_+1=>⟨fun _=>h,by rw[hr];simp⟩
end
def lenOf (w:ax)(p:Nat):Nat:=match w.cell? (aq p 4) with
 |some (.slice _ n _)=>n
 |_=>0
def s7 (w:ax)(p:Nat):Int:=match w.cell? (aq p 6) with
 |some (.int _ v)=>v
 |_=>0
def s8 (c:gn)(k:ce)(w:ax):Nat:=(k.N+k.O+13-qn w c.pk).toNat+lenOf w c.pk+(k.O-(s7 w c.p).toNat)
def qq:Value->Nat
 |.bool true=>1
 |_=>0
section
variable {c:gn}{k:ce}{F:Nat->Prop}{s:cj}{w:ax}{vr:Value}
theorem s9 (h:(d9 c k).J F s w):s8 c k w=k.mu s:=by
 obtain⟨cG,g,h⟩:=h;obtain⟨_,_,c2,_,c4,_,_,_,_,_,_,er,_⟩:=d_ h;obtain⟨b,_⟩:=iO h;obtain⟨ad,cap,e⟩:=eE er;have d:lenOf w c.pk=s.ep.length:=by unfold lenOf;rw[c4,e]
 have f:s7 w c.p=s.g:=by unfold s7;rw[b.cells.2.2.2.2.2.2]
 unfold s8 ce.mu;rw[sW c2,d,f,Int.toNat_natCast]
theorem D6 {f:Option Addr}{g i:Nat}(j:vr=.slice f g i){t:cj×List b7}(h:(c7 (gK c k) c.sd vr).J F t w)(hq:t.2.length<=90000)(bx:Nat)(l:w.heap[bx]?=some (iZ c))(hn:¬F bx):
 Calls prog 145 #[aj c.sd,.agg #[(kh bx).v,(m2 c).v,(lv c).v]] w fun e w'=>∃d,e=.returned (.bool (k.wa t).2)/\(c7 (gK c k) c.sd vr).J d (k.wa t).1 w'/\Fr (fun b=>F b\/b=bx) w w'/\(∀b,d b->F b\/b=bx\/w.heap.size<=b):=by
 refine(xl _ (xJ _ _ _) (fun _=>True) (kh bx) (m2 c) (lv c) _ _ _ (qb _ c.sd vr (fun _=>True) (kh bx) (m2 c) (lv c) k.al k.br k.nw xL D2 xM (xO bx) (sZ D4) (l4 xP)) f g i j _ t w hq (fun _ _=>⟨trivial,trivial⟩) (kc h l hn)).mono ?_;rintro e w' ⟨d,rfl,m,n,hs⟩
 exact⟨d,rfl,sY m,n,fun b hb=>(hs b hb).elim (fun c=>c.elim aK (fun c=>aJ (aK c))) (fun c=>aJ (aJ c))⟩
theorem xT {aF:Option Addr}{aR aV:Nat}(a0:vr=.slice aF aR aV){t:cj×List b7}(h:(c7 (gK c k) c.sd vr).J F t w)(hq:t.2.length<=90000):
 Calls prog 109 #[aj c.pk] w fun e w'=>∃Y,e=.returned (.tuple #[])/\(c7 (gK c k) c.sd vr).J Y (k.sp t) w'/\b8 F w Y w':=by
 have a1:∀(ab:Fn)(first cap:Array Value)(w:ax),(Instr.makeFunc ab first cap).run prog w=.ok (.func ab first cap) w:=fun _ _ _ _=>rfl;go_enter func109,ntmps109;go_wp2_with fail
 go_loopw [2] (fun N wr=>∃(n:Nat)(G:Nat->Prop)(d:cj×List b7)(b:Bool),N=.bool b/\(c7 (gK c k) c.sd vr).J G d wr/\b8 F w G wr/\ay (if b=true then k.mu d.1<n/\k.cW n d=k.sp t else d=k.sp t)/\d.2.length<=90000) (fun N wr=>2*s8 c k wr+qq N)
 exact⟨k.mu t.1+1,F,t,true,rfl,h,b8.refl _ _,⟨V,rfl⟩,hq⟩
 ·
   obtain⟨n,G,d,b,rfl,ad,ag,ai,hq⟩:=hrel;cases b
   ·have x:=hide ai.o;go_wp2_with fail;go_end0;rw[<-x.o];exact⟨G,rfl,ad,ag⟩
   ·obtain⟨a2,bb⟩:=ai.o;obtain⟨m,rfl⟩:∃m,n=m+1:=⟨n-1,V⟩
    obtain⟨b1,u,bd⟩:=n8 ad;have O:=s9 u.1;have B:=D0 u.1 u.2.1 u.2.2;obtain⟨al,am,be⟩:=u.2.1.lb u.2.2 (k.O+1)
    obtain⟨bg,j2,cA,cE⟩:=al.kv am;have f:ay (_/\_/\(CI k (k.lb (k.O+1) d.1)/\ef k (k.lb (k.O+1) d.1))/\(CI k (k.kv (k.lb (k.O+1) d.1)).2/\ef k (k.kv (k.lb (k.O+1) d.1)).2)):=⟨ag,bd,⟨al,am⟩,⟨bg,j2⟩⟩
    have H:=jr be cA cE a2;have x:=hide bb;go_wp2_with fail;refine B.mono ?_;rintro e w1 ⟨b2,rfl,A,C⟩
    have I:=D1 ((d9 c k).below A (aH _ w1).drew) f.o.2.2.1.1 f.o.2.2.1.2;have C:=C.below (aH _ w1).drew;obtain⟨b3,b4,A⟩:=A;obtain⟨bi,_,_,_,_,_,_,bl,_⟩:=d_ A;cases hkv:(k.kv (k.lb (k.O+1) d.1)).1
    ·rw[hkv] at I;have an:ay ((if(k.wa ((k.kv (k.lb (k.O+1) d.1)).2,d.2)).2=true then k.cW m (k.wa ((k.kv (k.lb (k.O+1) d.1)).2,d.2)).1 else(k.wa ((k.kv (k.lb (k.O+1) d.1)).2,d.2)).1)=k.sp t):=by
      have:=x.o;unfold ce.cW at this
      rw[hkv] at this
      exact this
     have j:=CI.wa (s:=((k.kv (k.lb (k.O+1) d.1)).2,d.2)) f.o.2.2.2.1 f.o.2.2.2.2;have j:ay ((k.wa ((k.kv (k.lb (k.O+1) d.1)).2,d.2)).1.2.length<=90000/\k.mu (k.wa ((k.kv (k.lb (k.O+1) d.1)).2,d.2)).1.1<=k.mu d.1/\((k.wa ((k.kv (k.lb (k.O+1) d.1)).2,d.2)).2=true->k.mu (k.wa ((k.kv (k.lb (k.O+1) d.1)).2,d.2)).1.1<k.mu d.1)):=by refine⟨by rw[j.2.2.1];exact hq,by have:=j.2.2.2.1;dsimp only at this;omega,fun e=>by have:=j.2.2.2.2 e;dsimp only at this;omega⟩
     generalize k.lb (k.O+1) d.1=s1 at*;generalize (k.kv s1).2=s2 at*;go_wp2_with fail
     go_region_held3 (fun w'=>w'.cell? (aq c.pk 0)=some (aj c.pw)/\w'.cell? (aq c.pw 2)=some (aj c.sd)) (go_keep)
      (first
        |(go_at_call 187;refine I.mono ?_;rintro e q ⟨P,rfl,l,J⟩;obtain⟨ao,hM,K⟩:=f.o.2.1 P s2 q ⟨l,f.o.2.2.2⟩ (C.trans J);obtain⟨b5,b6,l⟩:=l;obtain⟨g0,_,_,_,_,_,_,Q,_⟩:=d_ l;have l0:=aQ q _ g0;have bn:=aQ q _ Q;have g:=dq hM (f.o.1.trans K))
        |(go_at_call 110;refine(xN (m2 c) q c.pk).mono ?_;rintro e b9 ⟨rfl,bo,R⟩;have bp:=(R.cell (p:=aq c.pk 0) l0).trans g0;have br:=(R.cell (p:=aq c.pw 2) bn).trans Q;have D:=dq bo R)
        |(go_at_call 145;refine(D6 a0 (t:=(s2,d.2)) ((c7 (gK c k) c.sd vr).below g.o.1 D.o.2) hq q.heap.size D.o.1 (fun h=>by have:=(c7 (gK c k) c.sd vr).lt g.o.1 _ h;omega)).mono ?_;rintro e bs ⟨U,rfl,ap,bt,bx⟩;have L:ay (_/\b8 F w U bs):=⟨ap,⟨(g.o.2.below D.o.2).fr.trans bt (fun b hb=>hb.elim (g.o.2.sub b) (fun e=>aJ (by have:=g.o.2.fr.size;omega))),fun b hb=>(bx b hb).elim (g.o.2.sub b) (fun h=>aJ (by have o:=g.o.2.fr.size;have W:=D.o.2.size;omega))⟩⟩;obtain⟨ca,⟨⟨bY,bZ,ar⟩,_⟩,_⟩:=n8 ap;have M:=s9 ⟨bY,bZ,ar⟩;obtain⟨r0,_,_,_,_,_,_,b0,_⟩:=d_ ar))
     clear r0 b0 g0 Q bp br bi bl f g D x a1 C;cases hbw:(k.wa (s2,d.2)).2
     ·have E:ay (if false=true then k.mu (k.wa (s2,d.2)).1.1<m/\k.cW m (k.wa (s2,d.2)).1=k.sp t else(k.wa (s2,d.2)).1=k.sp t):=by
       have:=an.o;rw[hbw] at this
       exact this
      go_wp2_with fail;go_roundw;exact⟨m,U,(k.wa (s2,d.2)).1,false,rfl,L.o.1,L.o.2,E,j.o.1⟩
      ·have:=j.o.2.1;rw[M,O];simp[qq];omega
     ·have E:ay (if true=true then k.mu (k.wa (s2,d.2)).1.1<m/\k.cW m (k.wa (s2,d.2)).1=k.sp t else(k.wa (s2,d.2)).1=k.sp t):=by have o:=an.o;rw[hbw] at o;have W:=j.o.2.2 hbw;have aB:=H.o.2.2.2;exact⟨V,o⟩
      have W:=j.o.2.2 hbw;go_wp2_with fail;go_roundw;exact⟨m,U,(k.wa (s2,d.2)).1,true,rfl,L.o.1,L.o.2,E,j.o.1⟩
      ·rw[M,O];simp[qq];omega
    ·rw[hkv] at I;have W:k.mu (k.kv (k.lb (k.O+1) d.1)).2<k.mu d.1:=by have o:=H.o.1;have aB:=H.o.2.2.1 hkv;omega
     have E:ay (if true=true then k.mu (k.kv (k.lb (k.O+1) d.1)).2<m/\k.cW m ((k.kv (k.lb (k.O+1) d.1)).2,d.2)=k.sp t else((k.kv (k.lb (k.O+1) d.1)).2,d.2)=k.sp t):=by have o:=x.o;unfold ce.cW at o;rw[hkv] at o;have aB:=H.o.2.2.2;exact⟨V,o⟩
     generalize k.lb (k.O+1) d.1=s1 at*;generalize (k.kv s1).2=s2 at*;clear A;go_wp2_with fail;refine wp_region_noPanic ?_;refine wp_region_any ae ?_;refine s3 (T:=fun _=>True) (S:=fun _=>True) (St:=[]) _ _ _ _ ?_;refine fL (i:=0) (v:=?_) rfl ae ae ae ae (fun _ _ _ h=>h) (aK ⟨ac,?_⟩) trivial (aJ trivial) ?_
     rotate_left
     ·intro w X;go_simp
      try rfl
     try simp only [Act.put,List.getElem_toArray,List.getElem_cons_zero,List.setIfInBounds_toArray,List.set_cons_zero,List.set_cons_succ]
     refine xR (i:=1) ae ?_;refine xQ rfl ac ?_;simp only [List.getElem_toArray,List.getElem_cons_succ,List.getElem_cons_zero];go_simp;refine I.mono ?_;rintro e q ⟨P,rfl,l,J⟩
     obtain⟨ao,hM,K⟩:=f.o.2.1 P s2 q ⟨l,f.o.2.2.2⟩ (C.trans J)
     have M:=s9 l;have g:=dq hM (f.o.1.trans K)
     clear l J hM K;refine fL (i:=2) (v:=?_) rfl ae ae ae ae (fun _ _ _ h=>h) (aK ⟨ac,?_⟩) trivial (aJ trivial) ?_
     rotate_left
     ·intro w X;go_simp
      try rfl
     refine fL (i:=3) (v:=undef) rfl ae ae ae ae (fun _ _ _ h=>h) (aJ ⟨ac,rfl⟩) trivial (aJ trivial) ?_;refine fL (i:=4) (v:=undef) rfl ae ae ae ae (fun _ _ _ h=>h) (aJ ⟨ac,rfl⟩) trivial (aJ trivial) ?_;refine fL (i:=5) (v:=undef) rfl ae ae ae ae (fun _ _ _ h=>h) (aJ ⟨ac,rfl⟩) trivial (aJ trivial) ?_;refine fL (i:=6) (v:=undef) rfl ae ae ae ae (fun _ _ _ h=>h) (aJ ⟨ac,rfl⟩) trivial (aJ trivial) ?_
     try simp only [Act.put,List.getElem_toArray,List.getElem_cons_succ,List.getElem_cons_zero,List.setIfInBounds_toArray,List.set_cons_zero,List.set_cons_succ]
     refine fL (i:=7) (v:=undef) rfl ae ae ae ae (fun _ _ _ h=>h) (aJ ⟨ac,rfl⟩) trivial (aJ trivial) ?_;refine fL (i:=8) (v:=undef) rfl ae ae ae ae (fun _ _ _ h=>h) (aJ ⟨ac,rfl⟩) trivial (aJ trivial) ?_;refine fL (i:=9) (v:=undef) rfl ae ae ae ae (fun _ _ _ h=>h) (aJ ⟨ac,rfl⟩) trivial (aJ trivial) ?_;refine fL (i:=10) (v:=undef) rfl ae ae ae ae (fun _ _ _ h=>h) (aJ ⟨ac,rfl⟩) trivial (aJ trivial) ?_;refine fL (i:=11) (v:=undef) rfl ae ae ae ae (fun _ _ _ h=>h) (aJ ⟨ac,rfl⟩) trivial (aJ trivial) ?_
     try simp only [Act.put,List.getElem_toArray,List.getElem_cons_succ,List.getElem_cons_zero,List.setIfInBounds_toArray,List.set_cons_zero,List.set_cons_succ]
     refine fL (i:=12) (v:=undef) rfl ae ae ae ae (fun _ _ _ h=>h) (aJ ⟨ac,rfl⟩) trivial (aJ trivial) ?_;refine fL (i:=13) (v:=undef) rfl ae ae ae ae (fun _ _ _ h=>h) (aJ ⟨ac,rfl⟩) trivial (aJ trivial) ?_
     try simp only [Act.put,List.getElem_toArray,List.getElem_cons_succ,List.getElem_cons_zero,List.setIfInBounds_toArray,List.set_cons_zero,List.set_cons_succ]
     refine fL (i:=14) (v:=undef) rfl ae ae ae ae (fun _ _ _ h=>h) (aJ ⟨ac,rfl⟩) trivial (aJ trivial) ?_;refine fL (i:=15) (v:=?_) rfl ae ae ae ae (fun _ _ _ h=>h) (aK ⟨ac,?_⟩) trivial (aJ trivial) ?_
     rotate_left
     ·intro w X;go_simp
      try rfl
     refine fL (i:=16) (v:=?_) rfl ae ae ae ae (fun _ _ _ h=>h) (aK ⟨ac,?_⟩) trivial (aJ trivial) ?_
     rotate_left
     ·intro w X;go_simp
      try rfl
     try simp only [Act.put,List.getElem_toArray,List.getElem_cons_succ,List.getElem_cons_zero,List.setIfInBounds_toArray,List.set_cons_zero,List.set_cons_succ]
     refine xS ae ?_ _;refine NoPanic.normal ?_;go_wp2_with fail;go_roundw;exact⟨m,ao,(s2,d.2),true,rfl,g.o.1,g.o.2,E,hq⟩
     ·rw[M,O];simp[qq];omega
theorem D7 {j:Option Addr}{l m:Nat}(n:vr=.slice j l m){t:cj×List b7}(h:(c7 (gK c k) c.sd vr).J F t w)(hq:t.2.length<=90000)(x:Int):
 Calls prog 111 #[aj c.pk,ah x] w fun e w'=>∃b,e=.returned (ah (k.ke t x).1)/\(c7 (gK c k) c.sd vr).J b (k.ke t x).2 w'/\b8 F w b w':=by
 obtain⟨o,⟨⟨cG,p,q⟩,d,hB⟩,s⟩:=n8 h;obtain⟨u,v,_⟩:=d.br x;have f:=g7 s u (v.cb hB)
 have E:ay ((k.ke t x).1=(k.br t.1 x).1/\(k.ke t x).2=k.sp ((k.br t.1 x).2,t.2)):=⟨rfl,rfl⟩
 go_enter func111,ntmps111;go_wp2_with fail;refine(ql q d x).mono ?_;rintro e w1 ⟨rfl,A,B⟩
 obtain⟨I,hM,C⟩:=f.o.1 o _ w1 ⟨⟨cG,p,A⟩,f.o.2⟩ B;have g:=dq hM C;go_wp2_with fail;refine(xT n g.o.1 hq).mono ?_;rintro e J ⟨D,rfl,G,H⟩
 have i:=dq G (g.o.2.trans H)
 go_wp2_with fail;go_ret;exact⟨D,rfl,i.o.1,i.o.2⟩
end
end Go.Proofs.YtpkjkjhanlbcoaaGreat
