import Derived.Test.YtjpjpjemibgjpaaGreatJ11
import Derived.Test.YtjpjpjemibgjpaaGreatJ09
import Derived.Test.YtjpjpjemibgjpaaGreatJ07
import Derived.Test.YtjpjpjemibgjpaaGreatJ00
import Derived.Test.YtjpjpjemibgjpaaGreatJ02
import Derived.Test.YtjpjpjemibgjpaaGreatJ06
import Derived.Test.YtjpjpjemibgjpaaGreatJ01
import Derived.Test.YtjpjpjemibgjpaaGreatJ04
namespace Go.Proofs.YtjpjpjemibgjpaaGreat
set_option maxRecDepth 100000
set_option maxHeartbeats 8000000
open Tryz
open Go.RowKit W Kp bY
structure dd (w0 w3 wr:World)(mb bb vb fb:Nat)(vr:Value)(m1:List da)(P:List (Int×Int)×ck)(la:Option Addr)(lc:Nat)(va vn:Value)(m':List da):Prop where
 hs:w0.heap.size<=w3.heap.size
 wv:dI w0 wr mb bb vb fb P.2 va vn vr m'
 kx:Kx w0 w3 m1 wr m'
 row:wr.ownsRow w3.heap.size 77 2 (.slice la P.1.length lc) P.1.length (ev P.1)
 no:∀k,eN m' k->¬some k=(Value.slice la P.1.length lc).ownBlock
section
variable {w0 w3 wr:World}{mb bb vb fb:Nat}{vr va vn:Value}{m1 m':List da}{P:List (Int×Int)×ck}{la:Option Addr}{lc:Nat}
theorem dd.start (h:dI w0 w3 mb bb vb fb P.2 va vn vr m1)(hp:P.1=[]):dd w0 w3 w3 mb bb vb fb vr m1 P none 0 va vn m1:=
 ⟨h.df.size,h,Kx.refl _ _ _,by rw[hp];exact aO _ _ _ _,fun k _ e=>by cases e⟩
theorem dd.call (h:dd w0 w3 wr mb bb vb fb vr m1 P la lc va vn m'){a:World}{s':ck}{d f:Value}{b:List da}(i:dI w0 a mb bb vb fb s' d f vr b)(c:Kx w0 wr m' a b):dd w0 w3 a mb bb vb fb vr m1 (P.1,s') la lc d f b:=
 ⟨h.hs,i,h.kx.trans c,ca h.row (fun k e=>by
  obtain⟨j,hc⟩:=dO h.row k e;exact c.1.eP k _ _ _ hc (by unfold hU;decide)),fun k hk e=>by
  rcases c.2 k hk with g|g
  ·exact h.no k g e
  ·have:=(bR h.row k e).2;omega⟩
theorem dd.below (h:dd w0 w3 wr mb bb vb fb vr m1 P la lc va vn m'){a:World}(b:Below wr.heap.size wr a):dd w0 w3 a mb bb vb fb vr m1 P la lc va vn m':=
 h.call (s':=P.2) (h.wv.below b) (Kx.of b)
theorem dd.push (h:dd w0 w3 wr mb bb vb fb vr m1 P la lc va vn m'){wq b:World}(hq:Below wr.heap.size wr wq){v:Int×Int}{c:Option Addr}{d:Nat}(hg:wq.grownBy b (Value.slice la P.1.length lc).ownBlock)(g:b.ownsRow w3.heap.size 77 2 (.slice c (P.1.length+1) d) (P.1.length+1) (ev P.1++ev [v]))(i:(Value.slice c (P.1.length+1) d).ownBlock=(Value.slice la P.1.length lc).ownBlock\/(Value.slice c (P.1.length+1) d).ownBlock=some wq.heap.size):
 dd w0 w3 b mb bb vb fb vr m1 (P.1++[v],P.2) c d va vn m':=by
 have fr:Fr (fun k=>some k=(Value.slice la P.1.length lc).ownBlock) wr b:=(Fr.of hq).grown hg (fun k e=>ap (by simpa using e.symm))
 have f:(P.1++[v]).length=P.1.length+1:=V;have j:ev (P.1++[v])=ev P.1++ev [v]:=by simp[ev]
 refine⟨h.hs,h.wv.but fr (fun k hk e=>?_),⟨h.kx.1.new fr (fun k e=>(bR h.row k e).1),h.kx.2⟩,by rw[f,j];exact g,fun k hk e=>?_⟩
 ·refine⟨dO h.row k e,fun a=>h.no k a e,?_⟩
  have l:=(bR h.row k e).1;have:=h.hs;omega
 ·rw[f] at e;rcases i with a|a
  ·rw[a] at e;exact h.no k hk e
  ·rw[a] at e;have e:k=wq.heap.size:=by simpa using e
   have:=h.wv.pm k hk;have:=hq.size;omega
theorem dd.box (h:dd w0 w3 wr mb bb vb fb vr m1 P la lc va vn m'){yb:Nat}{b:World}(f:Fr (fun k=>k=yb) wr b)(d:w3.heap.size<=yb)(ht:yb<wr.heap.size->(∃c,wr.heap[yb]?=some (.cells c 77 (0,0)))/\¬eN m' yb/\¬some yb=(Value.slice la P.1.length lc).ownBlock):dd w0 w3 b mb bb vb fb vr m1 P la lc va vn m':=
 ⟨h.hs,h.wv.but f (fun k hk e=>by
  have e:k=yb:=e;subst e;have:=h.hs;exact⟨(ht hk).1,(ht hk).2.1,I⟩),⟨h.kx.1.new f (fun k e=>by have e:k=yb:=e;omega),h.kx.2⟩,ca h.row (fun k e=>f.block k (bR h.row k e).2 (fun a=>by
  have a:k=yb:=a;subst a;exact(ht (bR h.row k e).2).2.2 e)),h.no⟩
theorem dd.late {W:World}(c:dd w0 w3 W mb bb vb fb vr m1 P la lc va vn m'){a:World}{s':ck}{f g:Value}{d:List da}(l:dd w0 w3 a mb bb vb fb vr m1 (P.1,s') la lc f g d)(i:Kx w0 (W.alloc (.cells #[.int .i64 0,.int .i64 0] 77)) m' a d)(v1 v2:Int):
 a.heap[W.heap.size]?=some (.cells #[ae 0,ae 0] 77 (0,0))/\dd w0 w3 ((a.setCell ⟨W.heap.size,0,none⟩ (.int .i64 v1)).setCell ⟨W.heap.size,1,none⟩ (.int .i64 v2)) mb bb vb fb vr m1 (P.1,s') la lc f g d:=by
 have hc:=aw W (.cells #[ae 0,ae 0] 77)
 have j:=(i.1.eP _ _ _ _ hc (by unfold hU;decide)).trans hc;refine⟨j,l.box (yb:=W.heap.size) (((Fr.refl (fun k=>k=W.heap.size) a).set _ 0 _ rfl).set _ 1 _ rfl) c.kx.1.size (fun _=>⟨⟨_,j⟩,fun b=>?_,fun e=>?_⟩)⟩
 ·rcases i.2 _ b with b|b
  ·have:=c.wv.pm _ b;omega
  ·simp at b;omega
 ·have:=(bR c.row W.heap.size e).2;omega
end
theorem su:∀(l:List gL)(i:Nat)(x:gL)(v:Bool),l[i]?=some x->tv (l.set i ((x.1.1,x.1.2.1,v,x.1.2.2.2),x.2))=(tv l).set (i*4+2) (.bool v)
 |[],_,_,_,_=>rfl
 |e::l,0,x,v,h=>by simp at h;subst h;simp[tv]
 |e::l,i+1,x,v,h=>by
  have a:=su l i x v (by simpa using h)
  have b:(tv (e::l))=ae e.1.1::.slice e.2.1 e.1.2.1.length e.2.2::.bool e.1.2.2.1::.bool e.1.2.2.2::tv l:=by simp[tv]
  have c:∀k:List gL,(tv (e::k))=ae e.1.1::.slice e.2.1 e.1.2.1.length e.2.2::.bool e.1.2.2.1::.bool e.1.2.2.2::tv k:=fun k=>by simp[tv]
  rw[List.set_cons_succ,c,b,a,show(i+1)*4+2=i*4+2+1+1+1+1 by omega];simp
theorem sv:∀(l:List gL)(i:Nat)(x:gL)(v:Bool),l[i]?=some x->tv (l.set i ((x.1.1,x.1.2.1,x.1.2.2.1,v),x.2))=(tv l).set (i*4+3) (.bool v)
 |[],_,_,_,_=>rfl
 |e::l,0,x,v,h=>by simp at h;subst h;simp[tv]
 |e::l,i+1,x,v,h=>by
  have a:=sv l i x v (by simpa using h)
  have b:(tv (e::l))=ae e.1.1::.slice e.2.1 e.1.2.1.length e.2.2::.bool e.1.2.2.1::.bool e.1.2.2.2::tv l:=by simp[tv]
  have c:∀k:List gL,(tv (e::k))=ae e.1.1::.slice e.2.1 e.1.2.1.length e.2.2::.bool e.1.2.2.1::.bool e.1.2.2.2::tv k:=fun k=>by simp[tv]
  rw[List.set_cons_succ,c,b,a,show(i+1)*4+3=i*4+3+1+1+1+1 by omega];simp
section
variable {rp rb:Nat}{bS bT:Int}{F:Nat->Prop}{s:b_}{w:World}
theorem xJ (h:(cf rp rb bS bT).J F s w){i:Nat}{x:cE}(d:s.T[i]?=some x){b cT:Nat}(hc:w.cell? (ah rp 0)=some (.slice (ag b) s.T.length cT)):
 (cf rp rb bS bT).J F {s with T:=s.T.set i (x.1,x.2.1,true,x.2.2.2)} (w.setCell ⟨b,i*4+2,none⟩ (.bool true))/\(cf rp rb bS bT).J F {s with T:=s.T.set i (x.1,x.2.1,x.2.2.1,true)} (w.setCell ⟨b,i*4+3,none⟩ (.bool true))/\F b/\(∀o,w.frozen? (ah b o)=false)/\b≠rp:=by
 obtain⟨own,m,p,v2,q,h,g⟩:=h;have u:=h.blk;obtain rfl:p=.slice (ag b) s.T.length cT:=by simpa[World.cell?,u] using hc
 have f:=h.ro b rfl;obtain⟨y,hy,rfl⟩:∃y,m[i]?=some y/\y.1=x:=by rw[<-h.nd] at d;simp at d;obtain⟨a,b,c⟩:=d;exact⟨_,c,rfl⟩
 have key:∀(t:cE)(o:Nat)(v:Value),t.2.1=y.1.2.1->tv (m.set i (t,y.2))=(tv m).set o v->(cf rp rb bS bT).J F {s with T:=s.T.set i t} (w.setCell ⟨b,o,none⟩ v):=fun t o v A B=>by
  have sz:(w.setCell ⟨b,o,none⟩ v).heap.size=w.heap.size:=by simp[World.setCell]
  have hk:∀k,own k≠2->(w.setCell ⟨b,o,none⟩ v).heap[k]?=w.heap[k]?:=fun k C=>Below.heap_setCell _ _ _ _ (fun e=>C (by have e:k=b:=e;rw[e];exact f))
  refine⟨own,m.set i (t,y.2),.slice (ag b) s.T.length cT,v2,q,?_,g⟩
  exact {
   blk:=(hk _ (by rw[h.b1];decide)).trans h.blk,b1:=h.b1
   row:=by
    have j:m.length=s.T.length:=by rw[<-h.nd];simp
    have l:=h.row;rw[j] at l;rw[aM,B,j];exact h7 l _ _
   ro:=h.ro
   nd:=by rw[List.map_set,h.nd]
   fl:=fun z hz=>by
    have old:∀z∈m,cS (w.setCell ⟨b,o,none⟩ v) z.2.1 z.1.2.1/\(0<z.1.2.1.length->∃b o,z.2.1=some ⟨b,o,none⟩/\own b=3):=fun z hz=>⟨(h.fl z hz).1.at (by rw[sz];exact ak _) (fun H J hp e=>by obtain⟨b2,K,n,D⟩:=(h.fl z hz).2 hp;rw[e] at n;cases n;exact hk _ (by rw[D];decide)),(h.fl z hz).2⟩
    rcases List.mem_or_eq_of_mem_set hz with hz|hz
    ·exact old z hz
    ·subst hz;have:=old y (List.mem_of_getElem? hy)
     rw[<-A] at this
     exact this
   rt:=(hk _ (by rw[h.r1];decide)).trans h.rt,rl:=h.rl,r1:=h.r1
   g2:=ca h.g2 (fun b e=>hk b (by rw[h.fq b e];decide)),fq:=h.fq
   g3:=ca h.g3 (fun b e=>hk b (by rw[h.fK b e];decide)),fK:=h.fK
   lt:=fun k E=>by rw[sz];exact h.lt k E}
 refine⟨key _ _ _ rfl (su m i y true hy),key _ _ _ rfl (sv m i y true hy),(g b).2 (by rw[f];decide),fun o=>?_,fun e=>by rw[e,h.b1] at f;omega⟩
 obtain⟨L,G⟩:=dO h.row b rfl;simp[World.frozen?,G]
theorem sw (h:(cf rp rb bS bT).J F s w){i:Nat}{x:cE}(e:s.T[i]?=some x){b cT:Nat}(hc:w.cell? (ah rp 0)=some (.slice (ag b) s.T.length cT))(d:Option Addr)(c:Nat)(vs:List (Int×Int))(f:cS w d vs)(g:∀b o,0<vs.length->d=some ⟨b,o,none⟩->¬F b):
 (cf rp rb bS bT).J (fun b=>F b\/(0<vs.length/\∃o,d=some ⟨b,o,none⟩)) {s with T:=s.T.set i (x.1,vs,x.2.2)} (w.setCell ⟨b,i*4+1,none⟩ (.slice d vs.length c))/\Fr F w (w.setCell ⟨b,i*4+1,none⟩ (.slice d vs.length c)):=by
 obtain⟨j,k,l,m,p,_,_,_,n⟩:=nm h;obtain rfl:k=.slice (ag b) s.T.length cT:=by have:=m.symm.trans hc;simpa using this
 obtain⟨y,hy,rfl⟩:∃y,j[i]?=some y/\y.1=x:=by rw[<-l] at e;simp at e;obtain⟨a,b,c⟩:=e;exact⟨_,c,rfl⟩
 exact n i y d c vs b hy rfl f g
theorem xK (h:(cf rp rb bS bT).J F s w)(l u:List bN)(v d:Value)(w1:World)(f:Below w.heap.size w w1)(i:w1.ownsRow w.heap.size 97 2 v l.length (ev l))(n:w1.ownsRow w.heap.size 97 2 d u.length (ev u))(H:∀b,some b=v.ownBlock->¬some b=d.ownBlock):
 ∃x,(cf rp rb bS bT).J x {s with rg:=l,wt:=u} ((w1.setCell ⟨rp,2,none⟩ v).setCell ⟨rp,3,none⟩ d)/\bM F w x ((w1.setCell ⟨rp,2,none⟩ v).setCell ⟨rp,3,none⟩ d)/\(∀b,x b->F b\/some b=v.ownBlock\/some b=d.ownBlock):=by
 classical
 obtain⟨own,m,J,v2,P,h,p⟩:=h;have B:=h.blk;have C:∀b,w.heap.size<=b->own b=0:=fun b f=>Classical.byContradiction (fun c=>by have:=h.lt b c;omega)
 have n1:∀b,some b=v.ownBlock->own b=0:=fun b e=>C b (bR i b e).1;have K:∀b,some b=d.ownBlock->own b=0:=fun b e=>C b (bR n b e).1;have q:∀b j,own b=j->j≠0->(if some b=v.ownBlock then 5 else if some b=d.ownBlock then 6 else own b)=j:=fun b j e h0=>by rw[ao (fun c=>by have:=n1 b c;omega),ao (fun c=>by have:=K b c;omega)];exact e
 have sz:((w1.setCell ⟨rp,2,none⟩ v).setCell ⟨rp,3,none⟩ d).heap.size=w1.heap.size:=by simp[World.setCell]
 have A:∀k,k≠rp->((w1.setCell ⟨rp,2,none⟩ v).setCell ⟨rp,3,none⟩ d).heap[k]?=w1.heap[k]?:=fun k hk=>(Below.heap_setCell _ _ _ _ hk).trans (Below.heap_setCell _ _ _ _ hk)
 have hk:∀b,b<w.heap.size->own b≠1->((w1.setCell ⟨rp,2,none⟩ v).setCell ⟨rp,3,none⟩ d).heap[b]?=w.heap[b]?:=fun b L M=>(A b (fun e=>M (by rw[e];exact h.b1))).trans (f.block b L)
 have N:=lt_of_some B;refine⟨fun b=>F b\/some b=v.ownBlock\/some b=d.ownBlock,⟨fun b=>if some b=v.ownBlock then 5 else if some b=d.ownBlock then 6 else own b,m,J,v,d,?_,fun b=>?_⟩,⟨?_,fun b a=>?_⟩,fun b a=>a⟩
 ·exact {
   blk:=by have hq:=(f.block rp N).trans B;simp only [World.setCell,Array.getElem?_modify,if_true,hq,Option.map_some];simp
   b1:=q _ _ h.b1 Z
   row:=ca h.row (fun b e=>hk b (bR h.row b e).2 (by rw[h.ro b e];decide))
   ro:=fun b e=>q _ _ (h.ro b e) Z
   nd:=h.nd
   fl:=fun y hy=>by
    refine⟨(h.fl y hy).1.at (by rw[sz];exact f.size) (fun b o hp e=>?_),fun hp=>?_⟩
    ·obtain⟨D,E,g,t⟩:=(h.fl y hy).2 hp;rw[e] at g;cases g;exact hk _ (h.lt _ (by rw[t];decide)) (by rw[t];decide)
    ·obtain⟨D,E,g,t⟩:=(h.fl y hy).2 hp;exact⟨D,E,g,q _ _ t Z⟩
   rt:=(hk _ (lt_of_some h.rt) (by rw[h.r1];decide)).trans h.rt
   rl:=h.rl
   r1:=q _ _ h.r1 Z
   g2:=d5 (ca i (fun b e=>A b (fun g=>by have:=(bR i b e).1;omega))) (fun _ _=>aA _)
   fq:=fun b e=>by rw[aq e]
   g3:=d5 (ca n (fun b e=>A b (fun g=>by have:=(bR n b e).1;omega))) (fun _ _=>aA _)
   fK:=fun b e=>by rw[ao (fun c=>H b c e),aq e]
   lt:=fun b G=>by
    rw[sz];by_cases c1:some b=v.ownBlock
    ·exact(bR i b c1).2
    ·by_cases c2:some b=d.ownBlock
     ·exact(bR n b c2).2
     ·rw[ao c1,ao c2] at G;exact av (h.lt b G) f.size}
 ·by_cases c1:some b=v.ownBlock
  ·simp[c1]
  ·by_cases c2:some b=d.ownBlock
   ·simp only [if_neg c1,if_pos c2];exact⟨fun _=>Z,fun _=>an (an c2)⟩
   ·simp only [if_neg c1,if_neg c2];exact⟨fun a=>a.elim (p b).1 (fun a=>a.elim (fun a=>absurd a c1) (fun a=>absurd a c2)),fun a=>ap ((p b).2 a)⟩
 ·have O:Fr F w w1:=Fr.of f;exact(O.set rp 2 _ ((p rp).2 (by rw[h.b1];decide))).set rp 3 _ ((p rp).2 (by rw[h.b1];decide))
 ·rcases a with a|a|a
  ·exact ap a
  ·exact an (bR i b a).1
  ·exact an (bR n b a).1
end
namespace kH
def begins (n:Nat):Code->Bool
 |.region m _ _=>m==n
 |.seq a _=>begins n a
 |_=>false
def find (n:Nat):Code->Option Code
 |.seq a b=>match begins n a with
  |true=>some (.seq a b)
  |false=>match find n a with
   |some c=>some c
   |none=>find n b
 |.cond _ a b=>match find n a with
  |some c=>some c
  |none=>find n b
 |.block _ c=>find n c
 |.loop c=>find n c
 |.scope c=>find n c
 |_=>none
theorem nz {c:Type}(l:List c)(i:Nat)(a b:c):(l.set i a).set i b=l.set i b:=V
theorem pair_cells {w:World}(a b c d:Int):cS (w.alloc (.cells #[.int .i64 a,.int .i64 b,.int .i64 c,.int .i64 d] 77)) (ag w.heap.size) [(a,b),(c,d)]:=fun _=>by
 have h:=aw w (.cells #[ae a,ae b,ae c,ae d] 77)
 refine⟨w.heap.size,0,rfl,V,fun i hi=>?_⟩
 rcases(show i=0\/i=1 by simp at hi;omega) with e|e<;>subst e<;>(constructor<;>(unfold World.cell?;dsimp only;rw[h];rfl))
structure gZ (rp rb:Nat)(bS bT:Int)(F:Nat->Prop)(s:b_)(w:World)(g_:Option Addr)(ci:Nat)(L:List Bool)(j:Nat)(wr:World)(F':Nat->Prop):Prop where
 J:(cf rp rb bS bT).J F' {s with T:=dz L s.T j} wr
 tn:bM F w F' wr
 row:wr.ownsRow 0 4 1 (.slice g_ s.T.length ci) s.T.length (L.map Value.bool)
 no:∀k,some k=(Value.slice g_ s.T.length ci).ownBlock->¬F' k
section
variable {rp rb:Nat}{bS bT:Int}{F F':Nat->Prop}{s:b_}{w wr:World}{g_:Option Addr}{ci j:Nat}{L:List Bool}
theorem gZ.next (h:gZ rp rb bS bT F s w g_ ci L j wr F'){b:Nat->Prop}{c:World}(d:(cf rp rb bS bT).J b {s with T:=(dz L s.T j).set j (e3 L j (s.T.getD j t0))} c)(ht:bM F' wr b c):gZ rp rb bS bT F s w g_ ci L (j+1) c b:=
 ⟨d,h.tn.trans ht,ca h.row (fun k e=>ht.fr.block k (bR h.row k e).2 (h.no k e)),fun k e a=>by
  rcases ht.sub k a with a|a
  ·exact h.no k e a
  ·have:=(bR h.row k e).2;omega⟩
end
section
variable {rp rb:Nat}{bS bT:Int}{F:Nat->Prop}{s:b_}{w:World}
theorem xL {s1 s2 cx s4 s5 s6 cy cz cA cB cC cD cE cF cG cH cI cJ cK cL cM cN cO cP cQ cR cU cW cX cY cZ c1 c2 c3 c4 c5 c6 c7 c8 c9 da db dc dd de df dg dh di dj dk dm dn dp dq dr ds dt du dv dw dx dy dA dB dC dD dE dF dG dH dI dJ dK dL dM dN dO dQ dR dS dT dU dV dW dX dY dZ d0 d1 d2 d3 d4 d5 d6 d7 d8 d9 ea eb ec ed ee ef eg eh ei ej ek el em en eo ep eq er es et eu ev ew ex ey ez eA eB eC eD eE eF eG eH eI eJ eK eL eM eN eP eQ eR eS eT eU eV eW eX eY eZ e0 e1 e2 e4 e5 e6 e7 e8 e9 fa fc fd fe ff fg fh fi fj fk fl fm fn fq fr fs ft fu fv fw fx fy fz fA fB fC fD fE fF fG fH fI fJ fK fL fM fN fO fP fQ fR fS fT fU fV fW fX fY fZ f0 f1 f2 f3 f4 f5 f6 f7 f8 f9 ga gb gc gd ge gf gg gh gi gj gk gl gm gn go gp gq gr gs gt gu gv gw gx gy gz gA gB gC gD gE gF gG gH gI gJ gK gL gM gN gO gP gQ gR gS gT gU gV gW gY g4 g5 g6 g7 g8 g9 ha hb hc hd hf hh hi hj hl hm hn ho hq hr hs ht hu hv hx hy hz hA hB hC hD hE hF hG hH hI hJ hK hL hM hN hO hP hQ hR hS hT hU:Value}{Q:Exit->Act->World->Prop}{Y ra bs:Option Addr}{ci bx rc bL bN:Nat}{L:List Bool}{w0:World}{n u:Value}(hV:w0.cell? (ah rp 2)=some n)(hW:w0.cell? (ah rp 3)=some u)(hX:w0.frozen? (ah rp 2)=false)(hY:w0.frozen? (ah rp 3)=false)(hw:(w0.setCell ⟨rp,2,none⟩ (.slice ra bx rc)).setCell ⟨rp,3,none⟩ (.slice bs bL bN)=w)(h:(cf rp rb bS bT).J F s w)(bY:w.ownsRow 0 4 1 (.slice Y s.T.length ci) s.T.length (L.map Value.bool))(bZ:∀k,some k=(Value.slice Y s.T.length ci).ownBlock->¬F k)(b0:gX s.T s.wt)(b1:fp s.T L)(io:s.T.length<=10000)
 (b3:∀(a:Act)(w':World)(c:Nat->Prop),a.tmps.getD 4 undef=ae 0->a.defers=[]->(cf rp rb bS bT).J c {s with T:=dz L s.T s.T.length} w'->bM F w c w'->Q .ret a w'):
 Code.wp prog ((find 44 (Tryz.f34.body.getD .skip)).getD .skip) Q ⟨#[af rp,s1,s2,cx,s4,s5,s6,.slice Y s.T.length ci,cy,cz,cA,cB,cC,cD,cE,cF,cG,.slice ra bx rc,.slice bs bL bN,cH,cI,cJ,cK,cL,cM,cN,cO,cP,cQ,cR,cU,cW,cX,cY,cZ,c1,c2,c3,c4,c5,c6,c7,c8,c9,da,db,dc,dd,de,df,dg,dh,di,dj,dk,dm,dn,dp,dq,dr,ds,dt,du,dv,dw,dx,dy,dA,dB,dC,dD,dE,dF,dG,dH,dI,dJ,dK,dL,dM,dN,dO,dQ,dR,dS,dT,dU,dV,dW,dX,dY,dZ,d0,d1,d2,d3,d4,d5,d6,d7,d8,d9,ea,eb,ec,ed,ee,ef,eg,eh,ei,ej,ek,el,em,en,eo,ep,eq,er,es,et,eu,ev,ew,ex,ey,ez,eA,eB,eC,eD,eE,eF,eG,eH,eI,eJ,eK,eL,eM,eN,eP,eQ,eR,eS,eT,eU,eV,eW,eX,eY,eZ,e0,e1,e2,e4,e5,e6,e7,e8,e9,fa,fc,fd,fe,ff,fg,fh,fi,fj,fk,fl,fm,fn,fq,fr,fs,ft,fu,fv,fw,fx,fy,fz,fA,fB,fC,fD,fE,fF,fG,fH,fI,fJ,fK,fL,fM,fN,fO,fP,fQ,fR,fS,fT,fU,fV,fW,fX,fY,fZ,f0,f1,f2,f3,f4,f5,f6,f7,f8,f9,ga,gb,gc,gd,ge,gf,gg,gh,gi,gj,gk,gl,gm,gn,go,gp,gq,gr,gs,gt,gu,gv,gw,gx,gy,gz,gA,gB,gC,gD,gE,gF,gG,gH,gI,gJ,gK,gL,gM,gN,gO,gP,gQ,gR,gS,gT,gU,gV,gW,gY,g4,g5,g6,g7,g8,g9,ha,hb,hc,hd,hf,hh,hi,hj,hl,hm,hn,ho,hq,hr,hs,ht,hu,hv,hx,hy,hz,hA,hB,hC,hD,hE,hF,hG,hH,hI,hJ,hK,hL,hM,hN,hO,hP,hQ,hR,hS,hT,hU],[]⟩ w0:=by
 conv=>arg 2;whnf
 have hZ:Hid (∀(a:Act)(w':World)(c:Nat->Prop),a.tmps.getD 4 undef=ae 0->a.defers=[]->(cf rp rb bS bT).J c {s with T:=dz L s.T s.T.length} w'->bM F w c w'->Q .ret a w'):=b3;have b4:Hid (∃c,gZ rp rb bS bT F s w Y ci L 0 w c):=⟨F,h,⟨Fr.refl F w,fun _ g=>ap g⟩,bY,bZ⟩
 have ar:Hid (gX s.T s.wt/\fp s.T L):=⟨b0,b1⟩
 have b5:Hid ((w0.setCell ⟨rp,2,none⟩ (.slice ra bx rc)).setCell ⟨rp,3,none⟩ (.slice bs bL bN)=w):=hw;clear b3 h bY bZ b0 b1 hw
 go_upto_region 45 with fail
 rw[b5.out];clear b5 hV hW hX hY;go_wp2_with fail
 go_loopw [21] (fun iv wr=>∃j:Nat,j<=s.T.length/\iv=ae j/\Hid (∃c,gZ rp rb bS bT F s w Y ci L j wr c)) (fun iv _=>s.T.length-(intOf iv).toNat)
 case atStart=>exact⟨0,aA _,rfl,b4⟩
 case round=>
  clear b4;obtain⟨j,h0,rfl,be⟩:=hrel;obtain⟨J,R⟩:=be.out;obtain⟨h1,cT,b6,b7,bO⟩:=jq R.J;have bg:(dz L s.T j).length=s.T.length:=iH L s.T j;have c0:wr.cell? (ah rp 0)=some (.slice h1 s.T.length cT):=by rw[<-bg];exact b6
  clear b6;have ip:=au wr _ c0;by_cases aT:j<s.T.length
  ·have bi:(dz L s.T j)[j]?=some (s.T.getD j t0):=by
    have B:=o_ L s.T j j h0 aT;rw[ao (Nat.lt_irrefl j),aj] at B;obtain⟨x,h2⟩:∃x,(dz L s.T j)[j]?=some x:=⟨_,am (by rw[bg];exact aT)⟩
    rw[h2] at B⊢;rw[<-B];rfl
   obtain⟨b,bP,cp,rfl,u0,ax,aV,a0,b8,b9⟩:=bO j _ bi;have cb:Hid ((dz L s.T j)[j]?=some (s.T.getD j t0)):=bi;obtain⟨cc,cd,fb,bl,ce⟩:=xJ (s:={s with T:=dz L s.T j}) R.J bi (by rw[bg];exact c0)
   have bQ:=ar.out.2.len;obtain⟨m,h3,cg⟩:=dP R.row I;obtain⟨rfl,rfl⟩:Y=ag m/\ci=h3:=by simpa using cg
   have bR:=(eO R.row (ie (L:=L) (i:=j) I)).1;have h4:m≠b:=fun e=>R.no m rfl (by rw[e];exact fb)
   have iq:=au wr _ bR;have lb:=au wr _ u0;have aB:Hid (gZ rp rb bS bT F s w (ag m) ci L j wr J):=R;have ch:Hid (L.getD j false=true->cv s.T j):=fun e=>ar.out.2.al j e;have bn:Hid ((s.T.getD j t0).2.1.length<=12):=ar.out.1.tl j;have aF:Hid ((cf rp rb bS bT).J J {s with T:=(dz L s.T j).set j ((s.T.getD j t0).1,(s.T.getD j t0).2.1,true,(s.T.getD j t0).2.2.2)} (wr.setCell ⟨b,j*4+2,none⟩ (.bool true))/\(cf rp rb bS bT).J J {s with T:=(dz L s.T j).set j ((s.T.getD j t0).1,(s.T.getD j t0).2.1,(s.T.getD j t0).2.2.1,true)} (wr.setCell ⟨b,j*4+3,none⟩ (.bool true))/\J b):=⟨cc,cd,fb⟩
   have h5:=bl (j*4+1)
   have ir:=bl (j*4+2)
   have is:=bl (j*4+3)
   have j0:(0:Int)<=(j:Int):=I;have it:(j:Int)<(s.T.length:Int):=I;have bo:Hid (wr.cell? (ah rp 0)=some (.slice (ag b) s.T.length cT)):=c0;clear bO b7 R bi cc cd fb bl cg be bg;cases hg:L.getD j false
   ·rw[hg] at bR;have A:Hid (∃c,gZ rp rb bS bT F s w (ag m) ci L (j+1) ((wr.setCell ⟨b,j*4+3,none⟩ (.bool true)).setCell ⟨b,j*4+1,none⟩ (.slice none 0 0)) c):=by
     have h6:(wr.setCell ⟨b,j*4+3,none⟩ (.bool true)).cell? (ah rp 0)=some (.slice (ag b) s.T.length cT):=by
      have:=bo.out;unfold World.cell? at this⊢
      rw[Below.heap_setCell _ _ _ _ (show rp≠b from fun e=>ce e.symm)];exact this
     obtain⟨q1,C⟩:=sw (s:={s with T:=(dz L s.T j).set j ((s.T.getD j t0).1,(s.T.getD j t0).2.1,(s.T.getD j t0).2.2.1,true)}) aF.out.2.1 (i:=j) (x:=((s.T.getD j t0).1,(s.T.getD j t0).2.1,(s.T.getD j t0).2.2.1,true)) (by
      show((dz L s.T j).set j _)[j]?=_;rw[List.getElem?_set_self (by rw[iH];exact aT)]) (b:=b) (cT:=cT) (by
      show _=some (Value.slice (ag b) ((dz L s.T j).set j _).length cT)
      rw[aM,iH];exact h6) none 0 [] (fun hp=>absurd hp V) (fun _ _ hp=>absurd hp V)
     refine⟨_,aB.out.next (by
      have e:(dz L s.T j).set j (e3 L j (s.T.getD j t0))=((dz L s.T j).set j ((s.T.getD j t0).1,(s.T.getD j t0).2.1,(s.T.getD j t0).2.2.1,true)).set j ((s.T.getD j t0).1,[],(s.T.getD j t0).2.2.1,true):=by rw[nz];unfold e3;rw[hg,ao V]
      rw[e];exact q1) ⟨((Fr.refl J wr).set b _ _ aF.out.2.2).trans C (fun _ g=>ap g),fun k g=>?_⟩⟩
     rcases g with g|⟨hp,_⟩
     ·exact ap g
     ·exact absurd hp V
    clear b8 b9 bo aF aB cb
    as_aux_lemma=>
    go_wp2_with fail;go_roundw
    case rel=>exact⟨j+1,I,ac,A⟩
    case measure=>simp[intOf];omega
   ·rw[hg] at bR;have al:=ch.out hg;have S:Hid ((∀v∈(s.T.getD j t0).2.1,v.1=3->0<=v.2/\cv s.T v.2.toNat)/\((s.T.getD j t0).1=3\/(s.T.getD j t0).1=4->(s.T.getD j t0).2.1.length=2)):=⟨ar.out.1.fv j al,ar.out.1.fl j al⟩
    have h7:Hid (L.getD j false=true):=hg;have bU:∀k,k≠b->(wr.setCell ⟨b,j*4+2,none⟩ (.bool true)).heap[k]?=wr.heap[k]?:=fun k hk=>Below.heap_setCell _ _ _ _ hk;have D:Hid ((cf rp rb bS bT).J J {s with T:=(dz L s.T j).set j ((s.T.getD j t0).1,(s.T.getD j t0).2.1,true,(s.T.getD j t0).2.2.2)} (wr.setCell ⟨b,j*4+2,none⟩ (.bool true))/\(wr.setCell ⟨b,j*4+2,none⟩ (.bool true)).cell? (ah rp 0)=some (.slice (ag b) s.T.length cT)/\bM J wr J (wr.setCell ⟨b,j*4+2,none⟩ (.bool true))/\iI (wr.setCell ⟨b,j*4+2,none⟩ (.bool true)) (ag m) L):=by
     refine⟨aF.out.1,?_,⟨(Fr.refl J wr).set b _ _ aF.out.2.2,fun _ g=>ap g⟩,?_⟩
     ·have:=bo.out;unfold World.cell? at this⊢
      rw[bU rp (fun e=>ce e.symm)];exact this
     ·have cj:=ca aB.out.row (fun k e=>bU k (fun h8=>by have e:some k=some m:=e;cases e;exact h4 h8))
      rw[<-bQ] at cj;exact mj cj
    have bV:∀o,o≠j*4+2->∀v,wr.cell? (ah b o)=some v->(wr.setCell ⟨b,j*4+2,none⟩ (.bool true)).cell? (ah b o)=some v:=fun o h9 v ia=>by rw[aC _ _ _ _ (fun e=>h9 (by injection e with _ e;exact e.symm))];exact ia
    have U:=bV (j*4) I _ u0;have y1:=bV (j*4+1) I _ ax;have W:b<(wr.setCell ⟨b,j*4+2,none⟩ (.bool true)).heap.size:=au _ _ U;have ck:(wr.setCell ⟨b,j*4+2,none⟩ (.bool true)).frozen? (ah b (j*4+1))=false:=by rw[World.frozen?_setCell];exact h5
    have cl:∀{w3:World}(M:Option Addr)(a1:Nat)(vs:List (Int×Int)),Below (wr.setCell ⟨b,j*4+2,none⟩ (.bool true)).heap.size (wr.setCell ⟨b,j*4+2,none⟩ (.bool true)) w3->cS w3 M vs->(∀K N,0<vs.length->M=some ⟨K,N,none⟩->(wr.setCell ⟨b,j*4+2,none⟩ (.bool true)).heap.size<=K)->e3 L j (s.T.getD j t0)=((s.T.getD j t0).1,vs,true,(s.T.getD j t0).2.2.2)->
     ∃c,gZ rp rb bS bT F s w (ag m) ci L (j+1) (w3.setCell ⟨b,j*4+1,none⟩ (.slice M vs.length a1)) c:=fun {w3} M a1 vs d ib cm he=>by
     have ic:=(cf rp rb bS bT).below D.out.1 d;have ig:=(d.cell (p:=ah rp 0) (au _ _ D.out.2.1)).trans D.out.2.1;obtain⟨q1,C⟩:=sw (s:={s with T:=(dz L s.T j).set j ((s.T.getD j t0).1,(s.T.getD j t0).2.1,true,(s.T.getD j t0).2.2.2)}) ic (i:=j) (x:=((s.T.getD j t0).1,(s.T.getD j t0).2.1,true,(s.T.getD j t0).2.2.2)) (by
      show((dz L s.T j).set j _)[j]?=_;rw[List.getElem?_set_self (by rw[iH];exact aT)]) (b:=b) (cT:=cT) (by
      show _=some (Value.slice (ag b) ((dz L s.T j).set j _).length cT)
      rw[aM,iH];exact ig) M a1 vs ib (fun K N hp e g=>by
      have B:=cm K N hp e;have a2:=(cf rp rb bS bT).lt D.out.1 K g;omega)
     refine⟨_,aB.out.next (by
      have e:(dz L s.T j).set j (e3 L j (s.T.getD j t0))=((dz L s.T j).set j ((s.T.getD j t0).1,(s.T.getD j t0).2.1,true,(s.T.getD j t0).2.2.2)).set j ((s.T.getD j t0).1,vs,true,(s.T.getD j t0).2.2.2):=by rw[nz,he]
      rw[e];exact q1) ⟨(D.out.2.2.1.fr.trans (Fr.of d) (fun _ g=>ap g)).trans C (fun _ g=>ap g),fun k g=>?_⟩⟩
     rcases g with g|⟨hp,N,e⟩
     ·exact ap g
     ·have B:=cm k N hp e;have a2:(wr.setCell ⟨b,j*4+2,none⟩ (.bool true)).heap.size=wr.heap.size:=by simp[World.setCell]
      exact an I
    have X:Hid (∀{w3:World}(M:Option Addr)(a1:Nat)(vs:List (Int×Int)),Below (wr.setCell ⟨b,j*4+2,none⟩ (.bool true)).heap.size (wr.setCell ⟨b,j*4+2,none⟩ (.bool true)) w3->cS w3 M vs->(∀K N,0<vs.length->M=some ⟨K,N,none⟩->(wr.setCell ⟨b,j*4+2,none⟩ (.bool true)).heap.size<=K)->e3 L j (s.T.getD j t0)=((s.T.getD j t0).1,vs,true,(s.T.getD j t0).2.2.2)->
     ∃c,gZ rp rb bS bT F s w (ag m) ci L (j+1) (w3.setCell ⟨b,j*4+1,none⟩ (.slice M vs.length a1)) c):=cl
    have O:Hid (∀w3:World,Below (wr.setCell ⟨b,j*4+2,none⟩ (.bool true)).heap.size (wr.setCell ⟨b,j*4+2,none⟩ (.bool true)) w3->e3 L j (s.T.getD j t0)=((s.T.getD j t0).1,(s.T.getD j t0).2.1,true,(s.T.getD j t0).2.2.2)->∃c,gZ rp rb bS bT F s w (ag m) ci L (j+1) w3 c):=fun w3 d he=>by refine⟨J,aB.out.next (by rw[he];exact(cf rp rb bS bT).below D.out.1 d) ⟨D.out.2.2.1.fr.trans (Fr.of d) (fun _ g=>ap g),fun k g=>ap g⟩⟩
    have ad:Hid (e3 L j (s.T.getD j t0)=((s.T.getD j t0).1,(if(s.T.getD j t0).1=4/\dl L ((s.T.getD j t0).2.1.getD 0 (0,0))=false then[(2,0),(2,0)] else if(s.T.getD j t0).1=3/\dl L ((s.T.getD j t0).2.1.getD 0 (0,0))=false then[(2,0),(s.T.getD j t0).2.1.getD 1 (0,0)] else(s.T.getD j t0).2.1),true,(s.T.getD j t0).2.2.2)):=by show _=_;unfold e3;rw[h7.out,aq rfl]
    obtain⟨iu,iw,cn,_,co⟩:=jq D.out.1;obtain⟨b2,cq,ix,cr,_,cs,_,_,ct,_⟩:=co j ((s.T.getD j t0).1,(s.T.getD j t0).2.1,true,(s.T.getD j t0).2.2.2) (by show((dz L s.T j).set j _)[j]?=_;rw[List.getElem?_set_self (by rw[iH];exact aT)])
    obtain rfl:b=b2:=by
     have q:=cn.symm.trans D.out.2.1;rw[cr] at q;have C:b2=b:=by injection q with q;injection q with q;injection q with q;injection q
     exact C.symm
    obtain rfl:bP=cq:=by
     have q:=y1.symm.trans cs;have C:bP=cq:=by injection q with q;injection q
     exact C
    have aR:Hid (cS (wr.setCell ⟨b,j*4+2,none⟩ (.bool true)) bP (s.T.getD j t0).2.1):=ct;have a3:Hid (iI (wr.setCell ⟨b,j*4+2,none⟩ (.bool true)) (ag m) L):=D.out.2.2.2;clear ct co cn cr cs cl b8 b9 bo aF aB cb D bV bU ch ar hg;generalize s.T.getD j t0=t at*;obtain⟨kd,bp,cu,br⟩:=t;dsimp only at u0 ax aV a0 U y1 bn S X O ad aR;have ih:kd=3\/kd=4\/(kd≠3/\kd≠4):=I;rcases ih with ii|ij|bb
    ·subst ii;have l2:=S.out.2 (ap rfl)
     obtain⟨f,l,rfl⟩:∃f l,bp=[f,l]:=by
      match bp,l2 with
      |[f,l],_=>exact⟨f,l,rfl⟩
     obtain⟨fb,cV,rfl,bd,ai⟩:=aR.out V;obtain⟨E,G⟩:=ai 0 V;obtain⟨n,u⟩:=ai 1 V;have E:(wr.setCell ⟨b,j*4+2,none⟩ (.bool true)).cell? (ah fb cV)=some (ae f.1):=by simpa using E
     have G:(wr.setCell ⟨b,j*4+2,none⟩ (.bool true)).cell? (ah fb (cV+1))=some (ae f.2):=by simpa using G
     have n:(wr.setCell ⟨b,j*4+2,none⟩ (.bool true)).cell? (ah fb (cV+2))=some (ae l.1):=by simpa using n
     have u:(wr.setCell ⟨b,j*4+2,none⟩ (.bool true)).cell? (ah fb (cV+3))=some (ae l.2):=by simpa using u
     have P:=nA (wr.setCell ⟨b,j*4+2,none⟩ (.bool true)) (ag m) ci L f a3.out (fun bW=>by obtain⟨q1,C⟩:=S.out.1 f V bW;have:=C.1;exact⟨q1,I⟩) I;rw[bQ] at P;have H:Hid (e3 L j (3,[f,l],cu,br)=(3,(if dl L f=false then[(2,0),l] else[f,l]),true,br)):=by show _=_;rw[ad.out];simp
     obtain⟨g0,g1⟩:=f;obtain⟨g2,g3⟩:=l;dsimp only at E G n u P H;clear ai aR l2 ad S bn a3;go_wp2_with fail;refine P.mono ?_;clear P;rintro e w3 ⟨rfl,d⟩
     dsimp only;have v0:=(d.cell (p:=ah b (j*4)) W).trans U;have v1:=(d.cell (p:=ah b (j*4+1)) W).trans y1;have v2:=(d.cell (p:=ah fb (cV+2)) bd).trans n;have ik:=(d.cell (p:=ah fb (cV+3)) bd).trans u;have il:w3.frozen? (ah b (j*4+1))=false:=by
      have:=ck;unfold World.frozen? at this⊢
      dsimp only at this⊢
      rw[d.block b W];exact this
     have bX:b<w3.heap.size:=av W d.size;cases hin:dl L (g0,g1)
     ·have A:Hid (∃c,gZ rp rb bS bT F s w (ag m) ci L (j+1) ((w3.setCell ⟨b,j*4+1,none⟩ (.slice (some ⟨w3.heap.size,0,none⟩) 2 2)).alloc (.cells #[.int .i64 2,.int .i64 0,.int .i64 g2,.int .i64 g3] 77)) c):=by
       have B:=X.out (w3:=w3.alloc (.cells #[.int .i64 2,.int .i64 0,.int .i64 g2,.int .i64 g3] 77)) (ag w3.heap.size) 2 [(2,0),(g2,g3)] (d.alloc d.size _) (pair_cells _ _ _ _) (fun K N _ e=>by cases e;exact d.size) (by rw[H.out,hin];rfl)
       have a2:([(2,0),(g2,g3)]:List (Int×Int)).length=2:=rfl;rw[a2,World.setCell_alloc_past _ _ _ _ bX] at B;exact B
      clear X O H E G n u U y1 u0 ax aV a0;go_wp2_with fail;go_roundw
      case rel=>exact⟨j+1,I,ac,A⟩
      case measure=>simp[intOf];omega
     ·have A:Hid (∃c,gZ rp rb bS bT F s w (ag m) ci L (j+1) w3 c):=O.out w3 d (by rw[H.out,hin];rfl)
      clear X O H E G n u U y1 u0 ax aV a0;go_wp2_with fail;go_roundw
      case rel=>exact⟨j+1,I,ac,A⟩
      case measure=>simp[intOf];omega
    ·subst ij;have l2:=S.out.2 (an rfl)
     obtain⟨f,l,rfl⟩:∃f l,bp=[f,l]:=by
      match bp,l2 with
      |[f,l],_=>exact⟨f,l,rfl⟩
     obtain⟨fb,cV,rfl,bd,ai⟩:=aR.out V;obtain⟨E,G⟩:=ai 0 V;obtain⟨n,u⟩:=ai 1 V;have E:(wr.setCell ⟨b,j*4+2,none⟩ (.bool true)).cell? (ah fb cV)=some (ae f.1):=by simpa using E
     have G:(wr.setCell ⟨b,j*4+2,none⟩ (.bool true)).cell? (ah fb (cV+1))=some (ae f.2):=by simpa using G
     have n:(wr.setCell ⟨b,j*4+2,none⟩ (.bool true)).cell? (ah fb (cV+2))=some (ae l.1):=by simpa using n
     have u:(wr.setCell ⟨b,j*4+2,none⟩ (.bool true)).cell? (ah fb (cV+3))=some (ae l.2):=by simpa using u
     have P:=nA (wr.setCell ⟨b,j*4+2,none⟩ (.bool true)) (ag m) ci L f a3.out (fun bW=>by obtain⟨q1,C⟩:=S.out.1 f V bW;have:=C.1;exact⟨q1,I⟩) I;rw[bQ] at P;have H:Hid (e3 L j (4,[f,l],cu,br)=(4,(if dl L f=false then[(2,0),(2,0)] else[f,l]),true,br)):=by show _=_;rw[ad.out];simp
     obtain⟨g0,g1⟩:=f;obtain⟨g2,g3⟩:=l;dsimp only at E G n u P H;clear ai aR l2 ad S bn a3;go_wp2_with fail;refine P.mono ?_;clear P;rintro e w3 ⟨rfl,d⟩
     dsimp only;have v0:=(d.cell (p:=ah b (j*4)) W).trans U;have v1:=(d.cell (p:=ah b (j*4+1)) W).trans y1;have v2:=(d.cell (p:=ah fb (cV+2)) bd).trans n;have ik:=(d.cell (p:=ah fb (cV+3)) bd).trans u;have il:w3.frozen? (ah b (j*4+1))=false:=by
      have:=ck;unfold World.frozen? at this⊢
      dsimp only at this⊢
      rw[d.block b W];exact this
     have bX:b<w3.heap.size:=av W d.size;cases hin:dl L (g0,g1)
     ·have A:Hid (∃c,gZ rp rb bS bT F s w (ag m) ci L (j+1) ((w3.setCell ⟨b,j*4+1,none⟩ (.slice (some ⟨w3.heap.size,0,none⟩) 2 2)).alloc (.cells #[.int .i64 2,.int .i64 0,.int .i64 2,.int .i64 0] 77)) c):=by
       have B:=X.out (w3:=w3.alloc (.cells #[.int .i64 2,.int .i64 0,.int .i64 2,.int .i64 0] 77)) (ag w3.heap.size) 2 [(2,0),(2,0)] (d.alloc d.size _) (pair_cells _ _ _ _) (fun K N _ e=>by cases e;exact d.size) (by rw[H.out,hin];rfl)
       have a2:([(2,0),(2,0)]:List (Int×Int)).length=2:=rfl;rw[a2,World.setCell_alloc_past _ _ _ _ bX] at B;exact B
      clear X O H E G n u U y1 u0 ax aV a0;go_wp2_with fail;go_roundw
      case rel=>exact⟨j+1,I,ac,A⟩
      case measure=>simp[intOf];omega
     ·have A:Hid (∃c,gZ rp rb bS bT F s w (ag m) ci L (j+1) w3 c):=O.out w3 d (by rw[H.out,hin];rfl)
      clear X O H E G n u U y1 u0 ax aV a0;go_wp2_with fail;go_roundw
      case rel=>exact⟨j+1,I,ac,A⟩
      case measure=>simp[intOf];omega
    ·have iy:(kd==3)=false:=by simpa using bb.1
     have n4:(kd==4)=false:=by simpa using bb.2
     have A:Hid (∃c,gZ rp rb bS bT F s w (ag m) ci L (j+1) (wr.setCell ⟨b,j*4+2,none⟩ (.bool true)) c):=O.out _ bK (by rw[ad.out,ao (fun q=>bb.2 q.1),ao (fun q=>bb.1 q.1)])
     clear X O ad aR a3 S bn bb;go_wp2_with fail;go_roundw
     case rel=>exact⟨j+1,I,ac,A⟩
     case measure=>simp[intOf];omega
  ·obtain rfl:j=s.T.length:=I;have A:Hid (∃c,gZ rp rb bS bT F s w Y ci L s.T.length wr c):=be;clear bO b7 R be;go_wp2_with fail;obtain⟨im,cw⟩:=A.out;refine hZ.out _ _ im ?_ ?_ cw.J cw.tn
   ·rfl
   ·rfl
end
end kH
namespace ig
def begins:=kH.begins
abbrev find:=kH.find
section
variable {w0 w3 wb:World}{mb bb vb fb:Nat}{vr:Value}
theorem sx {wr:World}{mB m1 a:List da}{P:List (Int×Int)×ck}{b:Option Addr}{c n rb:Nat}{m l:Value}{k0:Int}{v0:List (Int×Int)}(h:dd w0 w3 wr mb bb vb fb vr m1 P b c m l a)(o:P.2.2[n]?=some (k0,v0))(w:P.2.2.length<=100000)(f:wr.heap[rb]?=some (.cells #[ae 0,ae 0] 77 (0,0)))(M:rb<w3.heap.size)(hlo:w0.heap.size<=rb)(x:¬eN a rb)(N:wb.heap.size<=rb)(p:Kx w0 wb mB wr a):
 ∃g i u,l=.slice (ag g) a.length i/\wr.cell? (ah vb 1)=some (.slice (ag g) a.length i)/\n<a.length/\a.length<=100000/\wr.cell? (ah g (n*2+1))=some u/\wr.frozen? (ah g (n*2+1))=false/\wr.cell? (ah rb 0)=some (ae 0)/\wr.cell? (ah rb 1)=some (ae 0)/\wr.frozen? (ah rb 0)=false/\wr.frozen? (ah rb 1)=false/\g≠rb/\
  Hid ((∃q,dI w0 (((wr.setCell ⟨g,n*2+1,none⟩ (.slice b P.1.length c)).setCell ⟨rb,0,none⟩ (.int .i64 3)).setCell ⟨rb,1,none⟩ (.int .i64 n)) mb bb vb fb (P.2.1,P.2.2.set n (k0,P.1)) m l vr q/\Kx w0 wb mB (((wr.setCell ⟨g,n*2+1,none⟩ (.slice b P.1.length c)).setCell ⟨rb,0,none⟩ (.int .i64 3)).setCell ⟨rb,1,none⟩ (.int .i64 n)) q)/\(((wr.setCell ⟨g,n*2+1,none⟩ (.slice b P.1.length c)).setCell ⟨rb,0,none⟩ (.int .i64 3)).setCell ⟨rb,1,none⟩ (.int .i64 n)).cell? (ah rb 0)=some (ae 3)/\(((wr.setCell ⟨g,n*2+1,none⟩ (.slice b P.1.length c)).setCell ⟨rb,0,none⟩ (.int .i64 3)).setCell ⟨rb,1,none⟩ (.int .i64 n)).cell? (ah rb 1)=some (ae n)):=by
 have s:n<a.length:=by rw[h.wv.len];exact(List.getElem?_eq_some_iff.1 o).1
 have A:a.length<=100000:=by rw[h.wv.len];exact w
 obtain⟨B,i,C⟩:=dG h.wv.nr;subst C;obtain⟨g,D,E⟩:=dP h.wv.nr I;obtain⟨rfl,rfl⟩:B=ag g/\i=D:=by simpa using E
 obtain⟨y,hy⟩:∃y,a[n]?=some y:=⟨_,am s⟩
 obtain⟨_,F⟩:=l7 a n y hy;obtain⟨n1,G⟩:=eO h.wv.nr F;have H:=h.wv.cells.2.1;have r0:wr.cell? (ah rb 0)=some (ae 0):=by simp[World.cell?,f]
 have r1:wr.cell? (ah rb 1)=some (ae 0):=by simp[World.cell?,f]
 have J:wr.frozen? (ah rb 0)=false:=by simp[World.frozen?,f]
 have K:wr.frozen? (ah rb 1)=false:=by simp[World.frozen?,f]
 obtain⟨O,t⟩:=dO h.wv.nr g rfl;have j:g≠rb:=fun e=>by rw[e,f] at t;simp at t
 refine⟨g,i,_,rfl,H,s,A,n1,G,r0,r1,J,K,j,?_,?_,?_⟩
 ·obtain⟨a1,a2,v⟩:=h.wv.filled o h.row;have fr:Fr (fun k=>k=rb) (wr.setCell ⟨g,n*2+1,none⟩ (.slice b P.1.length c)) (((wr.setCell ⟨g,n*2+1,none⟩ (.slice b P.1.length c)).setCell ⟨rb,0,none⟩ (.int .i64 3)).setCell ⟨rb,1,none⟩ (.int .i64 n)):=((Fr.refl (fun k=>k=rb) _).set rb 0 _ rfl).set rb 1 _ rfl;have L:(wr.setCell ⟨g,n*2+1,none⟩ (.slice b P.1.length c)).heap[rb]?=some (.cells #[ae 0,ae 0] 77 (0,0)):=(Below.heap_setCell _ _ _ _ (show rb≠g from fun e=>j e.symm)).trans f;refine⟨_,a1.but fr (fun k _ e=>?_),⟨(p.1.trans a2).new fr (fun k e=>by have e:k=rb:=e;omega),fun k hk=>?_⟩⟩
  ·have e:k=rb:=e;subst e;refine⟨⟨_,L⟩,fun d=>?_,hlo⟩
   rcases v k d with d|d
   ·exact x d
   ·omega
  ·rcases v k hk with d|d
   ·exact p.2 k d
   ·right;omega
 ·rw[aC _ _ _ _ V];exact aH _ _ _ (u:=ae 0) ((aC _ _ _ _ (fun e=>j (by injection e))).trans r0)
 ·exact aH _ _ _ (u:=ae 0) ((aC _ _ _ _ V).trans ((aC _ _ _ _ (fun e=>j (by injection e))).trans r1))
end
end ig
end Go.Proofs.YtjpjpjemibgjpaaGreat
