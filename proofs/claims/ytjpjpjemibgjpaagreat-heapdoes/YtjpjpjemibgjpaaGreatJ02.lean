import Derived.Test.YtjpjpjemibgjpaaGreatJ01
import Derived.Deep.RegionWith
import Derived.Deep.RegionLaw
namespace Go.Proofs.YtjpjpjemibgjpaaGreat
set_option maxRecDepth 100000
set_option maxHeartbeats 1000000
open Tryz
open Go.RowKit W Kp cg
theorem vL {P:Prop}(h:P:=by go_wp2_with fail;refine bv (results_none rfl _ _ _) rfl ?_;have e2:=A5.o;rw[E1.o,List.append_nil] at e2;rw[<-e2];exact⟨rfl,v,(ef.block c (lt_of_some CC.o)).trans CC.o,ni (lA hown ef) V,⟨(hS.trans (eL.of ef hsz)).os,(hS.trans (eL.of ef hsz)).tape,(hS.trans (eL.of ef hsz)).output,by have:=(hS.trans (eL.of ef hsz)).size;simp at this;omega,fun k hk h1=>((hS.trans (eL.of ef hsz)).block k V h1).trans (a4 _ _ _ hk)⟩⟩):P:=h
theorem vM {P:Prop}(h:P:=by refine bodyPost_end (results_none rfl _ _ _) rfl ?_;have e2:=A5.o;rw[vN k V,List.append_nil] at e2;rw[<-e2];exact⟨rfl,v,(hb1.block c (lt_of_some CC.o)).trans CC.o,ni (lA hown hb1) V,⟨(hS.trans (eL.of hb1 hsz)).os,(hS.trans (eL.of hb1 hsz)).tape,(hS.trans (eL.of hb1 hsz)).output,by have:=(hS.trans (eL.of hb1 hsz)).size;simp at this;omega,fun k hk h1=>((hS.trans (eL.of hb1 hsz)).block k V h1).trans (a4 _ _ _ hk)⟩⟩):P:=h
theorem vO {P:Prop}(h:P:=by
 obtain⟨h1,h2⟩:=h;rcases h2 with⟨e,_⟩|⟨k',cap,cur,hv,hb,hh,h3,h4,h5,h6⟩
 ·cases e
 ·cases hv;rw[hh];have:cur.toList=(List.replicate n (0:Int)).map (Value.int .i64):=by rw[<-List.take_of_length_le (l:=cur.toList) (i:=n*1) (by simp;omega),h6];show(madeCells #[Value.int .i64 0] (n*1)).toList=_;rw[toList_madeCells_one];simp
  rw[<-this]):P:=h
theorem vP {P:Prop}(h:P:=by obtain⟨d0,d1,d2,f0,f1,f2,hz⟩:=cells3 hb1;obtain⟨c0,c1,c2,c3,c4,c5,c6⟩:=((h.alloc _).below hb1 bW).cells;go_wp2_with fail;exact bv (by simp[results,results175,go_sem,d0,d1,d2]) rfl ⟨rfl,((((bX.alloc bW _).trans (hb1.mono Z)).setCell bW _).setCell bW _).setCell bW _⟩):P:=h
theorem r5 {P:Prop}(h:P:=by go_wp2_with fail;exact bv (v:=.tuple #[.pointer none,.agg #[ah 1,ah (-1)]]) (by simp[results,results60,go_sem]) rfl ⟨rfl,bX.alloc bW _⟩):P:=h
theorem oo {P:Prop}(h:P:=by rw[aE (fun c=>by rcases hnw b c with c|c<;>omega)];exact e):P:=h
theorem lB {P:Prop}(h:P:=by go_wp2_with fail;go_ret;exact⟨rfl,hb1⟩):P:=h
theorem r6 {P:Prop}(h:P:=by
 go_wp2
 go_quiet (fail)
 go_wp2;go_ret2;exact⟨rfl,below_drewN bX _⟩):P:=h
theorem pR {P:Prop}(h:P:=by
 rintro e w1 ⟨rfl,hb1⟩
 go_wp2;go_ret;exact⟨rfl,hb1⟩):P:=h
abbrev iw:=cG×Option Addr×Nat
def tv (m:List iw):List Value:=m.flatMap fun x=>[ah x.1.1,.slice x.2.1 x.1.2.1.length x.2.2,.bool x.1.2.2.1,.bool x.1.2.2.2]
theorem BU (a b:List iw):tv (a++b)=tv a++tv b:=by simp[tv]
theorem vQ:∀(l:List iw)(i:Nat)(x:iw),l[i]?=some x->(tv l)[i*4]?=some (ah x.1.1)/\(tv l)[i*4+1]?=some (.slice x.2.1 x.1.2.1.length x.2.2)/\(tv l)[i*4+2]?=some (.bool x.1.2.2.1)/\(tv l)[i*4+3]?=some (.bool x.1.2.2.2)
 |[],i,x,h=>by simp at h
 |e::r,0,x,h=>by simp at h;subst h;simp[tv]
 |e::r,i+1,x,h=>by
  have b:(tv (e::r))=ah e.1.1::.slice e.2.1 e.1.2.1.length e.2.2::.bool e.1.2.2.1::.bool e.1.2.2.2::tv r:=by simp[tv]
  rw[b,show(i+1)*4=i*4+1+1+1+1 by omega];simpa using(vQ r i x (by simpa using h))
theorem vR:∀(l:List iw)(i:Nat)(x:iw)(b:Option Addr)(c:Nat)(d:List (Int×Int)),l[i]?=some x->tv (l.set i ((x.1.1,d,x.1.2.2),b,c))=(tv l).set (i*4+1) (.slice b d.length c)
 |[],_,_,_,_,_,_=>rfl
 |e::l,0,x,b,c,d,h=>by simp at h;subst h;simp[tv]
 |e::l,i+1,x,b,c,d,h=>by
  have f:(tv (e::l))=ah e.1.1::.slice e.2.1 e.1.2.1.length e.2.2::.bool e.1.2.2.1::.bool e.1.2.2.2::tv l:=by simp[tv]
  have g:(tv (e::l.set i ((x.1.1,d,x.1.2.2),b,c)))=ah e.1.1::.slice e.2.1 e.1.2.1.length e.2.2::.bool e.1.2.2.1::.bool e.1.2.2.2::tv (l.set i ((x.1.1,d,x.1.2.2),b,c)):=by simp[tv]
  rw[List.set_cons_succ,g,f,(vR l i x b c d (by simpa using h)),show(i+1)*4+1=i*4+1+1+1+1+1 by omega];simp
structure pS (rp rb:Nat)(b9 bY:Int)(own:Nat->Nat)(s:cj)(m:List iw)(nk v2 v3:Value)(w:au):Prop where
 blk:w.heap[rp]?=some (.cells #[nk,.slice (ak rb) 12 12,v2,v3,ah b9,ah bY] 91 (0,0))
 b1:own rp=1
 row:w.ownsRow 0 99 4 nk m.length (tv m)
 ro:∀b,some b=nk.ownBlock->own b=2
 nd:m.map (fun x=>x.1)=s.T
 fl:∀x∈m,cY w x.2.1 x.1.2.1/\(0<x.1.2.1.length->∃b o,x.2.1=some ⟨b,o,none⟩/\own b=3)
 rt:w.heap[rb]?=some (.cells (ev s.rs).toArray 77 (0,0))
 rl:s.rs.length=12
 r1:own rb=4
 g2:w.ownsRow 0 97 2 v2 s.rg.length (ev s.rg)
 fN:∀b,some b=v2.ownBlock->own b=5
 g3:w.ownsRow 0 97 2 v3 s.wt.length (ev s.wt)
 fX:∀b,some b=v3.ownBlock->own b=6
 lt:∀b,own b≠0->b<w.heap.size
section
variable {rp rb:Nat}{b9 bY:Int}{own:Nat->Nat}{s:cj}{m:List iw}{nk v2 v3:Value}{w w':au}
theorem cY.at {c:Option Addr}{l:List _}(h:cY w c l)(hs:w.heap.size<=w'.heap.size)(hk:∀b o,0<l.length->c=some ⟨b,o,none⟩->w'.heap[b]?=w.heap[b]?):cY w' c l:=
 h.keep hs (fun hp a e=>by obtain⟨b,o,d,f,_⟩:=h hp;rw[e] at d;cases d;exact hk _ _ hp e)
theorem pS.but (h:pS rp rb b9 bY own s m nk v2 v3 w)(hs:w.heap.size<=w'.heap.size)(hk:∀b,b<w.heap.size->own b≠0->w'.heap[b]?=w.heap[b]?):pS rp rb b9 bY own s m nk v2 v3 w':=
 {
  blk:=(hk _ (lt_of_some h.blk) (by rw[h.b1];decide)).trans h.blk,b1:=h.b1
  row:=cv h.row (fun b e=>hk b (ce h.row b e).2 (by rw[h.ro b e];decide)),ro:=h.ro,nd:=h.nd
  fl:=fun x c=>⟨(h.fl x c).1.at hs (fun b o hp e=>by obtain⟨i,j,d,f⟩:=(h.fl x c).2 hp;rw[e] at d;cases d;exact hk _ (h.lt _ (by rw[f];decide)) (by rw[f];decide)),(h.fl x c).2⟩
  rt:=(hk _ (lt_of_some h.rt) (by rw[h.r1];decide)).trans h.rt,rl:=h.rl,r1:=h.r1
  g2:=cv h.g2 (fun b e=>hk b (ce h.g2 b e).2 (by rw[h.fN b e];decide)),fN:=h.fN
  g3:=cv h.g3 (fun b e=>hk b (ce h.g3 b e).2 (by rw[h.fX b e];decide)),fX:=h.fX
  lt:=fun b g=>aM (h.lt b g) hs}
end
def cn (rp rb:Nat)(b9 bY:Int):dP cj where
 J F s w:=∃own m c v2 d,pS rp rb b9 bY own s m c v2 d w/\∀b,F b↔own b≠0
 lt:=by rintro F s w ⟨own,m,c,v2,d,h,e⟩ b f;exact h.lt b ((e b).1 f)
 keep:=by rintro F s w w' ⟨own,m,c,v2,d,h,e⟩ hs hk;exact⟨own,m,c,v2,d,h.but hs (fun b _ f=>hk b ((e b).2 f)),e⟩
section
variable {rp rb:Nat}{b9 bY:Int}{F:Nat->Prop}{s:cj}{w w':au}
theorem e5 (h:(cn rp rb b9 bY).J F s w):w.cell? (am rp 1)=some (.slice (ak rb) 12 12)/\w.cell? (am rp 4)=some (ah b9)/\w.cell? (am rp 5)=some (ah bY)/\rp<w.heap.size/\rb<w.heap.size/\(∀o,w.frozen? (am rp o)=false)/\s.rs.length=12/\
 (∀i,i<12->w.cell? (am rb (i*2))=some (ah (s.rs.getD i (0,0)).1)/\w.cell? (am rb (i*2+1))=some (ah (s.rs.getD i (0,0)).2)/\w.frozen? (am rb (i*2))=false/\w.frozen? (am rb (i*2+1))=false):=by
 obtain⟨own,m,f,v2,g,h,j⟩:=h;have b:=h.blk;have c:=h.rt;have hl:=h.rl;refine⟨by simp[World.cell?,b],by simp[World.cell?,b],by simp[World.cell?,b],lt_of_some b,lt_of_some c,fun o=>by simp[World.frozen?,b],hl,fun i hi=>?_⟩
 obtain⟨d,e⟩:=ol s.rs i V;refine⟨?_,?_,by simp[World.frozen?,c],by simp[World.frozen?,c]⟩
 ·simp[World.cell?,c];simpa using d
 ·simp[World.cell?,c];simpa using e
theorem kR (h:(cn rp rb b9 bY).J F s w)(i:Nat)(x:Int×Int):(cn rp rb b9 bY).J F {s with rs:=s.rs.set i x} ((w.setCell ⟨rb,i*2,none⟩ (.int .i64 x.1)).setCell ⟨rb,i*2+1,none⟩ (.int .i64 x.2))/\b_ F w F ((w.setCell ⟨rb,i*2,none⟩ (.int .i64 x.1)).setCell ⟨rb,i*2+1,none⟩ (.int .i64 x.2)):=by
 obtain⟨own,m,j,v2,k,h,d⟩:=h;have fr:Fr (fun b=>b=rb) w ((w.setCell ⟨rb,i*2,none⟩ (.int .i64 x.1)).setCell ⟨rb,i*2+1,none⟩ (.int .i64 x.2)):=((Fr.refl (fun b=>b=rb) w).set rb _ _ rfl).set rb _ _ rfl;refine⟨⟨own,m,j,v2,k,?_,d⟩,⟨fr.mono (fun b e=>(d b).2 (by rw[e,h.r1];decide)),fun _ h=>aJ h⟩⟩
 generalize hw:(w.setCell _ _).setCell _ _=w' at fr;have hk:∀b,b<w.heap.size->own b≠4->_=_:=fun b c l=>fr.block b c (fun e=>l (by rw[e];exact h.r1))
 exact {
  blk:=(hk _ (lt_of_some h.blk) (by rw[h.b1];decide)).trans h.blk,b1:=h.b1
  row:=cv h.row (fun b e=>hk b (ce h.row b e).2 (by rw[h.ro b e];decide)),ro:=h.ro,nd:=h.nd
  fl:=fun y hy=>⟨(h.fl y hy).1.at fr.size (fun b o hp e=>by obtain⟨n,p,f,g⟩:=(h.fl y hy).2 hp;rw[e] at f;cases f;exact hk _ (h.lt _ (by rw[g];decide)) (by rw[g];decide)),(h.fl y hy).2⟩
  rt:=by rw[<-hw];simp only [World.setCell,Array.getElem?_modify,if_true,h.rt,Option.map_some];simp[r4]
  rl:=by rw[aX];exact h.rl
  r1:=h.r1
  g2:=cv h.g2 (fun b e=>hk b (ce h.g2 b e).2 (by rw[h.fN b e];decide)),fN:=h.fN
  g3:=cv h.g3 (fun b e=>hk b (ce h.g3 b e).2 (by rw[h.fX b e];decide)),fX:=h.fX
  lt:=fun b c=>aM (h.lt b c) fr.size}
theorem kj (h:(cn rp rb b9 bY).J F s w):∃d cT,w.cell? (am rp 0)=some (.slice d s.T.length cT)/\(0<s.T.length->∃b,d=ak b/\b≠rp/\b≠rb)/\∀(i:Nat)(x:cG),s.T[i]?=some x->∃b k cp,d=ak b/\w.cell? (am b (i*4))=some (ah x.1)/\w.cell? (am b (i*4+1))=some (.slice k x.2.1.length cp)/\w.cell? (am b (i*4+2))=some (.bool x.2.2.1)/\w.cell? (am b (i*4+3))=some (.bool x.2.2.2)/\cY w k x.2.1/\∀fb dh,0<x.2.1.length->k=some ⟨fb,dh,none⟩->fb≠rb/\fb≠rp/\F fb:=by
 obtain⟨own,m,C,v2,D,h,v⟩:=h;obtain⟨d,cT,f⟩:=dQ h.row;have A:m.length=s.T.length:=by rw[<-h.nd];simp
 refine⟨d,cT,by simp[World.cell?,h.blk,f,A],fun hp=>?_,fun i x l=>?_⟩
 ·obtain⟨b,E,e⟩:=dW h.row V;rw[f] at e;cases e;have n:=h.ro b (by rw[f];rfl)
  exact⟨b,rfl,fun e=>by rw[e,h.b1] at n;omega,fun e=>by rw[e,h.r1] at n;omega⟩
 ·rw[<-h.nd] at l;obtain⟨y,hy,rfl⟩:∃y,m[i]?=some y/\y.1=x:=by simp at l;obtain⟨a,b,c⟩:=l;exact⟨_,c,rfl⟩
  have hi:=(List.getElem?_eq_some_iff.1 hy).1;rcases h.row.2 with⟨_,h0⟩|⟨g,G,H,p,n,j,I,J,K,B⟩
  ·omega
  ·rw[f] at p;obtain⟨rfl,_,rfl⟩:=p;obtain⟨k0,k1,q,t⟩:=vQ m i y hy;rw[<-B,List.getElem?_take_of_lt V] at k0 k1 q t;refine⟨g,y.2.1,y.2.2,rfl,?_,?_,?_,?_,(h.fl y (List.mem_of_getElem? hy)).1,fun fb dh hp e=>?_⟩
   ·simp[World.cell?,j];simpa using k0
   ·simp[World.cell?,j];simpa using k1
   ·simp[World.cell?,j];simpa using q
   ·simp[World.cell?,j];simpa using t
   ·obtain⟨L,M,u,o⟩:=(h.fl y (List.mem_of_getElem? hy)).2 hp;rw[e] at u;cases u;exact⟨fun c=>by rw[c,h.r1] at o;omega,fun c=>by rw[c,h.b1] at o;omega,(v _).2 (by rw[o];decide)⟩
theorem bB {α:Type _}{l:List α}{i:Nat}{a b:α}:a ∈ l.set i b -> a ∈ l \/ a = b:=List.mem_or_eq_of_mem_set
theorem pT (h:(cn rp rb b9 bY).J F s w):∃m n,m.map (fun x=>x.1)=s.T/\w.cell? (am rp 0)=some n/\w.ownsRow 0 99 4 n m.length (tv m)/\(some rp≠n.ownBlock/\some rb≠n.ownBlock)/\(∀b,some b=n.ownBlock->F b)/\
 (∀(x:iw)(v1:Value)(w1:au),Fr (fun b=>some b=n.ownBlock) w w1->w1.ownsRow 0 99 4 v1 (m++[x]).length (tv (m++[x]))->(∀b,some b=v1.ownBlock->some b=n.ownBlock\/w.heap.size<=b)->cY w1 x.2.1 x.1.2.1->(∀b o,0<x.1.2.1.length->x.2.1=some ⟨b,o,none⟩->¬F b/\some b≠v1.ownBlock)->
   (cn rp rb b9 bY).J (fun b=>F b\/some b=v1.ownBlock\/(0<x.1.2.1.length/\∃o,x.2.1=some ⟨b,o,none⟩)) {s with T:=s.T++[x.1]} (w1.setCell ⟨rp,0,none⟩ v1)/\Fr F w (w1.setCell ⟨rp,0,none⟩ v1))/\
 (∀(i:Nat)(x:iw)(g:Option Addr)(c:Nat)(f:List (Int×Int))(b:Nat),m[i]?=some x->some b=n.ownBlock->cY w g f->(∀b o,0<f.length->g=some ⟨b,o,none⟩->¬F b)->
   (cn rp rb b9 bY).J (fun b=>F b\/(0<f.length/\∃o,g=some ⟨b,o,none⟩)) {s with T:=s.T.set i (x.1.1,f,x.1.2.2)} (w.setCell ⟨b,i*4+1,none⟩ (.slice g f.length c))/\Fr F w (w.setCell ⟨b,i*4+1,none⟩ (.slice g f.length c))):=by
 classical
 obtain⟨own,m,n,v2,J,h,t⟩:=h;have I:=h.blk;have K:∀b,¬F b->_=_:=fun b q=>Classical.byContradiction (fun c=>q ((t b).2 c))
 have L:some rp≠n.ownBlock/\some rb≠n.ownBlock:=⟨fun e=>by have:=h.ro rp e;rw[h.b1] at this;omega,fun e=>by have:=h.ro rb e;rw[h.r1] at this;omega⟩
 refine⟨m,n,h.nd,by simp[World.cell?,I],h.row,L,fun b e=>(t b).2 (by rw[h.ro b e];decide),fun x v1 w1 E M Q A G=>?_,fun i x g c f b N q A G=>?_⟩
 ·have O:∀b,some b=v1.ownBlock->_:=fun b e=>(Q b e).elim (fun e=>aJ (h.ro b e)) (fun hl=>aI (Classical.byContradiction (fun c=>by have:=h.lt b c;omega)))
  have C:∀b,(0<x.1.2.1.length/\∃o,x.2.1=some ⟨b,o,none⟩)->_/\_:=fun b ⟨hp,o,e⟩=>⟨K b (G b o hp e).1,(G b o hp e).2⟩
  have p:∀b j,own b=j->j≠0->j≠2->(if some b=v1.ownBlock then 2 else if(0<x.1.2.1.length/\∃o,x.2.1=some ⟨b,o,none⟩) then 3 else own b)=j:=fun b j e h0 H=>by rw[aE (fun c=>by rcases O b c with c|c<;>omega),aE (fun c=>by have:=(C b c).1;omega)];exact e
  have sz:(w1.setCell ⟨rp,0,none⟩ v1).heap.size=w1.heap.size:=by simp[World.setCell]
  have hk:∀b,b<w.heap.size->own b≠2->own b≠1->(w1.setCell ⟨rp,0,none⟩ v1).heap[b]?=w.heap[b]?:=fun b q H R=>(aN _ _ _ _ (fun e=>R (by have e:=e;rw[e];exact h.b1))).trans (E.block b q (fun e=>H (h.ro b e)))
  have S:¬some rp=v1.ownBlock:=fun e=>by rcases O rp e with c|c<;>rw[h.b1] at c<;>omega
  refine⟨⟨fun b=>if some b=v1.ownBlock then 2 else if(0<x.1.2.1.length/\∃o,x.2.1=some ⟨b,o,none⟩) then 3 else own b,m++[x],v1,v2,J,?_,fun b=>?_⟩,?_⟩
  ·exact {
    blk:=by simp only [World.setCell,Array.getElem?_modify,if_true,((E.block rp (lt_of_some I) L.1).trans I),Option.map_some];simp
    b1:=p _ _ h.b1 aa aa
    row:=cv M (fun b e=>aN _ _ _ _ (fun d=>S (by have d:b=rp:=d;rw[<-d];exact e)))
    ro:=fun b e=>by rw[aH e]
    nd:=by simp[h.nd]
    fl:=fun y hy=>by
     rcases List.mem_append.1 hy with hy|hy
     ·refine⟨(h.fl y hy).1.at (by rw[sz];exact E.size) (fun b o hp e=>?_),fun hp=>?_⟩
      ·obtain⟨u,B,d,v⟩:=(h.fl y hy).2 hp;rw[e] at d;cases d;exact hk _ (h.lt _ (by rw[v];decide)) (by rw[v];decide) (by rw[v];decide)
      ·obtain⟨u,B,d,v⟩:=(h.fl y hy).2 hp;exact⟨u,B,d,p _ _ v aa aa⟩
     ·simp at hy;subst hy;refine⟨A.at (by rw[sz];exact aA _) (fun b o hp e=>aN _ _ _ _ (fun d=>?_)),fun hp=>?_⟩
      ·have d:=d;have:=(C b ⟨hp,o,e⟩).1;rw[d,h.b1] at this
       omega
      ·obtain⟨b,o,e,_⟩:=A hp;exact⟨b,o,e,by rw[aE (C b ⟨hp,o,e⟩).2,aH ⟨hp,o,e⟩]⟩
    rt:=(hk _ (lt_of_some h.rt) (by rw[h.r1];decide) (by rw[h.r1];decide)).trans h.rt
    rl:=h.rl
    r1:=p _ _ h.r1 aa aa
    g2:=cv h.g2 (fun b e=>hk b (ce h.g2 b e).2 (by rw[h.fN b e];decide) (by rw[h.fN b e];decide)),fN:=fun b e=>p _ _ (h.fN b e) aa aa
    g3:=cv h.g3 (fun b e=>hk b (ce h.g3 b e).2 (by rw[h.fX b e];decide) (by rw[h.fX b e];decide)),fX:=fun b e=>p _ _ (h.fX b e) aa aa
    lt:=fun b q=>by
     rw[sz];by_cases c1:some b=v1.ownBlock
     ·exact(ce M b c1).2
     ·by_cases c2:0<x.1.2.1.length/\∃o,x.2.1=some ⟨b,o,none⟩
      ·obtain⟨hp,o,e⟩:=c2;obtain⟨u,B,d,D,_⟩:=A hp;rw[e] at d;cases d;exact D
      ·rw[aE c1,aE c2] at q;exact aM (h.lt b q) E.size}
  ·by_cases c1:some b=v1.ownBlock
   ·simp[c1]
   ·by_cases c2:0<x.1.2.1.length/\∃o,x.2.1=some ⟨b,o,none⟩
    ·simp only [if_neg c1,if_pos c2];exact⟨fun _=>aa,fun _=>aI (aI c2)⟩
    ·simp only [if_neg c1,if_neg c2];exact⟨fun l=>l.elim (t b).1 (fun l=>l.elim (fun l=>absurd l c1) (fun l=>absurd l c2)),fun l=>aJ ((t b).2 l)⟩
  ·exact(E.mono (fun b e=>(t b).2 (by rw[h.ro b e];decide))).trans ((Fr.refl (fun b=>b=rp) w1).set rp 0 _ rfl) (fun b e=>aJ ((t b).2 (by rw[e,h.b1];decide)))
 ·have P:=h.ro b q;have C:∀b,(0<f.length/\∃o,g=some ⟨b,o,none⟩)->_=_:=fun b ⟨hp,o,e⟩=>K b (G b o hp e)
  have p:∀b j,own b=j->j≠0->(if(0<f.length/\∃o,g=some ⟨b,o,none⟩) then 3 else own b)=j:=fun b j e h0=>by rw[aE (fun c=>by have:=C b c;omega)];exact e
  have sz:(w.setCell ⟨b,i*4+1,none⟩ (.slice g f.length c)).heap.size=w.heap.size:=by simp[World.setCell]
  have hk:∀k,own k≠2->(w.setCell ⟨b,i*4+1,none⟩ (.slice g f.length c)).heap[k]?=w.heap[k]?:=fun k H=>aN _ _ _ _ (fun e=>H (by have e:=e;rw[e];exact P))
  have U:(w.setCell ⟨b,i*4+1,none⟩ (.slice g f.length c)).ownsRow 0 99 4 n (m.set i ((x.1.1,f,x.1.2.2),g,c)).length (tv (m.set i ((x.1.1,f,x.1.2.2),g,c))):=by
   obtain⟨u,X,e⟩:=dW h.row (Nat.lt_of_le_of_lt (aS i) (List.getElem?_eq_some_iff.1 N).1)
   have W:b=u:=by rw[e] at q;simpa[Value.ownBlock] using q
   subst W;rw[aX,vR m i x g c f N];have:=h.row;rw[e] at this⊢
   exact jq this _ _
  refine⟨⟨fun b=>if(0<f.length/\∃o,g=some ⟨b,o,none⟩) then 3 else own b,m.set i ((x.1.1,f,x.1.2.2),g,c),n,v2,J,?_,fun k=>?_⟩,?_⟩
  ·exact {
    blk:=(hk _ (by rw[h.b1];decide)).trans h.blk
    b1:=p _ _ h.b1 aa
    row:=U
    ro:=fun k e=>p _ _ (h.ro k e) aa
    nd:=by rw[List.map_set,h.nd]
    fl:=fun y hy=>by
     rcases bB hy with hy|hy
     ·refine⟨(h.fl y hy).1.at (by rw[sz];exact aA _) (fun b o hp e=>?_),fun hp=>?_⟩
      ·obtain⟨u,B,d,v⟩:=(h.fl y hy).2 hp;rw[e] at d;cases d;exact hk _ (by rw[v];decide)
      ·obtain⟨u,B,d,v⟩:=(h.fl y hy).2 hp;exact⟨u,B,d,p _ _ v aa⟩
     ·subst hy;refine⟨A.at (by rw[sz];exact aA _) (fun b o hp e=>hk _ (by have:=C b ⟨hp,o,e⟩;omega)),fun hp=>?_⟩
      obtain⟨b,o,e,_⟩:=A hp;exact⟨b,o,e,by rw[aH ⟨hp,o,e⟩]⟩
    rt:=(hk _ (by rw[h.r1];decide)).trans h.rt
    rl:=h.rl
    r1:=p _ _ h.r1 aa
    g2:=cv h.g2 (fun b e=>hk b (by rw[h.fN b e];decide)),fN:=fun b e=>p _ _ (h.fN b e) aa
    g3:=cv h.g3 (fun b e=>hk b (by rw[h.fX b e];decide)),fX:=fun b e=>p _ _ (h.fX b e) aa
    lt:=fun k D=>by
     rw[sz];by_cases c2:0<f.length/\∃o,g=some ⟨k,o,none⟩
     ·obtain⟨hp,o,e⟩:=c2;obtain⟨u,B,d,D,_⟩:=A hp;rw[e] at d;cases d;exact D
     ·rw[aE c2] at D;exact h.lt k D}
  ·by_cases c2:0<f.length/\∃o,g=some ⟨k,o,none⟩
   ·simp only [if_pos c2];exact⟨fun _=>aa,fun _=>aI c2⟩
   ·simp only [if_neg c2];exact⟨fun l=>l.elim (t k).1 (fun l=>absurd l c2),fun l=>aJ ((t k).2 l)⟩
  ·exact(Fr.refl F w).set b _ _ ((t b).2 (by rw[P];decide))
theorem pU (h:(cn rp rb b9 bY).J F s w):∃v2 f,w.cell? (am rp 2)=some v2/\w.cell? (am rp 3)=some f/\w.ownsRow 0 97 2 v2 s.rg.length (ev s.rg)/\w.ownsRow 0 97 2 f s.wt.length (ev s.wt)/\some rp≠v2.ownBlock/\
 ∀(l:List bZ)(v1:Value)(w1:au),Fr (fun b=>some b=v2.ownBlock) w w1->w1.ownsRow 0 97 2 v1 l.length (ev l)->(∀b,some b=v1.ownBlock->some b=v2.ownBlock\/w.heap.size<=b)->
  (cn rp rb b9 bY).J (fun b=>F b\/some b=v1.ownBlock) {s with rg:=l} (w1.setCell ⟨rp,2,none⟩ v1)/\Fr F w (w1.setCell ⟨rp,2,none⟩ v1):=by
 obtain⟨own,m,B,v2,f,h,q⟩:=h;have n:=h.blk;have t:some rp≠v2.ownBlock:=fun e=>by have:=h.fN rp e;rw[h.b1] at this;omega
 refine⟨v2,f,by simp[World.cell?,n],by simp[World.cell?,n],h.g2,h.g3,t,fun l v1 w1 g u C=>?_⟩
 have hnw:∀b,some b=v1.ownBlock->_:=fun b e=>(C b e).elim (fun e=>aJ (h.fN b e)) (fun hl=>aI (Classical.byContradiction (fun c=>by have:=h.lt b c;omega)))
 have i:∀b j,own b=j->j≠0->j≠5->(if some b=v1.ownBlock then 5 else own b)=j:=fun b j e h0 v=>by exact oo
 have sz:(w1.setCell ⟨rp,2,none⟩ v1).heap.size=w1.heap.size:=by simp[World.setCell]
 have hk:∀b,b<w.heap.size->own b≠5->own b≠1->(w1.setCell ⟨rp,2,none⟩ v1).heap[b]?=w.heap[b]?:=fun b p v D=>(aN _ _ _ _ (fun e=>D (by have e:=e;rw[e];exact h.b1))).trans (g.block b p (fun e=>v (h.fN b e)))
 have E:¬some rp=v1.ownBlock:=fun e=>by rcases hnw rp e with c|c<;>rw[h.b1] at c<;>omega
 refine⟨⟨fun b=>if some b=v1.ownBlock then 5 else own b,m,B,v1,f,?_,fun b=>?_⟩,?_⟩
 ·exact {
   blk:=by simp only [World.setCell,Array.getElem?_modify,if_true,((g.block rp (lt_of_some n) t).trans n),Option.map_some];simp
   b1:=i _ _ h.b1 aa aa
   row:=cv h.row (fun b e=>hk b (ce h.row b e).2 (by rw[h.ro b e];decide) (by rw[h.ro b e];decide))
   ro:=fun b e=>i _ _ (h.ro b e) aa aa
   nd:=h.nd
   fl:=fun y hy=>by
    refine⟨(h.fl y hy).1.at (by rw[sz];exact g.size) (fun b o hp e=>?_),fun hp=>?_⟩
    ·obtain⟨x,A,d,k⟩:=(h.fl y hy).2 hp;rw[e] at d;cases d;exact hk _ (h.lt _ (by rw[k];decide)) (by rw[k];decide) (by rw[k];decide)
    ·obtain⟨x,A,d,k⟩:=(h.fl y hy).2 hp;exact⟨x,A,d,i _ _ k aa aa⟩
   rt:=(hk _ (lt_of_some h.rt) (by rw[h.r1];decide) (by rw[h.r1];decide)).trans h.rt
   rl:=h.rl
   r1:=i _ _ h.r1 aa aa
   g2:=cv u (fun b e=>aN _ _ _ _ (fun d=>E (by have d:b=rp:=d;rw[<-d];exact e)))
   fN:=fun b e=>by rw[aH e]
   g3:=cv h.g3 (fun b e=>hk b (ce h.g3 b e).2 (by rw[h.fX b e];decide) (by rw[h.fX b e];decide)),fX:=fun b e=>i _ _ (h.fX b e) aa aa
   lt:=fun b p=>by
    rw[sz];by_cases c1:some b=v1.ownBlock
    ·exact(ce u b c1).2
    ·rw[aE c1] at p;exact aM (h.lt b p) g.size}
 ·by_cases c1:some b=v1.ownBlock
  ·simp[c1]
  ·simp[c1,q b]
 ·exact(g.mono (fun b e=>(q b).2 (by rw[h.fN b e];decide))).trans ((Fr.refl (fun b=>b=rp) w1).set rp 2 _ rfl) (fun b e=>aJ ((q b).2 (by rw[e,h.b1];decide)))
end
def iN (p:Int×Int)(t:cG):Int×Int:=if t.2.2.2=true then p else if t.2.2.1=true then(p.1,p.2+(1+t.2.1.length)) else(p.1+(1+t.2.1.length),p.2)
def dy (l:List cG):Int×Int:=l.foldl iN (0,0)
theorem vS (l:List cG)(t:cG):dy (l++[t])=iN (dy l) t:=by simp[dy,List.foldl_append]
theorem aO {α:Type _}(y:α){a:α}{l:List α}:a ∈ l -> a ∈ y :: l:=by intros;apply List.mem_cons_of_mem<;>assumption
theorem pV (l:List cG)(h:∀t∈l,t.2.1.length<=12):0<=(dy l).1/\(dy l).1<=13*l.length/\0<=(dy l).2/\(dy l).2<=13*l.length:=by
 have key:∀(l:List cG)(p:Int×Int),(∀t∈l,t.2.1.length<=12)->p.1<=(l.foldl iN p).1/\(l.foldl iN p).1<=p.1+13*l.length/\p.2<=(l.foldl iN p).2/\(l.foldl iN p).2<=p.2+13*l.length:=by
  intro l
  induction l with
  |nil=>simp
  |cons t l b=>
   intro p hl;have d:=b (iN p t) (fun x c=>hl x (aO _ c))
   have e:=hl t Z;rw[a8];have f:p.1<=(iN p t).1/\(iN p t).1<=p.1+13/\p.2<=(iN p t).2/\(iN p t).2<=p.2+13:=by
    unfold iN;split
    ·omega
    ·split
     ·dsimp only;omega
     ·dsimp only;omega
   simp only [List.length_cons];omega
 have:=key l (0,0) h;unfold dy;omega
section
variable {rp rb:Nat}{b9 bY:Int}{F:Nat->Prop}{s:cj}{w:au}
theorem bE {α:Type _}{i:Nat}{a:α}{l:List α}(h:a ∈ List.take i l):a ∈ l:=by intros;apply List.mem_of_mem_take<;>assumption
theorem pW (h:(cn rp rb b9 bY).J F s w)(o:∀t∈s.T,t.2.1.length<=12)(hl:s.T.length<=10000):
 Calls prog 16 #[aj rp] w fun e w'=>e=.returned (.tuple #[ah (dy s.T).1,ah (dy s.T).2])/\Below w.heap.size w w':=by
 have v:=hide h;have p:=hide o;clear h o;go_enter func16,ntmps16;go_wp2_with fail
 go_loopw [4,5,6] (fun A B iv wr=>∃(j:Nat)(x y:Int),j<=s.T.length/\iv=ah j/\A=ah x/\B=ah y/\av (dy (s.T.take j)=(x,y))/\Below w.heap.size w wr) (fun _ _ iv _=>s.T.length-(intOf iv).toNat)
 case atStart=>exact⟨0,0,0,aS _,rfl,rfl,rfl,rfl,aD _ _⟩
 case round=>
  obtain⟨j,x,y,K,rfl,rfl,rfl,f,c⟩:=hrel;have g:=(cn rp rb b9 bY).below v.o c;obtain⟨L,cT,c0,_,i⟩:=kj g;have bd:=pV (s.T.take j) (fun t ht=>p.o t (bE ht))
  rw[f.o] at bd;have C:(s.T.take j).length=j:=by rw[bf];omega
  rw[C] at bd;dsimp only at bd;obtain⟨M,N,O,P⟩:=bd;by_cases k:j<s.T.length
  ·obtain⟨t,ht⟩:∃t,s.T[j]?=some t:=⟨_,aG k⟩
   obtain⟨b,D,cp,rfl,E,G,H,I,_⟩:=i j t ht;have J:=p.o t (List.mem_of_getElem? ht)
   have l:av (dy (s.T.take (j+1))=iN (x,y) t):=by
    show _=_;rw[List.take_succ_eq_append_getElem k,vS,f.o]
    congr 1
    rw[aG k] at ht;simpa using ht
   obtain⟨kd,m,q,u⟩:=t;dsimp only at E G H I J;have j0:(0:Int)<=(j:Int):=V;have Q:(j:Int)<(s.T.length:Int):=V;have n:av (Below w.heap.size w (wr.alloc (.cells #[.int .i64 kd,.slice D m.length cp,.bool q,.bool u] 99))):=c.alloc c.size _;clear g i c ht;cases u
   ·cases q
    ·have d:=hide l.o;go_wp2_with fail;go_roundw;exact⟨j+1,x+(1+m.length),y,V,af,af,rfl,d,n.o⟩
     simp[intOf];omega
    ·have d:=hide l.o;go_wp2_with fail;go_roundw;exact⟨j+1,x,y+(1+m.length),V,af,rfl,af,d,n.o⟩
     simp[intOf];omega
   ·have d:=hide l.o;go_wp2_with fail;go_roundw;exact⟨j+1,x,y,V,af,rfl,rfl,d,n.o⟩
    simp[intOf];omega
  ·obtain rfl:j=s.T.length:=V;rw[a_] at f;clear g i;go_wp2_with fail;go_ret2;rw[f.o];exact⟨rfl,c⟩
end
open Go.RowKit W
def hB (b u a:Int):Bool:=decide (b<=a/\a<b+u)
theorem jc {b u a:Int}(h:hB b u a=true):b<=a/\a<b+u:=by simpa[hB] using h
def da (N y g:Nat)(a:Int):Bool:=hB 0 y a||hB N g a
def ld (N y g:Nat)(ws:List Int)(a:Int):Int:=if da N y g a=true then ws.getD a.toNat 0 else 0
theorem jd {N O y g:Nat}{a:Int}(h:da N y g a=true)(hy:y<=N)(hg:g<=O):0<=a/\a<(N:Int)+O:=by
 rcases Bool.or_eq_true _ _▸h with h|h
 ·have:=jc h;omega
 ·have:=jc h;omega
theorem lC (b s u:Int)(w:au)(c:0<=b)(d:b<=100000)(f:0<=u)(g:u<=100000):
 Calls prog 137 #[.agg #[ah b,ah s,ah u]] w fun e w'=>e=.returned (ah (b+u))/\Below w.heap.size w w':=by
 exact ly
theorem oq (b s u:Int)(w:au)(c:0<=s)(d:s<=100000)(f:0<=u)(g:u<=100000):
 Calls prog 136 #[.agg #[ah b,ah s,ah u]] w fun e w'=>e=.returned (ah (s-u))/\Below w.heap.size w w':=by
 exact ly
theorem vU (b s u a:Int)(w:au)(c:0<=b)(d:b<=100000)(f:0<=u)(g:u<=100000):
 Calls prog 141 #[.agg #[ah b,ah s,ah u],ah a] w fun e w'=>e=.returned (.bool (hB b u a))/\Below w.heap.size w w':=by
 by_cases h:b<=a
 ·have e:hB b u a=decide (a<b+u):=by simp[hB,h]
  rw[e];go_enter func141,ntmps141;go_wp2_with fail;refine(lC b s u _ c d f g).mono ?_;rintro e w1 ⟨rfl,i⟩
  go_wp2;go_ret;exact⟨rfl,(bX.alloc bW _).trans (i.mono Z)⟩
 ·have e:hB b u a=false:=by simp[hB,h]
  rw[e];exact ly
theorem me {p q N O y g:Nat}{ws:List Int}(a:Int)(w:au)(h:At w p q N O y g ws):
 Calls prog 70 #[aj p,ah a] w fun e w'=>e=.returned (.bool (hB 0 y a))/\Below w.heap.size w w':=by
 obtain⟨c0,c1,c2,c3,c4,c5,b⟩:=h.cells;have k1:=h.hN';have c:=h.hy;go_enter func70,ntmps70;go_wp2_with fail;refine(vU 0 N y a _ V V V V).mono ?_;exact pR
theorem mf {p q N O y g:Nat}{ws:List Int}(a:Int)(w:au)(h:At w p q N O y g ws):
 Calls prog 71 #[aj p,ah a] w fun e w'=>e=.returned (.bool (hB N g a))/\Below w.heap.size w w':=by
 obtain⟨c0,c1,c2,c3,c4,c5,b⟩:=h.cells;have k1:=h.hN';have c:=h.hO;have d:=h.hg;go_enter func71,ntmps71;go_wp2_with fail;refine(vU N O g a _ V V V V).mono ?_;exact pR
theorem pX {p q N O y g:Nat}{ws:List Int}(a:Int)(w:au)(h:At w p q N O y g ws):
 Calls prog 139 #[aj p,ah a] w fun e w'=>e=.returned (.bool (da N y g a))/\Below w.heap.size w w':=by
 cases hy:hB 0 y a
 ·have e:da N y g a=hB N g a:=by simp[da,hy]
  rw[e];have b:=hide hy;go_enter func139,ntmps139;go_wp2_with fail;refine(me a _ h).mono ?_;rintro e w1 ⟨rfl,hb1⟩
  rw[b.o];go_wp2_with fail;refine(mf a _ (h.below hb1 bW)).mono ?_;rintro e d ⟨rfl,c⟩
  go_wp2;go_ret;exact⟨rfl,hb1.trans (c.mono hb1.size)⟩
 ·have e:da N y g a=true:=by simp[da,hy]
  rw[e];go_enter func139,ntmps139;go_wp2_with fail;refine(me a _ h).mono ?_;exact pR
theorem jr {p q N O y g:Nat}{ws:List Int}(a:Int)(w:au)(h:At w p q N O y g ws):
 Calls prog 73 #[aj p,ah a] w fun e w'=>e=.returned (ah (ld N y g ws a))/\Below w.heap.size w w':=by
 cases hi:da N y g a
 ·have e:ld N y g ws a=0:=by simp[ld,hi]
  rw[e];have c:=hide hi;go_enter func73,ntmps73;go_wp2_with fail;refine(pX a _ h).mono ?_;rintro e w1 ⟨rfl,b⟩
  rw[c.o];go_wp2;go_ret;exact⟨rfl,b⟩
 ·have e:ld N y g ws a=ws.getD a.toNat 0:=by simp[ld,hi]
  rw[e];obtain⟨f,i⟩:=jd hi h.hy h.hg;have c:=hide hi;clear hi;go_enter func73,ntmps73;go_wp2_with fail;refine(pX a _ h).mono ?_;rintro e w1 ⟨rfl,b⟩
  rw[c.o];have d:=h.below b bW
  obtain⟨c0,c1,c2,c3,c4,c5,j⟩:=d.cells;have k:=d.word a.toNat V;go_wp2;go_ret;exact⟨rfl,b⟩
theorem kk {p q N O y g:Nat}{ws:List Int}(a x:Int)(w:au)(h:At w p q N O y g ws):
 Calls prog 68 #[aj p,ah a,ah x] w fun e w'=>e=.returned (.bool (da N y g a))/\At w' p q N O y g (if da N y g a=true then ws.set a.toNat x else ws)/\c7 p q w w':=by
 cases hi:da N y g a
 ·rw[aE Z];have d:=hide hi;go_enter func68,ntmps68;go_wp2_with fail;refine(pX a _ h).mono ?_;rintro e w1 ⟨rfl,b⟩
  rw[d.o];go_wp2;go_ret;exact⟨rfl,h.below b bW,c7.of b⟩
 ·rw[aH rfl];obtain⟨f,i⟩:=jd hi h.hy h.hg;go_enter func68,ntmps68;go_wp2_with fail;refine(pX a _ h).mono ?_;rintro e w1 ⟨rfl,b⟩
  have c:=h.below b bW
  obtain⟨c0,c1,c2,c3,c4,c5,j⟩:=c.cells;have k:=c.word a.toNat V;have l:=c.rW a.toNat;go_wp2;go_ret;exact⟨rfl,c.set a.toNat x,(c7.of b).trans (c7.rV _ _)⟩
theorem fY {p q N O y g:Nat}{ws:List Int}(a:Int)(w:au)(h:At w p q N O y g ws):
 Calls prog 77 #[aj p,ah a] w fun e w'=>e=.returned (.tuple #[ah (pk (ld N y g ws a)),ah (pf (ld N y g ws a)),ah (pc (ld N y g ws a))])/\Below w.heap.size w w':=by
 go_enter func77,ntmps77;go_wp2_with fail;refine(jr a _ h).mono ?_;rintro e w1 ⟨rfl,b⟩
 go_wp2_with fail;refine(BN _ _).mono ?_;rintro e c ⟨rfl,rfl⟩
 go_wp2
 go_ret3
 exact⟨rfl,b⟩
theorem kl {p q N O y g:Nat}{ws:List Int}(w:au)(h:At w p q N O y g ws):
 Calls prog 15 #[aj p] w fun e w'=>e=.returned (.tuple #[ah y,ah g])/\Below w.heap.size w w':=by
 obtain⟨c0,c1,c2,c3,c4,c5,b⟩:=h.cells;exact r6
theorem mh {p q N O y g:Nat}{ws:List Int}(w:au)(h:At w p q N O y g ws):
 Calls prog 61 #[aj p] w fun e w'=>e=.returned (.tuple #[ah 0,ah N])/\Below w.heap.size w w':=by
 obtain⟨c0,c1,c2,c3,c4,c5,b⟩:=h.cells;exact r6
theorem vV {p q N O y g:Nat}{ws:List Int}(w:au)(h:At w p q N O y g ws):
 Calls prog 89 #[aj p] w fun e w'=>e=.returned (.tuple #[])/\At w' p q N O 0 g ws/\c7 p q w w':=by
 obtain⟨c0,c1,c2,c3,c4,c5,b⟩:=h.cells;have c:=h.frozen 3;go_wp2;go_end0;exact⟨rfl,h.vB 0 (aS _),c7.oj _ _⟩
theorem BV {p q N O y g:Nat}{ws:List Int}(n:Int)(w:au)(h:At w p q N O y g ws)(h0:0<=n)(b:n<=O):
 Calls prog 130 #[aj p,ah n] w fun e w'=>e=.returned (.tuple #[])/\At w' p q N O y n.toNat ws/\c7 p q w w':=by
 obtain⟨n,rfl⟩:=Int.eq_ofNat_of_zero_le h0;obtain⟨c0,c1,c2,c3,c4,c5,c⟩:=h.cells;have d:=h.frozen 6;go_wp2;go_end0;exact⟨rfl,h.vC n V,c7.oj _ _⟩
theorem BW {p q N O y g:Nat}{ws:List Int}(n:Int)(w:au)(h:At w p q N O y g ws)(h0:0<=n)(j:n<=(N:Int)-y):
 Calls prog 65 #[.pointer (some ⟨p,1,none⟩),ah n] w fun e w'=>e=.returned (.tuple #[ah y,.bool true])/\At w' p q N O (y+n.toNat) g ws/\c7 p q w w':=by
 obtain⟨n,rfl⟩:=Int.eq_ofNat_of_zero_le h0;obtain⟨c0,c1,c2,c3,c4,c5,c⟩:=h.cells;have k1:=h.hN';have k:=h.hy;go_enter func65,ntmps65;go_wp2_with fail;refine(oq 0 N y _ V V V V).mono ?_;rintro e w1 ⟨rfl,d⟩
 have f:=h.below d bW
 obtain⟨c0,c1,c2,c3,c4,c5,c⟩:=f.cells;go_wp2_with fail;refine(lC 0 N y _ V V V V).mono ?_;rintro e l ⟨rfl,i⟩
 have b:=f.below i bW
 obtain⟨c0,c1,c2,c3,c4,c5,c⟩:=b.cells;have m:=b.frozen 3;go_wp2_with fail;go_ret2;exact⟨Z,b.vB (y+n) V,((c7.of d).trans (c7.of i)).trans (c7.oj _ _)⟩
theorem BX {p q N O y g:Nat}{ws:List Int}(n:Int)(w:au)(h:At w p q N O y g ws)(h0:(N:Int)-y<n):
 Calls prog 65 #[.pointer (some ⟨p,1,none⟩),ah n] w fun e w'=>e=.returned (.tuple #[ah 0,.bool false])/\Below w.heap.size w w':=by
 obtain⟨c0,c1,c2,c3,c4,c5,c⟩:=h.cells;have k1:=h.hN';have d:=h.hy;go_enter func65,ntmps65;go_wp2_with fail;refine(oq 0 N y _ V V V V).mono ?_;rintro e w1 ⟨rfl,b⟩
 go_wp2;go_ret2;exact⟨rfl,b⟩
theorem BY {p q N O y g:Nat}{ws:List Int}(n:Int)(w:au)(h:At w p q N O y g ws)(h0:0<=n)(j:n<=(O:Int)-g):
 Calls prog 65 #[.pointer (some ⟨p,4,none⟩),ah n] w fun e w'=>e=.returned (.tuple #[ah (N+g:Nat),.bool true])/\At w' p q N O y (g+n.toNat) ws/\c7 p q w w':=by
 obtain⟨n,rfl⟩:=Int.eq_ofNat_of_zero_le h0;obtain⟨c0,c1,c2,c3,c4,c5,c⟩:=h.cells;have k1:=h.hN';have k:=h.hg;have l:=h.hO;go_enter func65,ntmps65;go_wp2_with fail;refine(oq N O g _ V V V V).mono ?_;rintro e w1 ⟨rfl,d⟩
 have f:=h.below d bW
 obtain⟨c0,c1,c2,c3,c4,c5,c⟩:=f.cells;go_wp2_with fail;refine(lC N O g _ V V V V).mono ?_;rintro e m ⟨rfl,i⟩
 have b:=f.below i bW
 obtain⟨c0,c1,c2,c3,c4,c5,c⟩:=b.cells;have o:=b.frozen 6;go_wp2_with fail;go_ret2;exact⟨Z,b.vC (g+n) V,((c7.of d).trans (c7.of i)).trans (c7.oj _ _)⟩
theorem BZ {p q N O y g:Nat}{ws:List Int}(n:Int)(w:au)(h:At w p q N O y g ws)(h0:(O:Int)-g<n):
 Calls prog 65 #[.pointer (some ⟨p,4,none⟩),ah n] w fun e w'=>e=.returned (.tuple #[ah 0,.bool false])/\Below w.heap.size w w':=by
 obtain⟨c0,c1,c2,c3,c4,c5,c⟩:=h.cells;have d:=h.hg;have f:=h.hO;go_enter func65,ntmps65;go_wp2_with fail;refine(oq N O g _ V V V V).mono ?_;rintro e w1 ⟨rfl,b⟩
 go_wp2;go_ret2;exact⟨rfl,b⟩
theorem ot {p q N O y g:Nat}{ws:List Int}(w:au)(h:At w p q N O y g ws):
 Calls prog 80 #[aj p] w fun e w'=>e=.returned (.tuple #[ah ((N:Int)-y),ah ((O:Int)-g)])/\Below w.heap.size w w':=by
 obtain⟨c0,c1,c2,c3,c4,c5,f⟩:=h.cells;have k1:=h.hN';have i:=h.hg;have j:=h.hO;have k:=h.hy;go_enter func80,ntmps80;go_wp2_with fail
 go_region_with (go_at_call 136;refine(oq _ _ _ _ V V V V).mono ?_;rintro e w1 ⟨rfl,b⟩;have d:At w1 p q N O y g ws:=(by first|exact h.drew.below b bW|exact d.below b bW);have c:Below w.heap.size w w1:=(by first|exact(aD _ w).drew.trans b|exact c.trans (b.mono c.size));obtain⟨c0,c1,c2,c3,c4,c5,f⟩:=d.cells)
 all_goals
  go_wp2_with fail;go_ret2;exact⟨rfl,c⟩
theorem vW:(prog.info? 2).map (fun i=>(i.zero,i.size,i.bytes))=some (some (ah 0),1,8):=ae
theorem vX {w:au}{b k n:Nat}(h:w.ownsRow b 2 1 (.slice (ak k) n n) n (madeCells (Value.int .i64 0).cells (n*1)).toList):
 w.heap[k]?=some (.cells ((List.replicate n (0:Int)).map (Value.int .i64)).toArray 2 (0,0)):=by
 exact vO
theorem r7 {w:au}{k:Nat}(o:Obj)(h:w.heap.size=k):(w.alloc o).heap[k]?=some o:=by subst h;exact aL _ _
theorem B0 {w w1:au}{a b:Value}{t:TypeId}(hg:(w.alloc (.cells #[a,b] t)).grownBy w1 none):
 w1.cell? (am w.heap.size 0)=some a/\w1.cell? (am w.heap.size 1)=some b/\w1.frozen? (am w.heap.size 0)=false/\w1.frozen? (am w.heap.size 1)=false/\w.heap.size<w1.heap.size:=by
 have c:=hg.block w.heap.size Z Z;have hz:=hg.size;rw[(aL _ _)] at c;refine⟨?_,?_,?_,?_,by simp at hz;omega⟩<;>simp[World.cell?,World.frozen?,c]
theorem B3 (n o:Int)(w:au)(h0:16<=n)(l:n<=256)(d:0<=o)(m:o<=1024):
 Calls prog 60 #[ah n,ah o] w fun e w'=>∃p q,e=.returned (.tuple #[aj p,.agg #[ah 0,ah 0]])/\At w' p q n.toNat o.toNat 0 0 (List.replicate (n.toNat+o.toNat) 0)/\w.heap.size<=p/\w.heap.size<=q/\Below w.heap.size w w':=by
 obtain⟨n,rfl⟩:=Int.eq_ofNat_of_zero_le (show 0<=n by omega)
 obtain⟨o,rfl⟩:=Int.eq_ofNat_of_zero_le d;simp only [Int.toNat_natCast];obtain⟨f,hi,g,i,j⟩:=info_parts vW;go_enter func60,ntmps60;go_wp2_with (at_make;refine wpList_make_full _ rfl _ _ 53 rfl w.heap.size 2 f (ah 0) 1 underlying53 hi g i .i64 .i64 _ _ (n+o) rfl rfl V V (by rw[j];omega) (by unfold maxLen;omega) Z ?_;intro w1 k c;obtain⟨c0,c1,s,t,hz⟩:=B0 c)
 have b:=vX k;simp only [World.size_alloc] at b;have u:=lt_of_some b;refine bv (v:=.tuple #[aj w1.heap.size,.agg #[ah 0,ah 0]]) (by simp[results,results60,go_sem,c0,c1,hz]) rfl ⟨w1.heap.size,w.heap.size+1,rfl,⟨?_,?_,Z,V,V,V,V,V⟩,V,V,?_⟩
 ·exact r7 _ (by simp[World.setCell])
 ·refine(a4 _ _ _ (by simp[World.setCell];omega)).trans ?_;rw[aN _ _ _ _ Z,aN _ _ _ _ Z];exact b
 ·refine Below.alloc (Below.setCell (Below.setCell ?_ ?_ _) ?_ _) ?_ _
  ·exact(bX.alloc bW _).grown c Z (fun _ h=>by cases h)
  ·exact aA _
  ·exact aA _
  ·simp[World.setCell];omega
theorem B4 (n o:Int)(w:au)(h:n<16\/256<n\/o<0\/1024<o):
 Calls prog 60 #[ah n,ah o] w fun e w'=>e=.returned (.tuple #[.pointer none,.agg #[ah 1,ah (-1)]])/\Below w.heap.size w w':=by
 by_cases b:n<16
 ·go_enter func60,ntmps60;exact r5
 by_cases c:256<n
 ·go_enter func60,ntmps60;exact r5
 by_cases d:o<0
 ·go_enter func60,ntmps60;exact r5
 have f:1024<o:=V;go_enter func60,ntmps60;go_wp2_with fail;exact bv (v:=.tuple #[.pointer none,.agg #[ah 1,ah (-1)]]) (by simp[results,results60,go_sem]) rfl ⟨rfl,bX.alloc bW _⟩
def ff (ws:List Int)(y:Nat)(hd:Int):Nat->List Int
 |0=>ws.set y hd
 |k+1=>(ff ws y hd k).set (y+1+k) 2
theorem bu (n:Int):Go.IntKind.i64.wrap n = (n + 9223372036854775808) % 18446744073709551616 - 9223372036854775808:=IntKind.wrap_i64 ..
theorem B5 {p q N O y g:Nat}{ws:List Int}(k f:Int)(w:au)(h:At w p q N O y g ws)(hk:hc k f=0)(s:f+1<=(N:Int)-y):
 Calls prog 24 #[aj p,ah k,ah f] w fun e w'=>e=.returned (ah y)/\At w' p q N O (y+1+f.toNat) g (ff ws y (hw k f) f.toNat)/\c7 p q w w':=by
 obtain⟨_,_,o,t⟩:=iE k f hk;obtain⟨f,rfl⟩:=Int.eq_ofNat_of_zero_le o;simp only [Int.toNat_natCast];have H:av (hc k f=0):=hk;clear hk;have k1:=h.hN';have u:=h.hy;have v:=h.hO;have x:=h.hg;go_enter func24,ntmps24;go_wp2_with fail;refine(oi k f _).mono ?_;rintro e w1 ⟨rfl,rfl⟩
 rw[H.o];obtain⟨c0,c1,c2,c3,c4,c5,d⟩:=h.cells;go_wp2_with fail;refine(BW (1+f) _ h V V).mono ?_;rintro e A ⟨rfl,b,s2⟩
 rw[show(1+(f:Int)).toNat=1+f by omega] at b;obtain⟨c0,c1,c2,c3,c4,c5,d⟩:=b.cells;have l:=b.word y V;have m:=b.rW y;have b1:(y:Int)<((N+O:Nat):Int):=V;go_wp2_with fail
 go_loopw [39] (fun i wr=>∃j:Nat,j<=f/\i=ah j/\At wr p q N O (y+(1+f)) g (ff ws y (hw k f) j)/\c7 p q w1 wr) (fun i _=>f-(intOf i).toNat)
 case atStart=>exact⟨0,aS _,rfl,b.set y _,s2.trans (c7.rV _ _)⟩
 case round=>
  obtain⟨j,B,rfl,c,n⟩:=hrel;clear c0 c1 c2 c3 c4 c5 d l m;obtain⟨c0,c1,c2,c3,c4,c5,d⟩:=c.cells;by_cases C:j<f
  ·have l:=c.word (y+1+j) V;have m:=c.rW (y+1+j)
   have b2:(y:Int)+1+j<((N+O:Nat):Int):=V;go_wp2_with fail;have b3:(0:Int)<=(y:Int)+1+j:=V;have b4:((y:Int)+1+j).toNat=y+1+j:=V;have b5:(y:Int)+1+j<(N:Int)+O:=V;have b6:IntKind.i64.wrap ((y:Int)+1)=(y:Int)+1:=by rw[bu];omega
   have D:IntKind.i64.wrap ((y:Int)+1+j)=(y:Int)+1+j:=by rw[bu];omega
   go_region_with (go_at_call 30;refine(rU _).mono ?_;rintro e w3 ⟨rfl,rfl⟩)
   all_goals
    go_wp2_with fail;go_roundw
    case rel=>exact⟨j+1,V,af,c.drew.set _ _,n.drew.trans (c7.rV _ _)⟩
    case measure=>simp[intOf];omega
  ·go_wp2_with fail;go_ret;have e:j=f:=V;subst e;exact⟨rfl,by rw[Nat.add_assoc];exact c,n⟩
theorem B6 {p q N O y g:Nat}{ws:List Int}(k f:Int)(w:au)(h:At w p q N O y g ws)(hk:hc k f≠0\/(N:Int)-y<f+1):
 Calls prog 24 #[aj p,ah k,ah f] w fun e w'=>e=.returned (ah (-1))/\Below w.heap.size w w':=by
 by_cases c:hc k f=0
 ·obtain⟨_,_,d,i⟩:=iE k f c;go_enter func24,ntmps24;go_wp2_with fail;refine(oi k f _).mono ?_;rintro e w1 ⟨rfl,rfl⟩
  rw[(hide c).o];obtain⟨c0,c1,c2,c3,c4,c5,j⟩:=h.cells;go_wp2_with fail;refine(BX (1+f) _ h V).mono ?_;rintro e l ⟨rfl,b⟩
  go_wp2;go_ret;exact⟨rfl,b⟩
 ·go_enter func24,ntmps24;go_wp2_with fail;refine(oi k f _).mono ?_;rintro e w1 ⟨rfl,rfl⟩
  go_wp2;go_ret;exact⟨rfl,aD _ _⟩
theorem B7 {p q N O y g:Nat}{ws:List Int}(a n:Int)(w:au)(h:At w p q N O y g ws)(h0:0<=a)(b:0<=n)(c:a+n<=(N:Int)+O):
 Calls prog 174 #[aj p,ah a,ah n] w fun e w'=>e=.returned (.bool true)/\w'=w:=by
 obtain⟨c0,c1,c2,c3,c4,c5,d⟩:=h.cells;have k1:=h.hN';have f:=h.hO;go_wp2;go_ret;exact⟨by simp;omega,rfl⟩
def nl (w w':au)(g:Nat)(c:List Value)(d:Nat)(b:List Value):Prop:=
 (b=[]/\w'=w)\/w'=w.setRow g (splice c d b).toArray
theorem pY {P:Program}{ops:Array Oper}{o:Oper}{a:Act}{w:au}{K:Act->au->Prop}{Q:Exit->Act->au->Prop}{E:Prop}(D:o.guard=none)(u s:Operand)(c m d:TypeId)
 (x:o.op=.call {callee:=.builtin .copy,args:=#[u,s],argTypes:=#[c,m]})(A:P.underlying c=some (.slice d))(B:(P.info? d).map (·.size)=some 1)
 (n sp:Option Addr)(e p f q:Nat)(hd:a.eval u=.slice n e p)(hs:a.eval s=.slice sp f q)
 (g i:Nat)(k:List Value)(t:TypeId)(hg:w.heap[g]?=some (.cells k.toArray t (0,0)))(b:List Value)(C:b.length=Nat.min f e)
 (F:0<b.length->n=some ⟨g,i,none⟩/\∃l,sp=some l/\∀j v,b[j]?=some v->w.cell? (l.add j)=some v)
 (G:i+b.length<=k.length)(H:∀v∈b,v.oneCell'=true)
 (h:∀w',nl w w' g k i b->K (a.put o.dst (goInt b.length)) w'):
 if Region.wanted o (yielded ops a.tmps)=true then Oper.wp P o a w K Q else E:=by
 rw[aH (show Region.wanted o (yielded ops a.tmps)=true by simp[Region.wanted,D])];rcases Nat.eq_zero_or_pos b.length with h0|h0
 ·have I:=List.eq_nil_of_length_eq_zero h0;subst I;unfold Oper.wp;simp[execOp,x,resolve,invoke,builtin,hd,hs,(run_copy_none (P:=P) w c m o.type d n sp e p f q A B (by simpa using C.symm)),Result.andThen];exact h w (aJ ⟨rfl,rfl⟩)
 ·obtain⟨J,l,L,M⟩:=F h0;subst J L;unfold Oper.wp;simp[execOp,x,resolve,invoke,builtin,hd,hs,(run_copy_row (P:=P) w c m o.type d g i e p l f q k.toArray t b A B hg C M (by simpa using G) H),Result.andThen];exact h _ (aI (by simp[splice]))
theorem r8:(prog.info? 2).map (·.size)=some 1:=ae
theorem ou (l:List Int):∀v∈l.map (Value.int .i64),v.oneCell'=true:=by intro v b;obtain⟨x,_,rfl⟩:=List.mem_map.1 b;rfl
theorem r9 (ws b:List Int)(t:Nat):splice (ws.map (Value.int .i64)) t (b.map (Value.int .i64))=(splice ws t b).map (Value.int .i64):=by simp[splice,List.map_take,List.map_drop]
theorem At.moved {w w':au}{p q N O y g:Nat}{ws b:List Int}{t:Nat}(h:At w p q N O y g ws)(hm:nl w w' q (ws.map (Value.int .i64)) t (b.map (Value.int .i64)))(c:t+b.length<=N+O):
 At w' p q N O y g (splice ws t b)/\c7 p q w w':=by
 rcases hm with⟨e,rfl⟩|rfl
 ·have d:b=[]:=by simpa using e
  subst d;have f:splice ws t []=ws:=by simp[splice]
  rw[f];exact⟨h,c7.refl _ _ _⟩
 ·rw[r9];exact⟨h.row (by rw[length_splice _ _ _ (by rw[h.hl];exact c)];exact h.hl),c7.BO _⟩
theorem bq {α:Type _}{β:Type _}{f:α -> β}{l:List α}{i:Nat}:(List.map f l)[i]? = Option.map f l[i]?:=List.getElem?_map ..
theorem At.src {w:au}{p q N O y g:Nat}{ws:List Int}(h:At w p q N O y g ws)(f n:Nat)(i:f+n<=N+O)(j:Nat)(v:Value)(c:(((ws.drop f).take n).map (Value.int .i64))[j]?=some v):
 w.cell? ((⟨q,f,none⟩:Addr).add j)=some v:=by
 rw[bq] at c;obtain⟨x,b,rfl⟩:=Option.map_eq_some_iff.1 c;have d:=(List.getElem?_eq_some_iff.1 b).1;have e:j<n:=by simp at d;omega
 have:=h.word (f+j) V;rw[show((⟨q,f,none⟩:Addr).add j)=⟨q,f+j,none⟩ by simp[Addr.add],this];rw[List.getElem?_take_of_lt e,List.getElem?_drop] at b;simp[List.getD_eq_getElem?_getD,b]
theorem aQ {α:Type _}{β:Type _}{«as»:List α}(f:α -> β):(List.map f «as»).length = «as».length:=List.length_map ..
theorem vY {p q N O y g:Nat}{ws:List Int}(t f n:Nat)(w:au)(b:At w p q N O y g ws)(B:t+n<=N+O)(l:f+n<=N+O):
 Calls prog 129 #[aj p,ah t,ah f,ah n] w fun e w'=>e=.returned (.tuple #[])/\At w' p q N O y g (splice ws t ((ws.drop f).take n))/\c7 p q w w':=by
 obtain⟨c0,c1,c2,c3,c4,c5,C⟩:=b.cells;have k1:=b.hN';have D:=b.hO;have hl:=b.hl;have b1:IntKind.i64.wrap ((t:Int)+n)=(t:Int)+n:=by rw[bu];omega
 have b2:IntKind.i64.wrap ((f:Int)+n)=(f:Int)+n:=by rw[bu];omega
 have b3:(t:Int)+n<=(N:Int)+O:=V;have b4:(f:Int)+n<=(N:Int)+O:=V;have b5:((t:Int)+n).toNat=t+n:=V;have b6:((f:Int)+n).toNat=f+n:=V;have E:(0:Int)<=(t:Int)+n:=V;have F:(0:Int)<=(f:Int)+n:=V;have c:((ws.drop f).take n).length=n:=by simp;omega
 have m:av ((((ws.drop f).take n).map (Value.int .i64)).length=Nat.min n n):=by show _=_;rw[aQ,c];simp
 have o:av (0<(((ws.drop f).take n).map (Value.int .i64)).length->(if N+O=t then some (⟨q,0,none⟩:Addr) else some ⟨q,t,none⟩)=some ⟨q,t,none⟩/\∃d,(if N+O=f then some (⟨q,0,none⟩:Addr) else some ⟨q,f,none⟩)=some d/\∀j v,(((ws.drop f).take n).map (Value.int .i64))[j]?=some v->w.drew.cell? (d.add j)=some v):=by intro s;rw[aQ,c] at s;rw[aE V,aE V];exact⟨rfl,_,rfl,fun j v u=>b.drew.src f n l j v u⟩
 have x:av (t+(((ws.drop f).take n).map (Value.int .i64)).length<=(ws.map (Value.int .i64)).length):=by show _<=_;rw[aQ,aQ,c];omega
 clear c hl;go_enter func129,ntmps129;go_wp2_with (go_at_call 174;refine(B7 _ _ _ b ?_ ?_ ?_).mono ?_;omega;omega;omega;rintro e w1 ⟨rfl,hw⟩;have hw:=hw.symm;subst hw)
 go_region_law (refine pY rfl (.tmp 26) (.tmp 35) 53 53 2 rfl underlying53 r8 (if N+O=t then ak q else some ⟨q,t,none⟩) (if N+O=f then ak q else some ⟨q,f,none⟩) n (N+O-t) n (N+O-f) ?_ ?_ q t (ws.map (Value.int .i64)) 2 b.drew.hq (((ws.drop f).take n).map (Value.int .i64)) m.o o.o x.o (ou _) ?_;(first|rfl|simp[Act.eval,Act.put]);(first|rfl|simp[Act.eval,Act.put]);intro G i;obtain⟨k,A⟩:=b.drew.moved i (by simp;omega);clear i)
 all_goals go_wp2_with fail
 all_goals
  go_end0;refine⟨rfl,?_,(c7.refl _ _ _).drew.trans A⟩
  first
   |exact k
   |(
    have e:t=f:=V;subst e;exact k)
theorem pZ (x:Int)(h:pc x=0):0<=pf x/\pf x<=12:=by have:=iE _ _ (Bz x h).1;omega
theorem B8:pc 0=7:=by decide+kernel
theorem vZ {N y g:Nat}{ws:List Int}{a:Int}(h:pc (ld N y g ws a)=0):da N y g a=true:=by
 cases hi:da N y g a
 ·have e:ld N y g ws a=0:=by simp[ld,hi]
  rw[e,B8] at h;omega
 ·rfl
def f8 (N y g:Nat)(a:Int):Int:=if hB 0 y a=true then(y:Int) else(N:Int)+g
theorem cells3 {w w1:au}{a b c:Value}{t:TypeId}(e:Below (w.alloc (.cells #[a,b,c] t)).heap.size (w.alloc (.cells #[a,b,c] t)) w1):
 w1.cell? (am w.heap.size 0)=some a/\w1.cell? (am w.heap.size 1)=some b/\w1.cell? (am w.heap.size 2)=some c/\w1.frozen? (am w.heap.size 0)=false/\w1.frozen? (am w.heap.size 1)=false/\w1.frozen? (am w.heap.size 2)=false/\w.heap.size<w1.heap.size:=by
 obtain⟨hc,d⟩:=m9 e;have hz:=e.size;refine⟨?_,?_,?_,?_,?_,?_,by simp at hz;omega⟩
 ·rw[hc _ _ Z];simp[go_sem]
 ·rw[hc _ _ Z];simp[go_sem]
 ·rw[hc _ _ Z];simp[go_sem]
 ·rw[d _ _ Z];simp[go_sem]
 ·rw[d _ _ Z];simp[go_sem]
 ·rw[d _ _ Z];simp[go_sem]
theorem B9 {p q N O y g:Nat}{ws:List Int}(a:Int)(w:au)(h:At w p q N O y g ws)(hy:hB 0 y a=true):
 Calls prog 175 #[aj p,ah a] w fun e w'=>e=.returned (.agg #[ah 0,ah N,ah y])/\Below w.heap.size w w':=by
 go_enter func175,ntmps175;go_wp2_with fail;refine(me a _ (h.alloc _)).mono ?_;rintro e w1 ⟨rfl,hb1⟩
 rw[(hide hy).o];exact vP
theorem B_ {p q N O y g:Nat}{ws:List Int}(a:Int)(w:au)(h:At w p q N O y g ws)(hy:hB 0 y a=false):
 Calls prog 175 #[aj p,ah a] w fun e w'=>e=.returned (.agg #[ah N,ah O,ah g])/\Below w.heap.size w w':=by
 have b:=hide hy;clear hy;go_enter func175,ntmps175;go_wp2_with fail;refine(me a _ (h.alloc _)).mono ?_;rintro e w1 ⟨rfl,hb1⟩
 rw[b.o];exact vP
theorem r_ {p q N O y g:Nat}{ws:List Int}(a:Int)(w:au)(h:At w p q N O y g ws):∃b s u:Int,0<=b/\b<=100000/\0<=u/\u<=100000/\b+u=f8 N y g a/\
 Calls prog 175 #[aj p,ah a] w fun e w'=>e=.returned (.agg #[ah b,ah s,ah u])/\Below w.heap.size w w':=by
 have k1:=h.hN';have c:=h.hy;have d:=h.hO;have f:=h.hg;cases hy:hB 0 y a
 ·exact⟨N,O,g,V,V,V,V,by simp[f8,hy],B_ a w h hy⟩
 ·exact⟨0,N,y,V,V,V,V,by simp[f8,hy],B9 a w h hy⟩
theorem Ca {N O y g:Nat}{a:Int}(hN:N<=256)(hO:O<=1024)(hy:y<=N)(hg:g<=O):0<=f8 N y g a/\f8 N y g a<=1280:=by unfold f8;split<;>omega
theorem Cb {p q N O y g:Nat}{ws:List Int}(a:Int)(w:au)(h:At w p q N O y g ws)(hp:pc (ld N y g ws a)=0)(t:1+pf (ld N y g ws a)<=f8 N y g a-a)(hg:1+pf (ld N y g ws a)<=(O:Int)-g):
 Calls prog 132 #[aj p,ah a] w fun e w'=>e=.returned (ah (N+g:Nat))/\At w' p q N O y (g+(1+(pf (ld N y g ws a)).toNat)) (splice ws (N+g) ((ws.drop a.toNat).take (1+(pf (ld N y g ws a)).toNat)))/\c7 p q w w':=by
 obtain⟨d,v⟩:=pZ _ hp;obtain⟨x,L⟩:=jd (vZ hp) h.hy h.hg;have A:=h.hy;have B:=h.hO;have C:=h.hg;have k5:=@Ca N O y g a h.hN' B A C;have k6:f8 N y g a<=(N:Int)+O:=by unfold f8;split<;>omega
 have D:=hide hp;clear hp;obtain⟨a,rfl⟩:=Int.eq_ofNat_of_zero_le x;rw[Int.toNat_natCast];obtain⟨n,c⟩:=Int.eq_ofNat_of_zero_le d;have E:=hide c;rw[c] at t hg v d⊢;clear c;rw[Int.toNat_natCast];go_enter func132,ntmps132;go_wp2_with fail;refine(fY a _ h).mono ?_;rintro e w1 ⟨rfl,f⟩
 rw[D.o,E.o];have i:=h.below f bW
 go_wp2_with fail;obtain⟨b,s,u,F,G,H,I,j,hc⟩:=r_ a w1 i;refine hc.mono ?_;rintro e M ⟨rfl,k⟩
 clear hc;go_wp2_with fail;refine(lC b s u _ F G H I).mono ?_;rintro e w3 ⟨rfl,l⟩
 have J:=hide j;clear j;rw[J.o];have m:=(i.below k bW).below l bW
 obtain⟨c0,c1,c2,c3,c4,c5,P⟩:=m.cells;go_wp2_with fail;refine(BY (1+n) _ m V V).mono ?_;rintro e Q ⟨rfl,o,s4⟩
 rw[show(1+(n:Int)).toNat=1+n by omega] at o;go_wp2_with fail;rw[show(1+(n:Int))=((1+n:Nat):Int) by omega];refine(vY (N+g) a (1+n) _ o V V).mono ?_;rintro e R ⟨rfl,K,s5⟩
 go_wp2_with fail;go_ret;exact⟨rfl,K,(((c7.of f).trans (c7.of k)).trans (c7.of l)).trans (s4.trans s5)⟩
theorem Ce {p q N O y g:Nat}{ws:List Int}(a:Int)(w:au)(h:At w p q N O y g ws)(v:pc (ld N y g ws a)≠0\/f8 N y g a-a<1+pf (ld N y g ws a)\/(O:Int)-g<1+pf (ld N y g ws a)):
 Calls prog 132 #[aj p,ah a] w fun e w'=>e=.returned (ah (-1))/\Below w.heap.size w w':=by
 by_cases hp:pc (ld N y g ws a)=0
 ·obtain⟨C,D⟩:=pZ _ hp;have hi:=vZ hp;obtain⟨E,F⟩:=jd hi h.hy h.hg;have k1:=h.hN';have G:=h.hy;have H:=h.hO;have I:=h.hg;have J:f8 N y g a-a<1+pf (ld N y g ws a)\/(O:Int)-g<1+pf (ld N y g ws a):=by
   rcases v with e|e
   ·exact absurd hp e
   ·exact e
  have o:=hide hp;by_cases K:f8 N y g a-a<1+pf (ld N y g ws a)
  ·go_enter func132,ntmps132;go_wp2_with fail;refine(fY a _ h).mono ?_;rintro e w1 ⟨rfl,hb1⟩
   rw[o.o];have f:=h.below hb1 bW
   go_wp2_with fail;obtain⟨b,s,u,i,j,k,l,m,hc⟩:=r_ a w1 f;refine hc.mono ?_;rintro e x ⟨rfl,c⟩
   go_wp2_with fail;refine(lC b s u _ i j k l).mono ?_;rintro e w3 ⟨rfl,d⟩
   have n:=hide m;rw[n.o];go_wp2_with fail;go_ret;exact⟨rfl,(hb1.trans (c.mono hb1.size)).trans (d.mono (aP hb1.size c.size))⟩
  ·go_enter func132,ntmps132;go_wp2_with fail;refine(fY a _ h).mono ?_;rintro e w1 ⟨rfl,hb1⟩
   rw[o.o];have f:=h.below hb1 bW
   go_wp2_with fail;obtain⟨b,s,u,i,j,k,l,m,hc⟩:=r_ a w1 f;refine hc.mono ?_;rintro e x ⟨rfl,c⟩
   have A:=f.below c bW
   go_wp2_with fail;refine(lC b s u _ i j k l).mono ?_;rintro e w3 ⟨rfl,d⟩
   have n:=hide m;rw[n.o];have t:=A.below d bW
   obtain⟨c0,c1,c2,c3,c4,c5,L⟩:=t.cells;go_wp2_with fail;refine(BZ _ _ t V).mono ?_;rintro e M ⟨rfl,B⟩
   go_wp2_with fail;go_ret;exact⟨rfl,((hb1.trans (c.mono hb1.size)).trans (d.mono (aP hb1.size c.size))).trans (B.mono (aP hb1.size (aP c.size d.size)))⟩
 ·go_enter func132,ntmps132;go_wp2_with fail;refine(fY a _ h).mono ?_;rintro e w1 ⟨rfl,hb1⟩
  exact lB
structure eL (B c:Nat)(w w':au):Prop where
 os:w'.os=w.os
 tape:w'.tape=w.tape
 output:w'.output=w.output
 size:w.heap.size<=w'.heap.size
 block:∀k,k<B->k≠c->w'.heap[k]?=w.heap[k]?
theorem eL.refl (B c:Nat)(w:au):eL B c w w:=⟨rfl,rfl,rfl,aA _,fun _ _ _=>rfl⟩
theorem eL.trans {B c:Nat}{a b d:au}(h:eL B c a b)(k:eL B c b d):eL B c a d:=
 ⟨k.os.trans h.os,k.tape.trans h.tape,k.output.trans h.output,aP h.size k.size,fun i hi e=>(k.block i hi e).trans (h.block i hi e)⟩
theorem eL.of {B D c:Nat}{w w':au}(h:Below D w w')(hD:B<=D):eL B c w w':=⟨h.os,h.tape,h.output,h.size,fun k hk _=>h.block k V⟩
theorem eL.below {B D c:Nat}{w w':au}(h:eL B c w w')(hD:D<=B)(hc:D<=c):Below D w w':=⟨h.os,h.tape,h.output,h.size,fun k hk=>h.block k V V⟩
theorem lA {w w':au}{base n:Nat}{e:TypeId}{v:Value}{l:List Value}(h:w.ownsRow base e 1 v n l)(f:Below w.heap.size w w'):w'.ownsRow base e 1 v n l:=by
 obtain⟨g,c⟩:=h;refine⟨g,?_⟩
 rcases c with c|⟨b,i,j,k,m,d,r⟩
 ·exact aJ c
 ·exact aI ⟨b,i,j,k,m,(f.block b (lt_of_some d)).trans d,r⟩
theorem ni {w:au}{base base' n:Nat}{e:TypeId}{v:Value}{l:List Value}(h:w.ownsRow base e 1 v n l)(j:base'<=base):w.ownsRow base' e 1 v n l:=by
 obtain⟨d,c⟩:=h;refine⟨d,?_⟩
 rcases c with c|⟨b,f,g,i,k,r⟩
 ·exact aJ c
 ·exact aI ⟨b,f,g,i,V,r⟩
theorem v4 {w w':au}{base B c n:Nat}{e:TypeId}{v:Value}{l:List Value}(h:w.ownsRow base e 1 v n l)(hs:eL B c w w')(hB:w.heap.size<=B)(hc:c<base):w'.ownsRow base e 1 v n l:=by
 obtain⟨g,d⟩:=h;refine⟨g,?_⟩
 rcases d with d|⟨b,i,j,k,m,f,r⟩
 ·exact aJ d
 ·exact aI ⟨b,i,j,k,m,(hs.block b (by have:=lt_of_some f;omega) V).trans f,r⟩
theorem jQ:(prog.info? 3).map (fun i=>(i.zero,i.size,i.bytes))=some (some (ah 0),1,8):=ae
theorem v5 {w:au}{base n c:Nat}{e:TypeId}{v:Value}{l:List Value}(h:w.ownsRow base e 1 v n l)(hc:c<base):some c≠v.ownBlock:=by
 obtain⟨_,d⟩:=h;rcases d with⟨rfl,_⟩|⟨b,f,g,rfl,i,_⟩
 ·simp[Value.ownBlock]
 ·simp[Value.ownBlock];omega
theorem v6 {w:au}{base n:Nat}{e:TypeId}{v:Value}{l:List Value}(h:w.ownsRow base e 1 v n l):∀k,v.ownBlock=some k->base<=k:=by
 obtain⟨_,c⟩:=h;intro k hk;rcases c with⟨rfl,_⟩|⟨b,d,f,rfl,g,_⟩
 ·simp[Value.ownBlock] at hk
 ·simp[Value.ownBlock] at hk;omega
theorem v7 {w:au}{base n:Nat}{e:TypeId}{v:Value}{l:List Value}(h:w.ownsRow base e 1 v n l)(g:0<n):∃b c,v=.slice (ak b) n c:=by
 obtain⟨_,d⟩:=h;rcases d with⟨_,d⟩|⟨b,c,i,f,_⟩
 ·omega
 ·exact⟨b,c,f⟩
def eA (N y g:Nat)(ws:List Int)(hi:Int):Nat->Int->List Int
 |0,_=>[]
 |k+1,a=>if a<hi then(if pc (ld N y g ws a)=0 then a::eA N y g ws hi k (a+(1+pf (ld N y g ws a))) else[]) else[]
theorem vN {N y g:Nat}{ws:List Int}{hi a:Int}(k:Nat)(h:hi<=a):eA N y g ws hi k a=[]:=by
 cases k with
 |zero=>rfl
 |succ k=>unfold eA;rw[aE V]
theorem v8 {N y g:Nat}{ws:List Int}{hi a:Int}(k:Nat)(h:pc (ld N y g ws a)≠0):eA N y g ws hi k a=[]:=by
 cases k with
 |zero=>rfl
 |succ k=>unfold eA;split<;>rfl
theorem v9 {N y g:Nat}{ws:List Int}{hi a:Int}(k:Nat)(hk:hi-a<=k)(h:a<hi)(c:pc (ld N y g ws a)=0):
 ∃b,k=b+1/\eA N y g ws hi k a=a::eA N y g ws hi b (a+(1+pf (ld N y g ws a))):=by
 cases k with
 |zero=>omega
 |succ k=>exact⟨k,rfl,by rw[eA,aH h,aH c]⟩
theorem az{w:World}{b o:Nat}{c:Array Value}{T:TypeId}(h:w.heap[b]?=some (.cells c T (0,0))):w.frozen? ⟨b,o,none⟩=false:=by simp[World.frozen?,h]
theorem Cf (a:Int)(c base:Nat)(v:Value)(L:List Int)(w:au)(hc:w.heap[c]?=some (.cells #[v] 96 (0,0)))(i:c<base)(hB:base<=w.heap.size)
 (f:w.ownsRow base 3 1 v L.length (L.map (Value.int .i64)))(D:L.length<=100000):
 Calls prog 163 #[ah a,aj c] w fun e w'=>e=.returned (.tuple #[])/\∃g,w'.heap[c]?=some (.cells #[g] 96 (0,0))/\w'.ownsRow base 3 1 g (L++[a]).length ((L++[a]).map (Value.int .i64))/\eL base c w w':=by
 obtain⟨o,hi,p,q,s⟩:=info_parts jQ;have cc:w.cell? (am c 0)=some v:=ay hc
 have t:=hide hc;clear hc;have x:c<w.heap.size:=V;go_enter func163,ntmps163;go_wp2_with (at_builtin;refine wpList_append_own _ rfl _ _ 96 rfl base 3 o _ 1 8 underlying96 hi p q s rfl aa _ L.length _ rfl (f.alloc _) ⟨w.heap.size,0,none⟩ 1 1 [ah a] rfl rfl ?_ ?_ ?_ ?_ ?_ ?_;(intro j u d;match j,d with|0,d=>(simp at d;subst d;simp[Addr.add]));(intro u l;simp at l;subst l;rfl);(unfold maxLen;omega);omega;(simp;omega);intro g w1 m n _;obtain⟨b1,gj,A⟩:=v7 m (Nat.succ_pos _);subst A;have b:=(n.block c (by simp;omega) (v5 f i)).trans ((a4 _ _ _ x).trans t.o);have E:w1.cell? (am c 0)=some v:=ay b;have F:w1.frozen? (am c 0)=false:=az b;have B:=hide b;clear b)
 go_end0;refine⟨rfl,.slice (ak b1) (L.length+1) gj,?_,?_,?_⟩
 ·have b:=B.o;simp only [World.setCell,Array.getElem?_modify,if_true,b,Option.map_some];simp
 ·have:=ownsRow_setCell_below m (a:=⟨c,0,none⟩) i (.slice (ak b1) (L.length+1) gj)
  simpa using this
 ·refine(eL.of ((aD base w).alloc hB _) bW).trans (eL.trans (eL.of ((aD base _).grown n (by simp;omega) (v6 f)) bW) ?_)
  exact⟨rfl,rfl,rfl,by simp[World.setCell],fun k _ C=>aN _ _ _ _ C⟩
theorem v_ {p q N O y g:Nat}{ws:List Int}(b s u:Int)(c:Nat)(w:au)(h:At w p q N O y g ws)(hc:w.heap[c]?=some (.cells #[.slice none 0 0] 96 (0,0)))(m:p≠c)(n:q≠c)
 (o:0<=b)(b1:b<=2000)(u0:0<=u)(U:u<=2000):
 Calls prog 162 #[aj p,.agg #[ah b,ah s,ah u],.func (.func 163) #[] #[aj c]] w fun e w'=>e=.returned (.tuple #[])/\∃v,w'.heap[c]?=some (.cells #[v] 96 (0,0))/\w'.ownsRow w.heap.size 3 1 v (eA N y g ws (b+u) 2000 b).length ((eA N y g ws (b+u) 2000 b).map (Value.int .i64))/\eL w.heap.size c w w':=by
 have lp:=h.eJ;have x:=lt_of_some hc;have A:av (_=_):=hc;clear hc;go_enter func162,ntmps162;go_wp2_with fail
 go_loopw [6] (fun i wr=>∃(a:Int)(L:List Int)(k:Nat)(v:Value),i=ah a/\b<=a/\a<=100000/\b+u-a<=k/\(L.length:Int)+b<=a/\L++eA N y g ws (b+u) k a=eA N y g ws (b+u) 2000 b/\wr.heap[c]?=some (.cells #[v] 96 (0,0))/\wr.ownsRow (w.heap.size+1) 3 1 v L.length (L.map (Value.int .i64))/\eL (w.heap.size+1) c (w.alloc (.cells #[.int .i64 b,.int .i64 s,.int .i64 u] 101)) wr) (fun i _=>(b+u-intOf i).toNat)
 case atStart=>exact⟨b,[],2000,_,rfl,V,V,V,Z,rfl,(a4 _ _ _ x).trans A.o,a7 _ _ _ _,eL.refl _ _ _⟩
 case round=>
  obtain⟨a,L,k,v,rfl,a1,a2,B,W,j,hc,hown,hS⟩:=hrel;have d:=hS.block w.heap.size V V;rw[aL] at d;have C:wr.cell? (am w.heap.size 0)=some (ah b):=ay d
  have D:wr.cell? (am w.heap.size 1)=some (ah s):=ay d
  have E:wr.cell? (am w.heap.size 2)=some (ah u):=ay d
  have F:_:=(h.alloc _).same (hS.block p V m) (hS.block q (by have:=h.eK;omega) n)
  have hsz:=hS.size;simp only [World.size_alloc] at hsz;have A5:av (_=_):=j;have CC:av (_=_):=hc;have X:av (_=_):=d;clear j hc d;go_wp2_with fail;refine(lC b s u _ o V u0 V).mono ?_;rintro e w1 ⟨rfl,hb1⟩
  clear C D E;by_cases G:a<b+u
  ·go_wp2_with fail;refine(fY a _ (F.below hb1 bW)).mono ?_;rintro e H ⟨rfl,I⟩
   have ef:_:=hb1.trans (I.mono hb1.size)
   by_cases hp:pc (ld N y g ws a)=0
   ·obtain⟨Y,ab⟩:=pZ _ hp;obtain⟨J,rfl,f⟩:=v9 (N:=N) (y:=y) (g:=g) (ws:=ws) k B G hp;have K:av (_=_):=hp;have E1:av (_=_):=f;clear hp f;rw[K.o];go_wp2_with fail;refine(Cf a c (w.heap.size+1) v L H ((ef.block c (lt_of_some CC.o)).trans CC.o) V (by have:=ef.size;omega) (lA hown ef) V).mono ?_;rintro e w3 ⟨rfl,M,l,Q,R⟩
    have S:av (_=_):=l;clear l;go_wp2_with fail;go_roundw
    case rel=>exact⟨a+(1+pf (ld N y g ws a)),L++[a],J,M,rfl,V,V,V,by simp;omega,by rw[<-A5.o,E1.o];simp,S.o,Q,(hS.trans (eL.of ef hsz)).trans R⟩
    case measure=>simp[intOf];omega
   ·have t:(pc (ld N y g ws a)!=0)=true:=by simpa using hp
    have f:=v8 (N:=N) (y:=y) (g:=g) (ws:=ws) (hi:=b+u) k hp;have E1:av (_=_):=f;clear hp f;exact vL
  ·go_wp2_with fail;exact vM
end Go.Proofs.YtjpjpjemibgjpaaGreat
