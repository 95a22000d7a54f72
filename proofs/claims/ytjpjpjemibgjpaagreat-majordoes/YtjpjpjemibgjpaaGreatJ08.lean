import Derived.Test.YtjpjpjemibgjpaaGreatJ07
import Derived.Test.YtjpjpjemibgjpaaGreatJ02
import Derived.Deep.AppendLies
import Derived.Test.YtjpjpjemibgjpaaGreatJ01
import Derived.Test.YtjpjpjemibgjpaaGreatJ00
import Derived.Test.YtjpjpjemibgjpaaGreatJ05
import Derived.Test.YtjpjpjemibgjpaaGreatJ03
namespace Go.Proofs.YtjpjpjemibgjpaaGreat
set_option maxRecDepth 100000
set_option maxHeartbeats 1000000
open Tryz
open Go.RowKit W Kp bY
abbrev gL:=cE×Option Addr×Nat
def tv (m:List gL):List Value:=m.flatMap fun x=>[ae x.1.1,.slice x.2.1 x.1.2.1.length x.2.2,.bool x.1.2.2.1,.bool x.1.2.2.2]
theorem xj (a b:List gL):tv (a++b)=tv a++tv b:=by simp[tv]
theorem r9:∀(l:List gL)(i:Nat)(x:gL),l[i]?=some x->(tv l)[i*4]?=some (ae x.1.1)/\(tv l)[i*4+1]?=some (.slice x.2.1 x.1.2.1.length x.2.2)/\(tv l)[i*4+2]?=some (.bool x.1.2.2.1)/\(tv l)[i*4+3]?=some (.bool x.1.2.2.2)
 |[],i,x,h=>by simp at h
 |e::r,0,x,h=>by simp at h;subst h;simp[tv]
 |e::r,i+1,x,h=>by
  have a:=r9 r i x (by simpa using h)
  have b:(tv (e::r))=ae e.1.1::.slice e.2.1 e.1.2.1.length e.2.2::.bool e.1.2.2.1::.bool e.1.2.2.2::tv r:=by simp[tv]
  rw[b,show(i+1)*4=i*4+1+1+1+1 by omega];simpa using a
theorem r_:∀(l:List gL)(i:Nat)(x:gL)(a:Option Addr)(c:Nat)(vs:List (Int×Int)),l[i]?=some x->tv (l.set i ((x.1.1,vs,x.1.2.2),a,c))=(tv l).set (i*4+1) (.slice a vs.length c)
 |[],_,_,_,_,_,_=>rfl
 |e::l,0,x,a,c,vs,h=>by simp at h;subst h;simp[tv]
 |e::l,i+1,x,a,c,vs,h=>by
  have b:=r_ l i x a c vs (by simpa using h)
  have d:(tv (e::l))=ae e.1.1::.slice e.2.1 e.1.2.1.length e.2.2::.bool e.1.2.2.1::.bool e.1.2.2.2::tv l:=by simp[tv]
  have f:(tv (e::l.set i ((x.1.1,vs,x.1.2.2),a,c)))=ae e.1.1::.slice e.2.1 e.1.2.1.length e.2.2::.bool e.1.2.2.1::.bool e.1.2.2.2::tv (l.set i ((x.1.1,vs,x.1.2.2),a,c)):=by simp[tv]
  rw[List.set_cons_succ,f,d,b,show(i+1)*4+1=i*4+1+1+1+1+1 by omega];simp
structure nk (rp rb:Nat)(bS bT:Int)(own:Nat->Nat)(s:b_)(m:List gL)(lz v2 v3:Value)(w:World):Prop where
 blk:w.heap[rp]?=some (.cells #[lz,.slice (ag rb) 12 12,v2,v3,ae bS,ae bT] 91 (0,0))
 b1:own rp=1
 row:w.ownsRow 0 99 4 lz m.length (tv m)
 ro:∀b,some b=lz.ownBlock->own b=2
 nd:m.map (fun x=>x.1)=s.T
 fl:∀x∈m,cS w x.2.1 x.1.2.1/\(0<x.1.2.1.length->∃b o,x.2.1=some ⟨b,o,none⟩/\own b=3)
 rt:w.heap[rb]?=some (.cells (ev s.rs).toArray 77 (0,0))
 rl:s.rs.length=12
 r1:own rb=4
 g2:w.ownsRow 0 97 2 v2 s.rg.length (ev s.rg)
 fq:∀b,some b=v2.ownBlock->own b=5
 g3:w.ownsRow 0 97 2 v3 s.wt.length (ev s.wt)
 fK:∀b,some b=v3.ownBlock->own b=6
 lt:∀b,own b≠0->b<w.heap.size
section
variable {rp rb:Nat}{bS bT:Int}{own:Nat->Nat}{s:b_}{m:List gL}{lz v2 v3:Value}{w w':World}
theorem cS.at {c:Option Addr}{l:List (Int×Int)}(h:cS w c l)(hs:w.heap.size<=w'.heap.size)(hk:∀b o,0<l.length->c=some ⟨b,o,none⟩->w'.heap[b]?=w.heap[b]?):cS w' c l:=
 h.keep hs (fun hp a e=>by obtain⟨b,o,d,f,_⟩:=h hp;rw[e] at d;cases d;exact hk _ _ hp e)
theorem nk.but (h:nk rp rb bS bT own s m lz v2 v3 w)(hs:w.heap.size<=w'.heap.size)(hk:∀b,b<w.heap.size->own b≠0->w'.heap[b]?=w.heap[b]?):nk rp rb bS bT own s m lz v2 v3 w':=
 {
  blk:=(hk _ (lt_of_some h.blk) (by rw[h.b1];decide)).trans h.blk,b1:=h.b1
  row:=ca h.row (fun b e=>hk b (bR h.row b e).2 (by rw[h.ro b e];decide)),ro:=h.ro,nd:=h.nd
  fl:=fun x a=>⟨(h.fl x a).1.at hs (fun b o hp e=>by obtain⟨g,i,c,d⟩:=(h.fl x a).2 hp;rw[e] at c;cases c;exact hk _ (h.lt _ (by rw[d];decide)) (by rw[d];decide)),(h.fl x a).2⟩
  rt:=(hk _ (lt_of_some h.rt) (by rw[h.r1];decide)).trans h.rt,rl:=h.rl,r1:=h.r1
  g2:=ca h.g2 (fun b e=>hk b (bR h.g2 b e).2 (by rw[h.fq b e];decide)),fq:=h.fq
  g3:=ca h.g3 (fun b e=>hk b (bR h.g3 b e).2 (by rw[h.fK b e];decide)),fK:=h.fK
  lt:=fun b f=>av (h.lt b f) hs}
end
def cf (rp rb:Nat)(bS bT:Int):dB b_ where
 J F s w:=∃own m a v2 c,nk rp rb bS bT own s m a v2 c w/\∀b,F b↔own b≠0
 lt:=by rintro F s w ⟨own,m,a,v2,c,h,d⟩ b e;exact h.lt b ((d b).1 e)
 keep:=by rintro F s w w' ⟨own,m,a,v2,c,h,d⟩ hs hk;exact⟨own,m,a,v2,c,h.but hs (fun b _ e=>hk b ((d b).2 e)),d⟩
section
variable {rp rb:Nat}{bS bT:Int}{F:Nat->Prop}{s:b_}{w w':World}
theorem fT (h:(cf rp rb bS bT).J F s w):w.cell? (ah rp 1)=some (.slice (ag rb) 12 12)/\w.cell? (ah rp 4)=some (ae bS)/\w.cell? (ah rp 5)=some (ae bT)/\rp<w.heap.size/\rb<w.heap.size/\(∀o,w.frozen? (ah rp o)=false)/\s.rs.length=12/\
 (∀i,i<12->w.cell? (ah rb (i*2))=some (ae (s.rs.getD i (0,0)).1)/\w.cell? (ah rb (i*2+1))=some (ae (s.rs.getD i (0,0)).2)/\w.frozen? (ah rb (i*2))=false/\w.frozen? (ah rb (i*2+1))=false):=by
 obtain⟨own,m,e,v2,f,h,g⟩:=h;have a:=h.blk;have b:=h.rt;have hl:=h.rl;refine⟨by simp[World.cell?,a],by simp[World.cell?,a],by simp[World.cell?,a],lt_of_some a,lt_of_some b,fun o=>by simp[World.frozen?,a],hl,fun i hi=>?_⟩
 obtain⟨c,d⟩:=l5 s.rs i I;refine⟨?_,?_,by simp[World.frozen?,b],by simp[World.frozen?,b]⟩
 ·simp[World.cell?,b];simpa using c
 ·simp[World.cell?,b];simpa using d
theorem nl (h:(cf rp rb bS bT).J F s w)(i:Nat)(x:Int×Int):(cf rp rb bS bT).J F {s with rs:=s.rs.set i x} ((w.setCell ⟨rb,i*2,none⟩ (.int .i64 x.1)).setCell ⟨rb,i*2+1,none⟩ (.int .i64 x.2))/\bM F w F ((w.setCell ⟨rb,i*2,none⟩ (.int .i64 x.1)).setCell ⟨rb,i*2+1,none⟩ (.int .i64 x.2)):=by
 obtain⟨own,m,g,v2,j,h,c⟩:=h;have fr:Fr (fun b=>b=rb) w ((w.setCell ⟨rb,i*2,none⟩ (.int .i64 x.1)).setCell ⟨rb,i*2+1,none⟩ (.int .i64 x.2)):=((Fr.refl (fun b=>b=rb) w).set rb _ _ rfl).set rb _ _ rfl;refine⟨⟨own,m,g,v2,j,?_,c⟩,⟨fr.mono (fun b e=>(c b).2 (by rw[e,h.r1];decide)),fun _ h=>ap h⟩⟩
 generalize hw:(w.setCell ⟨rb,i*2,none⟩ (.int .i64 x.1)).setCell ⟨rb,i*2+1,none⟩ (.int .i64 x.2)=w' at fr;have hk:∀b,b<w.heap.size->own b≠4->w'.heap[b]?=w.heap[b]?:=fun b a k=>fr.block b a (fun e=>k (by rw[e];exact h.r1))
 exact {
  blk:=(hk _ (lt_of_some h.blk) (by rw[h.b1];decide)).trans h.blk,b1:=h.b1
  row:=ca h.row (fun b e=>hk b (bR h.row b e).2 (by rw[h.ro b e];decide)),ro:=h.ro,nd:=h.nd
  fl:=fun y hy=>⟨(h.fl y hy).1.at fr.size (fun b o hp e=>by obtain⟨l,n,d,f⟩:=(h.fl y hy).2 hp;rw[e] at d;cases d;exact hk _ (h.lt _ (by rw[f];decide)) (by rw[f];decide)),(h.fl y hy).2⟩
  rt:=by have hq:=h.rt;rw[<-hw];simp only [World.setCell,Array.getElem?_modify,if_true,hq,Option.map_some];simp[o9]
  rl:=by rw[aM];exact h.rl
  r1:=h.r1
  g2:=ca h.g2 (fun b e=>hk b (bR h.g2 b e).2 (by rw[h.fq b e];decide)),fq:=h.fq
  g3:=ca h.g3 (fun b e=>hk b (bR h.g3 b e).2 (by rw[h.fK b e];decide)),fK:=h.fK
  lt:=fun b a=>av (h.lt b a) fr.size}
theorem jq (h:(cf rp rb bS bT).J F s w):∃d cT,w.cell? (ah rp 0)=some (.slice d s.T.length cT)/\(0<s.T.length->∃b,d=ag b/\b≠rp/\b≠rb)/\∀(i:Nat)(x:cE),s.T[i]?=some x->∃b k cp,d=ag b/\w.cell? (ah b (i*4))=some (ae x.1)/\w.cell? (ah b (i*4+1))=some (.slice k x.2.1.length cp)/\w.cell? (ah b (i*4+2))=some (.bool x.2.2.1)/\w.cell? (ah b (i*4+3))=some (.bool x.2.2.2)/\cS w k x.2.1/\∀fb cV,0<x.2.1.length->k=some ⟨fb,cV,none⟩->fb≠rb/\fb≠rp/\F fb:=by
 obtain⟨own,m,D,v2,E,h,v⟩:=h;have A:=h.blk;obtain⟨d,cT,f⟩:=dG h.row;have B:m.length=s.T.length:=by rw[<-h.nd];simp
 refine⟨d,cT,by simp[World.cell?,A,f,B],fun hp=>?_,fun i x l=>?_⟩
 ·obtain⟨b,G,e⟩:=dP h.row I;rw[f] at e;cases e;have n:=h.ro b (by rw[f];rfl)
  exact⟨b,rfl,fun e=>by rw[e,h.b1] at n;omega,fun e=>by rw[e,h.r1] at n;omega⟩
 ·rw[<-h.nd] at l;obtain⟨y,hy,rfl⟩:∃y,m[i]?=some y/\y.1=x:=by simp at l;obtain⟨a,b,c⟩:=l;exact⟨_,c,rfl⟩
  have hi:i<m.length:=(List.getElem?_eq_some_iff.1 hy).1;rcases h.row.2 with⟨_,h0⟩|⟨g,H,J,o,n,j,K,L,M,C⟩
  ·omega
  ·rw[f] at o;simp at o;obtain⟨rfl,_,rfl⟩:=o;obtain⟨k0,k1,q,t⟩:=r9 m i y hy;rw[<-C,List.getElem?_take_of_lt I] at k0 k1 q t;refine⟨g,y.2.1,y.2.2,rfl,?_,?_,?_,?_,(h.fl y (List.mem_of_getElem? hy)).1,fun fb cV hp e=>?_⟩
   ·simp[World.cell?,j];simpa using k0
   ·simp[World.cell?,j];simpa using k1
   ·simp[World.cell?,j];simpa using q
   ·simp[World.cell?,j];simpa using t
   ·obtain⟨N,O,u,p⟩:=(h.fl y (List.mem_of_getElem? hy)).2 hp;rw[e] at u;cases u;exact⟨fun c=>by rw[c,h.r1] at p;omega,fun c=>by rw[c,h.b1] at p;omega,(v _).2 (by rw[p];decide)⟩
theorem nm (h:(cf rp rb bS bT).J F s w):∃m g,m.map (fun x=>x.1)=s.T/\w.cell? (ah rp 0)=some g/\w.ownsRow 0 99 4 g m.length (tv m)/\(some rp≠g.ownBlock/\some rb≠g.ownBlock)/\(∀b,some b=g.ownBlock->F b)/\
 (∀(x:gL)(v1:Value)(w1:World),Fr (fun b=>some b=g.ownBlock) w w1->w1.ownsRow 0 99 4 v1 (m++[x]).length (tv (m++[x]))->(∀b,some b=v1.ownBlock->some b=g.ownBlock\/w.heap.size<=b)->cS w1 x.2.1 x.1.2.1->(∀b o,0<x.1.2.1.length->x.2.1=some ⟨b,o,none⟩->¬F b/\some b≠v1.ownBlock)->
   (cf rp rb bS bT).J (fun b=>F b\/some b=v1.ownBlock\/(0<x.1.2.1.length/\∃o,x.2.1=some ⟨b,o,none⟩)) {s with T:=s.T++[x.1]} (w1.setCell ⟨rp,0,none⟩ v1)/\Fr F w (w1.setCell ⟨rp,0,none⟩ v1))/\
 (∀(i:Nat)(x:gL)(d:Option Addr)(c:Nat)(vs:List (Int×Int))(b:Nat),m[i]?=some x->some b=g.ownBlock->cS w d vs->(∀b o,0<vs.length->d=some ⟨b,o,none⟩->¬F b)->
   (cf rp rb bS bT).J (fun b=>F b\/(0<vs.length/\∃o,d=some ⟨b,o,none⟩)) {s with T:=s.T.set i (x.1.1,vs,x.1.2.2)} (w.setCell ⟨b,i*4+1,none⟩ (.slice d vs.length c))/\Fr F w (w.setCell ⟨b,i*4+1,none⟩ (.slice d vs.length c))):=by
 classical
 obtain⟨own,m,g,v2,H,h,p⟩:=h;have G:=h.blk;have J:∀b,¬F b->own b=0:=fun b n=>Classical.byContradiction (fun c=>n ((p b).2 c))
 have K:some rp≠g.ownBlock/\some rb≠g.ownBlock:=⟨fun e=>by have:=h.ro rp e;rw[h.b1] at this;omega,fun e=>by have:=h.ro rb e;rw[h.r1] at this;omega⟩
 refine⟨m,g,h.nd,by simp[World.cell?,G],h.row,K,fun b e=>(p b).2 (by rw[h.ro b e];decide),fun x v1 w1 C L P u D=>?_,fun i x d c vs b M n u D=>?_⟩
 ·have N:∀b,some b=v1.ownBlock->own b=2\/own b=0:=fun b e=>(P b e).elim (fun e=>ap (h.ro b e)) (fun hl=>an (Classical.byContradiction (fun c=>by have:=h.lt b c;omega)))
  have A:∀b,(0<x.1.2.1.length/\∃o,x.2.1=some ⟨b,o,none⟩)->own b=0/\some b≠v1.ownBlock:=fun b ⟨hp,o,e⟩=>⟨J b (D b o hp e).1,(D b o hp e).2⟩
  have l:∀b j,own b=j->j≠0->j≠2->(if some b=v1.ownBlock then 2 else if(0<x.1.2.1.length/\∃o,x.2.1=some ⟨b,o,none⟩) then 3 else own b)=j:=fun b j e h0 E=>by rw[ao (fun c=>by rcases N b c with c|c<;>omega),ao (fun c=>by have:=(A b c).1;omega)];exact e
  have sz:(w1.setCell ⟨rp,0,none⟩ v1).heap.size=w1.heap.size:=by simp[World.setCell]
  have hk:∀b,b<w.heap.size->own b≠2->own b≠1->(w1.setCell ⟨rp,0,none⟩ v1).heap[b]?=w.heap[b]?:=fun b n E Q=>(Below.heap_setCell _ _ _ _ (fun e=>Q (by have e:b=rp:=e;rw[e];exact h.b1))).trans (C.block b n (fun e=>E (h.ro b e)))
  have R:¬some rp=v1.ownBlock:=fun e=>by rcases N rp e with c|c<;>rw[h.b1] at c<;>omega
  refine⟨⟨fun b=>if some b=v1.ownBlock then 2 else if(0<x.1.2.1.length/\∃o,x.2.1=some ⟨b,o,none⟩) then 3 else own b,m++[x],v1,v2,H,?_,fun b=>?_⟩,?_⟩
  ·exact {
    blk:=by have hq:=(C.block rp (lt_of_some G) K.1).trans G;simp only [World.setCell,Array.getElem?_modify,if_true,hq,Option.map_some];simp
    b1:=l _ _ h.b1 Z Z
    row:=ca L (fun b e=>Below.heap_setCell _ _ _ _ (fun a=>R (by have a:b=rp:=a;rw[<-a];exact e)))
    ro:=fun b e=>by rw[aq e]
    nd:=by simp[h.nd]
    fl:=fun y hy=>by
     rcases List.mem_append.1 hy with hy|hy
     ·refine⟨(h.fl y hy).1.at (by rw[sz];exact C.size) (fun b o hp e=>?_),fun hp=>?_⟩
      ·obtain⟨q,v,a,t⟩:=(h.fl y hy).2 hp;rw[e] at a;cases a;exact hk _ (h.lt _ (by rw[t];decide)) (by rw[t];decide) (by rw[t];decide)
      ·obtain⟨q,v,a,t⟩:=(h.fl y hy).2 hp;exact⟨q,v,a,l _ _ t Z Z⟩
     ·simp at hy;subst hy;refine⟨u.at (by rw[sz];exact ak _) (fun b o hp e=>Below.heap_setCell _ _ _ _ (fun a=>?_)),fun hp=>?_⟩
      ·have a:b=rp:=a;have:=(A b ⟨hp,o,e⟩).1;rw[a,h.b1] at this
       omega
      ·obtain⟨b,o,e,_⟩:=u hp;exact⟨b,o,e,by rw[ao (A b ⟨hp,o,e⟩).2,aq ⟨hp,o,e⟩]⟩
    rt:=(hk _ (lt_of_some h.rt) (by rw[h.r1];decide) (by rw[h.r1];decide)).trans h.rt
    rl:=h.rl
    r1:=l _ _ h.r1 Z Z
    g2:=ca h.g2 (fun b e=>hk b (bR h.g2 b e).2 (by rw[h.fq b e];decide) (by rw[h.fq b e];decide)),fq:=fun b e=>l _ _ (h.fq b e) Z Z
    g3:=ca h.g3 (fun b e=>hk b (bR h.g3 b e).2 (by rw[h.fK b e];decide) (by rw[h.fK b e];decide)),fK:=fun b e=>l _ _ (h.fK b e) Z Z
    lt:=fun b n=>by
     rw[sz];by_cases c1:some b=v1.ownBlock
     ·exact(bR L b c1).2
     ·by_cases c2:0<x.1.2.1.length/\∃o,x.2.1=some ⟨b,o,none⟩
      ·obtain⟨hp,o,e⟩:=c2;obtain⟨q,v,a,B,_⟩:=u hp;rw[e] at a;cases a;exact B
      ·rw[ao c1,ao c2] at n;exact av (h.lt b n) C.size}
  ·by_cases c1:some b=v1.ownBlock
   ·simp[c1]
   ·by_cases c2:0<x.1.2.1.length/\∃o,x.2.1=some ⟨b,o,none⟩
    ·simp only [if_neg c1,if_pos c2];exact⟨fun _=>Z,fun _=>an (an c2)⟩
    ·simp only [if_neg c1,if_neg c2];exact⟨fun f=>f.elim (p b).1 (fun f=>f.elim (fun f=>absurd f c1) (fun f=>absurd f c2)),fun f=>ap ((p b).2 f)⟩
  ·exact(C.mono (fun b e=>(p b).2 (by rw[h.ro b e];decide))).trans ((Fr.refl (fun b=>b=rp) w1).set rp 0 _ rfl) (fun b e=>ap ((p b).2 (by rw[e,h.b1];decide)))
 ·have O:=h.ro b n;have A:∀b,(0<vs.length/\∃o,d=some ⟨b,o,none⟩)->own b=0:=fun b ⟨hp,o,e⟩=>J b (D b o hp e)
  have l:∀b j,own b=j->j≠0->(if(0<vs.length/\∃o,d=some ⟨b,o,none⟩) then 3 else own b)=j:=fun b j e h0=>by rw[ao (fun c=>by have:=A b c;omega)];exact e
  have sz:(w.setCell ⟨b,i*4+1,none⟩ (.slice d vs.length c)).heap.size=w.heap.size:=by simp[World.setCell]
  have hk:∀k,own k≠2->(w.setCell ⟨b,i*4+1,none⟩ (.slice d vs.length c)).heap[k]?=w.heap[k]?:=fun k E=>Below.heap_setCell _ _ _ _ (fun e=>E (by have e:k=b:=e;rw[e];exact O))
  obtain⟨W,cT,X⟩:=dG h.row;have S:(w.setCell ⟨b,i*4+1,none⟩ (.slice d vs.length c)).ownsRow 0 99 4 g (m.set i ((x.1.1,vs,x.1.2.2),d,c)).length (tv (m.set i ((x.1.1,vs,x.1.2.2),d,c))):=by
   obtain⟨q,Y,e⟩:=dP h.row (Nat.lt_of_le_of_lt (aA i) (List.getElem?_eq_some_iff.1 M).1)
   have U:b=q:=by rw[e] at n;simpa[Value.ownBlock] using n
   subst U;rw[aM,r_ m i x d c vs M];have:=h.row;rw[e] at this⊢
   exact h7 this _ _
  refine⟨⟨fun b=>if(0<vs.length/\∃o,d=some ⟨b,o,none⟩) then 3 else own b,m.set i ((x.1.1,vs,x.1.2.2),d,c),g,v2,H,?_,fun k=>?_⟩,?_⟩
  ·exact {
    blk:=(hk _ (by rw[h.b1];decide)).trans h.blk
    b1:=l _ _ h.b1 Z
    row:=S
    ro:=fun k e=>l _ _ (h.ro k e) Z
    nd:=by rw[List.map_set,h.nd]
    fl:=fun y hy=>by
     rcases List.mem_or_eq_of_mem_set hy with hy|hy
     ·refine⟨(h.fl y hy).1.at (by rw[sz];exact ak _) (fun b o hp e=>?_),fun hp=>?_⟩
      ·obtain⟨q,v,a,t⟩:=(h.fl y hy).2 hp;rw[e] at a;cases a;exact hk _ (by rw[t];decide)
      ·obtain⟨q,v,a,t⟩:=(h.fl y hy).2 hp;exact⟨q,v,a,l _ _ t Z⟩
     ·subst hy;refine⟨u.at (by rw[sz];exact ak _) (fun b o hp e=>hk _ (by have:=A b ⟨hp,o,e⟩;omega)),fun hp=>?_⟩
      obtain⟨b,o,e,_⟩:=u hp;exact⟨b,o,e,by rw[aq ⟨hp,o,e⟩]⟩
    rt:=(hk _ (by rw[h.r1];decide)).trans h.rt
    rl:=h.rl
    r1:=l _ _ h.r1 Z
    g2:=ca h.g2 (fun b e=>hk b (by rw[h.fq b e];decide)),fq:=fun b e=>l _ _ (h.fq b e) Z
    g3:=ca h.g3 (fun b e=>hk b (by rw[h.fK b e];decide)),fK:=fun b e=>l _ _ (h.fK b e) Z
    lt:=fun k B=>by
     rw[sz];by_cases c2:0<vs.length/\∃o,d=some ⟨k,o,none⟩
     ·obtain⟨hp,o,e⟩:=c2;obtain⟨q,v,a,B,_⟩:=u hp;rw[e] at a;cases a;exact B
     ·rw[ao c2] at B;exact h.lt k B}
  ·by_cases c2:0<vs.length/\∃o,d=some ⟨k,o,none⟩
   ·simp only [if_pos c2];exact⟨fun _=>Z,fun _=>an c2⟩
   ·simp only [if_neg c2];exact⟨fun f=>f.elim (p k).1 (fun f=>absurd f c2),fun f=>ap ((p k).2 f)⟩
  ·exact(Fr.refl F w).set b _ _ ((p b).2 (by rw[O];decide))
theorem nn (h:(cf rp rb bS bT).J F s w):∃v2 d,w.cell? (ah rp 2)=some v2/\w.cell? (ah rp 3)=some d/\w.ownsRow 0 97 2 v2 s.rg.length (ev s.rg)/\w.ownsRow 0 97 2 d s.wt.length (ev s.wt)/\some rp≠v2.ownBlock/\
 ∀(l:List bN)(v1:Value)(w1:World),Fr (fun b=>some b=v2.ownBlock) w w1->w1.ownsRow 0 97 2 v1 l.length (ev l)->(∀b,some b=v1.ownBlock->some b=v2.ownBlock\/w.heap.size<=b)->
  (cf rp rb bS bT).J (fun b=>F b\/some b=v1.ownBlock) {s with rg:=l} (w1.setCell ⟨rp,2,none⟩ v1)/\Fr F w (w1.setCell ⟨rp,2,none⟩ v1):=by
 obtain⟨own,m,B,v2,d,h,p⟩:=h;have k:=h.blk;have q:some rp≠v2.ownBlock:=fun e=>by have:=h.fq rp e;rw[h.b1] at this;omega
 refine⟨v2,d,by simp[World.cell?,k],by simp[World.cell?,k],h.g2,h.g3,q,fun l v1 w1 f t C=>?_⟩
 have u:∀b,some b=v1.ownBlock->own b=5\/own b=0:=fun b e=>(C b e).elim (fun e=>ap (h.fq b e)) (fun hl=>an (Classical.byContradiction (fun c=>by have:=h.lt b c;omega)))
 have g:∀b j,own b=j->j≠0->j≠5->(if some b=v1.ownBlock then 5 else own b)=j:=fun b j e h0 v=>by rw[ao (fun c=>by rcases u b c with c|c<;>omega)];exact e
 have sz:(w1.setCell ⟨rp,2,none⟩ v1).heap.size=w1.heap.size:=by simp[World.setCell]
 have hk:∀b,b<w.heap.size->own b≠5->own b≠1->(w1.setCell ⟨rp,2,none⟩ v1).heap[b]?=w.heap[b]?:=fun b n v D=>(Below.heap_setCell _ _ _ _ (fun e=>D (by have e:b=rp:=e;rw[e];exact h.b1))).trans (f.block b n (fun e=>v (h.fq b e)))
 have E:¬some rp=v1.ownBlock:=fun e=>by rcases u rp e with c|c<;>rw[h.b1] at c<;>omega
 refine⟨⟨fun b=>if some b=v1.ownBlock then 5 else own b,m,B,v1,d,?_,fun b=>?_⟩,?_⟩
 ·exact {
   blk:=by have hq:=(f.block rp (lt_of_some k) q).trans k;simp only [World.setCell,Array.getElem?_modify,if_true,hq,Option.map_some];simp
   b1:=g _ _ h.b1 Z Z
   row:=ca h.row (fun b e=>hk b (bR h.row b e).2 (by rw[h.ro b e];decide) (by rw[h.ro b e];decide))
   ro:=fun b e=>g _ _ (h.ro b e) Z Z
   nd:=h.nd
   fl:=fun y hy=>by
    refine⟨(h.fl y hy).1.at (by rw[sz];exact f.size) (fun b o hp e=>?_),fun hp=>?_⟩
    ·obtain⟨x,A,a,i⟩:=(h.fl y hy).2 hp;rw[e] at a;cases a;exact hk _ (h.lt _ (by rw[i];decide)) (by rw[i];decide) (by rw[i];decide)
    ·obtain⟨x,A,a,i⟩:=(h.fl y hy).2 hp;exact⟨x,A,a,g _ _ i Z Z⟩
   rt:=(hk _ (lt_of_some h.rt) (by rw[h.r1];decide) (by rw[h.r1];decide)).trans h.rt
   rl:=h.rl
   r1:=g _ _ h.r1 Z Z
   g2:=ca t (fun b e=>Below.heap_setCell _ _ _ _ (fun a=>E (by have a:b=rp:=a;rw[<-a];exact e)))
   fq:=fun b e=>by rw[aq e]
   g3:=ca h.g3 (fun b e=>hk b (bR h.g3 b e).2 (by rw[h.fK b e];decide) (by rw[h.fK b e];decide)),fK:=fun b e=>g _ _ (h.fK b e) Z Z
   lt:=fun b n=>by
    rw[sz];by_cases c1:some b=v1.ownBlock
    ·exact(bR t b c1).2
    ·rw[ao c1] at n;exact av (h.lt b n) f.size}
 ·by_cases c1:some b=v1.ownBlock
  ·simp[c1]
  ·simp[c1,p b]
 ·exact(f.mono (fun b e=>(p b).2 (by rw[h.fq b e];decide))).trans ((Fr.refl (fun b=>b=rp) w1).set rp 2 _ rfl) (fun b e=>ap ((p b).2 (by rw[e,h.b1];decide)))
end
section
variable {rp rb:Nat}{bS bT:Int}{F:Nat->Prop}{s:b_}{w:World}
theorem mh (h:(cf rp rb bS bT).J F s w)(n:∀t∈s.T,t.2.1.length<=12)(hl:s.T.length<=10000):
 Calls prog 16 #[af rp] w fun e w'=>e=.returned (.tuple #[ae (d8 s.T).1,ae (d8 s.T).2])/\Below w.heap.size w w':=by
 have u:Hid ((cf rp rb bS bT).J F s w):=h;have o:Hid (∀t∈s.T,t.2.1.length<=12):=n;clear h n;go_enter func16,ntmps16;go_wp2_with fail
 go_loopw [4,5,6] (fun v A iv wr=>∃(j:Nat)(x y:Int),j<=s.T.length/\iv=ae j/\v=ae x/\A=ae y/\Hid (d8 (s.T.take j)=(x,y))/\Below w.heap.size w wr) (fun _ _ iv _=>s.T.length-(intOf iv).toNat)
 case atStart=>exact⟨0,0,0,aA _,rfl,rfl,rfl,rfl,Below.refl _ _⟩
 case round=>
  obtain⟨j,x,y,K,rfl,rfl,rfl,f,a⟩:=hrel;have g:=(cf rp rb bS bT).below u.out a;obtain⟨L,cT,c0,_,i⟩:=jq g;have bd:=mf (s.T.take j) (fun t ht=>o.out t (List.mem_of_mem_take ht))
  rw[f.out] at bd;have B:(s.T.take j).length=j:=by rw[a5];omega
  rw[B] at bd;dsimp only at bd;obtain⟨M,N,O,P⟩:=bd;by_cases k:j<s.T.length
  ·obtain⟨t,ht⟩:∃t,s.T[j]?=some t:=⟨_,am k⟩
   obtain⟨b,C,cp,rfl,D,E,G,H,_⟩:=i j t ht;have J:=o.out t (List.mem_of_getElem? ht)
   have l:Hid (d8 (s.T.take (j+1))=g8 (x,y) t):=by
    show _=_;rw[List.take_succ_eq_append_getElem k,r5,f.out]
    congr 1
    rw[am k] at ht;simpa using ht
   obtain⟨kd,c,p,q⟩:=t;dsimp only at D E G H J;have j0:(0:Int)<=(j:Int):=I;have Q:(j:Int)<(s.T.length:Int):=I;have m:Hid (Below w.heap.size w (wr.alloc (.cells #[.int .i64 kd,.slice C c.length cp,.bool p,.bool q] 99))):=a.alloc a.size _;clear g i a ht;cases q
   ·cases p
    ·have d:Hid (d8 (s.T.take (j+1))=(x+(1+c.length),y)):=l.out;go_wp2_with fail;go_roundw
     case rel=>exact⟨j+1,x+(1+c.length),y,I,ac,ac,rfl,d,m.out⟩
     case measure=>simp[intOf];omega
    ·have d:Hid (d8 (s.T.take (j+1))=(x,y+(1+c.length))):=l.out;go_wp2_with fail;go_roundw
     case rel=>exact⟨j+1,x,y+(1+c.length),I,ac,rfl,ac,d,m.out⟩
     case measure=>simp[intOf];omega
   ·have d:Hid (d8 (s.T.take (j+1))=(x,y)):=l.out;go_wp2_with fail;go_roundw
    case rel=>exact⟨j+1,x,y,I,ac,rfl,rfl,d,m.out⟩
    case measure=>simp[intOf];omega
  ·obtain rfl:j=s.T.length:=I;rw[aP] at f;clear g i;go_wp2_with fail;go_ret2;rw[f.out];exact⟨rfl,a⟩
end
def iI (w:World)(a:Option Addr)(L:List Bool):Prop:=0<L.length->∃b,a=ag b/\b<w.heap.size/\∀i,i<L.length->w.cell? (ah b i)=some (.bool (L.getD i false))
theorem iI.below {w w':World}{a:Option Addr}{L:List Bool}(h:iI w a L)(c:Below w.heap.size w w'):iI w' a L:=fun hp=>by obtain⟨b,e,d,f⟩:=h hp;exact⟨b,e,av d c.size,fun i hi=>(c.cell (p:=ah b i) d).trans (f i hi)⟩
theorem mj {w:World}{base:Nat}{e:TypeId}{a:Option Addr}{d:Nat}{L:List Bool}(h:w.ownsRow base e 1 (.slice a L.length d) L.length (L.map Value.bool)):iI w a L:=fun hp=>by
 obtain⟨b,c,f⟩:=dP h hp;cases f;refine⟨b,rfl,(bR h b rfl).2,fun i hi=>?_⟩
 have g:(L.map Value.bool)[i]?=some (.bool (L.getD i false)):=by rw[aX,am hi,aj,am hi];rfl
 exact(eO h g).1
structure eZ (w:World)(ob:Nat)(ad:Option Addr)(c base:Nat)(L:List Bool):Prop where
 blk:w.heap[ob]?=some (.cells #[.slice ad L.length c] 145 (0,0))
 row:w.ownsRow base 4 1 (.slice ad L.length c) L.length (L.map Value.bool)
theorem eZ.keep {w w':World}{a:Nat}{b:Option Addr}{c base:Nat}{L:List Bool}(h:eZ w a b c base L)(d:w'.heap[a]?=w.heap[a]?)(e:∀k,some k=(Value.slice b L.length c).ownBlock->w'.heap[k]?=w.heap[k]?):eZ w' a b c base L:=⟨d.trans h.blk,ca h.row e⟩
theorem eZ.below {w w':World}{a:Nat}{b:Option Addr}{c base:Nat}{L:List Bool}(h:eZ w a b c base L)(d:Below w.heap.size w w'):eZ w' a b c base L:=h.keep (d.block a (lt_of_some h.blk)) (fun k e=>d.block k (bR h.row k e).2)
theorem eZ.ne {w:World}{a:Nat}{b:Option Addr}{c base:Nat}{L:List Bool}(h:eZ w a b c base L):∀k,some k=(Value.slice b L.length c).ownBlock->k≠a:=fun k e d=>by obtain⟨f,hc⟩:=dO h.row k e;rw[d,h.blk] at hc;simp at hc
theorem pa:(prog.info? 4).map (fun i=>(i.zero,i.size,i.bytes))=some (some (.bool false),1,1):=ab
theorem mm {w:World}{b k n:Nat}(h:w.ownsRow b 4 1 (.slice (ag k) n n) n (madeCells (Value.bool false).cells (n*1)).toList):
 w.ownsRow b 4 1 (.slice (ag k) n n) n ((List.replicate n false).map Value.bool):=by
 have e:(madeCells (Value.bool false).cells (n*1)).toList=(List.replicate n false).map Value.bool:=by show(madeCells #[Value.bool false] (n*1)).toList=_;rw[toList_madeCells_one];simp
 rwa [e] at h
def jV {a:Type}(o:dB a)(D:Int->Prop)(f:Nat)(b c:Array Value)(nw:a->Int->Int):Prop:=
 ∀F t w (x:Int),D x->o.J F t w->Calls prog f (b.push (ae x)++c) w fun r w'=>r=.returned (ae (nw t x))/\Below w.heap.size w w'
def ic {a:Type}(o:dB a)(D:Int->Prop)(f:Nat)(b c:Array Value)(is:a->Int->Bool):Prop:=
 ∀F t w (x:Int),D x->o.J F t w->Calls prog f (b.push (ae x)++c) w fun r w'=>r=.returned (.bool (is t x))/\Below w.heap.size w w'
def mn {a:Type}(o:dB a)(D:Int->Prop)(f:Nat)(b c:Array Value)(kp:a->Int->Int×a):Prop:=
 ∀F t w (x:Int),D x->o.J F t w->Calls prog f (b.push (ae x)++c) w fun r w'=>∃d,r=.returned (ae (kp t x).1)/\o.J d (kp t x).2 w'/\Fr F w w'/\∀k,d k->F k\/w.heap.size<=k
theorem sa {C:Type}(o:dB C)(D:Int->Prop)(f:Nat)(b c:Array Value)(nw:C->Int->Int)(O:dQ f)(ht:jV o D f b c nw)(l:List bN)(E:Option Addr)(aR:Nat)(F:Nat->Prop)(t:C)(w:World)
 (hD:∀e∈l,D e.1/\D e.2)(hm:l.length<=100000)(P:o.J F t w)(hp:cS w E l):
 Calls prog 119 #[.slice E l.length aR,.func (.func f) b c] w fun r w'=>∃a1 c1,r=.returned (.slice a1 l.length c1)/\w'.ownsRow w.heap.size 83 2 (.slice a1 l.length c1) l.length (ev (l.map fun e=>(nw t e.1,nw t e.2)))/\Below w.heap.size w w':=by
 obtain⟨aT,hi,aV,a0,a2⟩:=info_parts m9;have Q:Hid (jV o D f b c nw):=ht;have a3:Hid (cS w E l):=hp;have R:Hid (o.J F t w):=P;clear hp ht P;have bs:∀(args:Array Value)(w:World),(callFunc f args).run prog w=.ok (.enter f args) w:=O;clear O;go_enter func119,ntmps119;go_wp2_with fail
 go_loopw [5,10] (fun vt iv wr=>∃(j:Nat)(T:List bN)(m:Option Addr)(n:Nat),j<=l.length/\iv=ae j/\Hid (T=(l.take j).map fun e=>(nw t e.1,nw t e.2))/\vt=.slice m T.length n/\
  wr.ownsRow w.heap.size 83 2 (.slice m T.length n) T.length (ev T)/\Below w.heap.size w wr) (fun _ iv _=>l.length-(intOf iv).toNat)
 case atStart=>exact⟨0,[],none,0,aA _,rfl,rfl,rfl,aO _ _ _ _,Below.refl _ _⟩
 case round=>
  obtain⟨j,T,m,n,i,rfl,s,rfl,a,v⟩:=hrel;have bb:T.length<=100000:=by rw[s.out];simp;omega
  by_cases A:j<l.length
  ·obtain⟨b0,bx,bd,bL,hc⟩:=a3.out.below v I;obtain⟨S,U⟩:=hc j A;clear hc;obtain⟨W,X⟩:=hD (l.getD j (0,0)) (by rw[aj,am A];exact aK A)
   have G:Hid (T++[(nw t (l.getD j (0,0)).1,nw t (l.getD j (0,0)).2)]=(l.take (j+1)).map fun e=>(nw t e.1,nw t e.2)):=by show _=_;rw[eY l j A (0,0),bc,s.out];rfl
   generalize (l.getD j (0,0)).1=g at S G W;generalize (l.getD j (0,0)).2=z at U G X;subst bd;have be:=v.size;have H:Below w.heap.size w (wr.alloc (.cells #[.int .i64 g,.int .i64 z] 83)):=v.alloc be _;have J:=fC a (.cells #[.int .i64 g,.int .i64 z] 83)
   go_wp2_with fail
   go_region_held3 (fun w'=>w'.cell? (ah wr.heap.size 0)=some (ae g)/\w'.cell? (ah wr.heap.size 1)=some (ae z)) (go_keep)
    (first
      |(refine(Q.out F t _ g W (o.below R.out H.drew)).mono ?_;rintro e w3 ⟨rfl,p⟩;have K:Below w.heap.size w w3:=H.drew.trans (p.mono (by simp;omega));have L:=ca J (fun k e=>p.block k (bR J k e).2);have bg:=p.size;simp at bg;have y1:w3.cell? (ah wr.heap.size 0)=some (ae g):=(p.cell V).trans V;have Y:w3.cell? (ah wr.heap.size 1)=some (ae z):=(p.cell V).trans V;have ad:wr.heap.size<w3.heap.size:=I)
      |(refine(Q.out F t _ z X (o.below R.out K)).mono ?_;rintro e d ⟨rfl,q⟩;have M:Below w.heap.size w d:=K.trans (q.mono I);have ai:=ca L (fun k e=>q.block k (bR L k e).2);have bM:=q.size;have al:d.cell? (ah wr.heap.size 0)=some (ae g):=(q.cell ad).trans y1;have ar:d.cell? (ah wr.heap.size 1)=some (ae z):=(q.cell ad).trans Y;have ax:wr.heap.size<d.heap.size:=I)
      |(refine step_append_lies _ rfl (.tmp 14) (.tmp 24) 126 rfl w.heap.size 83 aT (.agg #[ae 0,ae 0]) 2 16 Tryz.underlying126 hi aV a0 a2 rfl Z (.slice m T.length n) T.length (ev T) (by simp[Act.eval]) (fC ai _) ⟨d.heap.size,0,none⟩ 1 1 [ae (nw t g),ae (nw t z)] (by simp[Act.eval]) rfl ?_ ?_ Z (by unfold maxLen;omega) I (by simp;omega) _ rfl ?_;(intro j u i;match j,i with|0,i=>(simp at i;subst i;simp[Addr.add])|1,i=>(simp at i;subst i;simp[Addr.add]));(intro u x;simp at x;rcases x with x|x<;>(subst x;rfl));intro b6 aB N aF B bi bl;have bn:N.cell? (ah wr.heap.size 0)=some (ae g):=B.cell ((((Below.refl d.heap.size d).alloc bJ _).cell ax).trans al) (fun e=>absurd (bR a _ e).2 (Nat.lt_irrefl _));have bo:N.cell? (ah wr.heap.size 1)=some (ae z):=B.cell ((((Below.refl d.heap.size d).alloc bJ _).cell ax).trans ar) (fun e=>absurd (bR a _ e).2 (Nat.lt_irrefl _))))
   have bp:N.ownsRow w.heap.size 83 2 (.slice (ag b6) (T++[(nw t g,nw t z)]).length aB) (T++[(nw t g,nw t z)]).length (ev (T++[(nw t g,nw t z)])):=by rw[kn];simpa[ev] using aF
   have br:=(M.alloc M.size _).grown B (by simp;omega) (fun k e=>(bR a k e.symm).1)
   clear aF B bi bl J L ai H K M a v p q y1 Y al ar bn bo S U;go_wp2_with fail;go_roundw
   case rel=>exact⟨j+1,T++[(nw t g,nw t z)],ag b6,aB,I,ac,G,V,bp,br⟩
   case measure=>simp[intOf];omega
  ·obtain rfl:j=l.length:=I;rw[aP] at s;have hl:T.length=l.length:=by rw[s.out,aE]
   rw[hl] at a;have a:wr.ownsRow w.heap.size 83 2 (.slice m l.length n) l.length (ev (l.map fun e=>(nw t e.1,nw t e.2))):=by rw[<-s.out];exact a
   clear bb;go_wp2_with fail;go_ret;exact⟨m,n,by rw[hl];rfl,a,v⟩
end Go.Proofs.YtjpjpjemibgjpaaGreat
