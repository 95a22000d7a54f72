import Derived.Test.YtpkjkjhanlbcoaaGreatJ11
namespace Go.Proofs.YtpkjkjhanlbcoaaGreat
set_option maxRecDepth 100000
set_option maxHeartbeats 2000000
open Tryz
open Go.RowKit W Kp cf
structure Wc where
 pw:Nat
 p:Nat
 q:Nat
 pc:Nat
 sd:Nat
 nb:Nat
 N:Nat
 O:Nat
structure d9 where
 y:Nat
 g:Nat
 ws:List Int
 M:List Int
 rs:List Int
structure oV (a:Wc)(own:Nat->Nat)(s:d9)(cO:Nat)(w:ax):Prop where
 ar:At w a.p a.q a.N a.O s.y s.g s.ws
 a1:own a.p=1
 a2:own a.q=1
 cd:Cd w a.pc cO a.N (dF a.O) s.M
 c1:own a.pc=2
 c2:own cO=2
 wd:w.heap[a.pw]?=some (.cells #[aj a.p,aj a.pc,aj a.sd,.slice (ak a.nb) 12 12] 55 (0,0))
 w1:own a.pw=3
 rt:w.heap[a.nb]?=some (.cells (s.rs.map (Value.int .i64)).toArray 2 (0,0))
 rl:s.rs.length=12
 r1:own a.nb=4
 le:∀b,own b<=4
 lt:∀b,own b≠0->b<w.heap.size
theorem oV.keep {a:Wc}{own:Nat->Nat}{s:d9}{cO:Nat}{w w':ax}(h:oV a own s cO w)(hs:w.heap.size<=w'.heap.size)(hk:∀b,own b≠0->w'.heap[b]?=w.heap[b]?):oV a own s cO w':=
 {
  ar:=h.ar.same (hk _ (by rw[h.a1];decide)) (hk _ (by rw[h.a2];decide)),a1:=h.a1,a2:=h.a2
  cd:=h.cd.same (hk _ (by rw[h.c1];decide)) (hk _ (by rw[h.c2];decide)),c1:=h.c1,c2:=h.c2
  wd:=(hk _ (by rw[h.w1];decide)).trans h.wd,w1:=h.w1
  rt:=(hk _ (by rw[h.r1];decide)).trans h.rt,rl:=h.rl,r1:=h.r1,le:=h.le,lt:=fun b hb=>aM (h.lt b hb) hs}
def dX (a:Wc):dr d9 where
 J F s w:=∃own cO,oV a own s cO w/\∀b,F b↔own b≠0
 lt:=by rintro F s w ⟨own,cO,h,c⟩ b hb;exact h.lt b ((c b).1 hb)
 keep:=by rintro F s w w' ⟨own,cO,h,c⟩ hs hk;exact⟨own,cO,h.keep hs (fun b hb=>hk b ((c b).2 hb)),c⟩
section
variable {a:Wc}{F:Nat->Prop}{s:d9}{w:ax}
theorem kI (h:(dX a).J F s w):At w a.p a.q a.N a.O s.y s.g s.ws/\∀w' y g ws,At w' a.p a.q a.N a.O y g ws->c_ a.p a.q w w'->(dX a).J F {s with y:=y,g:=g,ws:=ws} w'/\b8 F w F w':=by
 obtain⟨own,cO,h,d⟩:=h;refine⟨h.ar,fun w' y g ws ha c=>⟨⟨own,cO,?_,d⟩,⟨⟨c.os,c.tape,c.output,c.size,fun b hb hn=>c.block b hb (fun e=>hn ((d b).2 (by rw[e,h.a1];decide))) (fun e=>hn ((d b).2 (by rw[e,h.a2];decide)))⟩,fun _ h=>aK h⟩⟩⟩
 have hb:∀b,b<w.heap.size->own b≠1->_=_:=fun b hb hn=>c.block b hb (fun e=>hn (by rw[e];exact h.a1)) (fun e=>hn (by rw[e];exact h.a2))
 exact {
  ar:=ha,a1:=h.a1,a2:=h.a2,c1:=h.c1,c2:=h.c2,w1:=h.w1,rl:=h.rl,r1:=h.r1,le:=h.le,lt:=fun b hb=>aM (h.lt b hb) c.size
  cd:=h.cd.same (hb _ h.cd.eL (by rw[h.c1];decide)) (hb _ h.cd.eM (by rw[h.c2];decide))
  wd:=(hb _ (lt_of_some h.wd) (by rw[h.w1];decide)).trans h.wd
  rt:=(hb _ (lt_of_some h.rt) (by rw[h.r1];decide)).trans h.rt}
theorem xL (h:(dX a).J F s w)(i:Nat)(x:Int):(dX a).J F {s with rs:=s.rs.set i x} (w.setCell ⟨a.nb,i,none⟩ (.int .i64 x))/\b8 F w F (w.setCell ⟨a.nb,i,none⟩ (.int .i64 x)):=by
 obtain⟨own,cO,h,c⟩:=h;have fr:Fr (fun b=>b=a.nb) w (w.setCell ⟨a.nb,i,none⟩ (.int .i64 x)):=(Fr.refl _ w).set _ i _ rfl;refine⟨⟨own,cO,?_,c⟩,⟨fr.mono (fun b e=>(c b).2 (by rw[e,h.r1];decide)),fun _ h=>aK h⟩⟩
 have hb:∀b,b<w.heap.size->own b≠4->_=_:=fun b hb hn=>fr.block b hb (fun e=>hn (by rw[e];exact h.r1))
 exact {
  a1:=h.a1,a2:=h.a2,c1:=h.c1,c2:=h.c2,w1:=h.w1,r1:=h.r1,le:=h.le,lt:=fun b hb=>aM (h.lt b hb) fr.size
  rl:=by rw[a4];exact h.rl
  ar:=h.ar.same (hb _ h.ar.eL (by rw[h.a1];decide)) (hb _ h.ar.eM (by rw[h.a2];decide))
  cd:=h.cd.same (hb _ h.cd.eL (by rw[h.c1];decide)) (hb _ h.cd.eM (by rw[h.c2];decide))
  wd:=(hb _ (lt_of_some h.wd) (by rw[h.w1];decide)).trans h.wd
  rt:=by simp only [World.setCell,Array.getElem?_modify,if_true,h.rt,Option.map_some];simp[List.map_set]}
theorem xM (h:(dX a).J F s w):∃cO,Cd w a.pc cO a.N (dF a.O) s.M/\∀w' d M,Cd w' a.pc d a.N (dF a.O) M->c_ a.pc cO w w'->(d=cO\/w.heap.size<=d)->∃l,(dX a).J l {s with M:=M} w'/\b8 F w l w':=by
 obtain⟨own,cO,h,i⟩:=h;refine⟨cO,h.cd,fun w' d M hc f hp=>⟨fun b=>F b\/b=d,⟨fun b=>if b=d then 2 else own b,d,?_,fun b=>?_⟩,⟨⟨f.os,f.tape,f.output,f.size,fun b hb hn=>f.block b hb (fun e=>hn ((i b).2 (by rw[e,h.c1];decide))) (fun e=>hn ((i b).2 (by rw[e,h.c2];decide)))⟩,fun b hb=>hb.elim aK (fun e=>hp.imp (fun g=>(i b).2 (by rw[e,g,h.c2];decide)) (fun g=>by omega))⟩⟩⟩
 ·have hb:∀b,b<w.heap.size->own b≠2->_=_:=fun b hb hn=>f.block b hb (fun e=>hn (by rw[e];exact h.c1)) (fun e=>hn (by rw[e];exact h.c2))
  have k:∀b j,own b=j->j≠0->j≠2->(if b=d then 2 else own b)=j:=fun b j e h0 m=>by
   rw[aG (fun c=>?_)]
   ·exact e
   ·rcases hp with g|g
    ·rw[c,g,h.c2] at e;omega
    ·have:=h.lt b (by rw[e];exact h0)
     omega
  exact {
   cd:=hc,a1:=k _ _ h.a1 aa aa,a2:=k _ _ h.a2 aa aa,w1:=k _ _ h.w1 aa aa,r1:=k _ _ h.r1 aa aa,c2:=by rw[aI rfl],c1:=by
    split
    ·rfl
    ·exact h.c1
   rl:=h.rl
   ar:=h.ar.same (hb _ h.ar.eL (by rw[h.a1];decide)) (hb _ h.ar.eM (by rw[h.a2];decide))
   wd:=(hb _ (lt_of_some h.wd) (by rw[h.w1];decide)).trans h.wd
   rt:=(hb _ (lt_of_some h.rt) (by rw[h.r1];decide)).trans h.rt
   le:=fun b=>by
    split
    ·decide
    ·exact h.le b
   lt:=fun b hb=>by
    by_cases e:b=d
    ·rw[e];exact hc.eM
    ·rw[aG e] at hb;exact aM (h.lt b hb) f.size}
 ·by_cases e:b=d
  ·simp[e]
  ·simp[e,i b]
theorem jO (h:(dX a).J F s w):w.cell? (aq a.pw 0)=some (aj a.p)/\w.cell? (aq a.pw 1)=some (aj a.pc)/\w.cell? (aq a.pw 2)=some (aj a.sd)/\w.cell? (aq a.pw 3)=some (.slice (ak a.nb) 12 12)/\a.pw<w.heap.size/\s.rs.length=12/\a.nb<w.heap.size/\∀i,i<12->w.cell? (aq a.nb i)=some (ah (s.rs.getD i 0))/\w.frozen? (aq a.nb i)=false:=by
 obtain⟨own,cO,h,c⟩:=h;have b:=h.wd;have hl:=h.rl;refine⟨by simp[World.cell?,b],by simp[World.cell?,b],by simp[World.cell?,b],by simp[World.cell?,b],lt_of_some b,hl,lt_of_some h.rt,fun i hi=>⟨?_,?_⟩⟩
 ·simp[World.cell?,h.rt,List.getElem?_map,List.getElem?_eq_getElem (show i<s.rs.length by omega),List.getD_eq_getElem?_getD]
 ·simp[World.frozen?,h.rt]
end
abbrev D0 (a:Wc):Obj:=.cells #[aj a.p,aj a.pc,aj a.sd,.slice (ak a.nb) 12 12] 55 (0,0)
def qp (pk ch bx:Nat)(nx:Int)(a:Wc)(y g:Nat)(ws:List Int):dr (List Int) where
 J F U w:=(w.heap[pk]?=some (.cells #[aj a.pw,.map (some ch),ah nx,.slice none 0 0,.slice none 0 0] 167 (0,0))/\Mp w ch U (fun _=>-1)/\At w a.p a.q a.N a.O y g ws/\w.heap[a.pw]?=some (D0 a)/\w.heap[bx]?=some (.cells #[aj pk] 164 (0,0)))/\(ch≠pk/\ch≠a.pw/\ch≠a.p/\ch≠a.q/\ch≠bx)/\∀b,F b↔(b=pk\/b=ch\/b=a.pw\/b=a.p\/b=a.q\/b=bx)
 lt:=by
  rintro F U w ⟨⟨e,f,d,i,j⟩,_,c⟩ b hb;rcases(c b).1 hb with rfl|rfl|rfl|rfl|rfl|rfl
  ·exact lt_of_some e
  ·exact f.lt
  ·exact lt_of_some i
  ·exact d.eL
  ·exact d.eM
  ·exact lt_of_some j
 keep:=by rintro F U w w' ⟨⟨e,f,d,i,j⟩,hn,c⟩ hs hk;exact⟨⟨(hk _ ((c _).2 (aK rfl))).trans e,f.same (hk _ ((c _).2 (aJ (aK rfl)))),d.same (hk _ ((c _).2 (aJ (aJ (aJ (aK rfl)))))) (hk _ ((c _).2 (aJ (aJ (aJ (aJ (aK rfl))))))),(hk _ ((c _).2 (aJ (aJ (aK rfl))))).trans i,(hk _ ((c _).2 (aJ (aJ (aJ (aJ (aJ rfl))))))).trans j⟩,hn,c⟩
theorem D1:dN 181:=f_ func181 ae rfl
theorem D2 {pk ch bx:Nat}{nx:Int}{a:Wc}{y g:Nat}{ws:List Int}{F:Nat->Prop}{c:List Int}{w:ax}(h:(qp pk ch bx nx a y g ws).J F c w)(v:Int)(v0:0<=v)(v1:v<=100000)(s:c.length<=100000):
 Calls prog 181 #[ah v,aj bx] w fun e w'=>∃j,e=.returned (.tuple #[])/\(qp pk ch bx nx a y g ws).J j (c++[v]) w'/\b8 F w j w':=by
 obtain⟨⟨d,⟨D,o1,n,o⟩,f,k,i⟩,hn,l⟩:=h;have c1:w.cell? (aq pk 1)=some (.map (some ch)):=by simp[World.cell?,d]
 have t:w.cell? (aq bx 0)=some (aj pk):=by simp[World.cell?,i]
 go_wp2_with (first
  |(refine wpList_mapUpdate_own _ rfl _ _ _ 127 rfl 3 3 iN Tryz.underlying127 _ ch c.length D rfl o1 (by unfold maxLen;omega) _ _ _ rfl rfl (je (a:=v) v0 V) _ [] (mX (-1) aa) ?_;intro u p m)
  |go_in)
 go_end0;have hb:∀b,b<w.heap.size->b≠ch->_=_:=fun b hb q=>m.block b hb (by simpa using q)
 refine⟨rfl,F,⟨⟨(hb _ (lt_of_some d) (Ne.symm hn.1)).trans d,Mp.add (hide o1).out n o rfl rfl p,f.same (hb _ f.eL (Ne.symm hn.2.2.1)) (hb _ f.eM (Ne.symm hn.2.2.2.1)),(hb _ (lt_of_some k) (Ne.symm hn.2.1)).trans k,(hb _ (lt_of_some i) (Ne.symm hn.2.2.2.2)).trans i⟩,hn,l⟩,⟨((Fr.refl _ w).grown m (fun b e=>aK (by cases e;exact(l ch).2 (aJ (aK rfl))))),fun _ h=>aK h⟩⟩
def m0 (N y g:Nat)(ws:List Int):List Int:=(ei N y g ws).filter (fun a=>decide (a+pf (ld N y g ws a)<y))
theorem xN (h:Int->Int)(e:Int):∀(l b:List Int),kh (fun _ a=>h a) (fun b a=>b++[a]) e b l=b++l.filter (fun a=>decide (a+h a<e))
 |[],b=>by simp[kh]
 |a::l,b=>by
  have f:=xN h e l;have g:kh (fun _ a=>h a) (fun b a=>b++[a]) e b (a::l)=kh (fun _ a=>h a) (fun b a=>b++[a]) e (i3 (fun _ a=>h a) (fun b a=>b++[a]) e b a) l:=rfl;rw[g];by_cases c:a+h a<e
  ·have d:i3 (fun _ a=>h a) (fun b a=>b++[a]) e b a=b++[a]:=by unfold i3;rw[aI c]
   rw[d,f,List.filter_cons_of_pos (by simpa using c),ba];rfl
  ·have d:i3 (fun _ a=>h a) (fun b a=>b++[a]) e b a=b:=by unfold i3;rw[aG c]
   rw[d,f,List.filter_cons_of_neg (by simpa using c)]
theorem D3 {a:Wc}{F:Nat->Prop}{s:d9}{w:ax}(h:(dX a).J F s w):
 Calls prog 106 #[aj a.pw] w fun e w'=>∃pk ch cO l,e=.returned (aj pk)/\(d7 ⟨pk,ch,a.pw,a.p,a.q,a.pc,cO,a.sd,a.nb,dF a.O,s.M⟩ ⟨a.N,a.O,s.y,m0 a.N s.y s.g s.ws⟩).J l ⟨s.g,s.ws,fun _=>-1,(a.N:Int)+s.g,[],[],s.rs⟩ w'/\b8 F w l w':=by
 have bt:=@run_makeMap prog;obtain⟨own,cO,hM,m⟩:=h;have K:ay (oV a own s cO w/\∀b,F b↔own b≠0):=⟨hM,m⟩
 have c0:w.cell? (aq a.pw 0)=some (aj a.p):=by have ab:=hM.wd;simp[World.cell?,ab]
 have L:=lt_of_some hM.wd;have g:=hM.ar;have n1:=g.hN';have bx:=g.hO;have ad:=g.hg;have n4:=g.hy;have bY:=g.hN;clear hM m;go_enter func106,ntmps106;go_wp2_with fail;refine(kD w g).mono ?_;rintro e w1 ⟨rfl,v⟩
 have c1:=(v.cell (p:=aq a.pw 0) L).trans c0;have ag:=g.below v bW
 go_wp2_with fail;refine(mM w1 ag).mono ?_;rintro e c ⟨rfl,ai⟩
 have n:=v.trans (ai.mono v.size)
 have c2:=(n.cell (p:=aq a.pw 0) L).trans c0;have al:=g.below n bW
 have bZ:=n.size;have l2:a.pw<c.heap.size:=V;clear v ai ag c1;have A:aw c (((c.alloc (.map #[] 0)).alloc (.cells #[.pointer (some ⟨a.pw,0,none⟩),.map (some c.heap.size),.int .i64 ((a.N:Int)+s.g),.slice none 0 0,.slice none 0 0] 167)).alloc (.cells #[.pointer (some ⟨c.heap.size+1,0,none⟩)] 164)):=(((aH _ c).alloc bW _).alloc Z _).alloc (by simp;omega) _;have D:=al.below A bW
 have c3:=(A.cell (p:=aq a.pw 0) l2).trans c2;have P:=p4 _ D;obtain⟨W,k⟩:∃W,W=((c.alloc (.map #[] 0)).alloc (.cells #[.pointer (some ⟨a.pw,0,none⟩),.map (some c.heap.size),.int .i64 ((a.N:Int)+s.g),.slice none 0 0,.slice none 0 0] 167)).alloc (.cells #[.pointer (some ⟨c.heap.size+1,0,none⟩)] 164):=⟨_,rfl⟩
 have am:ay (W.heap.size=c.heap.size+3/\aw c W/\Mp W c.heap.size [] (fun _=>-1)/\W.heap[c.heap.size+1]?=some (.cells #[aj a.pw,.map (some c.heap.size),ah ((a.N:Int)+s.g),.slice none 0 0,.slice none 0 0] 167 (0,0))/\W.heap[c.heap.size+2]?=some (.cells #[aj (c.heap.size+1)] 164 (0,0))/\At W a.p a.q a.N a.O s.y s.g s.ws):=by
  rw[<-k] at A D;refine⟨by rw[k];simp only [World.size_alloc],A,?_,?_,?_,D⟩
  ·have bb:=World.ownsMap_made c prog 3 (plainElem (H:=Unit) prog 3)
   refine Mp.same (w:=c.alloc (.map #[] 0)) ⟨_,bb,fun _=>rfl,fun a ha=>by simp at ha⟩ ?_;rw[k,aS _ _ _ (by simp;omega),aS _ _ _ Z]
  ·rw[k,aS _ _ _ Z];simpa using aN (c.alloc (.map #[] 0)) (.cells #[.pointer (some ⟨a.pw,0,none⟩),.map (some c.heap.size),.int .i64 ((a.N:Int)+s.g),.slice none 0 0,.slice none 0 0] 167)
  ·rw[k];simpa using aN ((c.alloc (.map #[] 0)).alloc (.cells #[.pointer (some ⟨a.pw,0,none⟩),.map (some c.heap.size),.int .i64 ((a.N:Int)+s.g),.slice none 0 0,.slice none 0 0] 167)) (.cells #[.pointer (some ⟨c.heap.size+1,0,none⟩)] 164)
 have an:=hide k;rw[<-k] at P;clear A D k;go_wp2_with fail;rw[<-an.out];refine P.mono ?_;clear P;rintro e o ⟨v1,v2,rfl,B,ao,f⟩
 obtain⟨bd,be,rfl⟩:=eE B;obtain⟨b0,b1,rfl⟩:=eE ao;obtain⟨bg,q,ap,aB,M,aF⟩:=am.out;have b2:=f.size;have b3:o.cell? (aq (c.heap.size+1+1) 0)=some (aj (c.heap.size+1)):=by have:=(f.block (c.heap.size+2) V).trans M;simp[World.cell?,this]
 have b4:c.heap.size+1+1<o.heap.size:=V;have b5:(ei a.N s.y s.g s.ws).length<=2000:=iL _ _;have N:∀x∈ei a.N s.y s.g s.ws,0<=x/\x<=2000:=fun x O=>by have:=n5 x O;omega
 have Q:=K.out.1.ar;have np:=Q.eL;have nq:=Q.eM;have aR:(qp (c.heap.size+1) c.heap.size (c.heap.size+2) ((a.N:Int)+s.g) a s.y s.g s.ws).J (fun b=>b=c.heap.size+1\/b=c.heap.size\/b=a.pw\/b=a.p\/b=a.q\/b=c.heap.size+2) [] o:=
  ⟨⟨(f.block _ V).trans aB,ap.same (f.block _ V),aF.below f bW,((f.block _ V).trans (q.block _ l2)).trans ((n.block _ L).trans K.out.1.wd),(f.block _ V).trans M⟩,⟨V,V,V,V,V⟩,fun b=>Iff.rfl⟩
 have E:=xK (qp (c.heap.size+1) c.heap.size (c.heap.size+2) ((a.N:Int)+s.g) a s.y s.g s.ws) (fun _ x=>pf (ld a.N s.y s.g s.ws x)) (fun R x=>R++[x]) (fun j R=>R.length<=j) (c.heap.size+1) a.pw a.p 181 #[aj (c.heap.size+1+1)] D1 (ei a.N s.y s.g s.ws) bd be s.y _ [] o
  (by
    rintro F t aV x ⟨⟨g1,g2,g3,g4,g5⟩,_⟩
    refine⟨by simp[World.cell?,g1],by simp[World.cell?,g4],(gd x aV g3).mono ?_⟩
    rintro r w' ⟨rfl,hb⟩
    exact⟨_,_,rfl,hb⟩)
  (fun t x=>dj _) (fun x O=>by have:=N x O;omega) V
  (by
    rintro j F t aV S C bi _;have hm:(ei a.N s.y s.g s.ws).getD j 0∈ei a.N s.y s.g s.ws:=by rw[aE,aL S];exact a6 S
    have hb:=N _ hm;have C:=C;exact D2 bi _ hb.1 V V)
  (by
    intro j t S C;have C:=C;show(i3 _ _ _ _ _:List Int).length<=j+1;unfold i3;split
    ·simp;omega
    ·omega)
  Z aR (gH B)
  (fun hp z e=>by
    obtain⟨b,cap,bl⟩:=eU B hp;cases bl;cases e;have ab:=(cn B b rfl).1;show¬(b=c.heap.size+1\/b=c.heap.size\/b=a.pw\/b=a.p\/b=a.q\/b=c.heap.size+2)
    omega)
 rw[xN (fun x=>pf (ld a.N s.y s.g s.ws x)) s.y (ei a.N s.y s.g s.ws) [],List.nil_append] at E;have U:ay (∀b,b<c.heap.size->o.heap[b]?=c.heap[b]?):=fun b hb=>(f.block b V).trans (q.block b hb)
 have i:=jr n (f.os.trans q.os) (f.tape.trans q.tape) (f.output.trans q.output)
 clear aR B ao bg q ap aB M aF am an f N Q g al n c0 c2;go_wp2_with fail;refine E.mono ?_;clear E;rintro e G ⟨b6,rfl,⟨⟨g1,g2,g3,g4,g5⟩,bn,bo⟩,Y,_⟩
 have b7:G.cell? (aq (c.heap.size+1+1) 0)=some (aj (c.heap.size+1)):=by simp[World.cell?,g5]
 have b9:=lt_of_some g5;have bp:ay (∃l,(d7 ⟨c.heap.size+1,c.heap.size,a.pw,a.p,a.q,a.pc,cO,a.sd,a.nb,dF a.O,s.M⟩ ⟨a.N,a.O,s.y,m0 a.N s.y s.g s.ws⟩).J l ⟨s.g,s.ws,fun _=>-1,(a.N:Int)+s.g,[],[],s.rs⟩ G/\b8 F w l G):=by
  obtain⟨hM,m⟩:=K.out;have keep:∀b,b<w.heap.size->own b≠1->own b≠3->G.heap[b]?=w.heap[b]?:=fun b hb n1 ad=>
   (Y.fr.block b V (fun d=>by
     rcases d with d|d|d|d|d|d
     ·omega
     ·omega
     ·exact ad (by rw[d];exact hM.w1)
     ·exact n1 (by rw[d];exact hM.a1)
     ·exact n1 (by rw[d];exact hM.a2)
     ·omega)).trans ((U.out b V).trans (i.out.1.block b hb))
  have a0:=hM.lt;have lo:∀b,own b≠0->b≠c.heap.size+1/\b≠c.heap.size:=fun b hb=>by have:=a0 b hb;omega
  have u:∀b j,own b=j->j≠0->(if b=c.heap.size+1 then 5 else if b=c.heap.size then 6 else own b)=j:=fun b j e h0=>by
   obtain⟨l1,l2⟩:=lo b (by rw[e];exact h0)
   rw[aG l1,aG l2];exact e
  refine⟨fun b=>F b\/b=c.heap.size+1\/b=c.heap.size,⟨.slice none 0 0,.slice none 0 0,fun b=>if b=c.heap.size+1 then 5 else if b=c.heap.size then 6 else own b,?_,fun b=>?_⟩,⟨?_,fun b hb=>?_⟩⟩
  ·exact {
    ar:=g3,a1:=u _ _ hM.a1 aa,a2:=u _ _ hM.a2 aa,c1:=u _ _ hM.c1 aa,c2:=u _ _ hM.c2 aa,w1:=u _ _ hM.w1 aa,r1:=u _ _ hM.r1 aa,rl:=hM.rl
    cd:=hM.cd.same (keep _ hM.cd.eL (by rw[hM.c1];decide) (by rw[hM.c1];decide)) (keep _ hM.cd.eM (by rw[hM.c2];decide) (by rw[hM.c2];decide))
    wd:=g4
    rt:=(keep _ (lt_of_some hM.rt) (by rw[hM.r1];decide) (by rw[hM.r1];decide)).trans hM.rt
    cb:=g1
    k1:=by rw[aI rfl]
    mp:=g2
    m1:=by rw[aG Z,aI rfl]
    wr:=bc _ _ _ _
    dx:=fun b e=>by simp[Value.ownBlock] at e
    er:=bc _ _ _ _
    eo:=fun b e=>by simp[Value.ownBlock] at e
    lt:=fun b hb=>by
     by_cases I:b=c.heap.size+1
     ·omega
     ·by_cases J:b=c.heap.size
      ·omega
      ·rw[aG I,aG J] at hb;have:=a0 b hb;omega}
  ·by_cases I:b=c.heap.size+1
   ·simp[I]
   ·by_cases J:b=c.heap.size
    ·simp[J]
    ·simp[I,J,m b]
  ·have br:aw w o:=⟨i.out.2.1.trans i.out.1.os,i.out.2.2.1.trans i.out.1.tape,i.out.2.2.2.trans i.out.1.output,V,fun b hb=>(U.out b V).trans (i.out.1.block b hb)⟩
   refine(Fr.of (X:=F) br).trans Y.fr (fun b d=>?_)
   rcases d with d|d|d|d|d|d
   ·exact aJ V
   ·exact aJ V
   ·exact aK ((m b).2 (by rw[d,hM.w1];decide))
   ·exact aK ((m b).2 (by rw[d,hM.a1];decide))
   ·exact aK ((m b).2 (by rw[d,hM.a2];decide))
   ·exact aJ V
  ·rcases hb with hb|hb|hb
   ·exact aK hb
   ·exact aJ V
   ·exact aJ V
 clear g1 g2 g3 g4 g5 bn bo Y U i;go_wp2_with fail;go_ret;obtain⟨l,bs,j2⟩:=bp.out;exact⟨_,_,_,l,rfl,bs,j2⟩
section
variable {gZ:Type}{o:dr gZ}{bx p:Nat}{x:Obj}{vr:Value}{F:Nat->Prop}{w w':ax}
theorem qq {t:gZ×List b7}(h:(c7 (da o bx x) p vr).J F t w):(c7 o p vr).J (fun b=>F b/\b≠bx) t w/\w.heap[bx]?=some x/\F bx:=by
 obtain⟨s,ad,cap,⟨j,g1,g2,g3,g4⟩,k,l,g,m,i,d,n⟩:=h;have f:=(g4 bx).2 (aJ rfl)
 exact⟨⟨j,ad,cap,g1,k,l,fun b hb=>⟨g b ((g4 b).2 (aK hb)),fun e=>g3 (by rw[<-e];exact hb)⟩,⟨m,fun e=>i (by rw[e];exact f)⟩,fun c=>i ((g4 p).2 (aK c)),fun b e=>⟨⟨(d b e).1,fun q=>(d b e).2 (by rw[q];exact f)⟩,fun c=>(d b e).2 ((g4 b).2 (aK c))⟩,fun b hb=>n b hb.1⟩,g2,g _ f⟩
theorem i4 {t:gZ×List b7}(h:(c7 o p vr).J F t w):∃d,o.J d t.1 w/\∀{u:Type}(f:dr u) c g w',f.J c g w'->b8 d w c w'->∃l,(c7 f p vr).J l (g,t.2) w'/\b8 F w l w':=by
 obtain⟨d,ad,cap,v,m,i,n,x,q,j,A⟩:=h;refine⟨d,v,fun f c g w' s b=>?_⟩
 have lp:=lt_of_some m;refine⟨fun k=>F k\/c k,⟨c,ad,cap,s,(b.fr.block p lp q).trans m,cH i (fun k e=>b.fr.block k (cn i k e).2 (j k e).2),fun k h=>aJ h,aK x,fun h=>(b.sub p h).elim q (fun h=>by omega),fun k e=>⟨aK (j k e).1,fun h=>(b.sub k h).elim (j k e).2 (fun h=>by have:=(cn i k e).2;omega)⟩,fun k h=>?_⟩,b.fr.mono n,fun k h=>?_⟩
 ·rcases h with h|h
  ·exact aM (A k h) b.fr.size
  ·exact f.lt s k h
 ·rcases h with h|h
  ·exact aK h
  ·exact(b.sub k h).imp (n k) id
end
def D4 (b:Type):dr b where
 J _ _ _:=False
 lt:=fun h=>h.elim
 keep:=fun h=>h.elim
def dI (b:Type):fJ (b×List b7):=c7 (D4 b) 0 (.slice none 0 0)
def ce.eW (k:ce)(t:cj×List b7)(r:List b7):cj×List b7:=ft (dI cj) (fun s x=>k.al s.1 x) k.ke t r
def ce.sR (k:ce)(t:cj×List b7)(r:List b7):List b7:=eO (dI cj) (fun s x=>k.al s.1 x) k.ke (fun s x=>k.nw s.1 x) t r
def ce.jf (k:ce)(t:cj×List b7)(r:List b7):List b7:=eP (dI cj) (fun s x=>k.al s.1 x) k.ke (fun s x=>k.nw s.1 x) t r
theorem oW {b:Type}(is:b->Int->Bool)(kp:b->Int->Int×b)(s:b×List b7):∀n,(gI is kp s n).1.2.length=s.2.length
 |0=>rfl
 |n+1=>by
  have e:gI is kp s (n+1)=dB is kp (gI is kp s n) n:=by simp[gI,List.range_succ]
  rw[e];have c:=oW is kp s n;unfold dB;split
  ·exact c
  ·simpa using c
theorem oX (k:ce):∀(n:Nat)(t:cj×List b7),(k.cW n t).2.length=t.2.length
 |0,_=>rfl
 |n+1,t=>by
  unfold ce.cW;split
  ·exact oX k n _
  ·split
   ·exact(oX k n _).trans (oW _ _ _ _)
   ·exact oW _ _ _ _
theorem sW (k:ce)(t:cj×List b7)(x:Int):(k.ke t x).2.2.length=t.2.length:=oX k _ _
section
variable {c:gj}{k:ce}{F:Nat->Prop}{s:cj}{w:ax}{vr:Value}
theorem D5 (bx:Nat){g:Option Addr}{i j:Nat}(l:vr=.slice g i j):mR (c7 (da (gJ c k) bx (i2 c)) c.sd vr) (fun _=>True) (mZ c).f (mZ c).b (mZ c).c k.ke:=by
 intro F t w x _ hn m;have hn:(k.ke t x).2.2.length<=90000:=hn;obtain⟨n,f,o⟩:=qq m;rw[sW] at hn;refine(DV l n hn x).mono ?_;rintro r w' ⟨p,rfl,hM,e⟩
 have q:=lt_of_some f;have s:_:=fun d=>(e.sub bx d).elim (fun d=>d.2 rfl) (fun d=>by omega)
 refine⟨fun b=>p b\/b=bx,rfl,ka hM ((e.fr.block bx q (fun d=>d.2 rfl)).trans f) s,e.fr.mono (fun b d=>d.1),fun b d=>?_⟩
 rcases d with d|d
 ·exact(e.sub b d).imp (fun d=>d.1) id
 ·exact aK (by rw[d];exact o)
theorem D6 (bx:Nat){e:Option Addr}{f g:Nat}(i:vr=.slice e f g):lU (c7 (da (gJ c k) bx (i2 c)) c.sd vr) (fun _=>True) (kc bx) (mZ c) (lr c) (fun s x=>k.al s.1 x) k.ke (fun s x=>k.nw s.1 x) where
 ea:=xB
 e6:=DR
 en:=xC
 ha:=by
  rintro F s w x _ ⟨b,ad,cap,d,_⟩
  exact xE bx b s.1 w x trivial d
 hk:=D5 bx i
 ht:=by
  rintro F s w x _ ⟨b,ad,cap,d,_⟩
  exact lZ xF b s.1 w x trivial d
 hl:=fun s x=>sW k s x
theorem D7 {n:Option Addr}{o:Nat}{r:List b7}(s:vr=.slice n r.length o){t:cj×List b7}(h:(c7 (gJ c k) c.sd vr).J F t w)(hr:w.ownsRow 0 103 2 vr r.length (ev r))(hq:t.2.length+r.length<=90000)(bx:Nat)(u:w.heap[bx]?=some (i2 c))(hn:¬F bx):
 Calls prog 78 #[aj c.sd,.agg #[(kc bx).v,(mZ c).v,(lr c).v]] w fun e w'=>∃a1 c1 m,e=.returned (.tuple #[])/\(c7 (gJ c k) c.sd (.slice a1 (k.sR t r).length c1)).J m ((k.eW t r).1,k.jf t r) w'/\
  w'.ownsRow 0 103 2 (.slice a1 (k.sR t r).length c1) (k.sR t r).length (ev (k.sR t r))/\(∀b,some b=(Value.slice a1 (k.sR t r).length c1).ownBlock->¬m b/\w.heap.size<=b)/\Fr (fun b=>F b\/b=bx) w w'/\(∀b,m b->F b\/w.heap.size<=b):=by
 subst s;refine(p9 _ (fun _=>True) (kc bx) (mZ c) (lr c) _ _ _ (D6 bx rfl) r n o rfl V (fun _ _=>⟨trivial,trivial⟩) _ t w (fun _ _=>⟨trivial,trivial⟩) hq (ka h u hn) (g7 hr)).mono ?_;rintro e w' ⟨a1,c1,a2,c2,v,L,rfl,⟨x,ad,cap,⟨j,g1,g2,g3,g4⟩,M,N,A,O,B,P,Q⟩,q3,C,f,g,i,D,E,G,H,I⟩
 have f:w'.heap[c.sd]?=some (.cells #[.slice a1 (k.sR t r).length c1,.slice a2 (k.jf t r).length c2] 153 (0,0)):=f;have g:=g;have i:=i;have l:∀b,j b->v b:=fun b hb=>A b ((g4 b).2 (aK hb))
 have p:∀b,j b->b≠c.sd:=fun b hb e=>B (by show x c.sd;rw[<-e];exact(g4 b).2 (aK hb))
 have q:=(gJ c k).keep (w':=w') g1 C (fun b hb=>q3 b (l b hb) (p b hb))
 have J:F c.sd:=by obtain⟨_,_,_,_,_,_,_,K,_⟩:=h;exact K
 refine⟨a1,c1,fun b=>j b\/b=c.sd\/some b=(Value.slice a2 (k.jf t r).length c2).ownBlock,rfl,⟨j,a2,c2,q,f,eT i (fun _ _=>aZ _),fun b hb=>aK hb,aJ (aK rfl),fun d=>p _ d rfl,fun b e=>⟨aJ (aJ e),fun d=>H b e (l b d)⟩,fun b hb=>?_⟩,eT g (fun _ _=>aZ _),fun b e=>⟨fun d=>?_,(cn g b e).1⟩,D,fun b hb=>?_⟩
 ·rcases hb with hb|hb|hb
  ·exact(gJ c k).lt q b hb
  ·rw[hb];exact lt_of_some f
  ·exact(cn i b hb).2
 ·rcases d with d|d|d
  ·exact G b e (l b d)
  ·obtain⟨R,hc⟩:=e5 g b e;rw[d,f] at hc;simp at hc
  ·exact I b e d
 ·rcases hb with hb|hb|hb
  ·rcases E b (l b hb) with(d|d)|d
   ·exact aK d
   ·exact absurd hb (by rw[d];exact g3)
   ·exact aJ d
  ·exact aK (by rw[hb];exact J)
  ·exact aJ (cn i b hb).1
end
theorem D8 {pk ch cO y:Nat}{a:Wc}{M T:List Int}{F:Nat->Prop}{s:cj}{w:ax}(h:(d7 ⟨pk,ch,a.pw,a.p,a.q,a.pc,cO,a.sd,a.nb,dF a.O,M⟩ ⟨a.N,a.O,y,T⟩).J F s w):∃d,(dX a).J d ⟨y,s.g,s.ws,M,s.rs⟩ w/\(∀b,d b->F b)/\¬d pk:=by
 obtain⟨cG,g,own,h,f⟩:=h;have c:∀b j,own b=j->j<=4->(if own b<=4 then own b else 0)=j:=fun b j e i=>by rw[aI V];exact e
 refine⟨fun b=>(if own b<=4 then own b else 0)≠0,⟨fun b=>if own b<=4 then own b else 0,cO,?_,fun b=>Iff.rfl⟩,fun b hb=>(f b).2 (fun e=>hb (by rw[e];rfl)),fun hb=>hb ?_⟩
 ·exact {
   ar:=h.ar,a1:=c _ _ h.a1 aa,a2:=c _ _ h.a2 aa,cd:=h.cd,c1:=c _ _ h.c1 aa,c2:=c _ _ h.c2 aa,wd:=h.wd,w1:=c _ _ h.w1 aa,rt:=h.rt,rl:=h.rl,r1:=c _ _ h.r1 aa
   le:=fun b=>by
    split
    ·assumption
    ·decide
   lt:=fun b hb=>h.lt b (fun e=>hb (by rw[e];rfl))}
 ·have:=h.k1;rw[this];rfl
structure cq where
 s:d9
 r:List b7
 q:List b7
def fL (a:Wc):dr cq where
 J F S w:=∃d ar c,(c7 (dX a) a.sd (.slice ar S.r.length c)).J d (S.s,S.q) w/\w.ownsRow 0 103 2 (.slice ar S.r.length c) S.r.length (ev S.r)/\(∀b,some b=(Value.slice ar S.r.length c).ownBlock->¬d b)/\∀b,F b↔(d b\/some b=(Value.slice ar S.r.length c).ownBlock)
 lt:=by
  rintro F S w ⟨d,ar,c,g,i,j,f⟩ b hb;rcases(f b).1 hb with hb|hb
  ·exact(c7 (dX a) a.sd (.slice ar S.r.length c)).lt g b hb
  ·exact(cn i b hb).2
 keep:=by rintro F S w w' ⟨d,ar,c,g,i,j,f⟩ hs hk;exact⟨d,ar,c,(c7 (dX a) a.sd (.slice ar S.r.length c)).keep g hs (fun b hb=>hk b ((f b).2 (aK hb))),cH i (fun b e=>hk b ((f b).2 (aJ e))),j,f⟩
section
variable {N y g:Nat}{ws:List Int}{hi:Int}
theorem qr:∀(k:Nat)(a:Int),(eA N y g ws hi k a).Nodup
 |0,a=>by exact List.nodup_nil
 |k+1,a=>by
  unfold eA;split
  ·split
   ·rw[List.nodup_cons];refine⟨fun h=>?_,qr k _⟩
    have b:=(mP k _ _ h).1;have c:=dj (ld N y g ws a)
    omega
   ·exact List.nodup_nil
  ·exact List.nodup_nil
theorem xO:∀(k:Nat)(a x:Int),x∈eA N y g ws hi k a->pc (ld N y g ws x)=0
 |0,a,x,h=>by simp[eA] at h
 |k+1,a,x,h=>by
  unfold eA at h;split at h
  ·split at h
   ·rcases List.mem_cons.1 h with h|h
    ·rw[h];assumption
    ·exact xO k _ x h
   ·simp at h
  ·simp at h
theorem xP:∀(k:Nat)(a:Int),(((eA N y g ws y k a).filter (fun a=>decide (a+pf (ld N y g ws a)<y))).map (fun a=>1+(pf (ld N y g ws a)).toNat)).sum<=((y:Int)-a).toNat
 |0,a=>by simp[eA]
 |k+1,a=>by
  unfold eA;split
  ·split
   ·have b:=xP k (a+(1+pf (ld N y g ws a)))
    have d:=dj (ld N y g ws a)
    by_cases c:a+pf (ld N y g ws a)<y
    ·rw[List.filter_cons_of_pos (by simpa using c)];simp only [List.map_cons,List.sum_cons];omega
    ·rw[List.filter_cons_of_neg (by simpa using c)];omega
   ·simp
  ·simp
end
def d9.k0 (a:Wc)(s:d9):ce:=⟨a.N,a.O,s.y,m0 a.N s.y s.g s.ws⟩
def d9.s0 (a:Wc)(s:d9):cj:=⟨s.g,s.ws,fun _=>-1,(a.N:Int)+s.g,[],[],s.rs⟩
theorem CI.start {a:Wc}{s:d9}(hN:16<=a.N)(hN':a.N<=256)(hO:a.O<=1024)(hy:s.y<=a.N)(hg:s.g<=a.O)(hl:s.ws.length=a.N+a.O)(hr:s.y<=a.O-s.g):CI (s.k0 a) (s.s0 a):=by
 have d:∀x∈m0 a.N s.y s.g s.ws,x∈ei a.N s.y s.g s.ws/\x+pf (ld a.N s.y s.g s.ws x)<s.y:=fun x b=>by simpa[m0] using b
 refine⟨hN,hN',hO,hy,hg,hl,fun x b=>?_,(qr 2000 0).filter _,?_,?_,?_,by simp[d9.s0],by simp[d9.s0],?_⟩
 ·obtain⟨c,i⟩:=d x b;exact⟨(n5 x c).1,xO _ _ _ c,by show x+1+pf (ld a.N s.y s.g s.ws x)<=s.y;omega⟩
 ·have c:=xP (N:=a.N) (y:=s.y) (g:=s.g) (ws:=s.ws) 2000 0;have e:(s.k0 a).sz (s.s0 a)=(((eA a.N s.y s.g s.ws s.y 2000 0).filter (fun x=>decide (x+pf (ld a.N s.y s.g s.ws x)<s.y))).map (fun x=>1+(pf (ld a.N s.y s.g s.ws x)).toNat)).sum:=by
   unfold ce.sz;have f:(s.k0 a).T.filter (fun x=>(s.s0 a).f x==-1)=(s.k0 a).T:=List.filter_eq_self.2 (fun _ _=>rfl)
   rw[f];rfl
  show _<=a.O-s.g;omega
 ·show(a.N:Int)<=(a.N:Int)+s.g;omega
 ·show(a.N:Int)+s.g<=(a.N:Int)+a.O+13;omega
 ·exact aT (bm _ _) (iL _ _)
def d9.s1 (a:Wc)(s:d9):cj:=(s.k0 a).cJ (s.s0 a) 12
def d9.s2 (a:Wc)(s:d9):cj:=(s.k0 a).lm (dF a.O) s.M (s.s1 a) (dD a.N s.y (s.s1 a).g (s.s1 a).ws)
def cq.t3 (a:Wc)(S:cq):cj×List b7:=(S.s.k0 a).sp (S.s.s2 a,S.q)
def cq.s4 (a:Wc)(S:cq):cj:=((S.s.k0 a).eW (S.t3 a) S.r).1
def cq.s5 (a:Wc)(S:cq):cj:=(S.s.k0 a).mw (S.s4 a) (S.s4 a).wk
def cq.s6 (a:Wc)(S:cq):cj:=(S.s.k0 a).be (S.s5 a) (S.s5 a).ep
def cq.full (a:Wc)(S:cq):Bool:=decide (a.O-S.s.g<S.s.y)
def cq.cut (a:Wc)(S:cq):cq:=if S.full a=true then S else⟨⟨0,(S.s6 a).g,(S.s6 a).ws,[],(S.s6 a).rs⟩,(S.s.k0 a).sR (S.t3 a) S.r,(S.s.k0 a).jf (S.t3 a) S.r⟩
def cq.code (a:Wc)(S:cq):Int:=if S.full a=true then 3 else 0
section
variable {c:gj}{k:ce}{F:Nat->Prop}{s:cj}{w:ax}
theorem D9 (h:(d7 c k).J F s w)(m:CI k s)(hl:s.ep.length<=10000):
 Calls prog 113 #[aj c.pk] w fun e w'=>e=.returned (.tuple #[])/\(d7 c k).J F (k.be s s.ep) w'/\b8 F w F w':=by
 obtain⟨cG,al,h⟩:=h;obtain⟨c0,_,_,_,c4,c5,_,_,_,M,_,er,_,lk,_⟩:=d8 h;obtain⟨ad,cap,rfl⟩:=eE er;have N:=hide m;have O:=hide m.h8;have am:(0:Int)<=k.N:=V;clear m M;go_enter func113,ntmps113;go_wp2_with fail
 go_loopw [9] (fun iv wr=>∃(j:Nat)(s1:cj),j<=s.ep.length/\iv=ah j/\ay (k.be s (s.ep.take j)=s1)/\(cutV c k cG (.slice ad s.ep.length cap)).J F s1 wr/\b8 F w F wr/\ay (CI k s1/\eC k s s1)) (fun iv _=>s.ep.length-(intOf iv).toNat)
 exact⟨0,s,aZ _,rfl,rfl,h,b8.refl _ _,⟨N.out,eC.refl _ _⟩⟩
 ·
   obtain⟨j,s1,an,rfl,n,d,o,p⟩:=hrel;obtain⟨ao,_,_,_,P,ap,_,_,_,Q,_,q,_,ar,_⟩:=d8 d;have R:=p.out.2.ep;rw[R] at q;by_cases g:j<s.ep.length
   ·obtain⟨t,u,S,aB,hc⟩:=gH q V;have U:=hc j g;subst S;have B:s.ep.getD j 0∈s.ep:=by rw[aE,aL g];exact a6 g
    have C:=O.out _ B;have v:ay (k.be s (s.ep.take (j+1))=k.gA s1 (s.ep.getD j 0)):=by
     show _=_;rw[gx s.ep j g 0];unfold ce.be;rw[List.foldl_append];have:=n.out;unfold ce.be at this
     rw[this];rfl
    generalize s.ep.getD j 0=a at U C v;have D:ay (CI k (k.gA s1 a)/\eC k s (k.gA s1 a)):=by obtain⟨W,X⟩:=p.out.1.gA C.1;exact⟨W,p.out.2.trans X⟩
    have E:ay (k.gA s1 a=k.st (k.st s1 (a+1) 3) (a+2) 3):=rfl;generalize k.gA s1 a=G at v D E;have Y:=dq d o;have i:=(iO ((cutV c k cG (.slice (some ⟨t,u,none⟩) s.ep.length cap)).below d (aH _ wr).drew))
    have f:ay (_):=i;have aF:IntKind.i64.wrap (a+1)=a+1:=by rw[bk];omega
    have aR:IntKind.i64.wrap (a+2)=a+2:=by rw[bk];omega
    clear hc B d o i Q q P;go_wp2_with fail
    go_region_held3 (fun w'=>w'.cell? (aq c.pk 0)=some (aj c.pw)/\w'.cell? (aq c.pw 0)=some (aj c.p)) (go_keep)
     (first
       |(go_at_call 191;refine(nL _).mono ?_;rintro e ab ⟨rfl,b⟩;have b:=b.symm;subst b)
       |(go_at_call 93;refine(k3 (a+1) 3 wr.drew f.out.1).mono ?_;rintro e l ⟨rfl,x,A⟩;obtain⟨H,ag⟩:=f.out.2 l _ _ x A;obtain⟨g0,_,_,_,_,g5,_⟩:=d8 H;have I:ay (_/\_):=⟨H,(Y.out.2.below (aH _ wr).drew).trans ag⟩))
    have i:=(iO ((cutV c k cG (.slice (some ⟨t,u,none⟩) s.ep.length cap)).below I.out.1 (aH _ l).drew))
    have f:ay (_):=i;go_wp2_with fail
    go_region_held3 (fun w'=>w'.cell? (aq c.pk 0)=some (aj c.pw)/\w'.cell? (aq c.pw 0)=some (aj c.p)) (go_keep)
     (first
       |(go_at_call 191;refine(nL _).mono ?_;rintro e ab ⟨rfl,b⟩;have b:=b.symm;subst b)
       |(go_at_call 93;refine(k3 (a+2) 3 l.drew f.out.1).mono ?_;rintro e J ⟨rfl,x,A⟩;obtain⟨K,ai⟩:=f.out.2 J _ _ x A;obtain⟨r0,_,_,_,_,aV,_⟩:=d8 K;have L:ay ((cutV c k cG (.slice (some ⟨t,u,none⟩) s.ep.length cap)).J F G J/\_):=⟨(by rw[E.out];exact K),(I.out.2.below (aH _ l).drew).trans ai⟩))
    go_wp2_with fail;go_roundw
    case rel=>exact⟨j+1,G,V,af,v,L.out.1,L.out.2,D⟩
    case measure=>simp[intOf];omega
   ·obtain rfl:j=s.ep.length:=V;rw[bu] at n;go_wp2_with fail;go_end0;rw[n.out];exact⟨rfl,⟨_,_,d⟩,o⟩
end
end Go.Proofs.YtpkjkjhanlbcoaaGreat
