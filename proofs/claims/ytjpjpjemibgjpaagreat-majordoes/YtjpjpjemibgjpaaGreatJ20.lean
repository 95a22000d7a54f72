import Derived.Test.YtjpjpjemibgjpaaGreatJ19
import Derived.Test.YtjpjpjemibgjpaaGreatJ17
import Derived.Test.YtjpjpjemibgjpaaGreatJ01
import Derived.Test.YtjpjpjemibgjpaaGreatJ00
import Derived.Test.YtjpjpjemibgjpaaGreatJ02
import Derived.Test.YtjpjpjemibgjpaaGreatJ07
import Derived.Test.YtjpjpjemibgjpaaGreatJ06
namespace Go.Proofs.YtjpjpjemibgjpaaGreat
set_option maxRecDepth 100000
set_option maxHeartbeats 2000000
open Tryz
open Go.RowKit W Kp bY
structure Wc where
 pw:Nat
 p:Nat
 q:Nat
 pc:Nat
 sd:Nat
 nb:Nat
 N:Nat
 O:Nat
structure dT where
 y:Nat
 g:Nat
 ws:List Int
 M:List Int
 rs:List Int
structure mA (a:Wc)(own:Nat->Nat)(s:dT)(ct:Nat)(w:World):Prop where
 ar:At w a.p a.q a.N a.O s.y s.g s.ws
 a1:own a.p=1
 a2:own a.q=1
 cd:Cd w a.pc ct a.N (dx a.O) s.M
 c1:own a.pc=2
 c2:own ct=2
 wd:w.heap[a.pw]?=some (.cells #[af a.p,af a.pc,af a.sd,.slice (ag a.nb) 12 12] 55 (0,0))
 w1:own a.pw=3
 rt:w.heap[a.nb]?=some (.cells (s.rs.map (Value.int .i64)).toArray 2 (0,0))
 rl:s.rs.length=12
 r1:own a.nb=4
 le:∀b,own b<=4
 lt:∀b,own b≠0->b<w.heap.size
theorem mA.keep {a:Wc}{own:Nat->Nat}{s:dT}{ct:Nat}{w w':World}(h:mA a own s ct w)(hs:w.heap.size<=w'.heap.size)(hk:∀b,own b≠0->w'.heap[b]?=w.heap[b]?):mA a own s ct w':=
 {
  ar:=h.ar.same (hk _ (by rw[h.a1];decide)) (hk _ (by rw[h.a2];decide)),a1:=h.a1,a2:=h.a2
  cd:=h.cd.same (hk _ (by rw[h.c1];decide)) (hk _ (by rw[h.c2];decide)),c1:=h.c1,c2:=h.c2
  wd:=(hk _ (by rw[h.w1];decide)).trans h.wd,w1:=h.w1
  rt:=(hk _ (by rw[h.r1];decide)).trans h.rt,rl:=h.rl,r1:=h.r1,le:=h.le,lt:=fun b c=>av (h.lt b c) hs}
def dD (a:Wc):dB dT where
 J F s w:=∃own ct,mA a own s ct w/\∀b,F b↔own b≠0
 lt:=by rintro F s w ⟨own,ct,h,c⟩ b d;exact h.lt b ((c b).1 d)
 keep:=by rintro F s w w' ⟨own,ct,h,c⟩ hs hk;exact⟨own,ct,h.keep hs (fun b d=>hk b ((c b).2 d)),c⟩
section
variable {a:Wc}{F:Nat->Prop}{s:dT}{w:World}
theorem hG (h:(dD a).J F s w):At w a.p a.q a.N a.O s.y s.g s.ws/\∀w' y g ws,At w' a.p a.q a.N a.O y g ws->cY a.p a.q w w'->(dD a).J F {s with y:=y,g:=g,ws:=ws} w'/\bM F w F w':=by
 obtain⟨own,ct,h,i⟩:=h;refine⟨h.ar,fun w' y g ws ha d=>⟨⟨own,ct,?_,i⟩,⟨⟨d.os,d.tape,d.output,d.size,fun b c f=>d.block b c (fun e=>f ((i b).2 (by rw[e,h.a1];decide))) (fun e=>f ((i b).2 (by rw[e,h.a2];decide)))⟩,fun _ h=>ap h⟩⟩⟩
 have c:∀b,b<w.heap.size->own b≠1->w'.heap[b]?=w.heap[b]?:=fun b c f=>d.block b c (fun e=>f (by rw[e];exact h.a1)) (fun e=>f (by rw[e];exact h.a2))
 exact {
  ar:=ha,a1:=h.a1,a2:=h.a2,c1:=h.c1,c2:=h.c2,w1:=h.w1,rl:=h.rl,r1:=h.r1,le:=h.le,lt:=fun b c=>av (h.lt b c) d.size
  cd:=h.cd.same (c _ h.cd.ee (by rw[h.c1];decide)) (c _ h.cd.ef (by rw[h.c2];decide))
  wd:=(c _ (lt_of_some h.wd) (by rw[h.w1];decide)).trans h.wd
  rt:=(c _ (lt_of_some h.rt) (by rw[h.r1];decide)).trans h.rt}
theorem ta (h:(dD a).J F s w)(i:Nat)(x:Int):(dD a).J F {s with rs:=s.rs.set i x} (w.setCell ⟨a.nb,i,none⟩ (.int .i64 x))/\bM F w F (w.setCell ⟨a.nb,i,none⟩ (.int .i64 x)):=by
 obtain⟨own,ct,h,d⟩:=h;have fr:Fr (fun b=>b=a.nb) w (w.setCell ⟨a.nb,i,none⟩ (.int .i64 x)):=(Fr.refl _ w).set _ i _ rfl;refine⟨⟨own,ct,?_,d⟩,⟨fr.mono (fun b e=>(d b).2 (by rw[e,h.r1];decide)),fun _ h=>ap h⟩⟩
 have c:∀b,b<w.heap.size->own b≠4->(w.setCell ⟨a.nb,i,none⟩ (.int .i64 x)).heap[b]?=w.heap[b]?:=fun b c f=>fr.block b c (fun e=>f (by rw[e];exact h.r1))
 exact {
  a1:=h.a1,a2:=h.a2,c1:=h.c1,c2:=h.c2,w1:=h.w1,r1:=h.r1,le:=h.le,lt:=fun b c=>av (h.lt b c) fr.size
  rl:=by rw[aM];exact h.rl
  ar:=h.ar.same (c _ h.ar.ee (by rw[h.a1];decide)) (c _ h.ar.ef (by rw[h.a2];decide))
  cd:=h.cd.same (c _ h.cd.ee (by rw[h.c1];decide)) (c _ h.cd.ef (by rw[h.c2];decide))
  wd:=(c _ (lt_of_some h.wd) (by rw[h.w1];decide)).trans h.wd
  rt:=by have hq:=h.rt;simp only [World.setCell,Array.getElem?_modify,if_true,hq,Option.map_some];simp[List.map_set]}
theorem pK (h:(dD a).J F s w):∃ct,Cd w a.pc ct a.N (dx a.O) s.M/\∀w' f M,Cd w' a.pc f a.N (dx a.O) M->cY a.pc ct w w'->(f=ct\/w.heap.size<=f)->∃n,(dD a).J n {s with M:=M} w'/\bM F w n w':=by
 obtain⟨own,ct,h,l⟩:=h;refine⟨ct,h.cd,fun w' f M hc g hp=>⟨fun b=>F b\/b=f,⟨fun b=>if b=f then 2 else own b,f,?_,fun b=>?_⟩,⟨⟨g.os,g.tape,g.output,g.size,fun b d i=>g.block b d (fun e=>i ((l b).2 (by rw[e,h.c1];decide))) (fun e=>i ((l b).2 (by rw[e,h.c2];decide)))⟩,fun b d=>d.elim ap (fun e=>hp.imp (fun k=>(l b).2 (by rw[e,k,h.c2];decide)) (fun k=>by omega))⟩⟩⟩
 ·have d:∀b,b<w.heap.size->own b≠2->w'.heap[b]?=w.heap[b]?:=fun b d i=>g.block b d (fun e=>i (by rw[e];exact h.c1)) (fun e=>i (by rw[e];exact h.c2))
  have m:∀b j,own b=j->j≠0->j≠2->(if b=f then 2 else own b)=j:=fun b j e h0 o=>by
   rw[ao (fun c=>?_)]
   ·exact e
   ·rcases hp with k|k
    ·rw[c,k,h.c2] at e;omega
    ·have:=h.lt b (by rw[e];exact h0)
     omega
  exact {
   cd:=hc,a1:=m _ _ h.a1 Z Z,a2:=m _ _ h.a2 Z Z,w1:=m _ _ h.w1 Z Z,r1:=m _ _ h.r1 Z Z,c2:=by rw[aq rfl],c1:=by
    split
    ·rfl
    ·exact h.c1
   rl:=h.rl
   ar:=h.ar.same (d _ h.ar.ee (by rw[h.a1];decide)) (d _ h.ar.ef (by rw[h.a2];decide))
   wd:=(d _ (lt_of_some h.wd) (by rw[h.w1];decide)).trans h.wd
   rt:=(d _ (lt_of_some h.rt) (by rw[h.r1];decide)).trans h.rt
   le:=fun b=>by
    split
    ·decide
    ·exact h.le b
   lt:=fun b d=>by
    by_cases e:b=f
    ·rw[e];exact hc.ef
    ·rw[ao e] at d;exact av (h.lt b d) g.size}
 ·by_cases e:b=f
  ·simp[e]
  ·simp[e,l b]
theorem hH (h:(dD a).J F s w):w.cell? (ah a.pw 0)=some (af a.p)/\w.cell? (ah a.pw 1)=some (af a.pc)/\w.cell? (ah a.pw 2)=some (af a.sd)/\w.cell? (ah a.pw 3)=some (.slice (ag a.nb) 12 12)/\a.pw<w.heap.size/\s.rs.length=12/\a.nb<w.heap.size/\∀i,i<12->w.cell? (ah a.nb i)=some (ae (s.rs.getD i 0))/\w.frozen? (ah a.nb i)=false:=by
 obtain⟨own,ct,h,c⟩:=h;have b:=h.wd;have hl:=h.rl;refine⟨by simp[World.cell?,b],by simp[World.cell?,b],by simp[World.cell?,b],by simp[World.cell?,b],lt_of_some b,hl,lt_of_some h.rt,fun i hi=>⟨?_,?_⟩⟩
 ·simp[World.cell?,h.rt,List.getElem?_map,List.getElem?_eq_getElem (show i<s.rs.length by omega),List.getD_eq_getElem?_getD]
 ·simp[World.frozen?,h.rt]
end
abbrev yH (a:Wc):Obj:=.cells #[af a.p,af a.pc,af a.sd,.slice (ag a.nb) 12 12] 55 (0,0)
def nO (pk bW bx:Nat)(nx:Int)(a:Wc)(y g:Nat)(ws:List Int):dB (List Int) where
 J F U w:=(w.heap[pk]?=some (.cells #[af a.pw,.map (some bW),ae nx,.slice none 0 0,.slice none 0 0] 143 (0,0))/\Mp w bW U (fun _=>-1)/\At w a.p a.q a.N a.O y g ws/\w.heap[a.pw]?=some (yH a)/\w.heap[bx]?=some (.cells #[af pk] 140 (0,0)))/\(bW≠pk/\bW≠a.pw/\bW≠a.p/\bW≠a.q/\bW≠bx)/\∀b,F b↔(b=pk\/b=bW\/b=a.pw\/b=a.p\/b=a.q\/b=bx)
 lt:=by
  rintro F U w ⟨⟨e,f,d,i,j⟩,_,c⟩ b k;rcases(c b).1 k with rfl|rfl|rfl|rfl|rfl|rfl
  ·exact lt_of_some e
  ·exact f.lt
  ·exact lt_of_some i
  ·exact d.ee
  ·exact d.ef
  ·exact lt_of_some j
 keep:=by rintro F U w w' ⟨⟨e,f,d,i,j⟩,l,c⟩ hs hk;exact⟨⟨(hk _ ((c _).2 (ap rfl))).trans e,f.same (hk _ ((c _).2 (an (ap rfl)))),d.same (hk _ ((c _).2 (an (an (an (ap rfl)))))) (hk _ ((c _).2 (an (an (an (an (ap rfl))))))),(hk _ ((c _).2 (an (an (ap rfl))))).trans i,(hk _ ((c _).2 (an (an (an (an (an rfl))))))).trans j⟩,l,c⟩
theorem yI:dQ 148:=gb func148 ab rfl
theorem yJ {pk bW bx:Nat}{nx:Int}{a:Wc}{y g:Nat}{ws:List Int}{F:Nat->Prop}{k:List Int}{w:World}(h:(nO pk bW bx nx a y g ws).J F k w)(v:Int)(v0:0<=v)(v1:v<=100000)(E:k.length<=100000):
 Calls prog 148 #[ae v,af bx] w fun e w'=>∃p,e=.returned (.tuple #[])/\(nO pk bW bx nx a y g ws).J p (k++[v]) w'/\bM F w p w':=by
 obtain⟨⟨f,⟨D,o1,n,o⟩,i,l,j⟩,c,m⟩:=h;have c1:w.cell? (ah pk 1)=some (.map (some bW)):=by simp[World.cell?,f]
 have G:w.cell? (ah bx 0)=some (af pk):=by simp[World.cell?,j]
 have s:=hF (a:=v) v0 I;have t:=kz (-1) Z;have u:Hid (_/\_/\_/\_/\_/\_/\_/\_):=⟨f,n,o,i,l,j,c,m⟩
 have x:Hid (w.ownsMap prog 3 (plainElem prog 3) bW k.length D):=o1;clear f n o i l j c m;go_enter func148,ntmps148;go_wp2_with (first
  |(at_mapUpdate;refine wpList_mapUpdate_own _ rfl _ _ _ 108 rfl 3 3 gz Tryz.underlying108 (plainElem (H:=Unit) prog 3) bW k.length D rfl o1 (by unfold maxLen;omega) _ _ _ rfl rfl s _ [] t ?_;intro A B q)
  |go_in)
 go_end0;obtain⟨f,n,o,i,l,j,c,m⟩:=u.out;have d:∀b,b<w.heap.size->b≠bW->A.heap[b]?=w.heap[b]?:=fun b d C=>q.block b d (by simpa using C)
 refine⟨rfl,F,⟨⟨(d _ (lt_of_some f) (Ne.symm c.1)).trans f,Mp.add x.out n o rfl rfl B,i.same (d _ i.ee (Ne.symm c.2.2.1)) (d _ i.ef (Ne.symm c.2.2.2.1)),(d _ (lt_of_some l) (Ne.symm c.2.1)).trans l,(d _ (lt_of_some j) (Ne.symm c.2.2.2.2)).trans j⟩,c,m⟩,⟨((Fr.refl _ w).grown q (fun b e=>ap (by cases e;exact(m bW).2 (an (ap rfl))))),fun _ h=>ap h⟩⟩
def kN (N y g:Nat)(ws:List Int):List Int:=(dv N y g ws).filter (fun a=>decide (a+pf (ld N y g ws a)<y))
theorem tc (h:Int->Int)(e:Int):∀(l b:List Int),iP (fun _ a=>h a) (fun b a=>b++[a]) e b l=b++l.filter (fun a=>decide (a+h a<e))
 |[],b=>by simp[iP]
 |a::l,b=>by
  have f:=tc h e l;have g:iP (fun _ a=>h a) (fun b a=>b++[a]) e b (a::l)=iP (fun _ a=>h a) (fun b a=>b++[a]) e (gP (fun _ a=>h a) (fun b a=>b++[a]) e b a) l:=rfl;rw[g];by_cases c:a+h a<e
  ·have d:gP (fun _ a=>h a) (fun b a=>b++[a]) e b a=b++[a]:=by unfold gP;rw[aq c]
   rw[d,f,List.filter_cons_of_pos (by simpa using c),aU];rfl
  ·have d:gP (fun _ a=>h a) (fun b a=>b++[a]) e b a=b:=by unfold gP;rw[ao c]
   rw[d,f,List.filter_cons_of_neg (by simpa using c)]
theorem yK {a:Wc}{F:Nat->Prop}{s:dT}{w:World}(h:(dD a).J F s w):
 Calls prog 81 #[af a.pw] w fun e w'=>∃pk bW ct m,e=.returned (af pk)/\(dq ⟨pk,bW,a.pw,a.p,a.q,a.pc,ct,a.sd,a.nb,dx a.O,s.M⟩ ⟨a.N,a.O,s.y,kN a.N s.y s.g s.ws⟩).J m ⟨s.g,s.ws,fun _=>-1,(a.N:Int)+s.g,[],[],s.rs⟩ w'/\bM F w m w':=by
 have bU:=@run_makeMap prog;have bV:∀(aB:Fn)(first N:Array Value)(w:World),(Instr.makeFunc aB first N).run prog w=.ok (.func aB first N) w:=fun _ _ _ _=>rfl;obtain⟨own,ct,hM,n⟩:=h;have O:Hid (mA a own s ct w/\∀b,F b↔own b≠0):=⟨hM,n⟩
 have c0:w.cell? (ah a.pw 0)=some (af a.p):=by have aF:=hM.wd;simp[World.cell?,aF]
 have Q:=lt_of_some hM.wd;have i:=hM.ar;have n1:=i.hN';have bX:=i.hO;have aR:=i.hg;have n4:=i.hy;have bY:=i.hN;clear hM n;go_enter func81,ntmps81;go_wp2_with fail;refine(iZ w i).mono ?_;rintro e w1 ⟨rfl,v⟩
 have c1:=(v.cell (p:=ah a.pw 0) Q).trans c0;have aT:=i.below v bJ
 go_wp2_with fail;refine(jQ w1 aT).mono ?_;rintro e c ⟨rfl,aV⟩
 have q:=v.trans (aV.mono v.size)
 have c2:=(q.cell (p:=ah a.pw 0) Q).trans c0;have a0:=i.below q bJ
 have bZ:=q.size;have l2:a.pw<c.heap.size:=I;clear v aV aT c1;have A:Below c.heap.size c (((c.alloc (.map #[] 0)).alloc (.cells #[.pointer (some ⟨a.pw,0,none⟩),.map (some c.heap.size),.int .i64 ((a.N:Int)+s.g),.slice none 0 0,.slice none 0 0] 143)).alloc (.cells #[.pointer (some ⟨c.heap.size+1,0,none⟩)] 140)):=(((Below.refl _ c).alloc bJ _).alloc V _).alloc (by simp;omega) _;have G:=a0.below A bJ
 have b0:=(A.cell (p:=ah a.pw 0) l2).trans c2;have P:=nf _ G;obtain⟨W,l⟩:∃W,W=((c.alloc (.map #[] 0)).alloc (.cells #[.pointer (some ⟨a.pw,0,none⟩),.map (some c.heap.size),.int .i64 ((a.N:Int)+s.g),.slice none 0 0,.slice none 0 0] 143)).alloc (.cells #[.pointer (some ⟨c.heap.size+1,0,none⟩)] 140):=⟨_,rfl⟩
 have a3:Hid (W.heap.size=c.heap.size+3/\Below c.heap.size c W/\Mp W c.heap.size [] (fun _=>-1)/\W.heap[c.heap.size+1]?=some (.cells #[af a.pw,.map (some c.heap.size),ae ((a.N:Int)+s.g),.slice none 0 0,.slice none 0 0] 143 (0,0))/\W.heap[c.heap.size+2]?=some (.cells #[af (c.heap.size+1)] 140 (0,0))/\At W a.p a.q a.N a.O s.y s.g s.ws):=by
  rw[<-l] at A G;refine⟨by rw[l];simp only [World.size_alloc],A,?_,?_,?_,G⟩
  ·have bp:=World.ownsMap_made c prog 3 (plainElem (H:=Unit) prog 3)
   refine Mp.same (w:=c.alloc (.map #[] 0)) ⟨_,bp,fun _=>rfl,fun a ha=>by simp at ha⟩ ?_;rw[l,Below.heap_alloc _ _ _ (by simp;omega),Below.heap_alloc _ _ _ V]
  ·rw[l,Below.heap_alloc _ _ _ V];simpa using aw (c.alloc (.map #[] 0)) (.cells #[af a.pw,.map (some c.heap.size),ae ((a.N:Int)+s.g),.slice none 0 0,.slice none 0 0] 143)
  ·rw[l];simpa using aw ((c.alloc (.map #[] 0)).alloc (.cells #[.pointer (some ⟨a.pw,0,none⟩),.map (some c.heap.size),.int .i64 ((a.N:Int)+s.g),.slice none 0 0,.slice none 0 0] 143)) (.cells #[af (c.heap.size+1)] 140)
 have bb:Hid (W=((c.alloc (.map #[] 0)).alloc (.cells #[.pointer (some ⟨a.pw,0,none⟩),.map (some c.heap.size),.int .i64 ((a.N:Int)+s.g),.slice none 0 0,.slice none 0 0] 143)).alloc (.cells #[.pointer (some ⟨c.heap.size+1,0,none⟩)] 140)):=l;rw[<-l] at P;clear A G l;go_wp2_with fail;rw[<-bb.out];refine P.mono ?_;clear P;rintro e w3 ⟨v1,v2,rfl,B,bd,g⟩
 obtain⟨br,bs,rfl⟩:=dG B;obtain⟨b1,b2,rfl⟩:=dG bd;obtain⟨bx,o,be,bg,R,bi⟩:=a3.out;have b3:=g.size;have b4:w3.cell? (ah (c.heap.size+1+1) 0)=some (af (c.heap.size+1)):=by have:=(g.block (c.heap.size+2) I).trans R;simp[World.cell?,this]
 have b5:c.heap.size+1+1<w3.heap.size:=I;have b6:w3.cell? (ah a.pw 0)=some (af a.p):=(g.cell (p:=ah a.pw 0) (by show a.pw<_;omega)).trans ((o.cell (p:=ah a.pw 0) l2).trans c2)
 have b7:(dv a.N s.y s.g s.ws).length<=2000:=gx _ _;have S:∀x∈dv a.N s.y s.g s.ws,0<=x/\x<=2000:=fun x U=>by have:=lx x U;omega
 have Y:=O.out.1.ar;have np:=Y.ee;have nq:=Y.ef;have bl:(nO (c.heap.size+1) c.heap.size (c.heap.size+2) ((a.N:Int)+s.g) a s.y s.g s.ws).J (fun b=>b=c.heap.size+1\/b=c.heap.size\/b=a.pw\/b=a.p\/b=a.q\/b=c.heap.size+2) [] w3:=
  ⟨⟨(g.block _ I).trans bg,be.same (g.block _ I),bi.below g bJ,((g.block _ I).trans (o.block _ l2)).trans ((q.block _ Q).trans O.out.1.wd),(g.block _ I).trans R⟩,⟨I,I,I,I,I⟩,fun b=>Iff.rfl⟩
 have E:=s_ (nO (c.heap.size+1) c.heap.size (c.heap.size+2) ((a.N:Int)+s.g) a s.y s.g s.ws) (fun _ x=>pf (ld a.N s.y s.g s.ws x)) (fun ad x=>ad++[x]) (fun j ad=>ad.length<=j) (c.heap.size+1) a.pw a.p 148 #[af (c.heap.size+1+1)] yI (dv a.N s.y s.g s.ws) br bs s.y _ [] w3
  (by
    rintro F t bn x ⟨⟨g1,g2,g3,J,K⟩,_⟩
    refine⟨by simp[World.cell?,g1],by simp[World.cell?,J],(e9 x bn g3).mono ?_⟩
    rintro r w' ⟨rfl,f⟩
    exact⟨_,_,rfl,f⟩)
  (fun t x=>cU _) (fun x U=>by have:=S x U;omega) I
  (by
    rintro j F t bn ai C bL _;have hm:(dv a.N s.y s.g s.ws).getD j 0∈dv a.N s.y s.g s.ws:=by rw[aj,am ai];exact aK ai
    have f:=S _ hm;have C:t.length<=j:=C;exact yJ bL _ f.1 I I)
  (by
    intro j t ai C;have C:t.length<=j:=C;show(gP _ _ _ _ _:List Int).length<=j+1;unfold gP;split
    ·simp;omega
    ·omega)
  V bl (ga B)
  (fun hp z e=>by
    obtain⟨b,N,bN⟩:=dP B hp;cases bN;cases e;have aF:=(bR B b rfl).1;show¬(b=c.heap.size+1\/b=c.heap.size\/b=a.pw\/b=a.p\/b=a.q\/b=c.heap.size+2)
    omega)
 rw[tc (fun x=>pf (ld a.N s.y s.g s.ws x)) s.y (dv a.N s.y s.g s.ws) [],List.nil_append] at E;have al:Hid (∀b,b<c.heap.size->w3.heap[b]?=c.heap[b]?):=fun b f=>(g.block b I).trans (o.block b f)
 have k:Hid (Below w.heap.size w c/\w3.os=c.os/\w3.tape=c.tape/\w3.output=c.output):=⟨q,g.os.trans o.os,g.tape.trans o.tape,g.output.trans o.output⟩
 clear bl B bd bx o be bg R bi a3 bb g S Y i a0 q c0 c2;go_wp2_with fail;refine E.mono ?_;clear E;rintro e D ⟨b8,rfl,⟨⟨g1,g2,g3,J,K⟩,bO,bP⟩,ax,_⟩
 have b9:D.cell? (ah (c.heap.size+1+1) 0)=some (af (c.heap.size+1)):=by simp[World.cell?,K]
 have ca:c.heap.size+1+1<D.heap.size:=lt_of_some K;have bQ:Hid (∃m,(dq ⟨c.heap.size+1,c.heap.size,a.pw,a.p,a.q,a.pc,ct,a.sd,a.nb,dx a.O,s.M⟩ ⟨a.N,a.O,s.y,kN a.N s.y s.g s.ws⟩).J m ⟨s.g,s.ws,fun _=>-1,(a.N:Int)+s.g,[],[],s.rs⟩ D/\bM F w m D):=by
  obtain⟨hM,n⟩:=O.out;have keep:∀b,b<w.heap.size->own b≠1->own b≠3->D.heap[b]?=w.heap[b]?:=fun b f n1 aR=>
   (ax.fr.block b I (fun d=>by
     rcases d with d|d|d|d|d|d
     ·omega
     ·omega
     ·exact aR (by rw[d];exact hM.w1)
     ·exact n1 (by rw[d];exact hM.a1)
     ·exact n1 (by rw[d];exact hM.a2)
     ·omega)).trans ((al.out b I).trans (k.out.1.block b f))
  have bo:=hM.lt;have lo:∀b,own b≠0->b≠c.heap.size+1/\b≠c.heap.size:=fun b f=>by have:=bo b f;omega
  have u:∀b j,own b=j->j≠0->(if b=c.heap.size+1 then 5 else if b=c.heap.size then 6 else own b)=j:=fun b j e h0=>by
   obtain⟨l1,l2⟩:=lo b (by rw[e];exact h0)
   rw[ao l1,ao l2];exact e
  refine⟨fun b=>F b\/b=c.heap.size+1\/b=c.heap.size,⟨.slice none 0 0,.slice none 0 0,fun b=>if b=c.heap.size+1 then 5 else if b=c.heap.size then 6 else own b,?_,fun b=>?_⟩,⟨?_,fun b f=>?_⟩⟩
  ·exact {
    ar:=g3,a1:=u _ _ hM.a1 Z,a2:=u _ _ hM.a2 Z,c1:=u _ _ hM.c1 Z,c2:=u _ _ hM.c2 Z,w1:=u _ _ hM.w1 Z,r1:=u _ _ hM.r1 Z,rl:=hM.rl
    cd:=hM.cd.same (keep _ hM.cd.ee (by rw[hM.c1];decide) (by rw[hM.c1];decide)) (keep _ hM.cd.ef (by rw[hM.c2];decide) (by rw[hM.c2];decide))
    wd:=J
    rt:=(keep _ (lt_of_some hM.rt) (by rw[hM.r1];decide) (by rw[hM.r1];decide)).trans hM.rt
    cb:=g1
    k1:=by rw[aq rfl]
    mp:=g2
    m1:=by rw[ao V,aq rfl]
    wr:=aO _ _ _ _
    de:=fun b e=>by simp[Value.ownBlock] at e
    er:=aO _ _ _ _
    eo:=fun b e=>by simp[Value.ownBlock] at e
    lt:=fun b f=>by
     by_cases L:b=c.heap.size+1
     ·omega
     ·by_cases M:b=c.heap.size
      ·omega
      ·rw[ao L,ao M] at f;have:=bo b f;omega}
  ·by_cases L:b=c.heap.size+1
   ·simp[L]
   ·by_cases M:b=c.heap.size
    ·simp[M]
    ·simp[L,M,n b]
  ·have bS:Below w.heap.size w w3:=⟨k.out.2.1.trans k.out.1.os,k.out.2.2.1.trans k.out.1.tape,k.out.2.2.2.trans k.out.1.output,I,fun b f=>(al.out b I).trans (k.out.1.block b f)⟩
   refine(Fr.of (X:=F) bS).trans ax.fr (fun b d=>?_)
   rcases d with d|d|d|d|d|d
   ·exact an I
   ·exact an I
   ·exact ap ((n b).2 (by rw[d,hM.w1];decide))
   ·exact ap ((n b).2 (by rw[d,hM.a1];decide))
   ·exact ap ((n b).2 (by rw[d,hM.a2];decide))
   ·exact an I
  ·rcases f with f|f|f
   ·exact ap f
   ·exact an I
   ·exact an I
 clear g1 g2 g3 J K bO bP ax al k;go_wp2_with fail;go_ret;obtain⟨m,bT,j2⟩:=bQ.out;exact⟨_,_,_,m,rfl,bT,j2⟩
structure bL where
 a:Wc
 s:dT
 Y:List Int
 G:List Int
structure bX where
 f:Int->Int
 td:List Int
 ep:List Int
def bL.T (k:bL):List Int:=k.G++k.Y
def bL.ld (k:bL)(x:Int):Int:=Proofs.YtjpjpjemibgjpaaGreat.ld k.a.N k.s.y k.s.g k.s.ws x
def bL.jt (k:bL)(x:Int):Bool:=cI x&&k.T.contains (bQ x)
def bL.co (k:bL)(s:bX)(x:Int):Bool:=k.jt x&&(s.f (bQ x)==-1)
def bL.nw (k:bL)(s:bX)(x:Int):Int:=if(k.jt x&&!(s.f (bQ x)==-1))=true then ew 3 (s.f (bQ x)) else x
def bL.ma (k:bL)(s:bX)(x:Int):bX:=if k.co s x=true then {s with f:=fe s.f (bQ x) (bQ x),td:=s.td++[bQ x]} else s
def bL.d7 (k:bL)(s:bX)(a:Int):Nat->bX
 |0=>s
 |n+1=>k.ma (k.d7 s a n) (k.ld (a+1+n))
def bL.lk (k:bL)(s:bX)(a:Int):bX:=
 if pk (k.ld a)=1\/pk (k.ld a)=2 then k.d7 s a (pf (k.ld a)).toNat
 else if pk (k.ld a)=3 then k.ma s (k.ld (a+2))
 else if pk (k.ld a)=4 then {s with ep:=s.ep++[a]} else s
def bL.l1 (k:bL)(s:bX):bX:=k.lk {s with td:=s.td.take (s.td.length-1)} (s.td.getD (s.td.length-1) 0)
def bL.lm (k:bL):Nat->bX->bX
 |0,s=>s
 |n+1,s=>if 0<s.td.length then k.lm n (k.l1 s) else s
def bL.cr (k:bL)(t:List Int×bX)(a:Int):List Int×bX:=if k.co t.2 (k.ld (a+1))=true then(t.1++[a],t.2) else(t.1,k.ma t.2 (k.ld (a+2)))
def bL.c4 (k:bL)(s:bX)(l:List Int):List Int×bX:=l.foldl k.cr ([],s)
def bL.kv (k:bL)(s:bX):Bool×bX:=(decide ((k.c4 s s.ep).1.length<s.ep.length),{(k.c4 s s.ep).2 with ep:=(k.c4 s s.ep).1})
def bL.al (k:bL)(s:bX)(x:Int):Bool:=!k.co s x
def bL.lost (k:bL)(s:bX):Nat:=(k.T.filter (fun a=>s.f a==-1)).length
structure cu (k:bL)(s:bX):Prop where
 nd:k.T.Nodup
 ps:∀a∈k.T,0<=a/\a<=2000
 td:∀a∈s.td,a∈k.T
 ep:∀a∈s.ep,a∈k.T
 tl:k.T.length<=4000
 sum:k.lost s+s.td.length+s.ep.length<=k.T.length
section
variable {k:bL}{s:bX}
theorem bL.mC {x:Int}(h:k.co s x=true):cI x=true/\bQ x∈k.T/\s.f (bQ x)=-1:=by unfold bL.co bL.jt at h;simp only [Bool.and_eq_true] at h;exact⟨h.1.1,List.contains_iff_mem.1 h.1.2,by simpa using h.2⟩
theorem bL.te (c:k.T.Nodup){x:Int}(h:k.co s x=true)(h0:∀a∈k.T,0<=a):k.lost (k.ma s x)+1=k.lost s:=by
 obtain⟨_,b,d⟩:=bL.mC h;have e:(k.ma s x).f=fe s.f (bQ x) (bQ x):=by unfold bL.ma;rw[aq h]
 have hp:=h0 _ b;unfold bL.lost;rw[e,sI _ _ _ _ I];exact x7 _ _ (c.filter _) (List.mem_filter.2 ⟨b,by rw[d];rfl⟩)
theorem cu.ma (h:cu k s)(x:Int):cu k (k.ma s x)/\k.lost (k.ma s x)+(k.ma s x).td.length=k.lost s+s.td.length/\(k.ma s x).ep=s.ep:=by
 by_cases c:k.co s x=true
 ·have i:=bL.te h.nd c (fun a ha=>(h.ps a ha).1)
  obtain⟨_,g,_⟩:=bL.mC c;have f:(k.ma s x).td=s.td++[bQ x]:=by unfold bL.ma;rw[aq c]
  have d:(k.ma s x).ep=s.ep:=by unfold bL.ma;rw[aq c]
  have hs:=h.sum;have j:(k.ma s x).td.length=s.td.length+1:=by rw[f];simp
  refine⟨⟨h.nd,h.ps,fun a ha=>?_,by rw[d];exact h.ep,h.tl,by rw[d];omega⟩,I,d⟩
  rw[f] at ha;rcases List.mem_append.1 ha with b|b
  ·exact h.td a b
  ·rw[a7] at b;rw[b];exact g
 ·have e:k.ma s x=s:=by unfold bL.ma;rw[ao c]
  rw[e];exact⟨h,rfl,rfl⟩
theorem cu.d7 (h:cu k s)(a:Int):∀n,cu k (k.d7 s a n)/\k.lost (k.d7 s a n)+(k.d7 s a n).td.length=k.lost s+s.td.length/\(k.d7 s a n).ep=s.ep
 |0=>⟨h,rfl,rfl⟩
 |n+1=>by
  obtain⟨b,c,d⟩:=cu.d7 h a n;obtain⟨e,j2,b7⟩:=b.ma (k.ld (a+1+n))
  exact⟨e,j2.trans c,b7.trans d⟩
theorem cu.lk (h:cu k s){a:Int}(ha:a∈k.T)(i:k.lost s+s.td.length+s.ep.length+1<=k.T.length):cu k (k.lk s a)/\k.lost (k.lk s a)+(k.lk s a).td.length=k.lost s+s.td.length/\(k.lk s a).ep.length<=s.ep.length+1:=by
 unfold bL.lk;split
 ·obtain⟨d,e,f⟩:=h.d7 a (pf (k.ld a)).toNat;exact⟨d,e,by rw[f];omega⟩
 ·split
  ·obtain⟨d,e,f⟩:=h.ma (k.ld (a+2))
   exact⟨d,e,by rw[f];omega⟩
  ·split
   ·refine⟨⟨h.nd,h.ps,h.td,fun b g=>?_,h.tl,?_⟩,rfl,V⟩
    ·rcases List.mem_append.1 g with c|c
     ·exact h.ep b c
     ·rw[a7] at c;rw[c];exact ha
    ·show k.lost s+s.td.length+(s.ep++[a]).length<=_;rw[aJ];simp;omega
   ·exact⟨h,rfl,I⟩
theorem cu.l1 (h:cu k s)(hl:0<s.td.length):cu k (k.l1 s)/\k.lost (k.l1 s)+(k.l1 s).td.length+1=k.lost s+s.td.length:=by
 have hm:s.td.getD (s.td.length-1) 0∈s.td:=by rw[aj,am I];exact aK _
 have hs:=h.sum;have e:(s.td.take (s.td.length-1)).length=s.td.length-1:=by rw[a5];omega
 have h0:cu k {s with td:=s.td.take (s.td.length-1)}:=⟨h.nd,h.ps,fun a ha=>h.td a (List.mem_of_mem_take ha),h.ep,h.tl,by show k.lost s+(s.td.take (s.td.length-1)).length+s.ep.length<=_;omega⟩
 have c:k.lost {s with td:=s.td.take (s.td.length-1)}=k.lost s:=rfl;obtain⟨d,b,_⟩:=h0.lk (h.td _ hm) (by show k.lost s+(s.td.take (s.td.length-1)).length+s.ep.length+1<=_;omega)
 refine⟨d,?_⟩
 unfold bL.l1;dsimp only at b;rw[c] at b;omega
theorem cu.lm:∀(n:Nat){s:bX},cu k s->cu k (k.lm n s)/\(k.lost s+s.td.length<n->(k.lm n s).td=[])/\k.lost (k.lm n s)+(k.lm n s).td.length<=k.lost s+s.td.length
 |0,s,h=>⟨h,fun e=>absurd e I,ak _⟩
 |n+1,s,h=>by
  unfold bL.lm;by_cases c:0<s.td.length
  ·rw[aq c];obtain⟨a,d⟩:=h.l1 c;obtain⟨b,j2,b7⟩:=cu.lm n a;exact⟨b,fun e=>j2 I,I⟩
  ·rw[ao c];refine⟨h,fun _=>?_,ak _⟩
   cases ht:s.td with
   |nil=>rfl
   |cons x l=>rw[ht] at c;simp at c
theorem cu.cr {t:List Int×bX}(h:cu k t.2){a:Int}(ha:a∈k.T)(ht:∀b∈t.1,b∈k.T):cu k (k.cr t a).2/\(k.cr t a).1.length<=t.1.length+1/\(∀b∈(k.cr t a).1,b∈k.T)/\k.lost (k.cr t a).2+(k.cr t a).2.td.length=k.lost t.2+t.2.td.length/\(k.cr t a).2.ep=t.2.ep:=by
 unfold bL.cr;split
 ·refine⟨h,V,fun b d=>?_,rfl,rfl⟩
  rcases List.mem_append.1 d with c|c
  ·exact ht b c
  ·rw[a7] at c;rw[c];exact ha
 ·obtain⟨e,f,g⟩:=h.ma (k.ld (a+2))
  exact⟨e,V,ht,f,g⟩
theorem cu.gE:∀(l:List Int){t:List Int×bX},cu k t.2->(∀a∈l,a∈k.T)->(∀b∈t.1,b∈k.T)->cu k (l.foldl k.cr t).2/\(l.foldl k.cr t).1.length<=t.1.length+l.length/\(∀b∈(l.foldl k.cr t).1,b∈k.T)/\k.lost (l.foldl k.cr t).2+(l.foldl k.cr t).2.td.length=k.lost t.2+t.2.td.length/\(l.foldl k.cr t).2.ep=t.2.ep
 |[],t,h,_,ht=>⟨h,V,ht,rfl,rfl⟩
 |a::l,t,h,hl,ht=>by obtain⟨c,j,d,e,f⟩:=h.cr (hl a V) ht;obtain⟨g,j2,b7,b9,cC⟩:=cu.gE l c (fun b i=>hl b (ay _ i)) d;rw[aI];exact⟨g,by simp only [List.length_cons];omega,b7,b9.trans e,cC.trans f⟩
theorem cu.kv (h:cu k s):cu k (k.kv s).2/\k.lost (k.kv s).2+(k.kv s).2.td.length=k.lost s+s.td.length/\(k.kv s).2.ep.length<=s.ep.length/\((k.kv s).1=true->(k.kv s).2.ep.length<s.ep.length):=by
 obtain⟨i,d,j,a,m⟩:=cu.gE s.ep (t:=([],s)) h h.ep (fun b l=>by cases l)
 have f:k.lost (k.kv s).2=k.lost (k.c4 s s.ep).2:=rfl;have g:(k.kv s).2.td=(k.c4 s s.ep).2.td:=rfl;have c:(k.kv s).2.ep=(k.c4 s s.ep).1:=rfl;have d:(k.c4 s s.ep).1.length<=0+s.ep.length:=d;have a:k.lost (k.c4 s s.ep).2+(k.c4 s s.ep).2.td.length=k.lost s+s.td.length:=a;have hs:=h.sum;refine⟨⟨h.nd,h.ps,i.td,j,h.tl,?_⟩,by rw[f,g];exact a,by rw[c];omega,fun e=>?_⟩
 ·rw[f,g,c];omega
 ·rw[c];exact of_decide_eq_true e
end
structure eB where
 pk:Nat
 bW:Nat
 bs:Nat
 yv:Value
 ov:Value
structure mD (c:eB)(k:bL)(mE:Nat->Prop)(own:Nat->Nat)(s:bX)(vt bO:Value)(w:World):Prop where
 wd:(dD k.a).J mE k.s w
 w1:∀b,mE b↔own b=1
 cb:w.heap[c.pk]?=some (.cells #[af k.a.pw,c.yv,c.ov,.map (some c.bW),af c.bs,vt,bO] 115 (0,0))
 k1:own c.pk=5
 mp:Mp w c.bW k.T s.f
 m1:own c.bW=6
 tr:w.ownsRow 0 3 1 vt s.td.length (s.td.map (Value.int .i64))
 fU:∀b,some b=vt.ownBlock->own b=7
 er:w.ownsRow 0 3 1 bO s.ep.length (s.ep.map (Value.int .i64))
 eo:∀b,some b=bO.ownBlock->own b=8
 yr:w.ownsRow 0 3 1 c.yv k.Y.length (k.Y.map (Value.int .i64))
 gh:∀b,some b=c.yv.ownBlock->own b=9
 gr:w.ownsRow 0 3 1 c.ov k.G.length (k.G.map (Value.int .i64))
 go:∀b,some b=c.ov.ownBlock->own b=10
 lt:∀b,own b≠0->b<w.heap.size
section
variable {c:eB}{k:bL}{mE:Nat->Prop}{own:Nat->Nat}{s:bX}{vt bO:Value}{w w':World}
theorem mD.but (h:mD c k mE own s vt bO w)(L:Nat->Prop)(hs:w.heap.size<=w'.heap.size)(hk:∀b,b<w.heap.size->own b≠0->¬L (own b)->w'.heap[b]?=w.heap[b]?)
 (d:L 5->w'.heap[c.pk]?=some (.cells #[af k.a.pw,c.yv,c.ov,.map (some c.bW),af c.bs,vt,bO] 115 (0,0)))
 (hM:L 6->Mp w' c.bW k.T s.f)(f:L 7->w'.ownsRow 0 3 1 vt s.td.length (s.td.map (Value.int .i64)))(g:L 8->w'.ownsRow 0 3 1 bO s.ep.length (s.ep.map (Value.int .i64)))(i:¬L 1)(j:¬L 9)(m:¬L 10):mD c k mE own s vt bO w' where
 wd:=(dD k.a).keep h.wd hs (fun b a=>hk b ((dD k.a).lt h.wd b a) (by rw[(h.w1 b).1 a];decide) (by rw[(h.w1 b).1 a];exact i))
 w1:=h.w1
 cb:=by
  by_cases l:L 5
  ·exact d l
  ·exact(hk _ (lt_of_some h.cb) (by rw[h.k1];decide) (by rw[h.k1];exact l)).trans h.cb
 k1:=h.k1
 mp:=by
  by_cases l:L 6
  ·exact hM l
  ·exact h.mp.same (hk _ h.mp.lt (by rw[h.m1];decide) (by rw[h.m1];exact l))
 m1:=h.m1
 tr:=by
  by_cases l:L 7
  ·exact f l
  ·exact ca h.tr (fun b e=>hk b (bR h.tr b e).2 (by rw[h.fU b e];decide) (by rw[h.fU b e];exact l))
 fU:=h.fU
 er:=by
  by_cases l:L 8
  ·exact g l
  ·exact ca h.er (fun b e=>hk b (bR h.er b e).2 (by rw[h.eo b e];decide) (by rw[h.eo b e];exact l))
 eo:=h.eo
 yr:=ca h.yr (fun b e=>hk b (bR h.yr b e).2 (by rw[h.gh b e];decide) (by rw[h.gh b e];exact j))
 gh:=h.gh
 gr:=ca h.gr (fun b e=>hk b (bR h.gr b e).2 (by rw[h.go b e];decide) (by rw[h.go b e];exact m))
 go:=h.go
 lt:=fun b n=>av (h.lt b n) hs
end
def cy (c:eB)(k:bL)(vt bO:Value):dB bX where
 J F s w:=∃a own,mD c k a own s vt bO w/\∀b,F b↔own b≠0
 lt:=by rintro F s w ⟨a,own,h,d⟩ b e;exact h.lt b ((d b).1 e)
 keep:=by rintro F s w w' ⟨a,own,h,d⟩ hs hk;exact⟨a,own,h.but (fun _=>False) hs (fun b _ h0 _=>hk b ((d b).2 h0)) False.elim False.elim False.elim False.elim id id id,d⟩
def dM (c:eB)(k:bL):dB bX where
 J F s w:=∃vt bO,(cy c k vt bO).J F s w
 lt:=by
  rintro F s w ⟨vt,bO,h⟩
  exact(cy c k vt bO).lt h
 keep:=by rintro F s w w' ⟨vt,bO,h⟩ hs hk;exact⟨vt,bO,(cy c k vt bO).keep h hs hk⟩
section
variable {c:eB}{k:bL}{F:Nat->Prop}{s:bX}{vt bO:Value}{w:World}
theorem dX (h:(cy c k vt bO).J F s w):w.cell? (ah c.pk 0)=some (af k.a.pw)/\w.cell? (ah c.pk 1)=some c.yv/\w.cell? (ah c.pk 2)=some c.ov/\w.cell? (ah c.pk 3)=some (.map (some c.bW))/\w.cell? (ah c.pk 4)=some (af c.bs)/\w.cell? (ah c.pk 5)=some vt/\w.cell? (ah c.pk 6)=some bO/\(∀i,w.frozen? (ah c.pk i)=false)/\c.pk<w.heap.size:=by
 obtain⟨b,own,h,_⟩:=h;have a:=h.cb;refine⟨?_,?_,?_,?_,?_,?_,?_,fun i=>?_,lt_of_some a⟩
 all_goals first|simp[World.cell?,a]|simp[World.frozen?,a]
theorem fH (h:(cy c k vt bO).J F s w):At w k.a.p k.a.q k.a.N k.a.O k.s.y k.s.g k.s.ws/\w.cell? (ah k.a.pw 0)=some (af k.a.p)/\w.cell? (ah k.a.pw 3)=some (.slice (ag k.a.nb) 12 12)/\∀i,i<12->w.cell? (ah k.a.nb i)=some (ae (k.s.rs.getD i 0)):=by obtain⟨b,own,h,_⟩:=h;obtain⟨c0,_,_,a,_,_,_,rt⟩:=hH h.wd;exact⟨(hG h.wd).1,c0,a,fun i hi=>(rt i hi).1⟩
theorem mF (h:(cy c k vt bO).J F s w):Mp w c.bW k.T s.f/\∀w' f,Mp w' c.bW k.T f->Fr (fun b=>b=c.bW) w w'->(cy c k vt bO).J F {s with f:=f} w'/\bM F w F w':=by
 obtain⟨i,own,h,j⟩:=h;refine⟨h.mp,fun w' f hm fr=>⟨⟨i,own,?_,j⟩,⟨fr.mono (fun b e=>(j b).2 (by rw[e,h.m1];decide)),fun _ a=>ap a⟩⟩⟩
 have g:mD c k i own {s with f:=f} vt bO w':=by
  have hk:∀b,b<w.heap.size->own b≠6->w'.heap[b]?=w.heap[b]?:=fun b d l=>fr.block b d (fun e=>l (by rw[e];exact h.m1))
  exact {
   wd:=(dD k.a).keep h.wd fr.size (fun b a=>hk b ((dD k.a).lt h.wd b a) (by rw[(h.w1 b).1 a];decide)),w1:=h.w1
   cb:=(hk _ (lt_of_some h.cb) (by rw[h.k1];decide)).trans h.cb,k1:=h.k1,mp:=hm,m1:=h.m1
   tr:=ca h.tr (fun b e=>hk b (bR h.tr b e).2 (by rw[h.fU b e];decide)),fU:=h.fU
   er:=ca h.er (fun b e=>hk b (bR h.er b e).2 (by rw[h.eo b e];decide)),eo:=h.eo
   yr:=ca h.yr (fun b e=>hk b (bR h.yr b e).2 (by rw[h.gh b e];decide)),gh:=h.gh
   gr:=ca h.gr (fun b e=>hk b (bR h.gr b e).2 (by rw[h.go b e];decide)),go:=h.go
   lt:=fun b d=>av (h.lt b d) fr.size}
 exact g
end
section
variable {c:eB}{k:bL}{F:Nat->Prop}{s:bX}{vt bO:Value}{w:World}
theorem yL {v0:Value}(h:(cy c k v0 bO).J F s w){v1:Value}{l:List Int}{w1:World}(g:Fr (fun b=>some b=v0.ownBlock) w w1)(o:w1.ownsRow 0 3 1 v1 l.length (l.map (Value.int .i64)))(m:∀b,some b=v1.ownBlock->some b=v0.ownBlock\/¬F b):
 (cy c k v1 bO).J (fun b=>F b\/some b=v1.ownBlock) {s with td:=l} (w1.setCell ⟨c.pk,5,none⟩ v1)/\Fr F w (w1.setCell ⟨c.pk,5,none⟩ v1):=by
 obtain⟨u,own,h,i⟩:=h;have sz:(w1.setCell ⟨c.pk,5,none⟩ v1).heap.size=w1.heap.size:=by simp[World.setCell]
 have p:∀b,b<w.heap.size->own b≠7->w1.heap[b]?=w.heap[b]?:=fun b a m=>g.block b a (fun e=>m (h.fU b e))
 have a:∀b,b<w.heap.size->own b≠7->own b≠5->(w1.setCell ⟨c.pk,5,none⟩ v1).heap[b]?=w.heap[b]?:=fun b a q v=>(Below.heap_setCell _ _ _ _ (fun e=>v (by have e:b=c.pk:=e;rw[e];exact h.k1))).trans (p b a q)
 have t:∀b,some b=v1.ownBlock->own b=7\/own b=0:=fun b e=>(m b e).elim (fun e=>ap (h.fU b e)) (fun hl=>an (Classical.byContradiction (fun c=>hl ((i b).2 c))))
 have f:∀b j,own b=j->j≠7->j≠0->(if some b=v1.ownBlock then 7 else own b)=j:=fun b j e q h0=>by rw[ao (fun c=>by rcases t b c with c|c<;>omega)];exact e
 have x:=fun b e=>(bR o b e).2;refine⟨⟨u,fun b=>if some b=v1.ownBlock then 7 else own b,?_,fun b=>?_⟩,?_⟩
 ·exact {
   wd:=(dD k.a).keep h.wd (by rw[sz];exact g.size) (fun b d=>a b ((dD k.a).lt h.wd b d) (by rw[(h.w1 b).1 d];decide) (by rw[(h.w1 b).1 d];decide))
   w1:=fun b=>⟨fun d=>f _ _ ((h.w1 b).1 d) Z Z,fun d=>by
    by_cases e:some b=v1.ownBlock
    ·rw[aq e] at d;omega
    ·rw[ao e] at d;exact(h.w1 b).2 d⟩
   k1:=f _ _ h.k1 Z Z,m1:=f _ _ h.m1 Z Z
   cb:=by have hq:=(p _ (lt_of_some h.cb) (by rw[h.k1];decide)).trans h.cb;simp only [World.setCell,Array.getElem?_modify,if_true,hq,Option.map_some];simp
   mp:=h.mp.same (a _ h.mp.lt (by rw[h.m1];decide) (by rw[h.m1];decide))
   tr:=ca o (fun b e=>Below.heap_setCell _ _ _ _ (fun n=>by
    have n:b=c.pk:=n;have:=t b e;rw[n,h.k1] at this
    omega))
   fU:=fun b e=>by rw[aq e]
   er:=ca h.er (fun b e=>a b (bR h.er b e).2 (by rw[h.eo b e];decide) (by rw[h.eo b e];decide))
   eo:=fun b e=>f _ _ (h.eo b e) Z Z
   yr:=ca h.yr (fun b e=>a b (bR h.yr b e).2 (by rw[h.gh b e];decide) (by rw[h.gh b e];decide))
   gh:=fun b e=>f _ _ (h.gh b e) Z Z
   gr:=ca h.gr (fun b e=>a b (bR h.gr b e).2 (by rw[h.go b e];decide) (by rw[h.go b e];decide))
   go:=fun b e=>f _ _ (h.go b e) Z Z
   lt:=fun b a=>by
    rw[sz];by_cases e:some b=v1.ownBlock
    ·exact x b e
    ·rw[ao e] at a;exact av (h.lt b a) g.size}
 ·by_cases e:some b=v1.ownBlock
  ·simp[e]
  ·simp[e,i b]
 ·refine(g.mono (fun b e=>(i b).2 (by rw[h.fU b e];decide))).trans ((Fr.refl (fun b=>b=c.pk) w1).set _ 5 _ rfl) (fun b e=>ap ((i b).2 (by rw[e,h.k1];decide)))
theorem tf {v0:Value}(h:(cy c k v0 bO).J F s w){v1:Value}{l:List Int}{w1:World}(g:Fr (fun b=>some b=v0.ownBlock) w w1)(i:w1.ownsRow 0 3 1 v1 l.length (l.map (Value.int .i64)))(d:∀b,some b=v1.ownBlock->some b=v0.ownBlock\/w.heap.size<=b):
 ∃f,(cy c k v1 bO).J f {s with td:=l} (w1.setCell ⟨c.pk,5,none⟩ v1)/\bM F w f (w1.setCell ⟨c.pk,5,none⟩ v1):=by
 obtain⟨j,m⟩:=yL h g i (fun b e=>(d b e).imp id (fun o a=>by have:=(cy c k v0 bO).lt h b a;omega))
 obtain⟨p,own,hm,n⟩:=h;exact⟨_,j,m,fun b a=>a.elim ap (fun e=>(d b e).imp (fun e=>(n b).2 (by rw[hm.fU b e];decide)) id)⟩
theorem ti {v0:Value}(h:(cy c k vt v0).J F s w){v1:Value}{l:List Int}{w1:World}(g:Fr (fun b=>some b=v0.ownBlock) w w1)(o:w1.ownsRow 0 3 1 v1 l.length (l.map (Value.int .i64)))(m:∀b,some b=v1.ownBlock->some b=v0.ownBlock\/¬F b):
 (cy c k vt v1).J (fun b=>F b\/some b=v1.ownBlock) {s with ep:=l} (w1.setCell ⟨c.pk,6,none⟩ v1)/\Fr F w (w1.setCell ⟨c.pk,6,none⟩ v1):=by
 obtain⟨u,own,h,i⟩:=h;have sz:(w1.setCell ⟨c.pk,6,none⟩ v1).heap.size=w1.heap.size:=by simp[World.setCell]
 have p:∀b,b<w.heap.size->own b≠8->w1.heap[b]?=w.heap[b]?:=fun b a m=>g.block b a (fun e=>m (h.eo b e))
 have a:∀b,b<w.heap.size->own b≠8->own b≠5->(w1.setCell ⟨c.pk,6,none⟩ v1).heap[b]?=w.heap[b]?:=fun b a q v=>(Below.heap_setCell _ _ _ _ (fun e=>v (by have e:b=c.pk:=e;rw[e];exact h.k1))).trans (p b a q)
 have t:∀b,some b=v1.ownBlock->own b=8\/own b=0:=fun b e=>(m b e).elim (fun e=>ap (h.eo b e)) (fun hl=>an (Classical.byContradiction (fun c=>hl ((i b).2 c))))
 have f:∀b j,own b=j->j≠8->j≠0->(if some b=v1.ownBlock then 8 else own b)=j:=fun b j e q h0=>by rw[ao (fun c=>by rcases t b c with c|c<;>omega)];exact e
 have x:=fun b e=>(bR o b e).2;refine⟨⟨u,fun b=>if some b=v1.ownBlock then 8 else own b,?_,fun b=>?_⟩,?_⟩
 ·exact {
   wd:=(dD k.a).keep h.wd (by rw[sz];exact g.size) (fun b d=>a b ((dD k.a).lt h.wd b d) (by rw[(h.w1 b).1 d];decide) (by rw[(h.w1 b).1 d];decide))
   w1:=fun b=>⟨fun d=>f _ _ ((h.w1 b).1 d) Z Z,fun d=>by
    by_cases e:some b=v1.ownBlock
    ·rw[aq e] at d;omega
    ·rw[ao e] at d;exact(h.w1 b).2 d⟩
   k1:=f _ _ h.k1 Z Z,m1:=f _ _ h.m1 Z Z
   cb:=by have hq:=(p _ (lt_of_some h.cb) (by rw[h.k1];decide)).trans h.cb;simp only [World.setCell,Array.getElem?_modify,if_true,hq,Option.map_some];simp
   mp:=h.mp.same (a _ h.mp.lt (by rw[h.m1];decide) (by rw[h.m1];decide))
   er:=ca o (fun b e=>Below.heap_setCell _ _ _ _ (fun n=>by
    have n:b=c.pk:=n;have:=t b e;rw[n,h.k1] at this
    omega))
   eo:=fun b e=>by rw[aq e]
   tr:=ca h.tr (fun b e=>a b (bR h.tr b e).2 (by rw[h.fU b e];decide) (by rw[h.fU b e];decide))
   fU:=fun b e=>f _ _ (h.fU b e) Z Z
   yr:=ca h.yr (fun b e=>a b (bR h.yr b e).2 (by rw[h.gh b e];decide) (by rw[h.gh b e];decide))
   gh:=fun b e=>f _ _ (h.gh b e) Z Z
   gr:=ca h.gr (fun b e=>a b (bR h.gr b e).2 (by rw[h.go b e];decide) (by rw[h.go b e];decide))
   go:=fun b e=>f _ _ (h.go b e) Z Z
   lt:=fun b a=>by
    rw[sz];by_cases e:some b=v1.ownBlock
    ·exact x b e
    ·rw[ao e] at a;exact av (h.lt b a) g.size}
 ·by_cases e:some b=v1.ownBlock
  ·simp[e]
  ·simp[e,i b]
 ·refine(g.mono (fun b e=>(i b).2 (by rw[h.eo b e];decide))).trans ((Fr.refl (fun b=>b=c.pk) w1).set _ 6 _ rfl) (fun b e=>ap ((i b).2 (by rw[e,h.k1];decide)))
theorem yM {v0:Value}(h:(cy c k vt v0).J F s w){v1:Value}{l:List Int}{w1:World}(g:Fr (fun b=>some b=v0.ownBlock) w w1)(i:w1.ownsRow 0 3 1 v1 l.length (l.map (Value.int .i64)))(d:∀b,some b=v1.ownBlock->some b=v0.ownBlock\/w.heap.size<=b):
 ∃f,(cy c k vt v1).J f {s with ep:=l} (w1.setCell ⟨c.pk,6,none⟩ v1)/\bM F w f (w1.setCell ⟨c.pk,6,none⟩ v1):=by
 obtain⟨j,m⟩:=ti h g i (fun b e=>(d b e).imp id (fun o a=>by have:=(cy c k vt v0).lt h b a;omega))
 obtain⟨p,own,hm,n⟩:=h;exact⟨_,j,m,fun b a=>a.elim ap (fun e=>(d b e).imp (fun e=>(n b).2 (by rw[hm.eo b e];decide)) id)⟩
theorem kO (h:(cy c k vt bO).J F s w):w.ownsRow 0 3 1 vt s.td.length (s.td.map (Value.int .i64))/\w.ownsRow 0 3 1 bO s.ep.length (s.ep.map (Value.int .i64))/\some c.pk≠vt.ownBlock/\some c.pk≠bO.ownBlock/\c.pk≠c.bW:=by
 obtain⟨b,own,h,_⟩:=h;refine⟨h.tr,h.er,fun e=>?_,fun e=>?_,fun e=>?_⟩
 ·have a:=h.fU _ e;rw[h.k1] at a;omega
 ·have a:=h.eo _ e;rw[h.k1] at a;omega
 ·have a:=h.k1;rw[e,h.m1] at a;omega
end
end Go.Proofs.YtjpjpjemibgjpaaGreat
