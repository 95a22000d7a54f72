import Derived.Test.YtpkjkjhanlbcoaaGreatJ14
namespace Go.Proofs.YtpkjkjhanlbcoaaGreat
set_option maxRecDepth 100000
set_option maxHeartbeats 4000000
open Tryz
open Go.RowKit W Kp ch
theorem tz {P:Prop}(h:P:=by rw[aG,aI aa];exact a_ _):P:=h
theorem yD {P:Prop}(h:P:=by simp only [World.setCell,Array.getElem?_modify,if_true,((hb1 _ (lt_of_some h.cb) (by grind [eb.k1])).trans h.cb),Option.map_some];simp):P:=h
section
variable {c:gm}{k:cf}{F:Nat->Prop}{s:ck}{w:aw}
def cf.md (k:cf)(c:gm)(s:ck)(a:Int):ck:=if(fU k.N c.c a&&c.M.contains (cN k.N a))=true then k.lk s a else s
theorem cf.Fq (k:cf)(c:gm)(s:ck)(l:List Int):k.lm c.c c.M s l=jW (fun s a=>pf (k.ld s a)) (k.md c) s.nx s l:=rfl
theorem CI.md (h:CI k s)(c:gm){a:Int}(ha:(k.N:Int)<=a)(b:a<=2000):CI k (k.md c s a)/\Cl k s (k.md c s a):=by
 unfold cf.md;split
 ·exact h.lk ha b
 ·exact⟨h,Cl.of (dZ.refl _ _)⟩
theorem Fs:d7 183:=gW func183 ah rfl
theorem Ft (bx:Nat)(h:(di (ef c k) bx (iT c)).J F s w)(t:CI k s)(a:Int)(a0:(k.N:Int)<=a)(a1:a<=2000)(u:s.wk.length<=10000)(v:s.ep.length<=10000):
 Calls prog 183 #[ak a,am bx] w fun e w'=>∃l,e=.returned (.tuple #[])/\(di (ef c k) bx (iT c)).J l (k.md c s a) w'/\ce F w l w':=by
 have m:=hide h;have x:=hide t;obtain⟨ag,⟨cE,ai,h0⟩,n,al,ap⟩:=h;have B:w.cell? (ao bx 0)=some (am c.pk):=aA n
 have N:=lt_of_some n;obtain⟨c0,_,_,_,_,_,ar,_,_,_,_,_,S,_,_⟩:=eg h0;have D:=Cf a w S aa aa aa;cases hd:(fU k.N c.c a&&c.M.contains (cN k.N a))
 ·have E:k.md c s a=s:=by unfold cf.md;rw[hd];rfl
  rw[E];rw[hd] at D;go_enter func183,ntmps183;go_wp2_with fail;refine D.mono ?_;rintro e w1 ⟨rfl,d⟩
  go_wp2;go_end0;exact⟨F,rfl,(di (ef c k) bx (iT c)).below m.o d,ce.of d⟩
 ·have E:k.md c s a=k.lk s a:=by unfold cf.md;rw[aJ hd]
  rw[E];rw[hd] at D;go_enter func183,ntmps183;go_wp2_with fail;refine D.mono ?_;rintro e w1 ⟨rfl,d⟩
  have ax:=(d.cell (p:=ao bx 0) N).trans B;have W:=(di (ef c k) bx (iT c)).below m.o d;obtain⟨aB,g1,g2,g3,g⟩:=W;have L:=yn g1 x.o a a0 a1 u v;have ab:=iZ g2 g3 g d;go_wp2_with fail;refine L.mono ?_;rintro e o ⟨j,rfl,ad,i⟩
  have q:ay ((di (ef c k) bx (iT c)).J (fun b=>j b\/b=bx) (k.lk s a) o/\ce F w (fun b=>j b\/b=bx) o):=by
   obtain⟨g2,g3,g,d⟩:=ab.o;refine⟨⟨j,ad,(i.fr.block bx (lt_of_some g2) g3).trans g2,fun f=>(i.sub bx f).elim g3 (fun f=>by have:=lt_of_some g2;omega),fun b=>Iff.rfl⟩,⟨(Fr.of (X:=F) d).trans (i.fr.mono (fun b hb=>(g b).2 (aL hb))) (fun _ f=>aL f),fun b hb=>?_⟩⟩
   rcases hb with hb|hb
   ·exact(i.sub b hb).elim (fun f=>aL ((g b).2 (aL f))) (fun f=>aK (by have:=d.size;omega))
   ·exact aL ((g b).2 (aK hb))
  go_wp2;go_end0;exact⟨_,rfl,q.o.1,q.o.2⟩
theorem Fu (h:(ef c k).J F s w)(l:CI k s)(ai:s.wk=[])(al:s.ep=[]):
 Calls prog 108 #[am c.pk] w fun e w'=>∃ap,e=.returned (.tuple #[])/\(ef c k).J ap (k.lm c.c c.M s (dB k.N k.y s.g s.ws)) w'/\ce F w ap w'/\CI k (k.lm c.c c.M s (dB k.N k.y s.g s.ws))/\ez k (k.lm c.c c.M s (dB k.N k.y s.g s.ws))/\(k.lm c.c c.M s (dB k.N k.y s.g s.ws)).nx=s.nx:=by
 have ar:=hide h;have q:=gM l ai al;have n1:=l.hN';have bx:=l.hO;have b0:=l.hg;have u:=aq w (iT c)
 have a0:=(ef c k).below h u;obtain⟨cE,v,h0⟩:=a0;obtain⟨c0,_,c2,_,_,c5,_⟩:=eg h0;obtain⟨o,_⟩:=iG h0;have P:=pX _ o;have a1:=hide u;clear h l h0 o u ai al;go_enter func108,ntmps108;go_wp2_with fail;refine P.mono ?_;clear P;rintro e w1 ⟨v1,v2,rfl,a2,p,ax⟩
 obtain⟨b1,b2,rfl⟩:=dU a2;obtain⟨a3,bb,rfl⟩:=dU p;have hb:=a1.o.trans (ax.mono ac)
 have bd:=(ef c k).below ar.o hb;have aB:w1.heap[w.heap.size]?=some (iT c):=(ax.block _ ac).trans (aN _ _)
 have b3:w1.cell? (ao w.heap.size 0)=some (am c.pk):=aA aB
 obtain⟨cE,v,x⟩:=bd;obtain⟨b4,_,b5,_,_,b6,_⟩:=eg x;have b7:(dB k.N k.y s.g s.ws).length<=2000:=iD _ _;have B:∀a∈dB k.N k.y s.g s.ws,(k.N:Int)<=a/\a<=2000:=fun a ha=>by have:=ou a ha;omega
 have N:∀b,F b->_:=(ef c k).lt ar.o;have be:(di (ef c k) w.heap.size (iT c)).J (fun b=>F b\/b=w.heap.size) s w1:=⟨F,⟨cE,v,x⟩,aB,fun d=>by have:=N _ d;omega,fun b=>Iff.rfl⟩
 have bg:=(di (ef c k) w.heap.size (iT c)).below be (aE _ w1).drew;have E:=yC (di (ef c k) w.heap.size (iT c)) (fun s a=>pf (k.ld s a)) (k.md c) (fun j s1=>CI k s1/\s1.wk.length<=j/\s1.ep.length<=j/\s1.nx=s.nx) c.pk c.pw c.p 183 #[am w.heap.size] Fs (dB k.N k.y s.g s.ws) a3 bb s.nx (fun b=>F b\/b=w.heap.size) s w1.drew
  (by
    rintro F t aF a ⟨b8,⟨cE,v,g1⟩,_⟩
    obtain⟨c0,_,_,_,_,c5,_⟩:=eg g1;obtain⟨o,_⟩:=iG g1;refine⟨c0,c5,(f6 a aF o).mono ?_⟩
    rintro r w' ⟨rfl,hb⟩
    exact⟨_,_,rfl,hb⟩)
  (fun t a=>dp _) (fun a ha=>by have:=B a ha;omega) aa
  (by
    rintro j F t aF m ⟨g1,g2,g3,i⟩ bi _;have hm:(dB k.N k.y s.g s.ws).getD j 0∈dB k.N k.y s.g s.ws:=by rw[aG,aI m];exact a_ m
    have:=B _ hm;exact Ft w.heap.size bi g1 _ this.1 this.2 aa aa)
  (by
    rintro j t m ⟨g1,g2,g3,i⟩
    have hm:(dB k.N k.y s.g s.ws).getD j 0∈dB k.N k.y s.g s.ws:=by rw[aG,aI m];exact a_ m
    have hb:=B _ hm;unfold iU;split
    ·obtain⟨f,g⟩:=g1.md c hb.1 hb.2;have:=g.wk;have:=g.ep;exact⟨f,aa,aa,g.nx.trans i⟩
    ·exact⟨g1,aa,aa,i⟩)
  ⟨q.o.1,by rw[q.o.2.1];simp,by rw[q.o.2.2];simp,rfl⟩ bg ((gV p).below (aE _ w1).drew)
  (fun hp z e=>by
    obtain⟨b,b9,bl⟩:=d4 p hp;cases bl;cases e;have bn:=(cg p b rfl).1;simp at bn;rintro(d|d)
    ·have d:F b:=d;have:=N b d;omega
    ·have d:b=w.heap.size:=d;omega)
 rw[<-cf.Fq] at E;have aR:=dq N hb;obtain⟨s2,aT⟩:∃s2,k.lm c.c c.M s (dB k.N k.y s.g s.ws)=s2:=⟨_,rfl⟩
 rw[aT] at E;have bo:=hide aT;go_wp2_with fail
 go_region_held3 (fun w'=>w'.cell? (ao w.heap.size 0)=some (am c.pk)/\w'.cell? (ao c.pk 2)=some (ak s.nx)) (go_keep)
  (first
    |(go_at_call 180;refine E.mono ?_;clear E;rintro e w3 ⟨ca,rfl,⟨S,g1,g2,g3,i⟩,W,f,g,ab,n⟩;obtain⟨bp,br,ad⟩:=g1;obtain⟨_,_,bs,_⟩:=eg ad;have g1:(ef c k).J S s2 w3:=⟨bp,br,ad⟩;rw[n] at bs;have bt:=iZ f g ab n;clear ad f g ab n;have cb:w3.cell? (ao w.heap.size 0)=some (am c.pk):=aA g2;have aV:ay (_/\ce F w S w3):=⟨g1,⟨((Fr.of (X:=F) aR.o.2).drew).trans W.fr (fun b d=>d.imp id (fun d=>by omega)),fun b d=>(W.sub b ((i b).2 (aL d))).elim (fun d=>d.imp id (fun d=>by omega)) (fun d=>aK (by have:=aR.o.2.size;simp at d;omega))⟩⟩;clear g1 g2 g3 i W))
 have ag:ay (CI k s2/\ez k s2/\s2.nx=s.nx):=by obtain⟨f,g,ab,n⟩:=bt.o;have x:=f.g7;exact⟨f,⟨aa,aa⟩,n⟩
 go_wp2_with fail;go_end0;rw[bo.o];exact⟨S,rfl,aV.o.1,aV.o.2,ag.o.1,ag.o.2.1,ag.o.2.2⟩
end
structure Wc where
 pw:Nat
 p:Nat
 q:Nat
 pc:Nat
 sd:Nat
 nb:Nat
 N:Nat
 O:Nat
structure eh where
 y:Nat
 g:Nat
 ws:List Int
 M:List Int
 rs:List Int
structure oY (a:Wc)(own:Nat->Nat)(s:eh)(cQ:Nat)(w:aw):Prop where
 ar:At w a.p a.q a.N a.O s.y s.g s.ws
 a1:own a.p=1
 a2:own a.q=1
 cd:Cd w a.pc cQ a.N (dY a.O) s.M
 c1:own a.pc=2
 c2:own cQ=2
 wd:w.heap[a.pw]?=some (.cells #[am a.p,am a.pc,am a.sd,.slice (an a.nb) 12 12] 55 (0,0))
 w1:own a.pw=3
 rt:w.heap[a.nb]?=some (.cells (s.rs.map (Value.int .i64)).toArray 2 (0,0))
 rl:s.rs.length=12
 r1:own a.nb=4
 le:∀b,own b<=4
 lt:∀b,own b≠0->b<w.heap.size
theorem oY.keep {a:Wc}{own:Nat->Nat}{s:eh}{cQ:Nat}{w w':aw}(h:oY a own s cQ w)(hs:w.heap.size<=w'.heap.size)(hk:∀b,own b≠0->w'.heap[b]?=w.heap[b]?):oY a own s cQ w':=
 {
  ar:=h.ar.same (hk _ (by rw[h.a1];decide)) (hk _ (by rw[h.a2];decide)),a1:=h.a1,a2:=h.a2
  cd:=h.cd.same (hk _ (by rw[h.c1];decide)) (hk _ (by rw[h.c2];decide)),c1:=h.c1,c2:=h.c2
  wd:=(hk _ (by rw[h.w1];decide)).trans h.wd,w1:=h.w1
  rt:=(hk _ (by rw[h.r1];decide)).trans h.rt,rl:=h.rl,r1:=h.r1,le:=h.le,lt:=fun b hb=>aO (h.lt b hb) hs}
def d5 (a:Wc):dS eh where
 J F s w:=∃own cQ,oY a own s cQ w/\∀b,F b↔own b≠0
 lt:=by rintro F s w ⟨own,cQ,h,c⟩ b hb;exact h.lt b ((c b).1 hb)
 keep:=by rintro F s w w' ⟨own,cQ,h,c⟩ hs hk;exact⟨own,cQ,h.keep hs (fun b hb=>hk b ((c b).2 hb)),c⟩
section
variable {a:Wc}{F:Nat->Prop}{s:eh}{w:aw}
theorem jX (h:(d5 a).J F s w):At w a.p a.q a.N a.O s.y s.g s.ws/\∀w' y g ws,At w' a.p a.q a.N a.O y g ws->c_ a.p a.q w w'->(d5 a).J F {s with y:=y,g:=g,ws:=ws} w'/\ce F w F w':=by
 obtain⟨own,cQ,h,f⟩:=h;refine⟨h.ar,fun w' y g ws ha c=>⟨⟨own,cQ,?_,f⟩,⟨⟨c.os,c.tape,c.output,c.size,fun b hb d=>c.block b hb (fun e=>d ((f b).2 (by rw[e,h.a1];decide))) (fun e=>d ((f b).2 (by rw[e,h.a2];decide)))⟩,fun _ h=>aL h⟩⟩⟩
 have hb:∀b,b<w.heap.size->own b≠1->_=_:=fun b hb d=>c.block b hb (fun e=>d (by rw[e];exact h.a1)) (fun e=>d (by rw[e];exact h.a2))
 exact {
  ar:=ha,a1:=h.a1,a2:=h.a2,c1:=h.c1,c2:=h.c2,w1:=h.w1,rl:=h.rl,r1:=h.r1,le:=h.le,lt:=fun b hb=>aO (h.lt b hb) c.size
  cd:=h.cd.same (hb _ h.cd.eO (by rw[h.c1];decide)) (hb _ h.cd.eP (by rw[h.c2];decide))
  wd:=(hb _ (lt_of_some h.wd) (by rw[h.w1];decide)).trans h.wd
  rt:=(hb _ (lt_of_some h.rt) (by rw[h.r1];decide)).trans h.rt}
theorem yE (h:(d5 a).J F s w)(i:Nat)(x:Int):(d5 a).J F {s with rs:=s.rs.set i x} (w.setCell ⟨a.nb,i,none⟩ (.int .i64 x))/\ce F w F (w.setCell ⟨a.nb,i,none⟩ (.int .i64 x)):=by
 obtain⟨own,cQ,h,c⟩:=h;have fr:Fr (fun b=>b=a.nb) w (w.setCell ⟨a.nb,i,none⟩ (.int .i64 x)):=(Fr.refl _ w).set _ i _ rfl;refine⟨⟨own,cQ,?_,c⟩,⟨fr.mono (fun b e=>(c b).2 (by rw[e,h.r1];decide)),fun _ h=>aL h⟩⟩
 have hb:∀b,b<w.heap.size->own b≠4->_=_:=fun b hb d=>fr.block b hb (fun e=>d (by rw[e];exact h.r1))
 exact {
  a1:=h.a1,a2:=h.a2,c1:=h.c1,c2:=h.c2,w1:=h.w1,r1:=h.r1,le:=h.le,lt:=fun b hb=>aO (h.lt b hb) fr.size
  rl:=by rw[bf];exact h.rl
  ar:=h.ar.same (hb _ h.ar.eO (by rw[h.a1];decide)) (hb _ h.ar.eP (by rw[h.a2];decide))
  cd:=h.cd.same (hb _ h.cd.eO (by rw[h.c1];decide)) (hb _ h.cd.eP (by rw[h.c2];decide))
  wd:=(hb _ (lt_of_some h.wd) (by rw[h.w1];decide)).trans h.wd
  rt:=by simp only [World.setCell,Array.getElem?_modify,if_true,h.rt,Option.map_some];simp[List.map_set]}
theorem yF (h:(d5 a).J F s w):∃cQ,Cd w a.pc cQ a.N (dY a.O) s.M/\∀w' d M,Cd w' a.pc d a.N (dY a.O) M->c_ a.pc cQ w w'->(d=cQ\/w.heap.size<=d)->∃m,(d5 a).J m {s with M:=M} w'/\ce F w m w':=by
 obtain⟨own,cQ,h,k⟩:=h;refine⟨cQ,h.cd,fun w' d M hc f hp=>⟨fun b=>F b\/b=d,⟨fun b=>if b=d then 2 else own b,d,?_,fun b=>?_⟩,⟨⟨f.os,f.tape,f.output,f.size,fun b hb g=>f.block b hb (fun e=>g ((k b).2 (by rw[e,h.c1];decide))) (fun e=>g ((k b).2 (by rw[e,h.c2];decide)))⟩,fun b hb=>hb.elim aL (fun e=>hp.imp (fun i=>(k b).2 (by rw[e,i,h.c2];decide)) (fun i=>by omega))⟩⟩⟩
 ·have hb:∀b,b<w.heap.size->own b≠2->_=_:=fun b hb g=>f.block b hb (fun e=>g (by rw[e];exact h.c1)) (fun e=>g (by rw[e];exact h.c2))
  have l:∀b j,own b=j->j≠0->j≠2->(if b=d then 2 else own b)=j:=fun b j e h0 n=>by
   rw[aH (fun c=>?_)]
   ·exact e
   ·rcases hp with i|i
    ·rw[c,i,h.c2] at e;omega
    ·have:=h.lt b (by rw[e];exact h0)
     omega
  exact {
   cd:=hc,a1:=l _ _ h.a1 ae ae,a2:=l _ _ h.a2 ae ae,w1:=l _ _ h.w1 ae ae,r1:=l _ _ h.r1 ae ae,c2:=by rw[aJ rfl],c1:=by
    split
    ·rfl
    ·exact h.c1
   rl:=h.rl
   ar:=h.ar.same (hb _ h.ar.eO (by rw[h.a1];decide)) (hb _ h.ar.eP (by rw[h.a2];decide))
   wd:=(hb _ (lt_of_some h.wd) (by rw[h.w1];decide)).trans h.wd
   rt:=(hb _ (lt_of_some h.rt) (by rw[h.r1];decide)).trans h.rt
   le:=fun b=>by
    split
    ·decide
    ·exact h.le b
   lt:=fun b hb=>by
    by_cases e:b=d
    ·rw[e];exact hc.eP
    ·rw[aH e] at hb;exact aO (h.lt b hb) f.size}
 ·by_cases e:b=d
  ·simp[e]
  ·simp[e,k b]
theorem jh (h:(d5 a).J F s w):w.cell? (ao a.pw 0)=some (am a.p)/\w.cell? (ao a.pw 1)=some (am a.pc)/\w.cell? (ao a.pw 2)=some (am a.sd)/\w.cell? (ao a.pw 3)=some (.slice (an a.nb) 12 12)/\a.pw<w.heap.size/\s.rs.length=12/\a.nb<w.heap.size/\∀i,i<12->w.cell? (ao a.nb i)=some (ak (s.rs.getD i 0))/\w.frozen? (ao a.nb i)=false:=by
 obtain⟨own,cQ,h,c⟩:=h;have b:=h.wd;have hl:=h.rl;refine⟨by simp[World.cell?,b],by simp[World.cell?,b],by simp[World.cell?,b],by simp[World.cell?,b],lt_of_some b,hl,lt_of_some h.rt,fun i hi=>⟨?_,?_⟩⟩
 ·simp[World.cell?,h.rt,List.getElem?_map,List.getElem?_eq_getElem (show i<s.rs.length by omega),List.getD_eq_getElem?_getD]
 ·simp[World.frozen?,h.rt]
end
abbrev Fw (a:Wc):Obj:=.cells #[am a.p,am a.pc,am a.sd,.slice (an a.nb) 12 12] 55 (0,0)
def qz (pk cr bx:Nat)(nx:Int)(a:Wc)(y g:Nat)(ws:List Int):dS (List Int) where
 J F U w:=(w.heap[pk]?=some (.cells #[am a.pw,.map (some cr),ak nx,.slice none 0 0,.slice none 0 0] 167 (0,0))/\Mp w cr U (fun _=>-1)/\At w a.p a.q a.N a.O y g ws/\w.heap[a.pw]?=some (Fw a)/\w.heap[bx]?=some (.cells #[am pk] 164 (0,0)))/\(cr≠pk/\cr≠a.pw/\cr≠a.p/\cr≠a.q/\cr≠bx)/\∀b,F b↔(b=pk\/b=cr\/b=a.pw\/b=a.p\/b=a.q\/b=bx)
 lt:=by
  rintro F U w ⟨⟨e,f,d,i,j⟩,_,c⟩ b hb;rcases(c b).1 hb with rfl|rfl|rfl|rfl|rfl|rfl
  ·exact lt_of_some e
  ·exact f.lt
  ·exact lt_of_some i
  ·exact d.eO
  ·exact d.eP
  ·exact lt_of_some j
 keep:=by rintro F U w w' ⟨⟨e,f,d,i,j⟩,k,c⟩ hs hk;exact⟨⟨(hk _ ((c _).2 (aL rfl))).trans e,f.same (hk _ ((c _).2 (aK (aL rfl)))),d.same (hk _ ((c _).2 (aK (aK (aK (aL rfl)))))) (hk _ ((c _).2 (aK (aK (aK (aK (aL rfl))))))),(hk _ ((c _).2 (aK (aK (aL rfl))))).trans i,(hk _ ((c _).2 (aK (aK (aK (aK (aK rfl))))))).trans j⟩,k,c⟩
theorem Fx:d7 181:=gW func181 ah rfl
theorem Fy {pk cr bx:Nat}{nx:Int}{a:Wc}{y g:Nat}{ws:List Int}{F:Nat->Prop}{d:List Int}{w:aw}(h:(qz pk cr bx nx a y g ws).J F d w)(v:Int)(v0:0<=v)(v1:v<=100000)(t:d.length<=100000):
 Calls prog 181 #[ak v,am bx] w fun e w'=>∃k,e=.returned (.tuple #[])/\(qz pk cr bx nx a y g ws).J k (d++[v]) w'/\ce F w k w':=by
 obtain⟨⟨f,⟨D,o1,o,p⟩,i,l,j⟩,c,m⟩:=h;have c1:w.cell? (ao pk 1)=some (.map (some cr)):=aA f
 have u:w.cell? (ao bx 0)=some (am pk):=aA j
 go_wp2_with (first
  |(refine wpList_mapUpdate_own _ rfl _ _ _ 127 rfl 3 3 iE underlying127 _ cr d.length D rfl o1 (by unfold maxLen;omega) _ _ _ rfl rfl (i1 (a:=v) v0 aa) _ [] (mo (-1) ae) ?_;intro x q n)
  |go_in)
 go_end0;have hb:∀b,b<w.heap.size->b≠cr->_=_:=fun b hb s=>n.block b hb (by simpa using s)
 refine⟨rfl,F,⟨⟨(hb _ (lt_of_some f) (Ne.symm c.1)).trans f,Mp.add (hide o1).o o p rfl rfl q,i.same (hb _ i.eO (Ne.symm c.2.2.1)) (hb _ i.eP (Ne.symm c.2.2.2.1)),(hb _ (lt_of_some l) (Ne.symm c.2.1)).trans l,(hb _ (lt_of_some j) (Ne.symm c.2.2.2.2)).trans j⟩,c,m⟩,⟨((Fr.refl _ w).grown n (fun b e=>aL (by cases e;exact(m cr).2 (aK (aL rfl))))),fun _ h=>aL h⟩⟩
def mO (N y g:Nat)(ws:List Int):List Int:=(dW N y g ws).filter (fun a=>decide (a+pf (ld N y g ws a)<y))
theorem yG (h:Int->Int)(e:Int):∀(l b:List Int),jW (fun _ a=>h a) (fun b a=>b++[a]) e b l=b++l.filter (fun a=>decide (a+h a<e))
 |[],b=>by simp[jW]
 |a::l,b=>by
  have f:=yG h e l;have g:jW (fun _ a=>h a) (fun b a=>b++[a]) e b (a::l)=jW (fun _ a=>h a) (fun b a=>b++[a]) e (iU (fun _ a=>h a) (fun b a=>b++[a]) e b a) l:=rfl;rw[g];by_cases c:a+h a<e
  ·have d:iU (fun _ a=>h a) (fun b a=>b++[a]) e b a=b++[a]:=by unfold iU;rw[aJ c]
   rw[d,f,List.filter_cons_of_pos (by simpa using c),bj];rfl
  ·have d:iU (fun _ a=>h a) (fun b a=>b++[a]) e b a=b:=by unfold iU;rw[aH c]
   rw[d,f,List.filter_cons_of_neg (by simpa using c)]
theorem Fz {a:Wc}{F:Nat->Prop}{s:eh}{w:aw}(h:(d5 a).J F s w):
 Calls prog 106 #[am a.pw] w fun e w'=>∃pk cr cQ l,e=.returned (am pk)/\(ef ⟨pk,cr,a.pw,a.p,a.q,a.pc,cQ,a.sd,a.nb,dY a.O,s.M⟩ ⟨a.N,a.O,s.y,mO a.N s.y s.g s.ws⟩).J l ⟨s.g,s.ws,fun _=>-1,(a.N:Int)+s.g,[],[],s.rs⟩ w'/\ce F w l w':=by
 have cf:=@run_makeMap prog;obtain⟨own,cQ,hM,m⟩:=h;have al:ay (oY a own s cQ w/\∀b,F b↔own b≠0):=⟨hM,m⟩
 have c0:w.cell? (ao a.pw 0)=some (am a.p):=by have bb:=hM.wd;simp[World.cell?,bb]
 have ap:=lt_of_some hM.wd;have g:=hM.ar;have n1:=g.hN';have ch:=g.hO;have bd:=g.hg;have n4:=g.hy;have ci:=g.hN;clear hM m;go_enter func106,ntmps106;go_wp2_with fail;refine(kj w g).mono ?_;rintro e w1 ⟨rfl,u⟩
 have c1:=(u.cell (p:=ao a.pw 0) ap).trans c0;have be:=g.below u bY
 go_wp2_with fail;refine(me w1 be).mono ?_;rintro e c ⟨rfl,bg⟩
 have n:=u.trans (bg.mono u.size)
 have c2:=(n.cell (p:=ao a.pw 0) ap).trans c0;have bi:=g.below n bY
 have cj:=n.size;have l2:a.pw<c.heap.size:=aa;clear u bg be c1;have v:Below c.heap.size c (((c.alloc (.map #[] 0)).alloc (.cells #[.pointer (some ⟨a.pw,0,none⟩),.map (some c.heap.size),.int .i64 ((a.N:Int)+s.g),.slice none 0 0,.slice none 0 0] 167)).alloc (.cells #[.pointer (some ⟨c.heap.size+1,0,none⟩)] 164)):=(((aE _ c).alloc bY _).alloc ac _).alloc (by simp;omega) _;have S:=bi.below v bY
 have c3:=(v.cell (p:=ao a.pw 0) l2).trans c2;have P:=pX _ S;obtain⟨W,k⟩:∃W,W=((c.alloc (.map #[] 0)).alloc (.cells #[.pointer (some ⟨a.pw,0,none⟩),.map (some c.heap.size),.int .i64 ((a.N:Int)+s.g),.slice none 0 0,.slice none 0 0] 167)).alloc (.cells #[.pointer (some ⟨c.heap.size+1,0,none⟩)] 164):=⟨_,rfl⟩
 have bl:ay (W.heap.size=c.heap.size+3/\Below c.heap.size c W/\Mp W c.heap.size [] (fun _=>-1)/\W.heap[c.heap.size+1]?=some (.cells #[am a.pw,.map (some c.heap.size),ak ((a.N:Int)+s.g),.slice none 0 0,.slice none 0 0] 167 (0,0))/\W.heap[c.heap.size+2]?=some (.cells #[am (c.heap.size+1)] 164 (0,0))/\At W a.p a.q a.N a.O s.y s.g s.ws):=by
  rw[<-k] at v S;refine⟨by rw[k];simp only [World.size_alloc],v,?_,?_,?_,S⟩
  ·have b1:=World.ownsMap_made c prog 3 (plainElem (H:=Unit) prog 3)
   refine Mp.same (w:=c.alloc (.map #[] 0)) ⟨_,b1,fun _=>rfl,fun a ha=>by simp at ha⟩ ?_;rw[k,a4 _ _ _ (by simp;omega),a4 _ _ _ ac]
  ·rw[k,a4 _ _ _ ac];simpa using aN (c.alloc (.map #[] 0)) (.cells #[.pointer (some ⟨a.pw,0,none⟩),.map (some c.heap.size),.int .i64 ((a.N:Int)+s.g),.slice none 0 0,.slice none 0 0] 167)
  ·rw[k];simpa using aN ((c.alloc (.map #[] 0)).alloc (.cells #[.pointer (some ⟨a.pw,0,none⟩),.map (some c.heap.size),.int .i64 ((a.N:Int)+s.g),.slice none 0 0,.slice none 0 0] 167)) (.cells #[.pointer (some ⟨c.heap.size+1,0,none⟩)] 164)
 have bn:=hide k;rw[<-k] at P;clear v S k;go_wp2_with fail;rw[<-bn.o];refine P.mono ?_;clear P;rintro e w3 ⟨v1,v2,rfl,B,bo,f⟩
 obtain⟨b2,b3,rfl⟩:=dU B;obtain⟨ck,cl,rfl⟩:=dU bo;obtain⟨b4,o,bp,br,ax,bs⟩:=bl.o;have cm:=f.size;have cn:w3.cell? (ao (c.heap.size+1+1) 0)=some (am (c.heap.size+1)):=by have:=(f.block (c.heap.size+2) aa).trans ax;simp[World.cell?,this]
 have co:c.heap.size+1+1<w3.heap.size:=aa;have cp:(dW a.N s.y s.g s.ws).length<=2000:=iD _ _;have aB:∀x∈dW a.N s.y s.g s.ws,0<=x/\x<=2000:=fun x aF=>by have:=mx x aF;omega
 have aR:=al.o.1.ar;have np:=aR.eO;have nq:=aR.eP;have bt:(qz (c.heap.size+1) c.heap.size (c.heap.size+2) ((a.N:Int)+s.g) a s.y s.g s.ws).J (fun b=>b=c.heap.size+1\/b=c.heap.size\/b=a.pw\/b=a.p\/b=a.q\/b=c.heap.size+2) [] w3:=
  ⟨⟨(f.block _ aa).trans br,bp.same (f.block _ aa),bs.below f bY,((f.block _ aa).trans (o.block _ l2)).trans ((n.block _ ap).trans al.o.1.wd),(f.block _ aa).trans ax⟩,⟨aa,aa,aa,aa,aa⟩,fun b=>Iff.rfl⟩
 have E:=yC (qz (c.heap.size+1) c.heap.size (c.heap.size+2) ((a.N:Int)+s.g) a s.y s.g s.ws) (fun _ x=>pf (ld a.N s.y s.g s.ws x)) (fun aT x=>aT++[x]) (fun j aT=>aT.length<=j) (c.heap.size+1) a.pw a.p 181 #[am (c.heap.size+1+1)] Fx (dW a.N s.y s.g s.ws) b2 b3 s.y _ [] w3
  (by
    rintro F t bx x ⟨⟨g1,g2,g3,ab,g5⟩,_⟩
    refine⟨by simp[World.cell?,g1],by simp[World.cell?,ab],(f6 x bx g3).mono ?_⟩
    rintro r w' ⟨rfl,hb⟩
    exact⟨_,_,rfl,hb⟩)
  (fun t x=>dp _) (fun x aF=>by have:=aB x aF;omega) aa
  (by
    rintro j F t bx aV N b5 _;have hm:(dW a.N s.y s.g s.ws).getD j 0∈dW a.N s.y s.g s.ws:=by rw[aG,aI aV];exact a_ aV
    have hb:=aB _ hm;have N:=N;exact Fy b5 _ hb.1 aa aa)
  (by
    intro j t aV N;have N:=N;show(iU _ _ _ _ _:List Int).length<=j+1;unfold iU;split
    ·simp;omega
    ·omega)
  ac bt (gV B)
  (fun hp z e=>by
    obtain⟨b,cq,b6⟩:=d4 B hp;cases b6;cases e;have bb:=(cg B b rfl).1;show¬(b=c.heap.size+1\/b=c.heap.size\/b=a.pw\/b=a.p\/b=a.q\/b=c.heap.size+2)
    omega)
 rw[yG (fun x=>pf (ld a.N s.y s.g s.ws x)) s.y (dW a.N s.y s.g s.ws) [],List.nil_append] at E;have a0:ay (∀b,b<c.heap.size->w3.heap[b]?=c.heap[b]?):=fun b hb=>(f.block b aa).trans (o.block b hb)
 have i:=iZ n (f.os.trans o.os) (f.tape.trans o.tape) (f.output.trans o.output)
 clear bt B bo b4 o bp br ax bs bl bn f aB aR g bi n c0 c2;go_wp2_with fail;refine E.mono ?_;clear E;rintro e ad ⟨cs,rfl,⟨⟨g1,g2,g3,ab,g5⟩,b7,b8⟩,a3,_⟩
 have ct:ad.cell? (ao (c.heap.size+1+1) 0)=some (am (c.heap.size+1)):=aA g5
 have cu:=lt_of_some g5;have b9:ay (∃l,(ef ⟨c.heap.size+1,c.heap.size,a.pw,a.p,a.q,a.pc,cQ,a.sd,a.nb,dY a.O,s.M⟩ ⟨a.N,a.O,s.y,mO a.N s.y s.g s.ws⟩).J l ⟨s.g,s.ws,fun _=>-1,(a.N:Int)+s.g,[],[],s.rs⟩ ad/\ce F w l ad):=by
  obtain⟨hM,m⟩:=al.o;have keep:∀b,b<w.heap.size->own b≠1->own b≠3->ad.heap[b]?=w.heap[b]?:=fun b hb n1 bd=>
   (a3.fr.block b aa (fun d=>by
     rcases d with d|d|d|d|d|d
     ·omega
     ·omega
     ·exact bd (by rw[d];exact hM.w1)
     ·exact n1 (by rw[d];exact hM.a1)
     ·exact n1 (by rw[d];exact hM.a2)
     ·omega)).trans ((a0.o b aa).trans (i.o.1.block b hb))
  have b0:=hM.lt;have lo:∀b,own b≠0->b≠c.heap.size+1/\b≠c.heap.size:=fun b hb=>by have:=b0 b hb;omega
  have q:∀b j,own b=j->j≠0->(if b=c.heap.size+1 then 5 else if b=c.heap.size then 6 else own b)=j:=fun b j e h0=>by
   obtain⟨l1,l2⟩:=lo b (by rw[e];exact h0)
   rw[aH l1,aH l2];exact e
  refine⟨fun b=>F b\/b=c.heap.size+1\/b=c.heap.size,⟨.slice none 0 0,.slice none 0 0,fun b=>if b=c.heap.size+1 then 5 else if b=c.heap.size then 6 else own b,?_,fun b=>?_⟩,⟨?_,fun b hb=>?_⟩⟩
  ·exact {
    ar:=g3,a1:=q _ _ hM.a1 ae,a2:=q _ _ hM.a2 ae,c1:=q _ _ hM.c1 ae,c2:=q _ _ hM.c2 ae,w1:=q _ _ hM.w1 ae,r1:=q _ _ hM.r1 ae,rl:=hM.rl
    cd:=hM.cd.same (keep _ hM.cd.eO (by rw[hM.c1];decide) (by rw[hM.c1];decide)) (keep _ hM.cd.eP (by rw[hM.c2];decide) (by rw[hM.c2];decide))
    wd:=ab
    rt:=(keep _ (lt_of_some hM.rt) (by rw[hM.r1];decide) (by rw[hM.r1];decide)).trans hM.rt
    cb:=g1
    k1:=by rw[aJ rfl]
    mp:=g2
    m1:=by rw[aH ac,aJ rfl]
    wr:=a6 _ _ _ _
    dD:=fun b e=>by simp[Value.ownBlock] at e
    er:=a6 _ _ _ _
    eo:=fun b e=>by simp[Value.ownBlock] at e
    lt:=fun b hb=>by
     by_cases ag:b=c.heap.size+1
     ·omega
     ·by_cases ai:b=c.heap.size
      ·omega
      ·rw[aH ag,aH ai] at hb;have:=b0 b hb;omega}
  ·by_cases ag:b=c.heap.size+1
   ·simp[ag]
   ·by_cases ai:b=c.heap.size
    ·simp[ai]
    ·simp[ag,ai,m b]
  ·have ca:Below w.heap.size w w3:=⟨i.o.2.1.trans i.o.1.os,i.o.2.2.1.trans i.o.1.tape,i.o.2.2.2.trans i.o.1.output,aa,fun b hb=>(a0.o b aa).trans (i.o.1.block b hb)⟩
   refine(Fr.of (X:=F) ca).trans a3.fr (fun b d=>?_)
   rcases d with d|d|d|d|d|d
   ·exact aK aa
   ·exact aK aa
   ·exact aL ((m b).2 (by rw[d,hM.w1];decide))
   ·exact aL ((m b).2 (by rw[d,hM.a1];decide))
   ·exact aL ((m b).2 (by rw[d,hM.a2];decide))
   ·exact aK aa
  ·rcases hb with hb|hb|hb
   ·exact aL hb
   ·exact aK aa
   ·exact aK aa
 clear g1 g2 g3 ab g5 b7 b8 a3 a0 i;go_wp2_with fail;go_ret;obtain⟨l,cc,j2⟩:=b9.o;exact⟨_,_,_,l,rfl,cc,j2⟩
structure b_ where
 a:Wc
 s:eh
 Y:List Int
 G:List Int
structure cu where
 f:Int->Int
 td:List Int
 ep:List Int
def b_.T (k:b_):List Int:=k.G++k.Y
def b_.ld (k:b_)(x:Int):Int:=Proofs.YtpkjkjhanlbcoaaGreat.ld k.a.N k.s.y k.s.g k.s.ws x
def b_.jt (k:b_)(x:Int):Bool:=c7 x&&k.T.contains (cj x)
def b_.cV (k:b_)(s:cu)(x:Int):Bool:=k.jt x&&(s.f (cj x)==-1)
def b_.nw (k:b_)(s:cu)(x:Int):Int:=if(k.jt x&&!(s.f (cj x)==-1))=true then ew 3 (s.f (cj x)) else x
def b_.ma (k:b_)(s:cu)(x:Int):cu:=if k.cV s x=true then {s with f:=gw s.f (cj x) (cj x),td:=s.td++[cj x]} else s
def b_.e6 (k:b_)(s:cu)(a:Int):Nat->cu
 |0=>s
 |n+1=>k.ma (k.e6 s a n) (k.ld (a+1+n))
def b_.lk (k:b_)(s:cu)(a:Int):cu:=
 if pk (k.ld a)=1\/pk (k.ld a)=2 then k.e6 s a (pf (k.ld a)).toNat
 else if pk (k.ld a)=3 then k.ma s (k.ld (a+2))
 else if pk (k.ld a)=4 then {s with ep:=s.ep++[a]} else s
def b_.l1 (k:b_)(s:cu):cu:=k.lk {s with td:=s.td.take (s.td.length-1)} (s.td.getD (s.td.length-1) 0)
def b_.lm (k:b_):Nat->cu->cu
 |0,s=>s
 |n+1,s=>if 0<s.td.length then k.lm n (k.l1 s) else s
def b_.cS (k:b_)(t:List Int×cu)(a:Int):List Int×cu:=if k.cV t.2 (k.ld (a+1))=true then(t.1++[a],t.2) else(t.1,k.ma t.2 (k.ld (a+2)))
def b_.dT (k:b_)(s:cu)(l:List Int):List Int×cu:=l.foldl k.cS ([],s)
def b_.kv (k:b_)(s:cu):Bool×cu:=(decide ((k.dT s s.ep).1.length<s.ep.length),{(k.dT s s.ep).2 with ep:=(k.dT s s.ep).1})
def b_.al (k:b_)(s:cu)(x:Int):Bool:=!k.cV s x
def b_.lost (k:b_)(s:cu):Nat:=(k.T.filter (fun a=>s.f a==-1)).length
structure cX (k:b_)(s:cu):Prop where
 nd:k.T.Nodup
 ps:∀a∈k.T,0<=a/\a<=2000
 td:∀a∈s.td,a∈k.T
 ep:∀a∈s.ep,a∈k.T
 tl:k.T.length<=4000
 sum:k.lost s+s.td.length+s.ep.length<=k.T.length
section
variable {k:b_}{s:cu}
theorem b_.qA {x:Int}(h:k.cV s x=true):c7 x=true/\cj x∈k.T/\s.f (cj x)=-1:=by unfold b_.cV b_.jt at h;simp only [Bool.and_eq_true] at h;exact⟨h.1.1,List.contains_iff_mem.1 h.1.2,by simpa using h.2⟩
theorem b_.yH (c:k.T.Nodup){x:Int}(h:k.cV s x=true)(h0:∀a∈k.T,0<=a):k.lost (k.ma s x)+1=k.lost s:=by
 obtain⟨_,b,d⟩:=b_.qA h;have e:(k.ma s x).f=gw s.f (cj x) (cj x):=by unfold b_.ma;rw[aJ h]
 have hp:=h0 _ b;unfold b_.lost;rw[e,x8 _ _ _ _ aa];exact EW _ _ (c.filter _) (List.mem_filter.2 ⟨b,by rw[d];rfl⟩)
theorem cX.ma (h:cX k s)(x:Int):cX k (k.ma s x)/\k.lost (k.ma s x)+(k.ma s x).td.length=k.lost s+s.td.length/\(k.ma s x).ep=s.ep:=by
 by_cases c:k.cV s x=true
 ·have g:=b_.yH h.nd c (fun a ha=>(h.ps a ha).1)
  obtain⟨_,i,_⟩:=b_.qA c;have d:(k.ma s x).td=s.td++[cj x]:=by unfold b_.ma;rw[aJ c]
  have b:(k.ma s x).ep=s.ep:=by unfold b_.ma;rw[aJ c]
  have hs:=h.sum;have j:(k.ma s x).td.length=s.td.length+1:=by rw[d];simp
  refine⟨⟨h.nd,h.ps,fun a ha=>?_,(b▸h.ep),h.tl,by rw[b];omega⟩,aa,b⟩
  rw[d] at ha;rcases List.mem_append.1 ha with f|f
  ·exact h.td a f
  ·simp_all
 ·have e:k.ma s x=s:=by unfold b_.ma;rw[aH c]
  rw[e];exact⟨h,rfl,rfl⟩
theorem cX.e6 (h:cX k s)(a:Int):∀n,cX k (k.e6 s a n)/\k.lost (k.e6 s a n)+(k.e6 s a n).td.length=k.lost s+s.td.length/\(k.e6 s a n).ep=s.ep
 |0=>⟨h,rfl,rfl⟩
 |n+1=>by obtain⟨b,c,d⟩:=cX.e6 h a n;obtain⟨e,j2,cA⟩:=b.ma _;exact⟨e,j2.trans c,cA.trans d⟩
theorem cX.lk (h:cX k s){a:Int}(ha:a∈k.T)(g:k.lost s+s.td.length+s.ep.length+1<=k.T.length):cX k (k.lk s a)/\k.lost (k.lk s a)+(k.lk s a).td.length=k.lost s+s.td.length/\(k.lk s a).ep.length<=s.ep.length+1:=by
 unfold b_.lk;split
 ·obtain⟨c,d,e⟩:=h.e6 a _;exact⟨c,d,by rw[e];omega⟩
 ·split
  ·obtain⟨c,d,e⟩:=h.ma _;exact⟨c,d,by rw[e];omega⟩
  ·split
   ·refine⟨⟨h.nd,h.ps,h.td,fun b hb=>?_,h.tl,?_⟩,rfl,ac⟩
    ·rcases List.mem_append.1 hb with f|f
     ·exact h.ep b f
     ·simp_all
    ·show k.lost s+s.td.length+(s.ep++[a]).length<=_;rw[aZ];simp;omega
   ·simp_all
theorem cX.l1 (h:cX k s)(hl:0<s.td.length):cX k (k.l1 s)/\k.lost (k.l1 s)+(k.l1 s).td.length+1=k.lost s+s.td.length:=by
 have hm:s.td.getD (s.td.length-1) 0∈s.td:=by exact tz
 have hs:=h.sum;have e:(s.td.take (s.td.length-1)).length=s.td.length-1:=by simp_all
 have h0:cX k {s with td:=s.td.take (s.td.length-1)}:=⟨h.nd,h.ps,fun a ha=>h.td a (List.mem_of_mem_take ha),h.ep,h.tl,by show k.lost s+(s.td.take _).length+s.ep.length<=_;omega⟩
 have d:k.lost {s with td:=s.td.take (s.td.length-1)}=k.lost s:=rfl;obtain⟨b,c,_⟩:=h0.lk (h.td _ hm) (by show k.lost s+(s.td.take _).length+s.ep.length+1<=_;omega)
 refine⟨b,?_⟩
 unfold b_.l1;dsimp only at c;omega
theorem cX.lm:∀(n:Nat){s:cu},cX k s->cX k (k.lm n s)/\(k.lost s+s.td.length<n->(k.lm n s).td=[])/\k.lost (k.lm n s)+(k.lm n s).td.length<=k.lost s+s.td.length
 |0,s,h=>⟨h,fun e=>absurd e aa,aD _⟩
 |n+1,s,h=>by
  unfold b_.lm;by_cases c:0<s.td.length
  ·rw[aJ c];obtain⟨b,f⟩:=h.l1 c;obtain⟨d,j2,cA⟩:=cX.lm n b;exact⟨d,fun e=>j2 aa,aa⟩
  ·simp_all
theorem cX.cS {t:List Int×cu}(h:cX k t.2){a:Int}(ha:a∈k.T)(ht:∀b∈t.1,b∈k.T):cX k (k.cS t a).2/\(k.cS t a).1.length<=t.1.length+1/\(∀b∈(k.cS t a).1,b∈k.T)/\k.lost (k.cS t a).2+(k.cS t a).2.td.length=k.lost t.2+t.2.td.length/\(k.cS t a).2.ep=t.2.ep:=by
 unfold b_.cS;split
 ·refine⟨h,ac,fun b hb=>?_,rfl,rfl⟩
  rcases List.mem_append.1 hb with c|c
  ·exact ht b c
  ·simp_all
 ·obtain⟨d,e,f⟩:=h.ma _;exact⟨d,ac,ht,e,f⟩
theorem cX.iq:∀(l:List Int){t:List Int×cu},cX k t.2->(∀a∈l,a∈k.T)->(∀b∈t.1,b∈k.T)->cX k (l.foldl k.cS t).2/\(l.foldl k.cS t).1.length<=t.1.length+l.length/\(∀b∈(l.foldl k.cS t).1,b∈k.T)/\k.lost (l.foldl k.cS t).2+(l.foldl k.cS t).2.td.length=k.lost t.2+t.2.td.length/\(l.foldl k.cS t).2.ep=t.2.ep
 |[],t,h,_,ht=>⟨h,ac,ht,rfl,rfl⟩
 |a::l,t,h,hl,ht=>by obtain⟨c,i,d,e,f⟩:=h.cS (hl a ac) ht;obtain⟨g,j2,cA,cD,dI⟩:=cX.iq l c (fun b hb=>hl b (aQ _ hb)) d;rw[a9];exact⟨g,by simp;omega,cA,cD.trans e,dI.trans f⟩
theorem cX.kv (h:cX k s):cX k (k.kv s).2/\k.lost (k.kv s).2+(k.kv s).2.td.length=k.lost s+s.td.length/\(k.kv s).2.ep.length<=s.ep.length/\((k.kv s).1=true->(k.kv s).2.ep.length<s.ep.length):=by
 obtain⟨g,c,i,d,m⟩:=cX.iq s.ep (t:=([],s)) h h.ep (fun b hb=>by cases hb)
 have j:k.lost (k.kv s).2=k.lost (k.dT s s.ep).2:=rfl;have l:(k.kv s).2.td=(k.dT s s.ep).2.td:=rfl;have f:(k.kv s).2.ep=(k.dT s s.ep).1:=rfl;have c:(k.dT s s.ep).1.length<=0+s.ep.length:=c;have d:k.lost (k.dT s s.ep).2+(k.dT s s.ep).2.td.length=k.lost s+s.td.length:=d;have hs:=h.sum;refine⟨⟨h.nd,h.ps,g.td,i,h.tl,?_⟩,by simp_all,by rw[f];omega,fun e=>?_⟩
 ·rw[j,l,f];omega
 ·exact of_decide_eq_true e
end
structure e7 where
 pk:Nat
 cr:Nat
 bs:Nat
 yv:Value
 ov:Value
structure eb (c:e7)(k:b_)(oZ:Nat->Prop)(own:Nat->Nat)(s:cu)(vt ct:Value)(w:aw):Prop where
 wd:(d5 k.a).J oZ k.s w
 w1:∀b,oZ b↔own b=1
 cb:w.heap[c.pk]?=some (.cells #[am k.a.pw,c.yv,c.ov,.map (some c.cr),am c.bs,vt,ct] 140 (0,0))
 k1:own c.pk=5
 mp:Mp w c.cr k.T s.f
 m1:own c.cr=6
 tr:w.ownsRow 0 3 1 vt s.td.length (s.td.map (Value.int .i64))
 gP:∀b,some b=vt.ownBlock->own b=7
 er:w.ownsRow 0 3 1 ct s.ep.length (s.ep.map (Value.int .i64))
 eo:∀b,some b=ct.ownBlock->own b=8
 yr:w.ownsRow 0 3 1 c.yv k.Y.length (k.Y.map (Value.int .i64))
 hP:∀b,some b=c.yv.ownBlock->own b=9
 gr:w.ownsRow 0 3 1 c.ov k.G.length (k.G.map (Value.int .i64))
 go:∀b,some b=c.ov.ownBlock->own b=10
 lt:∀b,own b≠0->b<w.heap.size
section
variable {c:e7}{k:b_}{oZ:Nat->Prop}{own:Nat->Nat}{s:cu}{vt ct:Value}{w w':aw}
theorem eb.but (h:eb c k oZ own s vt ct w)(L:Nat->Prop)(hs:w.heap.size<=w'.heap.size)(hk:∀b,b<w.heap.size->own b≠0->¬L (own b)->w'.heap[b]?=w.heap[b]?)
 (f:L 5->w'.heap[c.pk]?=some (.cells #[am k.a.pw,c.yv,c.ov,.map (some c.cr),am c.bs,vt,ct] 140 (0,0)))
 (hM:L 6->Mp w' c.cr k.T s.f)(g:L 7->w'.ownsRow 0 3 1 vt s.td.length (s.td.map (Value.int .i64)))(i:L 8->w'.ownsRow 0 3 1 ct s.ep.length (s.ep.map (Value.int .i64)))(j:¬L 1)(m:¬L 9)(n:¬L 10):eb c k oZ own s vt ct w' where
 wd:=(d5 k.a).keep h.wd hs (fun b d=>hk b ((d5 k.a).lt h.wd b d) (by rw[(h.w1 b).1 d];decide) (by rw[(h.w1 b).1 d];exact j))
 w1:=h.w1
 cb:=by
  by_cases l:L 5
  ·exact f l
  ·exact(hk _ (lt_of_some h.cb) (by rw[h.k1];decide) (by rw[h.k1];exact l)).trans h.cb
 k1:=h.k1
 mp:=by
  by_cases l:L 6
  ·exact hM l
  ·exact h.mp.same (hk _ h.mp.lt (by rw[h.m1];decide) (by rw[h.m1];exact l))
 m1:=h.m1
 tr:=by
  by_cases l:L 7
  ·exact g l
  ·exact cy h.tr (fun b e=>hk b (cg h.tr b e).2 (by rw[h.gP b e];decide) (by rw[h.gP b e];exact l))
 gP:=h.gP
 er:=by
  by_cases l:L 8
  ·exact i l
  ·exact cy h.er (fun b e=>hk b (cg h.er b e).2 (by rw[h.eo b e];decide) (by rw[h.eo b e];exact l))
 eo:=h.eo
 yr:=cy h.yr (fun b e=>hk b (cg h.yr b e).2 (by rw[h.hP b e];decide) (by rw[h.hP b e];exact m))
 hP:=h.hP
 gr:=cy h.gr (fun b e=>hk b (cg h.gr b e).2 (by rw[h.go b e];decide) (by rw[h.go b e];exact n))
 go:=h.go
 lt:=fun b hb=>aO (h.lt b hb) hs
end
def cW (c:e7)(k:b_)(vt f:Value):dS cu where
 J F s w:=∃d own,eb c k d own s vt f w/\∀b,F b↔own b≠0
 lt:=by rintro F s w ⟨d,own,h,e⟩ b hb;exact h.lt b ((e b).1 hb)
 keep:=by rintro F s w w' ⟨d,own,h,e⟩ hs hk;exact⟨d,own,h.but (fun _=>False) hs (fun b _ h0 _=>hk b ((e b).2 h0)) False.elim False.elim False.elim False.elim id id id,e⟩
def eM (c:e7)(k:b_):dS cu where
 J F s w:=∃vt b,(cW c k vt b).J F s w
 lt:=by
  rintro F s w ⟨vt,b,h⟩
  exact(cW c k vt b).lt h
 keep:=by rintro F s w w' ⟨vt,b,h⟩ hs hk;exact⟨vt,b,(cW c k vt b).keep h hs hk⟩
section
variable {c:e7}{k:b_}{F:Nat->Prop}{s:cu}{vt ct:Value}{w:aw}
theorem eE (h:(cW c k vt ct).J F s w):w.cell? (ao c.pk 0)=some (am k.a.pw)/\w.cell? (ao c.pk 1)=some c.yv/\w.cell? (ao c.pk 2)=some c.ov/\w.cell? (ao c.pk 3)=some (.map (some c.cr))/\w.cell? (ao c.pk 4)=some (am c.bs)/\w.cell? (ao c.pk 5)=some vt/\w.cell? (ao c.pk 6)=some ct/\(∀i,w.frozen? (ao c.pk i)=false)/\c.pk<w.heap.size:=by
 obtain⟨d,own,h,_⟩:=h;have b:=h.cb;refine⟨?_,?_,?_,?_,?_,?_,?_,fun i=>?_,lt_of_some b⟩
 all_goals first|simp[World.cell?,b]|simp[World.frozen?,b]
theorem gz (h:(cW c k vt ct).J F s w):At w k.a.p k.a.q k.a.N k.a.O k.s.y k.s.g k.s.ws/\w.cell? (ao k.a.pw 0)=some (am k.a.p)/\w.cell? (ao k.a.pw 3)=some (.slice (an k.a.nb) 12 12)/\∀i,i<12->w.cell? (ao k.a.nb i)=some (ak (k.s.rs.getD i 0)):=by obtain⟨b,own,h,_⟩:=h;obtain⟨c0,_,_,c3,_,_,_,rt⟩:=jh h.wd;exact⟨(jX h.wd).1,c0,c3,fun i hi=>(rt i hi).1⟩
theorem o4 (h:(cW c k vt ct).J F s w):Mp w c.cr k.T s.f/\∀w' f,Mp w' c.cr k.T f->Fr (fun b=>b=c.cr) w w'->(cW c k vt ct).J F {s with f:=f} w'/\ce F w F w':=by
 obtain⟨i,own,h,j⟩:=h;refine⟨h.mp,fun w' f hm fr=>⟨⟨i,own,?_,j⟩,⟨fr.mono (fun b e=>(j b).2 (by rw[e,h.m1];decide)),fun _ d=>aL d⟩⟩⟩
 have g:eb c k i own {s with f:=f} vt ct w':=by
  have hk:∀b,b<w.heap.size->own b≠6->_=_:=fun b hb l=>fr.block b hb (fun e=>l (by rw[e];exact h.m1))
  exact {
   wd:=(d5 k.a).keep h.wd fr.size (fun b d=>hk b ((d5 k.a).lt h.wd b d) (by rw[(h.w1 b).1 d];decide)),w1:=h.w1
   cb:=(hk _ (lt_of_some h.cb) (by rw[h.k1];decide)).trans h.cb,k1:=h.k1,mp:=hm,m1:=h.m1
   tr:=cy h.tr (fun b e=>hk b (cg h.tr b e).2 (by rw[h.gP b e];decide)),gP:=h.gP
   er:=cy h.er (fun b e=>hk b (cg h.er b e).2 (by rw[h.eo b e];decide)),eo:=h.eo
   yr:=cy h.yr (fun b e=>hk b (cg h.yr b e).2 (by rw[h.hP b e];decide)),hP:=h.hP
   gr:=cy h.gr (fun b e=>hk b (cg h.gr b e).2 (by rw[h.go b e];decide)),go:=h.go
   lt:=fun b hb=>aO (h.lt b hb) fr.size}
 exact g
end
section
variable {c:e7}{k:b_}{F:Nat->Prop}{s:cu}{vt ct:Value}{w:aw}
theorem FA {v0:Value}(h:(cW c k v0 ct).J F s w){v1:Value}{l:List Int}{w1:aw}(i:Fr (fun b=>some b=v0.ownBlock) w w1)(m:w1.ownsRow 0 3 1 v1 l.length (l.map (Value.int .i64)))(f:∀b,some b=v1.ownBlock->some b=v0.ownBlock\/¬F b):
 (cW c k v1 ct).J (fun b=>F b\/some b=v1.ownBlock) {s with td:=l} (w1.setCell ⟨c.pk,5,none⟩ v1)/\Fr F w (w1.setCell ⟨c.pk,5,none⟩ v1):=by
 obtain⟨n,own,h,o⟩:=h;have sz:(w1.setCell ⟨c.pk,5,none⟩ v1).heap.size=w1.heap.size:=by simp_all
 have hb1:∀b,b<w.heap.size->own b≠7->_=_:=fun b hb f=>i.block b hb (fun e=>f (h.gP b e))
 have hb:∀b,b<w.heap.size->own b≠7->own b≠5->(w1.setCell ⟨c.pk,5,none⟩ v1).heap[b]?=w.heap[b]?:=fun b hb p t=>(by grind [eb.k1,aP])
 have q:∀b,some b=v1.ownBlock->_:=fun b e=>(f b e).elim (fun e=>aL (h.gP b e)) (fun hl=>aK (Classical.byContradiction (fun c=>hl ((o b).2 c))))
 have g:∀b j,own b=j->j≠7->j≠0->(if some b=v1.ownBlock then 7 else own b)=j:=fun b j e p h0=>(aH (fun c=>by rcases q b c with c|c<;>omega)▸e)
 have u:=fun b e=>(cg m b e).2;refine⟨⟨n,fun b=>if some b=v1.ownBlock then 7 else own b,?_,fun b=>?_⟩,?_⟩
 ·exact {
   wd:=(d5 k.a).keep h.wd ((sz▸i.size)) (fun b d=>hb b ((d5 k.a).lt h.wd b d) (by rw[(h.w1 b).1 d];decide) (by rw[(h.w1 b).1 d];decide))
   w1:=fun b=>⟨fun d=>g _ _ ((h.w1 b).1 d) ae ae,fun d=>by
    by_cases e:some b=v1.ownBlock
    ·simp_all
    ·rw[aH e] at d;exact(h.w1 b).2 d⟩
   k1:=g _ _ h.k1 ae ae,m1:=g _ _ h.m1 ae ae
   cb:=by exact yD
   mp:=h.mp.same (hb _ h.mp.lt (by grind [eb.m1]) (by grind [eb.m1]))
   tr:=(by grind [cy,eb.k1,aP])
   gP:=fun b e=>by grind
   er:=cy h.er (fun b e=>hb b (cg h.er b e).2 (by grind [eb.eo]) (by grind [eb.eo]))
   eo:=fun b e=>(by grind [eb.eo])
   yr:=cy h.yr (fun b e=>hb b (cg h.yr b e).2 (by grind [eb.hP]) (by grind [eb.hP]))
   hP:=fun b e=>(by grind [eb.hP])
   gr:=cy h.gr (fun b e=>hb b (cg h.gr b e).2 (by grind [eb.go]) (by grind [eb.go]))
   go:=fun b e=>(by grind [eb.go])
   lt:=fun b hb=>by grind [eb.lt,Fr.size,aO]}
 ·grind
 grind [Fr.mono,eb.gP,Fr.set,eb.k1]
theorem yI {v0:Value}(h:(cW c k v0 ct).J F s w){v1:Value}{l:List Int}{w1:aw}(f:Fr (fun b=>some b=v0.ownBlock) w w1)(g:w1.ownsRow 0 3 1 v1 l.length (l.map (Value.int .i64)))(i:∀b,some b=v1.ownBlock->some b=v0.ownBlock\/w.heap.size<=b):
 ∃d,(cW c k v1 ct).J d {s with td:=l} (w1.setCell ⟨c.pk,5,none⟩ v1)/\ce F w d (w1.setCell ⟨c.pk,5,none⟩ v1):=by
 obtain⟨j,m⟩:=FA h f g (fun b e=>(i b e).imp id (fun n hb=>by have:=(cW c k v0 ct).lt h b hb;omega))
 obtain⟨o,own,hm,p⟩:=h;exact⟨_,j,m,fun b hb=>(by grind [eb.gP])⟩
theorem yJ {v0:Value}(h:(cW c k vt v0).J F s w){v1:Value}{l:List Int}{w1:aw}(i:Fr (fun b=>some b=v0.ownBlock) w w1)(m:w1.ownsRow 0 3 1 v1 l.length (l.map (Value.int .i64)))(f:∀b,some b=v1.ownBlock->some b=v0.ownBlock\/¬F b):
 (cW c k vt v1).J (fun b=>F b\/some b=v1.ownBlock) {s with ep:=l} (w1.setCell ⟨c.pk,6,none⟩ v1)/\Fr F w (w1.setCell ⟨c.pk,6,none⟩ v1):=by
 obtain⟨n,own,h,o⟩:=h;have sz:(w1.setCell ⟨c.pk,6,none⟩ v1).heap.size=w1.heap.size:=by simp_all
 have hb1:∀b,b<w.heap.size->own b≠8->_=_:=fun b hb f=>i.block b hb (fun e=>f (h.eo b e))
 have hb:∀b,b<w.heap.size->own b≠8->own b≠5->(w1.setCell ⟨c.pk,6,none⟩ v1).heap[b]?=w.heap[b]?:=fun b hb p t=>(by grind [eb.k1,aP])
 have q:∀b,some b=v1.ownBlock->_:=fun b e=>(f b e).elim (fun e=>aL (h.eo b e)) (fun hl=>aK (Classical.byContradiction (fun c=>hl ((o b).2 c))))
 have g:∀b j,own b=j->j≠8->j≠0->(if some b=v1.ownBlock then 8 else own b)=j:=fun b j e p h0=>(aH (fun c=>by rcases q b c with c|c<;>omega)▸e)
 have u:=fun b e=>(cg m b e).2;refine⟨⟨n,fun b=>if some b=v1.ownBlock then 8 else own b,?_,fun b=>?_⟩,?_⟩
 ·exact {
   wd:=(d5 k.a).keep h.wd ((sz▸i.size)) (fun b d=>hb b ((d5 k.a).lt h.wd b d) (by rw[(h.w1 b).1 d];decide) (by rw[(h.w1 b).1 d];decide))
   w1:=fun b=>⟨fun d=>g _ _ ((h.w1 b).1 d) ae ae,fun d=>by
    by_cases e:some b=v1.ownBlock
    ·simp_all
    ·rw[aH e] at d;exact(h.w1 b).2 d⟩
   k1:=g _ _ h.k1 ae ae,m1:=g _ _ h.m1 ae ae
   cb:=by exact yD
   mp:=h.mp.same (hb _ h.mp.lt (by grind [eb.m1]) (by grind [eb.m1]))
   er:=(by grind [cy,eb.k1,aP])
   eo:=fun b e=>by grind
   tr:=cy h.tr (fun b e=>hb b (cg h.tr b e).2 (by grind [eb.gP]) (by grind [eb.gP]))
   gP:=fun b e=>(by grind [eb.gP])
   yr:=cy h.yr (fun b e=>hb b (cg h.yr b e).2 (by grind [eb.hP]) (by grind [eb.hP]))
   hP:=fun b e=>(by grind [eb.hP])
   gr:=cy h.gr (fun b e=>hb b (cg h.gr b e).2 (by grind [eb.go]) (by grind [eb.go]))
   go:=fun b e=>(by grind [eb.go])
   lt:=fun b hb=>by grind [eb.lt,Fr.size,aO]}
 ·grind
 grind [Fr.mono,eb.eo,Fr.set,eb.k1]
theorem FB {v0:Value}(h:(cW c k vt v0).J F s w){v1:Value}{l:List Int}{w1:aw}(f:Fr (fun b=>some b=v0.ownBlock) w w1)(g:w1.ownsRow 0 3 1 v1 l.length (l.map (Value.int .i64)))(i:∀b,some b=v1.ownBlock->some b=v0.ownBlock\/w.heap.size<=b):
 ∃d,(cW c k vt v1).J d {s with ep:=l} (w1.setCell ⟨c.pk,6,none⟩ v1)/\ce F w d (w1.setCell ⟨c.pk,6,none⟩ v1):=by
 obtain⟨j,m⟩:=yJ h f g (fun b e=>(i b e).imp id (fun n hb=>by have:=(cW c k vt v0).lt h b hb;omega))
 obtain⟨o,own,hm,p⟩:=h;exact⟨_,j,m,fun b hb=>(by grind [eb.eo])⟩
theorem mP (h:(cW c k vt ct).J F s w):w.ownsRow 0 3 1 vt s.td.length (s.td.map (Value.int .i64))/\w.ownsRow 0 3 1 ct s.ep.length (s.ep.map (Value.int .i64))/\some c.pk≠vt.ownBlock/\some c.pk≠ct.ownBlock/\c.pk≠c.cr:=by
 obtain⟨b,own,h,_⟩:=h
 grind [eb.tr,eb.er,eb.gP,eb.k1,eb.eo,eb.m1]
end
section
variable {c:e7}{k:b_}{vt ct:Value}{F:Nat->Prop}{s:cu}{w:aw}
theorem yK (h:(cW c k vt ct).J F s w)(x:Int):
 Calls prog 219 #[am c.pk,ak x] w fun e w'=>∃v,e=.returned (.tuple #[ak v,.bool (k.jt x)])/\(k.jt x=true->v=s.f (cj x))/\Below w.heap.size w w':=by
 have HJ:=hide h;have P:=m9 x w;cases ha:c7 x
 ·rw[ha] at P;have b:k.jt x=false:=by unfold b_.jt;rw[ha];rfl
  rw[b];go_enter func219,ntmps219;exact yh
 ·have b:k.jt x=k.T.contains (cj x):=by unfold b_.jt;rw[ha];rfl
  have d:=tm ha;rw[b];rw[ha] at P;generalize cj x=a at P d⊢;have yb:=i1 d.1 d.2;obtain⟨bt,hbt⟩:∃bt,bt=k.T.contains a:=⟨_,rfl⟩
  rw[<-hbt];go_enter func219,ntmps219;go_wp2_with fail;refine P.mono ?_;clear P;rintro e w1 ⟨rfl,hb1⟩
  have iL:=(cW c k vt ct).below HJ.o hb1;obtain⟨_,_,_,c1,_⟩:=eE iL;obtain⟨⟨D,o1,o2,o3⟩,_⟩:=o4 iL;exact ya
theorem o5 (h:(cW c k vt ct).J F s w)(x:Int):
 Calls prog 154 #[am c.pk,ak x] w fun e w'=>e=.returned (.bool (k.cV s x))/\Below w.heap.size w w':=by
 have P:=yK h x;cases hy:k.jt x
 ·have b:k.cV s x=false:=by unfold b_.cV;rw[hy];rfl
  rw[b];rw[hy] at P;go_enter func154,ntmps154;go_wp2_with fail;refine P.mono ?_;rintro e w1 ⟨v,rfl,_,hb1⟩
  go_wp2;go_ret;exact⟨rfl,hb1⟩
 ·have b:k.cV s x=(s.f (cj x)==-1):=by unfold b_.cV;rw[hy];rfl
  rw[b];rw[hy] at P;go_enter func154,ntmps154;exact qs
theorem yL (h:(cW c k vt ct).J F s w)(x:Int):
 Calls prog 156 #[am c.pk,ak x] w fun e w'=>e=.returned (ak (k.nw s x))/\Below w.heap.size w w':=by
 have P:=yK h x;cases hy:k.jt x
 ·have b:k.nw s x=x:=by unfold b_.nw;rw[hy];simp
  rw[b];rw[hy] at P;go_enter func156,ntmps156;go_wp2_with fail;refine P.mono ?_;rintro e w1 ⟨v,rfl,_,hb1⟩
  exact lz
 ·rw[hy] at P;by_cases d:s.f (cj x)=-1
  ·have b:k.nw s x=x:=by unfold b_.nw;rw[hy,d];simp
   rw[b];rw[d] at P;go_enter func156,ntmps156;exact qs
  ·have b:k.nw s x=ew 3 (s.f (cj x)):=by unfold b_.nw;rw[hy,aJ (by simp[d])]
   rw[b];generalize s.f (cj x)=a at P d⊢;go_enter func156,ntmps156;exact ye
end
def i4 (c:e7)(k:b_)(b:Value):dS cu where
 J F s w:=∃vt,(cW c k vt b).J F s w
 lt:=by
  rintro F s w ⟨vt,h⟩
  exact(cW c k vt b).lt h
 keep:=by rintro F s w w' ⟨vt,h⟩ hs hk;exact⟨vt,(cW c k vt b).keep h hs hk⟩
section
variable {c:e7}{k:b_}{ct:Value}{F:Nat->Prop}{s:cu}{w:aw}
theorem yM (h:(i4 c k ct).J F s w)(m:cX k s)(x:Int):
 Calls prog 142 #[am c.pk,ak x] w fun e w'=>∃g,e=.returned (.tuple #[])/\(i4 c k ct).J g (k.ma s x) w'/\ce F w g w':=by
 obtain⟨vt,h⟩:=h;have P:=o5 h x;have q:=hide h;clear h;cases hl:k.cV s x
 ·have al:k.ma s x=s:=by unfold b_.ma;rw[hl];rfl
  rw[al];rw[hl] at P;go_enter func142,ntmps142;go_wp2_with fail;refine P.mono ?_;rintro e w1 ⟨rfl,d⟩
  have v:ay ((i4 c k ct).J F s w1/\ce F w F w1):=⟨⟨vt,(cW c k vt ct).below q.o d⟩,ce.of d⟩
  go_wp2_with fail;go_end0;exact⟨F,rfl,v.o.1,v.o.2⟩
 ·obtain⟨ap,hi,ar,ax,aB⟩:=info_parts jQ;obtain⟨l1,l2,B⟩:=b_.qA hl;have E:ay (k.ma s x={s with f:=gw s.f (cj x) (cj x),td:=s.td++[cj x]}):=by show _=_;unfold b_.ma;rw[aJ hl]
  have n:=m9 x;rw[l1] at n;have N:=m.ps _ l2;have b0:=m.tl;have b1:=m.sum;rw[hl] at P;generalize k.ma s x=s2 at E⊢;generalize cj x=a at E n l2 B N⊢;clear hl l1 B;go_enter func142,ntmps142;go_wp2_with fail;refine P.mono ?_;rintro e w1 ⟨rfl,d⟩
  go_wp2_with fail;refine(n w1).mono ?_;rintro e aF ⟨rfl,aR⟩
  have hb:=d.trans (aR.mono d.size)
  have S:=(cW c k vt ct).below q.o hb;obtain⟨_,_,_,c3,_,c5,_,b2,lk⟩:=eE S;obtain⟨⟨D,o1,aT,a0⟩,hM⟩:=o4 S;obtain⟨w3,b3,a1,a2⟩:=o1.update (t:=127) (e:=3) iE underlying127 (by unfold maxLen;omega) (i1 N.1 aa) (mo a (WalkArith.wf_i64 ⟨aa,aa⟩))
  obtain⟨o,a3⟩:=hM w3 _ (Mp.put o1 aT a0 l2 a1) ((Fr.refl _ aF).grown a2 (fun b e=>aL (by cases e;rfl)))
  obtain⟨_,_,_,_,_,bb,_,bd,be⟩:=eE o;obtain⟨p,_,bg,_⟩:=mP o;dsimp only at p;obtain⟨bi,bl,bn⟩:=dU p;subst bn;have bo:=bd 5;have W:=dq o ((ce.of hb).trans a3)
  go_wp2_with (at_builtin;refine wpList_append_own_at _ rfl _ _ 74 rfl 0 3 ap (ak 0) 1 8 underlying74 hi ar ax aB rfl ae (.slice bi s.td.length bl) s.td.length (s.td.map (Value.int .i64)) rfl (gb p _) ⟨w3.heap.size,0,none⟩ 1 1 [ak a] rfl rfl ?_ ?_ ?_ ?_ ?_ ?_;(intro j u i;match j,i with|0,i=>(simp at i;subst i;simp[Addr.add]));(intro u ab;simp at ab;subst ab;rfl);(unfold maxLen;omega);(first|omega|simp);(first|omega|(simp;done)|(simp;omega));intro b5 b6 ad ag _ bp;obtain⟨b4,br,bs⟩:=d4 ad (Nat.succ_pos _);subst bs;have ai:=(ag.block c.pk (by simp;omega) bg).trans (a4 _ _ _ be);have b7:=(aW (a:=⟨c.pk,5,none⟩) ai).trans bb;have b8:=(World.frozen?_of_block (a:=⟨c.pk,5,none⟩) ai).trans bo)
  go_end0;obtain⟨g,bt,bx⟩:=yI W.o.1 (((Fr.refl _ w3).alloc _).grown ag (fun b e=>aL e.symm)) (v1:=.slice (an b4) (s.td.length+1) br) (l:=s.td++[a]) (by simpa using ad) (fun b e=>by simp[Value.ownBlock] at e;subst e;exact(bp.imp id (fun e=>by simpa[Value.ownBlock] using e)).imp id (fun e=>by omega))
  exact⟨g,rfl,⟨_,by rw[E.o];exact bt⟩,W.o.2.trans bx⟩
theorem o6 (h:(eM c k).J F s w)(d:cX k s)(x:Int):
 Calls prog 142 #[am c.pk,ak x] w fun e w'=>∃b,e=.returned (.tuple #[])/\(eM c k).J b (k.ma s x) w'/\ce F w b w':=by
 obtain⟨vt,ct,h⟩:=h;refine(yM ⟨vt,h⟩ d x).mono ?_;rintro e w' ⟨b,rfl,⟨f,j⟩,t⟩
 exact⟨b,rfl,⟨f,ct,j⟩,t⟩
end
section
variable {c:e7}{k:b_}{F:Nat->Prop}{s:cu}{w:aw}
theorem FC (h:(eM c k).J F s w)(p:cX k s)(a:Int)(a0:0<=a)(a1:a<=2000)(hk:pk (k.ld a)=1\/pk (k.ld a)=2):
 Calls prog 216 #[am c.pk,ak a] w fun e w'=>∃b,e=.returned (.tuple #[])/\(eM c k).J b (k.lk s a) w'/\ce F w b w':=by
 have t:k.lk s a=k.e6 s a (pf (k.ld a)).toNat:=by unfold b_.lk;rw[aJ hk]
 rw[t];have u:=hide h;obtain⟨vt,v,h⟩:=h;obtain⟨f,c0,_⟩:=gz h;obtain⟨B,_⟩:=eE h;have L:=f6 a w f;have N:ld k.a.N k.s.y k.s.g k.s.ws a=k.ld a:=rfl;rw[N] at L;have hp:=dp (k.ld a)
 obtain⟨n,S⟩:∃n:Nat,pf (k.ld a)=n:=⟨(pf (k.ld a)).toNat,aa⟩
 rw[S] at L hp⊢;have en:(n:Int).toNat=n:=Int.toNat_natCast n;rw[en];have W:ay (cX k s):=p;generalize pc (k.ld a)=q at L;have key:∀kd:Int,(kd=1\/kd=2)->pk (k.ld a)=kd->Calls prog 216 #[am c.pk,ak a] w fun e w'=>∃b,e=.returned (.tuple #[])/\(eM c k).J b (k.e6 s a n) w'/\ce F w b w':=by
  intro kd ab ad;rw[ad] at L;rcases ab with rfl|rfl
  all_goals
   go_enter func216,ntmps216;go_wp2_with fail;refine L.mono ?_;rintro e w1 ⟨rfl,g⟩
   have ag:ay ((eM c k).J F (k.e6 s a 0) w1/\ce F w F w1):=⟨(eM c k).below u.o g,ce.of g⟩
   go_wp2_with fail
   go_loopw [26] (fun iv wr=>∃(i:Nat)(b:Nat->Prop),i<=n/\iv=ak i/\ay ((eM c k).J b (k.e6 s a i) wr/\ce F w b wr)) (fun iv _=>n-(intOf iv).toNat)
   exact⟨0,F,aX _,rfl,ag⟩
   ·
     obtain⟨i,b,hi,rfl,d⟩:=hrel;by_cases aB:i<n
     ·obtain⟨vt,v,j⟩:=d.o.1;obtain⟨f,c0,_⟩:=gz j;obtain⟨B,_⟩:=eE j;have P:=jr (a+1+i) wr f;have ex:ld k.a.N k.s.y k.s.g k.s.ws (a+1+i)=k.ld (a+1+i):=rfl;rw[ex] at P;have l:ay (k.e6 s a (i+1)=k.ma (k.e6 s a i) (k.ld (a+1+i))):=rfl;have ai:=(W.o.e6 a i).1;generalize k.ld (a+1+i)=x at P l;go_wp2_with fail;refine P.mono ?_;rintro e w3 ⟨rfl,m⟩
      have o:=o6 ((eM c k).below d.o.1 m) ai x;rw[<-l.o] at o;have al:=hide (d.o.2.below m)
      go_wp2_with fail;refine o.mono ?_;rintro e aF ⟨ap,rfl,cD,ar⟩
      have ax:=dq cD (al.o.trans ar)
      go_wp2_with fail;go_roundw;exact⟨i+1,ap,aa,aj,ax⟩
      simp[intOf];omega
     ·obtain rfl:i=n:=aa;go_wp2_with fail;go_end0;exact⟨b,rfl,d.o.1,d.o.2⟩
 exact key _ hk rfl
theorem FD (h:(eM c k).J F s w)(p:cX k s)(a:Int)(a0:0<=a)(a1:a<=2000)(hk:pk (k.ld a)=3):
 Calls prog 216 #[am c.pk,ak a] w fun e w'=>∃d,e=.returned (.tuple #[])/\(eM c k).J d (k.lk s a) w'/\ce F w d w':=by
 have t:k.lk s a=k.ma s (k.ld (a+2)):=by unfold b_.lk;rw[aH aa,aJ hk]
 rw[t];obtain⟨x,f⟩:∃x,k.ld (a+2)=x:=⟨_,rfl⟩
 rw[f];have u:ay (k.ld (a+2)=x):=f;have v:ay ((eM c k).J F s w):=h;obtain⟨vt,B,h⟩:=h;obtain⟨b,c0,_⟩:=gz h;obtain⟨N,_⟩:=eE h;have L:=f6 a w b;have S:ld k.a.N k.s.y k.s.g k.s.ws a=k.ld a:=rfl;rw[S,hk] at L;generalize pf (k.ld a)=n at L;generalize pc (k.ld a)=q at L;go_enter func216,ntmps216;go_wp2_with fail;refine L.mono ?_;rintro e w1 ⟨rfl,g⟩
 have i:=(eM c k).below v.o g;have j:ay ((eM c k).J F s w1/\ce F w F w1):=⟨i,ce.of g⟩
 obtain⟨vt,B,l⟩:=i;obtain⟨b,c0,_⟩:=gz l;obtain⟨N,_⟩:=eE l;have P:=jr (a+2) w1 b;have ex:ld k.a.N k.s.y k.s.g k.s.ws (a+2)=k.ld (a+2):=rfl;rw[ex,u.o] at P;go_wp2_with fail;refine P.mono ?_;rintro e w3 ⟨rfl,m⟩
 have W:=o6 ((eM c k).below j.o.1 m) p x;have ab:=hide (j.o.2.below m)
 go_wp2_with fail;refine W.mono ?_;rintro e ai ⟨ad,rfl,cD,ag⟩
 have o:=dq cD (ab.o.trans ag)
 go_wp2_with fail;go_end0;exact⟨ad,rfl,o.o.1,o.o.2⟩
theorem FE (h:(eM c k).J F s w)(a:Int)(bb:s.ep.length<=10000)(hk:pk (k.ld a)=4):
 Calls prog 216 #[am c.pk,ak a] w fun e w'=>∃d,e=.returned (.tuple #[])/\(eM c k).J d (k.lk s a) w'/\ce F w d w':=by
 have N:k.lk s a={s with ep:=s.ep++[a]}:=by unfold b_.lk;rw[aH aa,aH aa,aJ hk]
 rw[N];obtain⟨S,hi,W,ab,ad⟩:=info_parts jQ;have ag:ay ((eM c k).J F s w):=h;obtain⟨vt,ai,h⟩:=h;obtain⟨al,c0,_⟩:=gz h;obtain⟨bd,_⟩:=eE h;have L:=f6 a w al;have ap:ld k.a.N k.s.y k.s.g k.s.ws a=k.ld a:=rfl;rw[ap,hk] at L;generalize pf (k.ld a)=n at L;generalize pc (k.ld a)=q at L;go_enter func216,ntmps216;go_wp2_with fail;refine L.mono ?_;rintro e w1 ⟨rfl,i⟩
 obtain⟨vt,ai,g⟩:=(eM c k).below ag.o i;obtain⟨_,_,_,_,_,_,ar,ax,lk⟩:=eE g;obtain⟨_,er,_,aB,_⟩:=mP g;obtain⟨m,o,aF⟩:=dU er;subst aF;have aR:=ax 6;have p:ay ((cW c k vt (.slice m s.ep.length o)).J F s w1/\ce F w F w1):=⟨g,ce.of i⟩
 go_wp2_with (at_builtin;refine wpList_append_own_at _ rfl _ _ 74 rfl 0 3 S (ak 0) 1 8 underlying74 hi W ab ad rfl ae (.slice m s.ep.length o) s.ep.length (s.ep.map (Value.int .i64)) rfl (gb er _) ⟨w1.heap.size,0,none⟩ 1 1 [ak a] rfl rfl ?_ ?_ ?_ ?_ ?_ ?_;(intro j u f;match j,f with|0,f=>(simp at f;subst f;simp[Addr.add]));(intro u t;simp at t;subst t;rfl);(unfold maxLen;omega);(first|omega|simp);(first|omega|(simp;done)|(simp;omega));intro be bg v x _ aT;obtain⟨b4,aV,a0⟩:=d4 v (Nat.succ_pos _);subst a0;have B:=(x.block c.pk (by simp;omega) aB).trans (a4 _ _ _ lk);have bi:=(aW (a:=⟨c.pk,6,none⟩) B).trans ar;have bl:=(World.frozen?_of_block (a:=⟨c.pk,6,none⟩) B).trans aR)
 go_end0;obtain⟨d,a1,a2⟩:=FB p.o.1 (((Fr.refl _ w1).alloc _).grown x (fun b e=>aL e.symm)) (v1:=.slice (an b4) (s.ep.length+1) aV) (l:=s.ep++[a]) (by simpa using v) (fun b e=>by
  have a3:=aT.imp id (fun e=>by simpa[Value.ownBlock] using e)
  simp[Value.ownBlock] at e;subst e;exact a3.imp id (fun e=>by omega))
 exact⟨d,rfl,⟨_,_,a1⟩,p.o.2.trans a2⟩
theorem FF (h:(eM c k).J F s w)(a:Int)(k1:pk (k.ld a)≠1)(n:pk (k.ld a)≠2)(g:pk (k.ld a)≠3)(i:pk (k.ld a)≠4):
 Calls prog 216 #[am c.pk,ak a] w fun e w'=>∃b,e=.returned (.tuple #[])/\(eM c k).J b (k.lk s a) w'/\ce F w b w':=by
 have j:k.lk s a=s:=by unfold b_.lk;rw[aH aa,aH g,aH i]
 rw[j];have l:ay ((eM c k).J F s w):=h;obtain⟨vt,o,h⟩:=h;obtain⟨m,c0,_⟩:=gz h;obtain⟨p,_⟩:=eE h;have L:=f6 a w m;have q:ld k.a.N k.s.y k.s.g k.s.ws a=k.ld a:=rfl;go_enter func216,ntmps216;go_wp2_with fail;refine L.mono ?_;rintro e w1 ⟨rfl,d⟩
 have f:ay ((eM c k).J F s w1/\ce F w F w1):=⟨(eM c k).below l.o d,ce.of d⟩
 go_wp2_with fail;go_end0;exact⟨F,rfl,f.o.1,f.o.2⟩
theorem FG (h:(eM c k).J F s w)(b:cX k s)(a:Int)(a0:0<=a)(a1:a<=2000)(i:s.ep.length<=10000):
 Calls prog 216 #[am c.pk,ak a] w fun e w'=>∃d,e=.returned (.tuple #[])/\(eM c k).J d (k.lk s a) w'/\ce F w d w':=by
 by_cases k1:pk (k.ld a)=1\/pk (k.ld a)=2
 ·exact FC h b a a0 a1 k1
 by_cases f:pk (k.ld a)=3
 ·exact FD h b a a0 a1 f
 by_cases g:pk (k.ld a)=4
 ·exact FE h a i g
 exact FF h a (fun e=>k1 (aL e)) (fun e=>k1 (aK e)) f g
end
section
variable {c:e7}{k:b_}{F:Nat->Prop}{s:cu}{w:aw}
theorem FH (h:(eM c k).J F s w)(aB:cX k s):
 Calls prog 143 #[am c.pk] w fun e w'=>∃u,e=.returned (.tuple #[])/\(eM c k).J u (k.lm (k.lost s+s.td.length+1) s) w'/\ce F w u w':=by
 have v:=dq h aB;obtain⟨g,B⟩:∃g,k.lm (k.lost s+s.td.length+1) s=g:=⟨_,rfl⟩
 rw[B];have aF:=hide B;obtain⟨vt,aR,h⟩:=h;obtain⟨_,_,_,_,_,N,_⟩:=eE h;obtain⟨tr,_⟩:=mP h;obtain⟨bp,S,q⟩:=dU tr;subst q;go_enter func143,ntmps143;go_wp2_with fail
 go_loopg [2] (k.lost s+s.td.length) (fun m nv wr=>∃(s1:cu)(i:Nat->Prop),nv=ak s1.td.length/\ay ((eM c k).J i s1 wr/\cX k s1/\ce F w i wr)/\ay (k.lost s1+s1.td.length<=m/\k.lm (m+1) s1=g))
 exact⟨s,F,rfl,⟨v.o.1,v.o.2,ce.refl _ _⟩,⟨aD _,aF.o⟩⟩
 ·
   obtain⟨s1,i,rfl,d,j⟩:=hrel;by_cases f:0<s1.td.length
   ·obtain⟨vt,aR,o⟩:=d.o.1;obtain⟨_,_,_,_,_,N,_,W,lk⟩:=eE o;obtain⟨tr,_,br,_⟩:=mP o;obtain⟨b,S,q⟩:=d4 tr f;subst q;have aT:=vp tr;have bs:maxLen<=9223372036854775807:=by unfold maxLen;omega
    have aV:wr.cell? (ao b (s1.td.length-1))=some (ak (s1.td.getD (s1.td.length-1) 0)):=by obtain⟨bt,bx,e,_,hc⟩:=gV tr f;cases e;have:=hc (s1.td.length-1) aa;rwa [Nat.zero_add] at this
    have b0:=W 5;have hm:s1.td.getD (s1.td.length-1) 0∈s1.td:=by exact tz
    have ab:=d.o.2.1.ps _ (d.o.2.1.td _ hm)
    have a0:=d.o.2.1.sum;have b1:=d.o.2.1.tl;obtain⟨b2,ad,ag⟩:=yI o (Fr.refl _ wr) (v1:=.slice (an b) (s1.td.length-1) S) (l:=s1.td.take (s1.td.length-1)) (by have:=vo tr (s1.td.length-1) aa;rw[List.map_take,show(s1.td.take (s1.td.length-1)).length=s1.td.length-1 by rw[bu];omega];exact this) (fun b e=>aL e)
    have ai:cX k {s1 with td:=s1.td.take (s1.td.length-1)}:=⟨d.o.2.1.nd,d.o.2.1.ps,fun x a1=>d.o.2.1.td x (List.mem_of_mem_take a1),d.o.2.1.ep,d.o.2.1.tl,by show k.lost s1+(s1.td.take (s1.td.length-1)).length+s1.ep.length<=_;rw[bu];omega⟩
    have t:=FG ⟨_,_,ad⟩ ai (s1.td.getD (s1.td.length-1) 0) ab.1 ab.2 (by show s1.ep.length<=10000;omega)
    have a2:ay (k.lk {s1 with td:=s1.td.take (s1.td.length-1)} (s1.td.getD (s1.td.length-1) 0)=k.l1 s1):=rfl;rw[a2.o] at t;have al:=hide (d.o.2.1.l1 f)
    have a3:ay (k.lm (gk+1) s1=k.lm gk (k.l1 s1)):=by show _=_;rw[b_.lm,aJ f]
    have ap:=hide (d.o.2.2.trans ag)
    obtain⟨n,ar⟩:∃n,s1.td.length=n+1:=⟨s1.td.length-1,aa⟩
    rw[ar] at N aT⊢;rw[ar,Nat.add_sub_cancel] at aV t ap;generalize s1.td.getD n 0=x at*;generalize k.l1 s1=p at*;have b3:n<=4000:=aa;clear o ad ag ai tr hm a0 W d;go_wp2_with fail;refine t.mono ?_;rintro e b4 ⟨bb,rfl,cD,bd⟩
    have be:=gM cD al.o.1 (ap.o.trans bd)
    obtain⟨b5,b6,ax⟩:=cD;obtain⟨_,_,_,_,_,b7,_⟩:=eE ax;obtain⟨bg,_⟩:=mP ax;obtain⟨b8,b9,bi⟩:=dU bg;subst bi;have hg:1<=gk:=by have:=j.o.1;omega
    have bl:ay (k.lost p+p.td.length<=gk-1/\k.lm (gk-1+1) p=g):=⟨by have:=j.o.1;have:=al.o.2;omega,by rw[Nat.sub_add_cancel hg,<-a3.o];exact j.o.2⟩
    go_wp2_with fail
    go_roundg (gk-1)
    case measure=>omega
    exact⟨p,bb,rfl,be,bl⟩
   ·have bn:s1.td=[]:=by
     cases ht:s1.td with
     |nil=>rfl
     |cons x l=>rw[ht] at f;simp at f
    have bo:g=s1:=by rw[<-j.o.2];unfold b_.lm;rw[aH f]
    subst bo;rw[bn];go_wp2_with fail;go_end0;exact⟨i,rfl,d.o.1,d.o.2.2⟩
end
section
variable {c:e7}{k:b_}{F:Nat->Prop}{s:cu}{w:aw}
theorem FI (h:(eM c k).J F s w)(N:cX k s):
 Calls prog 144 #[am c.pk] w fun e w'=>∃b2,e=.returned (.bool (k.kv s).1)/\(eM c k).J b2 (k.kv s).2 w'/\ce F w b2 w':=by
 obtain⟨co,hi,cp,cq,cr⟩:=info_parts jQ;obtain⟨vt,cE,h⟩:=h;obtain⟨_,_,_,_,_,_,cs,_⟩:=eE h;obtain⟨_,er,_⟩:=mP h;obtain⟨b3,f,ct⟩:=dU er;subst ct;have a3:ay (cX k s):=N;have b5:ay ((i4 c k (.slice b3 s.ep.length f)).J F s w):=⟨vt,h⟩
 have cF:s.ep.length<=4000:=by have:=N.sum;have:=N.tl;omega
 have cv:ay (∀a∈s.ep,0<=a/\a<=2000):=fun a ha=>N.ps a (N.ep a ha)
 have b6:ay (k.kv s=(decide ((k.dT s s.ep).1.length<s.ep.length),{(k.dT s s.ep).2 with ep:=(k.dT s s.ep).1})):=rfl;clear N h er;go_enter func144,ntmps144;go_wp2_with fail
 go_loopw [3,12] (fun vr iv wr=>∃(j:Nat)(R:List Int)(s1:cu)(ar:Option Addr)(g:Nat)(d:Nat->Prop),j<=s.ep.length/\iv=ak j/\ay (k.dT s (s.ep.take j)=(R,s1))/\vr=.slice ar R.length g/\wr.ownsRow w.heap.size 3 1 (.slice ar R.length g) R.length (R.map (Value.int .i64))/\(i4 c k (.slice b3 s.ep.length f)).J d s1 wr/\ce F w d wr/\ay (∀b,some b=(Value.slice ar R.length g).ownBlock->¬d b)/\ay (cX k s1/\s1.ep=s.ep)) (fun _ iv _=>s.ep.length-(intOf iv).toNat)
 case atStart=>exact⟨0,[],s,none,0,F,aX _,rfl,rfl,rfl,a6 _ _ _ _,b5.o,ce.refl _ _,fun b e=>by simp[Value.ownBlock] at e,⟨a3.o,rfl⟩⟩
 case round=>
  obtain⟨j,R,s1,ar,g,d,W,rfl,ab,rfl,q,b7,v,S,ad⟩:=hrel;clear b5 cs;have cG:R.length<=10000:=by have ag:=(cX.iq (s.ep.take j) (t:=([],s)) a3.o (fun a ha=>a3.o.ep a (List.mem_of_mem_take ha)) (fun b hb=>by cases hb)).2.1;have b8:=ab.o;unfold b_.dT at b8;rw[b8] at ag;simp at ag;omega
  by_cases aB:j<s.ep.length
  ·obtain⟨b9,i⟩:=b7;obtain⟨_,bb,_⟩:=mP i;rw[ad.o.2] at bb;obtain⟨m,n,cw,cH,hc⟩:=gV bb aa;have bd:=hc j aB;subst cw;have ca:s.ep.getD j 0∈s.ep:=by rw[aG,aI aB];exact a_ aB
   have cx:=cv.o _ ca;have be:ay (k.dT s (s.ep.take (j+1))=k.cS (R,s1) (s.ep.getD j 0)):=by
    show _=_;rw[fE s.ep j aB 0];unfold b_.dT;rw[List.foldl_append];have:=ab.o;unfold b_.dT at this
    rw[this];rfl
   generalize s.ep.getD j 0=a at bd cx be;obtain⟨aF,_⟩:=eE i;obtain⟨ai,aR,_⟩:=gz i;have L:=jr (a+1) wr ai;have al:ld k.a.N k.s.y k.s.g k.s.ws (a+1)=k.ld (a+1):=rfl;rw[al] at L;have B:ay ((i4 c k (.slice (some ⟨m,n,none⟩) s.ep.length f)).J d s1 wr/\ce F w d wr):=⟨⟨b9,i⟩,v⟩
   have cI:=v.fr.size;have cb:ay (∀b,some b=(Value.slice ar R.length g).ownBlock->b<wr.heap.size):=fun b e=>(cg q b e).2;have j0:(0:Int)<=(j:Int):=aa;have cJ:(j:Int)<(s.ep.length:Int):=aa;clear hc ca i v ai al bb;cases hls:k.cV s1 (k.ld (a+1))
   ·have aT:ay (k.dT s (s.ep.take (j+1))=(R,k.ma s1 (k.ld (a+2)))):=by show _=_;rw[be.o];unfold b_.cS;rw[hls];rfl
    generalize k.ld (a+1)=x at L hls;go_wp2_with fail;refine L.mono ?_;clear L;rintro e w1 ⟨rfl,o⟩
    obtain⟨cz,p⟩:=(i4 c k (.slice (some ⟨m,n,none⟩) s.ep.length f)).below B.o.1 o;have P:=o5 p x;rw[hls] at P;clear bd aF aR p;go_wp2_with fail;refine P.mono ?_;clear P;rintro e ap ⟨rfl,ax⟩
    have hb:=o.trans (ax.mono o.size)
    obtain⟨cA,aV⟩:=(i4 c k (.slice (some ⟨m,n,none⟩) s.ep.length f)).below B.o.1 hb;obtain⟨aF,_⟩:=eE aV;obtain⟨ai,aR,_⟩:=gz aV;have a0:=jr (a+2) ap ai;have al:ld k.a.N k.s.y k.s.g k.s.ws (a+2)=k.ld (a+2):=rfl;rw[al] at a0;have cB:ay (k.ld (a+2)=k.ld (a+2)):=rfl;generalize k.ld (a+2)=y at a0 aT;have bg:ay ((i4 c k (.slice (some ⟨m,n,none⟩) s.ep.length f)).J d s1 ap/\Below wr.heap.size wr ap):=⟨⟨cA,aV⟩,hb⟩
    clear o ax aV ai al hb cB;go_wp2_with fail;refine a0.mono ?_;clear a0;rintro e w3 ⟨rfl,bi⟩
    have cc:=yM ((i4 c k (.slice (some ⟨m,n,none⟩) s.ep.length f)).below bg.o.1 bi) ad.o.1 y;have cd:ay (ce d wr d w3):=(ce.of bg.o.2).below bi;clear bi aF aR bg;go_wp2_with fail;refine cc.mono ?_;clear cc;rintro e bl ⟨cf,rfl,bn,a1⟩
    have a2:=cd.o.trans a1;have bo:=ad.o.1.ma y;have bp:=gM (B.o.2.trans a2) bo.1 (bo.2.2.trans ad.o.2)
    have br:=gN q a2.fr (fun b e=>S.o b e)
    have bs:ay (∀b,some b=(Value.slice ar R.length g).ownBlock->¬cf b):=fun b e ch=>(a2.sub b ch).elim (S.o b e) (fun ch=>by have:=cb.o b e;omega)
    clear a1 a2 bo q cd S;go_wp2_with fail;go_roundw;exact⟨j+1,R,_,ar,g,cf,aa,aj,aT,rfl,br,bn,bp.o.1,bs,⟨bp.o.2.1,bp.o.2.2⟩⟩
    simp[intOf];omega
   ·have aT:ay (k.dT s (s.ep.take (j+1))=(R++[a],s1)):=by show _=_;rw[be.o];unfold b_.cS;rw[aJ hls]
    generalize k.ld (a+1)=x at L hls;go_wp2_with fail;refine L.mono ?_;clear L;rintro e w1 ⟨rfl,o⟩
    obtain⟨cz,p⟩:=(i4 c k (.slice (some ⟨m,n,none⟩) s.ep.length f)).below B.o.1 o;have P:=o5 p x;rw[hls] at P;clear bd aF aR p;go_wp2_with fail;refine P.mono ?_;clear P;rintro e ap ⟨rfl,ax⟩
    have hb:=o.trans (ax.mono o.size)
    have bt:=cy q (fun b e=>hb.block b (cb.o b e))
    have cK:=hb.size;clear o ax;go_wp2_with (at_builtin;refine wpList_append_own_at _ rfl _ _ 74 rfl w.heap.size 3 co (ak 0) 1 8 underlying74 hi cp cq cr rfl ae (.slice ar R.length g) R.length (R.map (Value.int .i64)) rfl (gb bt _) ⟨ap.heap.size,0,none⟩ 1 1 [ak a] rfl rfl ?_ ?_ ?_ ?_ ?_ ?_;(intro j u W;match j,W with|0,W=>(simp at W;subst W;simp[Addr.add]));(intro u ci;simp at ci;subst ci;rfl);(unfold maxLen;omega);omega;(simp;omega);intro cL bl bx b0 _ cj;obtain⟨b4,b1,cC⟩:=d4 bx (Nat.succ_pos _);subst cC)
    have br:bl.ownsRow w.heap.size 3 1 (.slice (an b4) (R++[a]).length b1) (R++[a]).length ((R++[a]).map (Value.int .i64)):=by simpa using bx
    have p:=(i4 c k (.slice (some ⟨m,n,none⟩) s.ep.length f)).below B.o.1 hb;have bn:=pO (i4 c k (.slice (some ⟨m,n,none⟩) s.ep.length f)) p b0 (fun b e=>S.o b e)
    have a1:ce F w d bl:=⟨((B.o.2.below hb).fr.alloc _).grown b0 (fun b e=>aK (cg bt b e.symm).1),B.o.2.sub⟩
    have bs:ay (∀b,some b=(Value.slice (an b4) (R++[a]).length b1).ownBlock->¬d b):=fun b e ck=>by
     have cD:=cj.imp id (fun e=>by simpa[Value.ownBlock] using e)
     simp[Value.ownBlock] at e;subst e;rcases cD with e|e
     ·exact S.o _ e ck
     ·have:=(i4 c k (.slice (some ⟨m,n,none⟩) s.ep.length f)).lt p _ ck;omega
    clear p bx b0 cj bt q hb;go_wp2_with fail;go_roundw;exact⟨j+1,R++[a],s1,an b4,b1,d,aa,aj,aT,ac,br,bn,a1,bs,ad⟩
    simp[intOf];omega
  ·obtain rfl:j=s.ep.length:=aa;rw[ba] at ab;obtain⟨b9,i⟩:=b7;obtain⟨_,_,_,_,_,_,cM,cl,lk⟩:=eE i;have cN:=cl 6;obtain⟨cm,cn⟩:=yJ i (v1:=.slice ar R.length g) (l:=R) (Fr.refl _ wr) (ec q (fun _ _=>aX _)) (fun b e=>aK (S.o b e))
   have oX:=dq cm (v.fr.trans cn v.sub)
   have yd:ay (∀b,some b=(Value.slice ar R.length g).ownBlock->w.heap.size<=b):=fun b e=>(cg q b e).1;have yc:=hide v.sub;have E2:ay ((k.kv s).1=decide (R.length<s.ep.length)/\(k.kv s).2={s1 with ep:=R}):=by have ag:=b6.o;rw[ab.o] at ag;rw[ag];exact⟨rfl,rfl⟩
   clear cm cn i v q ab b6 cl;by_cases hll:R.length<s.ep.length
   ·go_wp2_with fail;exact qr
   ·go_wp2_with fail;exact qr
end
end Go.Proofs.YtpkjkjhanlbcoaaGreat
