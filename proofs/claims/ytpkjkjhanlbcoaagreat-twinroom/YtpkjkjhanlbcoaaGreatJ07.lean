import Derived.Test.YtpkjkjhanlbcoaaGreatJ06
namespace Go.Proofs.YtpkjkjhanlbcoaaGreat
set_option maxRecDepth 100000
set_option maxHeartbeats 4000000
open Tryz
open Go.RowKit W Kp cf
theorem qr {P:Prop}(h:P:=by unfold cq.full at hf;have:=of_decide_eq_false hf;omega):P:=h
def i2 {b:Type}(fd:b->Int->Int)(st:b->Int->b)(e:Int)(t:b)(a:Int):b:=if a+fd t a<e then st t a else t
def ki {b:Type}(fd:b->Int->Int)(st:b->Int->b)(e:Int)(t:b)(l:List Int):b:=l.foldl (i2 fd st e) t
theorem xU {i:Type}(o:dr i)(fd:i->Int->Int)(st:i->Int->i)(G:Nat->i->Prop)(pk pw p f:Nat)(H:Array Value)(I:dN f)(l:List Int)(ad:Option Addr)(cap:Nat)(e:Int)(F:Nat->Prop)(t:i)(w:ax)
 (J:∀F t w a,o.J F t w->w.cell? (aq pk 0)=some (aj pw)/\w.cell? (aq pw 0)=some (aj p)/\Calls prog 102 #[aj p,ah a] w fun r w'=>∃x z,r=.returned (.tuple #[ah x,ah (fd t a),ah z])/\Below w.heap.size w w')
 (K:∀t a,0<=fd t a/\fd t a<=12)(M:∀a∈l,0<=a/\a<=100000)(ar:l.length<=100000)
 (N:∀j F t w,j<l.length->G j t->o.J F t w->l.getD j 0+fd t (l.getD j 0)<e->Calls prog f (#[ah (l.getD j 0)]++H) w fun r w'=>∃g,r=.returned (.tuple #[])/\o.J g (st t (l.getD j 0)) w'/\b8 F w g w')
 (O:∀j t,j<l.length->G j t->G (j+1) (i2 fd st e t (l.getD j 0)))(h0:G 0 t)(k:o.J F t w)(C:iK w ad l)(hn:0<l.length->∀z,ad=some z->¬F z.block):
 Calls prog 180 #[aj pk,.slice ad l.length cap,ah e,.func (.func f) #[] H] w fun r w'=>∃g,r=.returned (.tuple #[])/\o.J g (ki fd st e t l) w'/\b8 F w g w'/\G l.length (ki fd st e t l):=by
 have U:ay (∀F t w a,o.J F t w->_):=J;have W:ay (∀j F t w,j<l.length->G j t->o.J F t w->l.getD j 0+fd t (l.getD j 0)<e->_):=N;have X:ay (∀j t,j<l.length->G j t->_):=O;have Y:ay (∀g w',b8 F w g w'->_):=fun g w' n=>C.keep n.fr.size (fun hp z e=>n.fr.block _ (by obtain⟨b,aB,P,hb,_⟩:=C hp;rw[e] at P;cases P;exact hb) (hn hp z e))
 have ab:ay (_):=M;have ag:ay (∀t a,_):=K;have aF:∀(args:Array Value)(w:ax),_=_:=I;clear J N O C hn M K I;go_enter func180,ntmps180;go_wp2_with fail
 go_loopw [15] (fun iv wr=>∃(j:Nat)(d:Nat->Prop)(c:i),j<=l.length/\iv=ah j/\ay (ki fd st e t (l.take j)=c)/\ay (G j c)/\o.J d c wr/\b8 F w d wr) (fun iv _=>l.length-(intOf iv).toNat)
 case atStart=>exact⟨0,F,t,aX _,rfl,rfl,h0,k,b8.refl _ _⟩
 case round=>
  clear h0 k;obtain⟨j,d,c,aR,rfl,D,E,k,n⟩:=hrel;by_cases q:j<l.length
  ·obtain⟨aV,a0,ai,a1,hc⟩:=Y.o d wr n V;have a2:=hc j q;subst ai;have Q:l.getD j 0∈l:=by rw[aE,aL q];exact a6 q
   have bb:=ab.o _ Q;have R:ay (ki fd st e t (l.take (j+1))=i2 fd st e c (l.getD j 0)):=by
    show _=_;rw[gy l j q 0];unfold ki;rw[List.foldl_append];have:=D.o;unfold ki at this
    rw[this];rfl
   have S:ay (_):=X.o j c q E.o;have s:=fun w h=>W.o j d c w q E.o h;obtain⟨bd,be,L⟩:=U.o d c wr (l.getD j 0) k;have bg:=ag.o c (l.getD j 0)
   have B:=dq k n;have s:ay (∀w,o.J d c w->l.getD j 0+fd c (l.getD j 0)<e->_):=s;clear hc Q k n;by_cases hw:l.getD j 0+fd c (l.getD j 0)<e
   ·have u:ay (i2 fd st e c (l.getD j 0)=st c (l.getD j 0)):=by show _=_;unfold i2;rw[aI hw]
    have al:ay (∀w,o.J d c w->_):=fun w h=>s.o w h hw;clear s;generalize l.getD j 0=a at*;generalize fd c a=m at*;generalize st c a=am at*;go_wp2_with fail;refine L.mono ?_;rintro r w1 ⟨x,z,rfl,v⟩
    go_wp2_with fail;refine(al.o w1 (o.below B.o.1 v)).mono ?_;rintro r bi ⟨an,rfl,ao,ap⟩
    have A:=dq ao ((B.o.2.below v).trans ap)
    go_wp2_with fail;go_roundw;exact⟨j+1,an,am,V,af,by show _=_;rw[R.o,u.o],by show G _ _;rw[<-u.o];exact S.o,A.o.1,A.o.2⟩
    simp[intOf];omega
   ·have u:ay (i2 fd st e c (l.getD j 0)=c):=by show _=_;unfold i2;rw[aG hw]
    clear s;generalize l.getD j 0=a at*;generalize fd c a=m at*;go_wp2_with fail;refine L.mono ?_;rintro r w1 ⟨x,z,rfl,v⟩
    have A:=dq (o.below B.o.1 v) (B.o.2.below v)
    go_wp2_with fail;go_roundw;exact⟨j+1,d,c,V,af,by show _=_;rw[R.o,u.o],by show G _ _;rw[<-u.o];exact S.o,A.o.1,A.o.2⟩
    simp[intOf];omega
  ·obtain rfl:j=l.length:=V;rw[bm] at D;go_wp2_with fail;go_end0;rw[D.o];exact⟨d,rfl,k,n,E.o⟩
section
variable {c:gn}{k:ce}{F:Nat->Prop}{s:cj}{w:ax}
def ce.md (k:ce)(c:gn)(s:cj)(a:Int):cj:=if(f3 k.N c.c a&&c.M.contains (cN k.N a))=true then k.lk s a else s
theorem ce.D8 (k:ce)(c:gn)(s:cj)(l:List Int):k.lm c.c c.M s l=ki (fun s a=>pf (k.ld s a)) (k.md c) s.nx s l:=rfl
theorem CI.md (h:CI k s)(c:gn){a:Int}(ha:(k.N:Int)<=a)(b:a<=2000):CI k (k.md c s a)/\Cl k s (k.md c s a):=by
 unfold ce.md;split
 ·exact h.lk ha b
 ·exact⟨h,Cl.of (eC.refl _ _)⟩
theorem D9:dN 183:=gb func183 ae rfl
theorem D_ (bx:Nat)(h:(da (d9 c k) bx (iZ c)).J F s w)(q:CI k s)(a:Int)(a0:(k.N:Int)<=a)(a1:a<=2000)(t:s.wk.length<=10000)(u:s.ep.length<=10000):
 Calls prog 183 #[ah a,aj bx] w fun e w'=>∃j,e=.returned (.tuple #[])/\(da (d9 c k) bx (iZ c)).J j (k.md c s a) w'/\b8 F w j w':=by
 have l:=hide h;have v:=hide q;obtain⟨I,⟨cG,J,h0⟩,m,K,M⟩:=h;have x:w.cell? (aq bx 0)=some (aj c.pk):=aA m
 have A:=lt_of_some m;obtain⟨c0,_,_,_,_,_,N,_,_,_,_,_,B,_,_⟩:=d_ h0;have D:=Df a w B V V V;cases hd:(f3 k.N c.c a&&c.M.contains (cN k.N a))
 ·have E:k.md c s a=s:=by unfold ce.md;rw[hd];rfl
  rw[E];rw[hd] at D;go_enter func183,ntmps183;go_wp2_with fail;refine D.mono ?_;rintro e w1 ⟨rfl,d⟩
  go_wp2;go_end0;exact⟨F,rfl,(da (d9 c k) bx (iZ c)).below l.o d,b8.of d⟩
 ·have E:k.md c s a=k.lk s a:=by unfold ce.md;rw[aI hd]
  rw[E];rw[hd] at D;go_enter func183,ntmps183;go_wp2_with fail;refine D.mono ?_;rintro e w1 ⟨rfl,d⟩
  have O:=(d.cell (p:=aq bx 0) A).trans x;have C:=(da (d9 c k) bx (iZ c)).below l.o d;obtain⟨P,g1,g2,g3,g4⟩:=C;have L:=xI g1 v.o a a0 a1 t u;have G:=jr g2 g3 g4 d;go_wp2_with fail;refine L.mono ?_;rintro e n ⟨i,rfl,H,g⟩
  have o:ay ((da (d9 c k) bx (iZ c)).J (fun b=>i b\/b=bx) (k.lk s a) n/\b8 F w (fun b=>i b\/b=bx) n):=by
   obtain⟨g2,g3,g4,d⟩:=G.o;refine⟨⟨i,H,(g.fr.block bx (lt_of_some g2) g3).trans g2,fun f=>(g.sub bx f).elim g3 (fun f=>by have:=lt_of_some g2;omega),fun b=>Iff.rfl⟩,⟨(Fr.of (X:=F) d).trans (g.fr.mono (fun b hb=>(g4 b).2 (aK hb))) (fun _ f=>aK f),fun b hb=>?_⟩⟩
   rcases hb with hb|hb
   ·exact(g.sub b hb).elim (fun f=>aK ((g4 b).2 (aK f))) (fun f=>aJ (by have:=d.size;omega))
   ·exact aK ((g4 b).2 (aJ hb))
  go_wp2;go_end0;exact⟨_,rfl,o.o.1,o.o.2⟩
theorem Ea (h:(d9 c k).J F s w)(i:CI k s)(J:s.wk=[])(K:s.ep=[]):
 Calls prog 108 #[aj c.pk] w fun e w'=>∃L,e=.returned (.tuple #[])/\(d9 c k).J L (k.lm c.c c.M s (dB k.N k.y s.g s.ws)) w'/\b8 F w L w'/\CI k (k.lm c.c c.M s (dB k.N k.y s.g s.ws))/\ef k (k.lm c.c c.M s (dB k.N k.y s.g s.ws))/\(k.lm c.c c.M s (dB k.N k.y s.g s.ws)).nx=s.nx:=by
 have M:=hide h;have p:=g7 i J K;have n1:=i.hN';have a0:=i.hO;have a1:=i.hg;have q:=au w (iZ c)
 have W:=(d9 c k).below h q;obtain⟨cG,u,h0⟩:=W;obtain⟨c0,_,c2,_,_,c5,_⟩:=d_ h0;obtain⟨n,_⟩:=iO h0;have P:=p6 _ n;have Y:=hide q;clear h i h0 n q J K;go_enter func108,ntmps108;go_wp2_with fail;refine P.mono ?_;clear P;rintro e w1 ⟨v1,v2,rfl,ab,o,N⟩
 obtain⟨a2,bb,rfl⟩:=eE ab;obtain⟨ad,ag,rfl⟩:=eE o;have hb:=Y.o.trans (N.mono Z)
 have ai:=(d9 c k).below M.o hb;have O:w1.heap[w.heap.size]?=some (iZ c):=(N.block _ Z).trans (aO _ _)
 have bd:w1.cell? (aq w.heap.size 0)=some (aj c.pk):=aA O
 obtain⟨cG,u,v⟩:=ai;obtain⟨be,_,bg,_,_,bi,_⟩:=d_ v;have bl:(dB k.N k.y s.g s.ws).length<=2000:=h8 _ _;have x:∀a∈dB k.N k.y s.g s.ws,(k.N:Int)<=a/\a<=2000:=fun a ha=>by have:=qf a ha;omega
 have A:∀b,F b->_:=(d9 c k).lt M.o;have al:(da (d9 c k) w.heap.size (iZ c)).J (fun b=>F b\/b=w.heap.size) s w1:=⟨F,⟨cG,u,v⟩,O,fun d=>by have:=A _ d;omega,fun b=>Iff.rfl⟩
 have am:=(da (d9 c k) w.heap.size (iZ c)).below al (aH _ w1).drew;have E:=xU (da (d9 c k) w.heap.size (iZ c)) (fun s a=>pf (k.ld s a)) (k.md c) (fun j s1=>CI k s1/\s1.wk.length<=j/\s1.ep.length<=j/\s1.nx=s.nx) c.pk c.pw c.p 183 #[aj w.heap.size] D9 (dB k.N k.y s.g s.ws) ad ag s.nx (fun b=>F b\/b=w.heap.size) s w1.drew
  (by
    rintro F t Q a ⟨bn,⟨cG,u,g1⟩,_⟩
    obtain⟨c0,_,_,_,_,c5,_⟩:=d_ g1;obtain⟨n,_⟩:=iO g1;refine⟨c0,c5,(gf a Q n).mono ?_⟩
    rintro r w' ⟨rfl,hb⟩
    exact⟨_,_,rfl,hb⟩)
  (fun t a=>dj _) (fun a ha=>by have:=x a ha;omega) V
  (by
    rintro j F t Q l ⟨g1,g2,g3,g4⟩ an _;have hm:(dB k.N k.y s.g s.ws).getD j 0∈dB k.N k.y s.g s.ws:=by rw[aE,aL l];exact a6 l
    have:=x _ hm;exact D_ w.heap.size an g1 _ this.1 this.2 V V)
  (by
    rintro j t l ⟨g1,g2,g3,g4⟩
    have hm:(dB k.N k.y s.g s.ws).getD j 0∈dB k.N k.y s.g s.ws:=by rw[aE,aL l];exact a6 l
    have hb:=x _ hm;unfold i2;split
    ·obtain⟨f,g⟩:=g1.md c hb.1 hb.2;have:=g.wk;have:=g.ep;exact⟨f,V,V,g.nx.trans g4⟩
    ·exact⟨g1,V,V,g4⟩)
  ⟨p.o.1,by rw[p.o.2.1];simp,by rw[p.o.2.2];simp,rfl⟩ am ((gI o).below (aH _ w1).drew)
  (fun hp z e=>by
    obtain⟨b,cap,ao⟩:=eU o hp;cases ao;cases e;have ap:=(cn o b rfl).1;simp at ap;rintro(d|d)
    ·have d:F b:=d;have:=A b d;omega
    ·have d:b=w.heap.size:=d;omega)
 rw[<-ce.D8] at E;have R:=dq A hb;obtain⟨s2,S⟩:∃s2,k.lm c.c c.M s (dB k.N k.y s.g s.ws)=s2:=⟨_,rfl⟩
 rw[S] at E;have ar:=hide S;go_wp2_with fail
 go_region_held3 (fun w'=>w'.cell? (aq w.heap.size 0)=some (aj c.pk)/\w'.cell? (aq c.pk 2)=some (ah s.nx)) (go_keep)
  (first
    |(go_at_call 180;refine E.mono ?_;clear E;rintro e B ⟨bo,rfl,⟨C,g1,g2,g3,g4⟩,D,f,g,G,m⟩;obtain⟨aB,aF,H⟩:=g1;obtain⟨_,_,aR,_⟩:=d_ H;have g1:(d9 c k).J C s2 B:=⟨aB,aF,H⟩;rw[m] at aR;have aV:=jr f g G m;clear H f g G m;have bp:B.cell? (aq w.heap.size 0)=some (aj c.pk):=aA g2;have U:ay (_/\b8 F w C B):=⟨g1,⟨((Fr.of (X:=F) R.o.2).drew).trans D.fr (fun b d=>d.imp id (fun d=>by omega)),fun b d=>(D.sub b ((g4 b).2 (aK d))).elim (fun d=>d.imp id (fun d=>by omega)) (fun d=>aJ (by have:=R.o.2.size;simp at d;omega))⟩⟩;clear g1 g2 g3 g4 D))
 have I:ay (CI k s2/\ef k s2/\s2.nx=s.nx):=by obtain⟨f,g,G,m⟩:=aV.o;have v:=f.g9;exact⟨f,⟨V,V⟩,m⟩
 go_wp2_with fail;go_end0;rw[ar.o];exact⟨C,rfl,U.o.1,U.o.2,I.o.1,I.o.2.1,I.o.2.2⟩
end
structure Wc where
 pw:Nat
 p:Nat
 q:Nat
 pc:Nat
 sd:Nat
 nb:Nat
 N:Nat
 O:Nat
structure eb where
 y:Nat
 g:Nat
 ws:List Int
 M:List Int
 rs:List Int
structure oX (a:Wc)(own:Nat->Nat)(s:eb)(cO:Nat)(w:ax):Prop where
 ar:At w a.p a.q a.N a.O s.y s.g s.ws
 a1:own a.p=1
 a2:own a.q=1
 cd:Cd w a.pc cO a.N (dF a.O) s.M
 c1:own a.pc=2
 c2:own cO=2
 wd:w.heap[a.pw]?=some (.cells #[aj a.p,aj a.pc,aj a.sd,.slice (ak a.nb) 12 12] 55 (0,0))
 w1:own a.pw=3
 rt:w.heap[a.nb]?=some (.cells (s.rs.map (Value.int .i64)).toArray 2 (0,0))
 rl:s.rs.length=12
 r1:own a.nb=4
 le:∀b,own b<=4
 lt:∀b,own b≠0->b<w.heap.size
theorem oX.keep {a:Wc}{own:Nat->Nat}{s:eb}{cO:Nat}{w w':ax}(h:oX a own s cO w)(hs:w.heap.size<=w'.heap.size)(hk:∀b,own b≠0->w'.heap[b]?=w.heap[b]?):oX a own s cO w':=
 {
  ar:=h.ar.same (hk _ (by rw[h.a1];decide)) (hk _ (by rw[h.a2];decide)),a1:=h.a1,a2:=h.a2
  cd:=h.cd.same (hk _ (by rw[h.c1];decide)) (hk _ (by rw[h.c2];decide)),c1:=h.c1,c2:=h.c2
  wd:=(hk _ (by rw[h.w1];decide)).trans h.wd,w1:=h.w1
  rt:=(hk _ (by rw[h.r1];decide)).trans h.rt,rl:=h.rl,r1:=h.r1,le:=h.le,lt:=fun b hb=>aM (h.lt b hb) hs}
def dZ (a:Wc):dr eb where
 J F s w:=∃own cO,oX a own s cO w/\∀b,F b↔own b≠0
 lt:=by rintro F s w ⟨own,cO,h,c⟩ b hb;exact h.lt b ((c b).1 hb)
 keep:=by rintro F s w w' ⟨own,cO,h,c⟩ hs hk;exact⟨own,cO,h.keep hs (fun b hb=>hk b ((c b).2 hb)),c⟩
section
variable {a:Wc}{F:Nat->Prop}{s:eb}{w:ax}
theorem kJ (h:(dZ a).J F s w):At w a.p a.q a.N a.O s.y s.g s.ws/\∀w' y g ws,At w' a.p a.q a.N a.O y g ws->c_ a.p a.q w w'->(dZ a).J F {s with y:=y,g:=g,ws:=ws} w'/\b8 F w F w':=by
 obtain⟨own,cO,h,d⟩:=h;refine⟨h.ar,fun w' y g ws ha c=>⟨⟨own,cO,?_,d⟩,⟨⟨c.os,c.tape,c.output,c.size,fun b hb hn=>c.block b hb (fun e=>hn ((d b).2 (by rw[e,h.a1];decide))) (fun e=>hn ((d b).2 (by rw[e,h.a2];decide)))⟩,fun _ h=>aK h⟩⟩⟩
 have hb:∀b,b<w.heap.size->own b≠1->_=_:=fun b hb hn=>c.block b hb (fun e=>hn (by rw[e];exact h.a1)) (fun e=>hn (by rw[e];exact h.a2))
 exact {
  ar:=ha,a1:=h.a1,a2:=h.a2,c1:=h.c1,c2:=h.c2,w1:=h.w1,rl:=h.rl,r1:=h.r1,le:=h.le,lt:=fun b hb=>aM (h.lt b hb) c.size
  cd:=h.cd.same (hb _ h.cd.eL (by rw[h.c1];decide)) (hb _ h.cd.eM (by rw[h.c2];decide))
  wd:=(hb _ (lt_of_some h.wd) (by rw[h.w1];decide)).trans h.wd
  rt:=(hb _ (lt_of_some h.rt) (by rw[h.r1];decide)).trans h.rt}
theorem xV (h:(dZ a).J F s w)(i:Nat)(x:Int):(dZ a).J F {s with rs:=s.rs.set i x} (w.setCell ⟨a.nb,i,none⟩ (.int .i64 x))/\b8 F w F (w.setCell ⟨a.nb,i,none⟩ (.int .i64 x)):=by
 obtain⟨own,cO,h,c⟩:=h;have fr:Fr (fun b=>b=a.nb) w (w.setCell ⟨a.nb,i,none⟩ (.int .i64 x)):=(Fr.refl _ w).set _ i _ rfl;refine⟨⟨own,cO,?_,c⟩,⟨fr.mono (fun b e=>(c b).2 (by rw[e,h.r1];decide)),fun _ h=>aK h⟩⟩
 have hb:∀b,b<w.heap.size->own b≠4->_=_:=fun b hb hn=>fr.block b hb (fun e=>hn (by rw[e];exact h.r1))
 exact {
  a1:=h.a1,a2:=h.a2,c1:=h.c1,c2:=h.c2,w1:=h.w1,r1:=h.r1,le:=h.le,lt:=fun b hb=>aM (h.lt b hb) fr.size
  rl:=by rw[a3];exact h.rl
  ar:=h.ar.same (hb _ h.ar.eL (by rw[h.a1];decide)) (hb _ h.ar.eM (by rw[h.a2];decide))
  cd:=h.cd.same (hb _ h.cd.eL (by rw[h.c1];decide)) (hb _ h.cd.eM (by rw[h.c2];decide))
  wd:=(hb _ (lt_of_some h.wd) (by rw[h.w1];decide)).trans h.wd
  rt:=by simp only [World.setCell,Array.getElem?_modify,if_true,h.rt,Option.map_some];simp[List.map_set]}
theorem xW (h:(dZ a).J F s w):∃cO,Cd w a.pc cO a.N (dF a.O) s.M/\∀w' d M,Cd w' a.pc d a.N (dF a.O) M->c_ a.pc cO w w'->(d=cO\/w.heap.size<=d)->∃l,(dZ a).J l {s with M:=M} w'/\b8 F w l w':=by
 obtain⟨own,cO,h,i⟩:=h;refine⟨cO,h.cd,fun w' d M hc f hp=>⟨fun b=>F b\/b=d,⟨fun b=>if b=d then 2 else own b,d,?_,fun b=>?_⟩,⟨⟨f.os,f.tape,f.output,f.size,fun b hb hn=>f.block b hb (fun e=>hn ((i b).2 (by rw[e,h.c1];decide))) (fun e=>hn ((i b).2 (by rw[e,h.c2];decide)))⟩,fun b hb=>hb.elim aK (fun e=>hp.imp (fun g=>(i b).2 (by rw[e,g,h.c2];decide)) (fun g=>by omega))⟩⟩⟩
 ·have hb:∀b,b<w.heap.size->own b≠2->_=_:=fun b hb hn=>f.block b hb (fun e=>hn (by rw[e];exact h.c1)) (fun e=>hn (by rw[e];exact h.c2))
  have k:∀b j,own b=j->j≠0->j≠2->(if b=d then 2 else own b)=j:=fun b j e h0 m=>by
   rw[aG (fun c=>?_)]
   ·exact e
   ·rcases hp with g|g
    ·rw[c,g,h.c2] at e;omega
    ·have:=h.lt b (by rw[e];exact h0)
     omega
  exact {
   cd:=hc,a1:=k _ _ h.a1 aa aa,a2:=k _ _ h.a2 aa aa,w1:=k _ _ h.w1 aa aa,r1:=k _ _ h.r1 aa aa,c2:=by rw[aI rfl],c1:=by
    split
    ·rfl
    ·exact h.c1
   rl:=h.rl
   ar:=h.ar.same (hb _ h.ar.eL (by rw[h.a1];decide)) (hb _ h.ar.eM (by rw[h.a2];decide))
   wd:=(hb _ (lt_of_some h.wd) (by rw[h.w1];decide)).trans h.wd
   rt:=(hb _ (lt_of_some h.rt) (by rw[h.r1];decide)).trans h.rt
   le:=fun b=>by
    split
    ·decide
    ·exact h.le b
   lt:=fun b hb=>by
    by_cases e:b=d
    ·rw[e];exact hc.eM
    ·rw[aG e] at hb;exact aM (h.lt b hb) f.size}
 ·by_cases e:b=d
  ·simp[e]
  ·simp[e,i b]
theorem jN (h:(dZ a).J F s w):w.cell? (aq a.pw 0)=some (aj a.p)/\w.cell? (aq a.pw 1)=some (aj a.pc)/\w.cell? (aq a.pw 2)=some (aj a.sd)/\w.cell? (aq a.pw 3)=some (.slice (ak a.nb) 12 12)/\a.pw<w.heap.size/\s.rs.length=12/\a.nb<w.heap.size/\∀i,i<12->w.cell? (aq a.nb i)=some (ah (s.rs.getD i 0))/\w.frozen? (aq a.nb i)=false:=by
 obtain⟨own,cO,h,c⟩:=h;have b:=h.wd;have hl:=h.rl;refine⟨by simp[World.cell?,b],by simp[World.cell?,b],by simp[World.cell?,b],by simp[World.cell?,b],lt_of_some b,hl,lt_of_some h.rt,fun i hi=>⟨?_,?_⟩⟩
 ·simp[World.cell?,h.rt,List.getElem?_map,List.getElem?_eq_getElem (show i<s.rs.length by omega),List.getD_eq_getElem?_getD]
 ·simp[World.frozen?,h.rt]
end
abbrev Eb (a:Wc):Obj:=.cells #[aj a.p,aj a.pc,aj a.sd,.slice (ak a.nb) 12 12] 55 (0,0)
def qs (pk ch bx:Nat)(nx:Int)(a:Wc)(y g:Nat)(ws:List Int):dr (List Int) where
 J F U w:=(w.heap[pk]?=some (.cells #[aj a.pw,.map (some ch),ah nx,.slice none 0 0,.slice none 0 0] 167 (0,0))/\Mp w ch U (fun _=>-1)/\At w a.p a.q a.N a.O y g ws/\w.heap[a.pw]?=some (Eb a)/\w.heap[bx]?=some (.cells #[aj pk] 164 (0,0)))/\(ch≠pk/\ch≠a.pw/\ch≠a.p/\ch≠a.q/\ch≠bx)/\∀b,F b↔(b=pk\/b=ch\/b=a.pw\/b=a.p\/b=a.q\/b=bx)
 lt:=by
  rintro F U w ⟨⟨e,f,d,i,j⟩,_,c⟩ b hb;rcases(c b).1 hb with rfl|rfl|rfl|rfl|rfl|rfl
  ·exact lt_of_some e
  ·exact f.lt
  ·exact lt_of_some i
  ·exact d.eL
  ·exact d.eM
  ·exact lt_of_some j
 keep:=by rintro F U w w' ⟨⟨e,f,d,i,j⟩,hn,c⟩ hs hk;exact⟨⟨(hk _ ((c _).2 (aK rfl))).trans e,f.same (hk _ ((c _).2 (aJ (aK rfl)))),d.same (hk _ ((c _).2 (aJ (aJ (aJ (aK rfl)))))) (hk _ ((c _).2 (aJ (aJ (aJ (aJ (aK rfl))))))),(hk _ ((c _).2 (aJ (aJ (aK rfl))))).trans i,(hk _ ((c _).2 (aJ (aJ (aJ (aJ (aJ rfl))))))).trans j⟩,hn,c⟩
theorem Ec:dN 181:=gb func181 ae rfl
theorem Ed {pk ch bx:Nat}{nx:Int}{a:Wc}{y g:Nat}{ws:List Int}{F:Nat->Prop}{c:List Int}{w:ax}(h:(qs pk ch bx nx a y g ws).J F c w)(v:Int)(v0:0<=v)(v1:v<=100000)(s:c.length<=100000):
 Calls prog 181 #[ah v,aj bx] w fun e w'=>∃j,e=.returned (.tuple #[])/\(qs pk ch bx nx a y g ws).J j (c++[v]) w'/\b8 F w j w':=by
 obtain⟨⟨d,⟨D,o1,n,o⟩,f,k,i⟩,hn,l⟩:=h;have c1:w.cell? (aq pk 1)=some (.map (some ch)):=aA d
 have t:w.cell? (aq bx 0)=some (aj pk):=aA i
 go_wp2_with (first
  |(refine wpList_mapUpdate_own _ rfl _ _ _ 127 rfl 3 3 iN underlying127 _ ch c.length D rfl o1 (by unfold maxLen;omega) _ _ _ rfl rfl (jd (a:=v) v0 V) _ [] (m0 (-1) aa) ?_;intro u p m)
  |go_in)
 go_end0;have hb:∀b,b<w.heap.size->b≠ch->_=_:=fun b hb q=>m.block b hb (by simpa using q)
 refine⟨rfl,F,⟨⟨(hb _ (lt_of_some d) (Ne.symm hn.1)).trans d,Mp.add (hide o1).o n o rfl rfl p,f.same (hb _ f.eL (Ne.symm hn.2.2.1)) (hb _ f.eM (Ne.symm hn.2.2.2.1)),(hb _ (lt_of_some k) (Ne.symm hn.2.1)).trans k,(hb _ (lt_of_some i) (Ne.symm hn.2.2.2.2)).trans i⟩,hn,l⟩,⟨((Fr.refl _ w).grown m (fun b e=>aK (by cases e;exact(l ch).2 (aJ (aK rfl))))),fun _ h=>aK h⟩⟩
def m4 (N y g:Nat)(ws:List Int):List Int:=(d8 N y g ws).filter (fun a=>decide (a+pf (ld N y g ws a)<y))
theorem xX (h:Int->Int)(e:Int):∀(l b:List Int),ki (fun _ a=>h a) (fun b a=>b++[a]) e b l=b++l.filter (fun a=>decide (a+h a<e))
 |[],b=>by simp[ki]
 |a::l,b=>by
  have f:=xX h e l;have g:ki (fun _ a=>h a) (fun b a=>b++[a]) e b (a::l)=ki (fun _ a=>h a) (fun b a=>b++[a]) e (i2 (fun _ a=>h a) (fun b a=>b++[a]) e b a) l:=rfl;rw[g];by_cases c:a+h a<e
  ·have d:i2 (fun _ a=>h a) (fun b a=>b++[a]) e b a=b++[a]:=by unfold i2;rw[aI c]
   rw[d,f,List.filter_cons_of_pos (by simpa using c),ba];rfl
  ·have d:i2 (fun _ a=>h a) (fun b a=>b++[a]) e b a=b:=by unfold i2;rw[aG c]
   rw[d,f,List.filter_cons_of_neg (by simpa using c)]
theorem Ee {a:Wc}{F:Nat->Prop}{s:eb}{w:ax}(h:(dZ a).J F s w):
 Calls prog 106 #[aj a.pw] w fun e w'=>∃pk ch cO l,e=.returned (aj pk)/\(d9 ⟨pk,ch,a.pw,a.p,a.q,a.pc,cO,a.sd,a.nb,dF a.O,s.M⟩ ⟨a.N,a.O,s.y,m4 a.N s.y s.g s.ws⟩).J l ⟨s.g,s.ws,fun _=>-1,(a.N:Int)+s.g,[],[],s.rs⟩ w'/\b8 F w l w':=by
 have bt:=@run_makeMap prog;obtain⟨own,cO,hM,m⟩:=h;have K:ay (oX a own s cO w/\∀b,F b↔own b≠0):=⟨hM,m⟩
 have c0:w.cell? (aq a.pw 0)=some (aj a.p):=by have ab:=hM.wd;simp[World.cell?,ab]
 have L:=lt_of_some hM.wd;have g:=hM.ar;have n1:=g.hN';have bx:=g.hO;have ad:=g.hg;have n4:=g.hy;have bY:=g.hN;clear hM m;go_enter func106,ntmps106;go_wp2_with fail;refine(kE w g).mono ?_;rintro e w1 ⟨rfl,v⟩
 have c1:=(v.cell (p:=aq a.pw 0) L).trans c0;have ag:=g.below v bW
 go_wp2_with fail;refine(mP w1 ag).mono ?_;rintro e c ⟨rfl,ai⟩
 have n:=v.trans (ai.mono v.size)
 have c2:=(n.cell (p:=aq a.pw 0) L).trans c0;have al:=g.below n bW
 have bZ:=n.size;have l2:a.pw<c.heap.size:=V;clear v ai ag c1;have A:Below c.heap.size c (((c.alloc (.map #[] 0)).alloc (.cells #[.pointer (some ⟨a.pw,0,none⟩),.map (some c.heap.size),.int .i64 ((a.N:Int)+s.g),.slice none 0 0,.slice none 0 0] 167)).alloc (.cells #[.pointer (some ⟨c.heap.size+1,0,none⟩)] 164)):=(((aH _ c).alloc bW _).alloc Z _).alloc (by simp;omega) _;have D:=al.below A bW
 have c3:=(A.cell (p:=aq a.pw 0) l2).trans c2;have P:=p6 _ D;obtain⟨W,k⟩:∃W,W=((c.alloc (.map #[] 0)).alloc (.cells #[.pointer (some ⟨a.pw,0,none⟩),.map (some c.heap.size),.int .i64 ((a.N:Int)+s.g),.slice none 0 0,.slice none 0 0] 167)).alloc (.cells #[.pointer (some ⟨c.heap.size+1,0,none⟩)] 164):=⟨_,rfl⟩
 have am:ay (W.heap.size=c.heap.size+3/\Below c.heap.size c W/\Mp W c.heap.size [] (fun _=>-1)/\W.heap[c.heap.size+1]?=some (.cells #[aj a.pw,.map (some c.heap.size),ah ((a.N:Int)+s.g),.slice none 0 0,.slice none 0 0] 167 (0,0))/\W.heap[c.heap.size+2]?=some (.cells #[aj (c.heap.size+1)] 164 (0,0))/\At W a.p a.q a.N a.O s.y s.g s.ws):=by
  rw[<-k] at A D;refine⟨by rw[k];simp only [World.size_alloc],A,?_,?_,?_,D⟩
  ·have bb:=World.ownsMap_made c prog 3 (plainElem (H:=Unit) prog 3)
   refine Mp.same (w:=c.alloc (.map #[] 0)) ⟨_,bb,fun _=>rfl,fun a ha=>by simp at ha⟩ ?_;rw[k,aS _ _ _ (by simp;omega),aS _ _ _ Z]
  ·rw[k,aS _ _ _ Z];simpa using aO (c.alloc (.map #[] 0)) (.cells #[.pointer (some ⟨a.pw,0,none⟩),.map (some c.heap.size),.int .i64 ((a.N:Int)+s.g),.slice none 0 0,.slice none 0 0] 167)
  ·rw[k];simpa using aO ((c.alloc (.map #[] 0)).alloc (.cells #[.pointer (some ⟨a.pw,0,none⟩),.map (some c.heap.size),.int .i64 ((a.N:Int)+s.g),.slice none 0 0,.slice none 0 0] 167)) (.cells #[.pointer (some ⟨c.heap.size+1,0,none⟩)] 164)
 have an:=hide k;rw[<-k] at P;clear A D k;go_wp2_with fail;rw[<-an.o];refine P.mono ?_;clear P;rintro e o ⟨v1,v2,rfl,B,ao,f⟩
 obtain⟨bd,be,rfl⟩:=eE B;obtain⟨b0,b1,rfl⟩:=eE ao;obtain⟨bg,q,ap,aB,M,aF⟩:=am.o;have b2:=f.size;have b3:o.cell? (aq (c.heap.size+1+1) 0)=some (aj (c.heap.size+1)):=by have:=(f.block (c.heap.size+2) V).trans M;simp[World.cell?,this]
 have b4:c.heap.size+1+1<o.heap.size:=V;have b5:(d8 a.N s.y s.g s.ws).length<=2000:=h8 _ _;have N:∀x∈d8 a.N s.y s.g s.ws,0<=x/\x<=2000:=fun x O=>by have:=n3 x O;omega
 have Q:=K.o.1.ar;have np:=Q.eL;have nq:=Q.eM;have aR:(qs (c.heap.size+1) c.heap.size (c.heap.size+2) ((a.N:Int)+s.g) a s.y s.g s.ws).J (fun b=>b=c.heap.size+1\/b=c.heap.size\/b=a.pw\/b=a.p\/b=a.q\/b=c.heap.size+2) [] o:=
  ⟨⟨(f.block _ V).trans aB,ap.same (f.block _ V),aF.below f bW,((f.block _ V).trans (q.block _ l2)).trans ((n.block _ L).trans K.o.1.wd),(f.block _ V).trans M⟩,⟨V,V,V,V,V⟩,fun b=>Iff.rfl⟩
 have E:=xU (qs (c.heap.size+1) c.heap.size (c.heap.size+2) ((a.N:Int)+s.g) a s.y s.g s.ws) (fun _ x=>pf (ld a.N s.y s.g s.ws x)) (fun R x=>R++[x]) (fun j R=>R.length<=j) (c.heap.size+1) a.pw a.p 181 #[aj (c.heap.size+1+1)] Ec (d8 a.N s.y s.g s.ws) bd be s.y _ [] o
  (by
    rintro F t aV x ⟨⟨g1,g2,g3,g4,g5⟩,_⟩
    refine⟨by simp[World.cell?,g1],by simp[World.cell?,g4],(gf x aV g3).mono ?_⟩
    rintro r w' ⟨rfl,hb⟩
    exact⟨_,_,rfl,hb⟩)
  (fun t x=>dj _) (fun x O=>by have:=N x O;omega) V
  (by
    rintro j F t aV S C bi _;have hm:(d8 a.N s.y s.g s.ws).getD j 0∈d8 a.N s.y s.g s.ws:=by rw[aE,aL S];exact a6 S
    have hb:=N _ hm;have C:=C;exact Ed bi _ hb.1 V V)
  (by
    intro j t S C;have C:=C;show(i2 _ _ _ _ _:List Int).length<=j+1;unfold i2;split
    ·simp;omega
    ·omega)
  Z aR (gI B)
  (fun hp z e=>by
    obtain⟨b,cap,bl⟩:=eU B hp;cases bl;cases e;have ab:=(cn B b rfl).1;show¬(b=c.heap.size+1\/b=c.heap.size\/b=a.pw\/b=a.p\/b=a.q\/b=c.heap.size+2)
    omega)
 rw[xX (fun x=>pf (ld a.N s.y s.g s.ws x)) s.y (d8 a.N s.y s.g s.ws) [],List.nil_append] at E;have U:ay (∀b,b<c.heap.size->o.heap[b]?=c.heap[b]?):=fun b hb=>(f.block b V).trans (q.block b hb)
 have i:=jr n (f.os.trans q.os) (f.tape.trans q.tape) (f.output.trans q.output)
 clear aR B ao bg q ap aB M aF am an f N Q g al n c0 c2;go_wp2_with fail;refine E.mono ?_;clear E;rintro e G ⟨b6,rfl,⟨⟨g1,g2,g3,g4,g5⟩,bn,bo⟩,Y,_⟩
 have b7:G.cell? (aq (c.heap.size+1+1) 0)=some (aj (c.heap.size+1)):=aA g5
 have b9:=lt_of_some g5;have bp:ay (∃l,(d9 ⟨c.heap.size+1,c.heap.size,a.pw,a.p,a.q,a.pc,cO,a.sd,a.nb,dF a.O,s.M⟩ ⟨a.N,a.O,s.y,m4 a.N s.y s.g s.ws⟩).J l ⟨s.g,s.ws,fun _=>-1,(a.N:Int)+s.g,[],[],s.rs⟩ G/\b8 F w l G):=by
  obtain⟨hM,m⟩:=K.o;have keep:∀b,b<w.heap.size->own b≠1->own b≠3->G.heap[b]?=w.heap[b]?:=fun b hb n1 ad=>
   (Y.fr.block b V (fun d=>by
     rcases d with d|d|d|d|d|d
     ·omega
     ·omega
     ·exact ad (by rw[d];exact hM.w1)
     ·exact n1 (by rw[d];exact hM.a1)
     ·exact n1 (by rw[d];exact hM.a2)
     ·omega)).trans ((U.o b V).trans (i.o.1.block b hb))
  have a0:=hM.lt;have lo:∀b,own b≠0->b≠c.heap.size+1/\b≠c.heap.size:=fun b hb=>by have:=a0 b hb;omega
  have u:∀b j,own b=j->j≠0->(if b=c.heap.size+1 then 5 else if b=c.heap.size then 6 else own b)=j:=fun b j e h0=>by
   obtain⟨l1,l2⟩:=lo b (by rw[e];exact h0)
   rw[aG l1,aG l2];exact e
  refine⟨fun b=>F b\/b=c.heap.size+1\/b=c.heap.size,⟨.slice none 0 0,.slice none 0 0,fun b=>if b=c.heap.size+1 then 5 else if b=c.heap.size then 6 else own b,?_,fun b=>?_⟩,⟨?_,fun b hb=>?_⟩⟩
  ·exact {
    ar:=g3,a1:=u _ _ hM.a1 aa,a2:=u _ _ hM.a2 aa,c1:=u _ _ hM.c1 aa,c2:=u _ _ hM.c2 aa,w1:=u _ _ hM.w1 aa,r1:=u _ _ hM.r1 aa,rl:=hM.rl
    cd:=hM.cd.same (keep _ hM.cd.eL (by rw[hM.c1];decide) (by rw[hM.c1];decide)) (keep _ hM.cd.eM (by rw[hM.c2];decide) (by rw[hM.c2];decide))
    wd:=g4
    rt:=(keep _ (lt_of_some hM.rt) (by rw[hM.r1];decide) (by rw[hM.r1];decide)).trans hM.rt
    cb:=g1
    k1:=by rw[aI rfl]
    mp:=g2
    m1:=by rw[aG Z,aI rfl]
    wr:=bc _ _ _ _
    dy:=fun b e=>by simp[Value.ownBlock] at e
    er:=bc _ _ _ _
    eo:=fun b e=>by simp[Value.ownBlock] at e
    lt:=fun b hb=>by
     by_cases I:b=c.heap.size+1
     ·omega
     ·by_cases J:b=c.heap.size
      ·omega
      ·rw[aG I,aG J] at hb;have:=a0 b hb;omega}
  ·by_cases I:b=c.heap.size+1
   ·simp[I]
   ·by_cases J:b=c.heap.size
    ·simp[J]
    ·simp[I,J,m b]
  ·have br:Below w.heap.size w o:=⟨i.o.2.1.trans i.o.1.os,i.o.2.2.1.trans i.o.1.tape,i.o.2.2.2.trans i.o.1.output,V,fun b hb=>(U.o b V).trans (i.o.1.block b hb)⟩
   refine(Fr.of (X:=F) br).trans Y.fr (fun b d=>?_)
   rcases d with d|d|d|d|d|d
   ·exact aJ V
   ·exact aJ V
   ·exact aK ((m b).2 (by rw[d,hM.w1];decide))
   ·exact aK ((m b).2 (by rw[d,hM.a1];decide))
   ·exact aK ((m b).2 (by rw[d,hM.a2];decide))
   ·exact aJ V
  ·rcases hb with hb|hb|hb
   ·exact aK hb
   ·exact aJ V
   ·exact aJ V
 clear g1 g2 g3 g4 g5 bn bo Y U i;go_wp2_with fail;go_ret;obtain⟨l,bs,j2⟩:=bp.o;exact⟨_,_,_,l,rfl,bs,j2⟩
section
variable {g6:Type}{o:dr g6}{bx p:Nat}{x:Obj}{vr:Value}{F:Nat->Prop}{w w':ax}
theorem qt {t:g6×List b7}(h:(c7 (da o bx x) p vr).J F t w):(c7 o p vr).J (fun b=>F b/\b≠bx) t w/\w.heap[bx]?=some x/\F bx:=by
 obtain⟨s,ad,cap,⟨j,g1,g2,g3,g4⟩,k,l,g,m,i,d,n⟩:=h;have f:=(g4 bx).2 (aJ rfl)
 exact⟨⟨j,ad,cap,g1,k,l,fun b hb=>⟨g b ((g4 b).2 (aK hb)),fun e=>g3 (by rw[<-e];exact hb)⟩,⟨m,fun e=>i (by rw[e];exact f)⟩,fun c=>i ((g4 p).2 (aK c)),fun b e=>⟨⟨(d b e).1,fun q=>(d b e).2 (by rw[q];exact f)⟩,fun c=>(d b e).2 ((g4 b).2 (aK c))⟩,fun b hb=>n b hb.1⟩,g2,g _ f⟩
theorem i3 {t:g6×List b7}(h:(c7 o p vr).J F t w):∃d,o.J d t.1 w/\∀{u:Type}(f:dr u) c g w',f.J c g w'->b8 d w c w'->∃l,(c7 f p vr).J l (g,t.2) w'/\b8 F w l w':=by
 obtain⟨d,ad,cap,v,m,i,n,x,q,j,A⟩:=h;refine⟨d,v,fun f c g w' s b=>?_⟩
 have lp:=lt_of_some m;refine⟨fun k=>F k\/c k,⟨c,ad,cap,s,(b.fr.block p lp q).trans m,cH i (fun k e=>b.fr.block k (cn i k e).2 (j k e).2),fun k h=>aJ h,aK x,fun h=>(b.sub p h).elim q (fun h=>by omega),fun k e=>⟨aK (j k e).1,fun h=>(b.sub k h).elim (j k e).2 (fun h=>by have:=(cn i k e).2;omega)⟩,fun k h=>?_⟩,b.fr.mono n,fun k h=>?_⟩
 ·rcases h with h|h
  ·exact aM (A k h) b.fr.size
  ·exact f.lt s k h
 ·rcases h with h|h
  ·exact aK h
  ·exact(b.sub k h).imp (n k) id
end
def Ef (b:Type):dr b where
 J _ _ _:=False
 lt:=fun h=>h.elim
 keep:=fun h=>h.elim
def dI (b:Type):fK (b×List b7):=c7 (Ef b) 0 (.slice none 0 0)
def ce.eW (k:ce)(t:cj×List b7)(r:List b7):cj×List b7:=ft (dI cj) (fun s x=>k.al s.1 x) k.ke t r
def ce.sR (k:ce)(t:cj×List b7)(r:List b7):List b7:=eO (dI cj) (fun s x=>k.al s.1 x) k.ke (fun s x=>k.nw s.1 x) t r
def ce.je (k:ce)(t:cj×List b7)(r:List b7):List b7:=eP (dI cj) (fun s x=>k.al s.1 x) k.ke (fun s x=>k.nw s.1 x) t r
theorem oY {b:Type}(is:b->Int->Bool)(kp:b->Int->Int×b)(s:b×List b7):∀n,(gJ is kp s n).1.2.length=s.2.length
 |0=>rfl
 |n+1=>by
  have e:gJ is kp s (n+1)=dC is kp (gJ is kp s n) n:=by simp[gJ,List.range_succ]
  rw[e];have c:=oY is kp s n;unfold dC;split
  ·exact c
  ·simpa using c
theorem oZ (k:ce):∀(n:Nat)(t:cj×List b7),(k.cW n t).2.length=t.2.length
 |0,_=>rfl
 |n+1,t=>by
  unfold ce.cW;split
  ·exact oZ k n _
  ·split
   ·exact(oZ k n _).trans (oY _ _ _ _)
   ·exact oY _ _ _ _
theorem s_ (k:ce)(t:cj×List b7)(x:Int):(k.ke t x).2.2.length=t.2.length:=oZ k _ _
section
variable {c:gn}{k:ce}{F:Nat->Prop}{s:cj}{w:ax}{vr:Value}
theorem Eg (bx:Nat){g:Option Addr}{i j:Nat}(l:vr=.slice g i j):mU (c7 (da (gK c k) bx (iZ c)) c.sd vr) (fun _=>True) (m3 c).f (m3 c).b (m3 c).c k.ke:=by
 intro F t w x _ hn m;have hn:(k.ke t x).2.2.length<=90000:=hn;obtain⟨n,f,o⟩:=qt m;rw[s_] at hn;refine(D7 l n hn x).mono ?_;rintro r w' ⟨p,rfl,hM,e⟩
 have q:=lt_of_some f;have s:_:=fun d=>(e.sub bx d).elim (fun d=>d.2 rfl) (fun d=>by omega)
 refine⟨fun b=>p b\/b=bx,rfl,kc hM ((e.fr.block bx q (fun d=>d.2 rfl)).trans f) s,e.fr.mono (fun b d=>d.1),fun b d=>?_⟩
 rcases d with d|d
 ·exact(e.sub b d).imp (fun d=>d.1) id
 ·exact aK (by rw[d];exact o)
theorem Eh (bx:Nat){e:Option Addr}{f g:Nat}(i:vr=.slice e f g):lV (c7 (da (gK c k) bx (iZ c)) c.sd vr) (fun _=>True) (kh bx) (m3 c) (lv c) (fun s x=>k.al s.1 x) k.ke (fun s x=>k.nw s.1 x) where
 ea:=xL
 e7:=D3
 en:=xM
 ha:=by
  rintro F s w x _ ⟨b,ad,cap,d,_⟩
  exact xO bx b s.1 w x trivial d
 hk:=Eg bx i
 ht:=by
  rintro F s w x _ ⟨b,ad,cap,d,_⟩
  exact l4 xP b s.1 w x trivial d
 hl:=fun s x=>s_ k s x
theorem Ei {n:Option Addr}{o:Nat}{r:List b7}(s:vr=.slice n r.length o){t:cj×List b7}(h:(c7 (gK c k) c.sd vr).J F t w)(hr:w.ownsRow 0 103 2 vr r.length (ev r))(hq:t.2.length+r.length<=90000)(bx:Nat)(u:w.heap[bx]?=some (iZ c))(hn:¬F bx):
 Calls prog 78 #[aj c.sd,.agg #[(kh bx).v,(m3 c).v,(lv c).v]] w fun e w'=>∃a1 c1 m,e=.returned (.tuple #[])/\(c7 (gK c k) c.sd (.slice a1 (k.sR t r).length c1)).J m ((k.eW t r).1,k.je t r) w'/\
  w'.ownsRow 0 103 2 (.slice a1 (k.sR t r).length c1) (k.sR t r).length (ev (k.sR t r))/\(∀b,some b=(Value.slice a1 (k.sR t r).length c1).ownBlock->¬m b/\w.heap.size<=b)/\Fr (fun b=>F b\/b=bx) w w'/\(∀b,m b->F b\/w.heap.size<=b):=by
 subst s;refine(qa _ (fun _=>True) (kh bx) (m3 c) (lv c) _ _ _ (Eh bx rfl) r n o rfl V (fun _ _=>⟨trivial,trivial⟩) _ t w (fun _ _=>⟨trivial,trivial⟩) hq (kc h u hn) (g8 hr)).mono ?_;rintro e w' ⟨a1,c1,a2,c2,v,L,rfl,⟨x,ad,cap,⟨j,g1,g2,g3,g4⟩,M,N,A,O,B,P,Q⟩,q3,C,f,g,i,D,E,G,H,I⟩
 have f:w'.heap[c.sd]?=some (.cells #[.slice a1 (k.sR t r).length c1,.slice a2 (k.je t r).length c2] 153 (0,0)):=f;have g:=g;have i:=i;have l:∀b,j b->v b:=fun b hb=>A b ((g4 b).2 (aK hb))
 have p:∀b,j b->b≠c.sd:=fun b hb e=>B (by show x c.sd;rw[<-e];exact(g4 b).2 (aK hb))
 have q:=(gK c k).keep (w':=w') g1 C (fun b hb=>q3 b (l b hb) (p b hb))
 have J:F c.sd:=by obtain⟨_,_,_,_,_,_,_,K,_⟩:=h;exact K
 refine⟨a1,c1,fun b=>j b\/b=c.sd\/some b=(Value.slice a2 (k.je t r).length c2).ownBlock,rfl,⟨j,a2,c2,q,f,eV i (fun _ _=>aX _),fun b hb=>aK hb,aJ (aK rfl),fun d=>p _ d rfl,fun b e=>⟨aJ (aJ e),fun d=>H b e (l b d)⟩,fun b hb=>?_⟩,eV g (fun _ _=>aX _),fun b e=>⟨fun d=>?_,(cn g b e).1⟩,D,fun b hb=>?_⟩
 ·rcases hb with hb|hb|hb
  ·exact(gK c k).lt q b hb
  ·rw[hb];exact lt_of_some f
  ·exact(cn i b hb).2
 ·rcases d with d|d|d
  ·exact G b e (l b d)
  ·obtain⟨R,hc⟩:=e6 g b e;rw[d,f] at hc;simp at hc
  ·exact I b e d
 ·rcases hb with hb|hb|hb
  ·rcases E b (l b hb) with(d|d)|d
   ·exact aK d
   ·exact absurd hb (by rw[d];exact g3)
   ·exact aJ d
  ·exact aK (by rw[hb];exact J)
  ·exact aJ (cn i b hb).1
end
theorem Ej {pk ch cO y:Nat}{a:Wc}{M T:List Int}{F:Nat->Prop}{s:cj}{w:ax}(h:(d9 ⟨pk,ch,a.pw,a.p,a.q,a.pc,cO,a.sd,a.nb,dF a.O,M⟩ ⟨a.N,a.O,y,T⟩).J F s w):∃d,(dZ a).J d ⟨y,s.g,s.ws,M,s.rs⟩ w/\(∀b,d b->F b)/\¬d pk:=by
 obtain⟨cG,g,own,h,f⟩:=h;have c:∀b j,own b=j->j<=4->(if own b<=4 then own b else 0)=j:=fun b j e i=>by rw[aI V];exact e
 refine⟨fun b=>(if own b<=4 then own b else 0)≠0,⟨fun b=>if own b<=4 then own b else 0,cO,?_,fun b=>Iff.rfl⟩,fun b hb=>(f b).2 (fun e=>hb (by rw[e];rfl)),fun hb=>hb ?_⟩
 ·exact {
   ar:=h.ar,a1:=c _ _ h.a1 aa,a2:=c _ _ h.a2 aa,cd:=h.cd,c1:=c _ _ h.c1 aa,c2:=c _ _ h.c2 aa,wd:=h.wd,w1:=c _ _ h.w1 aa,rt:=h.rt,rl:=h.rl,r1:=c _ _ h.r1 aa
   le:=fun b=>by
    split
    ·assumption
    ·decide
   lt:=fun b hb=>h.lt b (fun e=>hb (by rw[e];rfl))}
 ·have:=h.k1;rw[this];rfl
structure cq where
 s:eb
 r:List b7
 q:List b7
def fM (a:Wc):dr cq where
 J F S w:=∃d ar c,(c7 (dZ a) a.sd (.slice ar S.r.length c)).J d (S.s,S.q) w/\w.ownsRow 0 103 2 (.slice ar S.r.length c) S.r.length (ev S.r)/\(∀b,some b=(Value.slice ar S.r.length c).ownBlock->¬d b)/\∀b,F b↔(d b\/some b=(Value.slice ar S.r.length c).ownBlock)
 lt:=by
  rintro F S w ⟨d,ar,c,g,i,j,f⟩ b hb;rcases(f b).1 hb with hb|hb
  ·exact(c7 (dZ a) a.sd (.slice ar S.r.length c)).lt g b hb
  ·exact(cn i b hb).2
 keep:=by rintro F S w w' ⟨d,ar,c,g,i,j,f⟩ hs hk;exact⟨d,ar,c,(c7 (dZ a) a.sd (.slice ar S.r.length c)).keep g hs (fun b hb=>hk b ((f b).2 (aK hb))),cH i (fun b e=>hk b ((f b).2 (aJ e))),j,f⟩
section
variable {N y g:Nat}{ws:List Int}{hi:Int}
theorem qu:∀(k:Nat)(a:Int),(eA N y g ws hi k a).Nodup
 |0,a=>by exact List.nodup_nil
 |k+1,a=>by
  unfold eA;split
  ·split
   ·rw[List.nodup_cons];refine⟨fun h=>?_,qu k _⟩
    have b:=(mS k _ _ h).1;have c:=dj (ld N y g ws a)
    omega
   ·exact List.nodup_nil
  ·exact List.nodup_nil
theorem xY:∀(k:Nat)(a x:Int),x∈eA N y g ws hi k a->pc (ld N y g ws x)=0
 |0,a,x,h=>by simp[eA] at h
 |k+1,a,x,h=>by
  unfold eA at h;split at h
  ·split at h
   ·rcases List.mem_cons.1 h with h|h
    ·rw[h];assumption
    ·exact xY k _ x h
   ·simp at h
  ·simp at h
theorem xZ:∀(k:Nat)(a:Int),(((eA N y g ws y k a).filter (fun a=>decide (a+pf (ld N y g ws a)<y))).map (fun a=>1+(pf (ld N y g ws a)).toNat)).sum<=((y:Int)-a).toNat
 |0,a=>by simp[eA]
 |k+1,a=>by
  unfold eA;split
  ·split
   ·have b:=xZ k (a+(1+pf (ld N y g ws a)))
    have d:=dj (ld N y g ws a)
    by_cases c:a+pf (ld N y g ws a)<y
    ·rw[List.filter_cons_of_pos (by simpa using c)];simp only [List.map_cons,List.sum_cons];omega
    ·rw[List.filter_cons_of_neg (by simpa using c)];omega
   ·simp
  ·simp
end
def eb.k0 (a:Wc)(s:eb):ce:=⟨a.N,a.O,s.y,m4 a.N s.y s.g s.ws⟩
def eb.s0 (a:Wc)(s:eb):cj:=⟨s.g,s.ws,fun _=>-1,(a.N:Int)+s.g,[],[],s.rs⟩
theorem CI.start {a:Wc}{s:eb}(hN:16<=a.N)(hN':a.N<=256)(hO:a.O<=1024)(hy:s.y<=a.N)(hg:s.g<=a.O)(hl:s.ws.length=a.N+a.O)(hr:s.y<=a.O-s.g):CI (s.k0 a) (s.s0 a):=by
 have d:∀x∈m4 a.N s.y s.g s.ws,x∈d8 a.N s.y s.g s.ws/\x+pf (ld a.N s.y s.g s.ws x)<s.y:=fun x b=>by simpa[m4] using b
 refine⟨hN,hN',hO,hy,hg,hl,fun x b=>?_,(qu 2000 0).filter _,?_,?_,?_,by simp[eb.s0],by simp[eb.s0],?_⟩
 ·obtain⟨c,i⟩:=d x b;exact⟨(n3 x c).1,xY _ _ _ c,by show x+1+pf (ld a.N s.y s.g s.ws x)<=s.y;omega⟩
 ·have c:=xZ (N:=a.N) (y:=s.y) (g:=s.g) (ws:=s.ws) 2000 0;have e:(s.k0 a).sz (s.s0 a)=(((eA a.N s.y s.g s.ws s.y 2000 0).filter (fun x=>decide (x+pf (ld a.N s.y s.g s.ws x)<s.y))).map (fun x=>1+(pf (ld a.N s.y s.g s.ws x)).toNat)).sum:=by
   unfold ce.sz;have f:(s.k0 a).T.filter (fun x=>(s.s0 a).f x==-1)=(s.k0 a).T:=List.filter_eq_self.2 (fun _ _=>rfl)
   rw[f];rfl
  show _<=a.O-s.g;omega
 ·show(a.N:Int)<=(a.N:Int)+s.g;omega
 ·show(a.N:Int)+s.g<=(a.N:Int)+a.O+13;omega
 ·exact aT (bq _ _) (h8 _ _)
def eb.s1 (a:Wc)(s:eb):cj:=(s.k0 a).cJ (s.s0 a) 12
def eb.s2 (a:Wc)(s:eb):cj:=(s.k0 a).lm (dF a.O) s.M (s.s1 a) (dB a.N s.y (s.s1 a).g (s.s1 a).ws)
def cq.t3 (a:Wc)(S:cq):cj×List b7:=(S.s.k0 a).sp (S.s.s2 a,S.q)
def cq.s4 (a:Wc)(S:cq):cj:=((S.s.k0 a).eW (S.t3 a) S.r).1
def cq.s5 (a:Wc)(S:cq):cj:=(S.s.k0 a).mw (S.s4 a) (S.s4 a).wk
def cq.s6 (a:Wc)(S:cq):cj:=(S.s.k0 a).be (S.s5 a) (S.s5 a).ep
def cq.full (a:Wc)(S:cq):Bool:=decide (a.O-S.s.g<S.s.y)
def cq.cut (a:Wc)(S:cq):cq:=if S.full a=true then S else⟨⟨0,(S.s6 a).g,(S.s6 a).ws,[],(S.s6 a).rs⟩,(S.s.k0 a).sR (S.t3 a) S.r,(S.s.k0 a).je (S.t3 a) S.r⟩
def cq.code (a:Wc)(S:cq):Int:=if S.full a=true then 3 else 0
section
variable {c:gn}{k:ce}{F:Nat->Prop}{s:cj}{w:ax}
theorem Ek (h:(d9 c k).J F s w)(m:CI k s)(hl:s.ep.length<=10000):
 Calls prog 113 #[aj c.pk] w fun e w'=>e=.returned (.tuple #[])/\(d9 c k).J F (k.be s s.ep) w'/\b8 F w F w':=by
 obtain⟨cG,al,h⟩:=h;obtain⟨c0,_,_,_,c4,c5,_,_,_,M,_,er,_,lk,_⟩:=d_ h;obtain⟨ad,cap,rfl⟩:=eE er;have N:=hide m;have O:=hide m.ia;have am:(0:Int)<=k.N:=V;clear m M;go_enter func113,ntmps113;go_wp2_with fail
 go_loopw [9] (fun iv wr=>∃(j:Nat)(s1:cj),j<=s.ep.length/\iv=ah j/\ay (k.be s (s.ep.take j)=s1)/\(cutV c k cG (.slice ad s.ep.length cap)).J F s1 wr/\b8 F w F wr/\ay (CI k s1/\eC k s s1)) (fun iv _=>s.ep.length-(intOf iv).toNat)
 exact⟨0,s,aX _,rfl,rfl,h,b8.refl _ _,⟨N.o,eC.refl _ _⟩⟩
 ·
   obtain⟨j,s1,an,rfl,n,d,o,p⟩:=hrel;obtain⟨ao,_,_,_,P,ap,_,_,_,Q,_,q,_,ar,_⟩:=d_ d;have R:=p.o.2.ep;rw[R] at q;by_cases g:j<s.ep.length
   ·obtain⟨t,u,S,aB,hc⟩:=gI q V;have U:=hc j g;subst S;have B:s.ep.getD j 0∈s.ep:=by rw[aE,aL g];exact a6 g
    have C:=O.o _ B;have v:ay (k.be s (s.ep.take (j+1))=k.gB s1 (s.ep.getD j 0)):=by
     show _=_;rw[gy s.ep j g 0];unfold ce.be;rw[List.foldl_append];have:=n.o;unfold ce.be at this
     rw[this];rfl
    generalize s.ep.getD j 0=a at U C v;have D:ay (CI k (k.gB s1 a)/\eC k s (k.gB s1 a)):=by obtain⟨W,X⟩:=p.o.1.gB C.1;exact⟨W,p.o.2.trans X⟩
    have E:ay (k.gB s1 a=k.st (k.st s1 (a+1) 3) (a+2) 3):=rfl;generalize k.gB s1 a=G at v D E;have Y:=dq d o;have i:=(iO ((cutV c k cG (.slice (some ⟨t,u,none⟩) s.ep.length cap)).below d (aH _ wr).drew))
    have f:ay (_):=i;have aF:IntKind.i64.wrap (a+1)=a+1:=by rw[bk];omega
    have aR:IntKind.i64.wrap (a+2)=a+2:=by rw[bk];omega
    clear hc B d o i Q q P;go_wp2_with fail
    go_region_held3 (fun w'=>w'.cell? (aq c.pk 0)=some (aj c.pw)/\w'.cell? (aq c.pw 0)=some (aj c.p)) (go_keep)
     (first
       |(go_at_call 191;refine(nL _).mono ?_;rintro e ab ⟨rfl,b⟩;have b:=b.symm;subst b)
       |(go_at_call 93;refine(k7 (a+1) 3 wr.drew f.o.1).mono ?_;rintro e l ⟨rfl,x,A⟩;obtain⟨H,ag⟩:=f.o.2 l _ _ x A;obtain⟨g0,_,_,_,_,g5,_⟩:=d_ H;have I:ay (_/\_):=⟨H,(Y.o.2.below (aH _ wr).drew).trans ag⟩))
    have i:=(iO ((cutV c k cG (.slice (some ⟨t,u,none⟩) s.ep.length cap)).below I.o.1 (aH _ l).drew))
    have f:ay (_):=i;go_wp2_with fail
    go_region_held3 (fun w'=>w'.cell? (aq c.pk 0)=some (aj c.pw)/\w'.cell? (aq c.pw 0)=some (aj c.p)) (go_keep)
     (first
       |(go_at_call 191;refine(nL _).mono ?_;rintro e ab ⟨rfl,b⟩;have b:=b.symm;subst b)
       |(go_at_call 93;refine(k7 (a+2) 3 l.drew f.o.1).mono ?_;rintro e J ⟨rfl,x,A⟩;obtain⟨K,ai⟩:=f.o.2 J _ _ x A;obtain⟨r0,_,_,_,_,aV,_⟩:=d_ K;have L:ay ((cutV c k cG (.slice (some ⟨t,u,none⟩) s.ep.length cap)).J F G J/\_):=⟨(by rw[E.o];exact K),(I.o.2.below (aH _ l).drew).trans ai⟩))
    go_wp2_with fail;go_roundw
    case rel=>exact⟨j+1,G,V,af,v,L.o.1,L.o.2,D⟩
    case measure=>simp[intOf];omega
   ·obtain rfl:j=s.ep.length:=V;rw[bm] at n;go_wp2_with fail;go_end0;rw[n.o];exact⟨rfl,⟨_,_,d⟩,o⟩
end
section
variable {c:gn}{k:ce}{F:Nat->Prop}{s:cj}{w:ax}
theorem El (h:(d9 c k).J F s w)(N:CI k s)(hl:s.wk.length<=10000):
 Calls prog 112 #[aj c.pk] w fun e w'=>e=.returned (.tuple #[])/\(d9 c k).J F (k.mw s s.wk) w'/\b8 F w F w':=by
 obtain⟨cG,b,h⟩:=h;obtain⟨c0,_,_,c4,_,c5,_,_,_,an,er,_,_,lk,_⟩:=d_ h;obtain⟨ad,cap,rfl⟩:=eE er;have ao:ay (CI k s):=N;have ap:ay (∀a∈s.wk,(k.N:Int)<=a/\a<=2000):=N.iA;have a2:(0:Int)<=k.N:=V;clear N an;go_enter func112,ntmps112;go_wp2_with fail
 go_loopw [10] (fun iv wr=>∃(j:Nat)(s1:cj),j<=s.wk.length/\iv=ah j/\ay (k.mw s (s.wk.take j)=s1)/\(cutV c k (.slice ad s.wk.length cap) b).J F s1 wr/\b8 F w F wr/\ay (CI k s1/\eC k s s1)) (fun iv _=>s.wk.length-(intOf iv).toNat)
 case atStart=>exact⟨0,s,aX _,rfl,rfl,h,b8.refl _ _,⟨ao.o,eC.refl _ _⟩⟩
 case round=>
  obtain⟨j,s1,bb,rfl,O,A,Q,R⟩:=hrel;obtain⟨t,_,_,ar,_,u,_,_,_,aB,S,_,_,bd,_⟩:=d_ A;have aF:=R.o.2.wk;rw[aF] at S;by_cases J:j<s.wk.length
  ·obtain⟨d,f,aR,be,hc⟩:=gI S V;have U:=hc j J;subst aR;have ag:s.wk.getD j 0∈s.wk:=by rw[aE,aL J];exact a6 J
   have ai:=ap.o _ ag;have B:ay (k.mw s (s.wk.take (j+1))=k.eF s1 (s.wk.getD j 0)):=by
    show _=_;rw[gy s.wk j J 0];unfold ce.mw;rw[List.foldl_append];have:=O.o;unfold ce.mw at this
    rw[this];rfl
   generalize s.wk.getD j 0=a at U ai B;have K:ay (CI k (k.eF s1 a)/\eC k s (k.eF s1 a)):=by obtain⟨aV,a0⟩:=R.o.1.eF ai.1;exact⟨aV,R.o.2.trans a0⟩
   have bg:IntKind.i64.wrap (a+1)=a+1:=by rw[bk];omega
   obtain⟨al,_⟩:=iO A;have L:=jI (a+1) wr al;have am:ld k.N k.y s1.g s1.ws (a+1)=k.ld s1 (a+1):=rfl;rw[am] at L;have m:ay ((cutV c k (.slice (some ⟨d,f,none⟩) s.wk.length cap) b).J F s1 wr/\b8 F w F wr):=⟨A,Q⟩
   clear hc ag A Q al am aB S ar;cases hls:k.ls s1 (k.ld s1 (a+1))
   ·have v:ay (k.eF s1 a=k.st s1 (a+1) (k.nw s1 (k.ld s1 (a+1)))):=by show _=_;unfold ce.eF;rw[hls];rfl
    generalize k.eF s1 a=C at B K v;generalize k.ld s1 (a+1)=x at L hls v;go_wp2_with fail;refine L.mono ?_;clear L;rintro e w1 ⟨rfl,i⟩
    have P:=n7 ((cutV c k (.slice (some ⟨d,f,none⟩) s.wk.length cap) b).below m.o.1 i) x;rw[hls] at P;clear U t u;go_wp2_with fail;refine P.mono ?_;clear P;rintro e n ⟨rfl,D⟩
    have hb:=i.trans (D.mono i.size)
    have o:=(cutV c k (.slice (some ⟨d,f,none⟩) s.wk.length cap) b).below m.o.1 hb;obtain⟨t,_,_,_,_,u,_⟩:=d_ o;have M:ay ((cutV c k (.slice (some ⟨d,f,none⟩) s.wk.length cap) b).J F s1 n.drew/\b8 F w F n.drew):=⟨(cutV c k (.slice (some ⟨d,f,none⟩) s.wk.length cap) b).below o (aH _ n).drew,(m.o.2.below hb).below (aH _ n).drew⟩
    clear i D o hb m;go_wp2_with fail
    go_region_held3 (fun w'=>w'.cell? (aq c.pk 0)=some (aj c.pw)/\w'.cell? (aq c.pw 0)=some (aj c.p)) (go_keep)
     (first
       |(go_at_call 190;refine(qk M.o.1 x).mono ?_;rintro e a1 ⟨rfl,W⟩;have X:=(cutV c k (.slice (some ⟨d,f,none⟩) s.wk.length cap) b).below M.o.1 W;obtain⟨g0,_,_,_,_,g5,_⟩:=d_ X;obtain⟨g,E⟩:=iO X;have l:ay (_/\_/\_):=⟨g,E,M.o.2.below W⟩;clear W X g E M)
       |(go_at_call 93;refine(k7 (a+1) (k.nw s1 x) a1 l.o.1).mono ?_;rintro e p ⟨rfl,g,G⟩;obtain⟨q,H⟩:=l.o.2.1 p _ _ g G;obtain⟨r0,_,_,_,_,Y,_⟩:=d_ q;have I:ay ((cutV c k (.slice (some ⟨d,f,none⟩) s.wk.length cap) b).J F C p/\b8 F w F p):=⟨(by rw[v.o];exact q),l.o.2.2.trans H⟩;clear g G q H l))
    clear g0 g5 r0 Y t u;go_wp2_with fail;go_roundw
    case rel=>exact⟨j+1,C,V,af,B,I.o.1,I.o.2,K⟩
    case measure=>simp[intOf];omega
   ·have v:ay (k.eF s1 a=k.st s1 (a+1) 3):=by show _=_;unfold ce.eF;rw[aI hls]
    generalize k.eF s1 a=C at B K v;generalize k.ld s1 (a+1)=x at L hls;go_wp2_with fail;refine L.mono ?_;clear L;rintro e w1 ⟨rfl,i⟩
    have P:=n7 ((cutV c k (.slice (some ⟨d,f,none⟩) s.wk.length cap) b).below m.o.1 i) x;rw[hls] at P;clear U t u;go_wp2_with fail;refine P.mono ?_;clear P;rintro e n ⟨rfl,D⟩
    have hb:=i.trans (D.mono i.size)
    have o:=(cutV c k (.slice (some ⟨d,f,none⟩) s.wk.length cap) b).below m.o.1 hb;obtain⟨t,_,_,_,_,u,_⟩:=d_ o;obtain⟨g,E⟩:=iO ((cutV c k (.slice (some ⟨d,f,none⟩) s.wk.length cap) b).below o (aH _ n).drew)
    have l:ay (_/\_/\_):=⟨g,E,(m.o.2.below hb).below (aH _ n).drew⟩
    clear i D o hb m g E;go_wp2_with fail
    go_region_held3 (fun w'=>w'.cell? (aq c.pk 0)=some (aj c.pw)/\w'.cell? (aq c.pw 0)=some (aj c.p)) (go_keep)
     (first
       |(go_at_call 191;refine(nL _).mono ?_;rintro e bi ⟨rfl,ab⟩;have ab:=ab.symm;subst ab)
       |(go_at_call 93;refine(k7 (a+1) 3 n.drew l.o.1).mono ?_;rintro e p ⟨rfl,g,G⟩;obtain⟨q,H⟩:=l.o.2.1 p _ _ g G;obtain⟨r0,_,_,_,_,Y,_⟩:=d_ q;have I:ay ((cutV c k (.slice (some ⟨d,f,none⟩) s.wk.length cap) b).J F C p/\b8 F w F p):=⟨(by rw[v.o];exact q),l.o.2.2.trans H⟩;clear g G q H l))
    clear r0 Y t u;go_wp2_with fail;go_roundw
    case rel=>exact⟨j+1,C,V,af,B,I.o.1,I.o.2,K⟩
    case measure=>simp[intOf];omega
  ·obtain rfl:j=s.wk.length:=V;rw[bm] at O;go_wp2_with fail;go_end0;rw[O.o];exact⟨rfl,⟨_,_,A⟩,Q⟩
theorem Em {cG d:Value}(h:(cutV c k cG d).J F s w):c.nb≠c.pk/\c.nb≠c.pw:=by
 obtain⟨own,h,f⟩:=h;refine⟨fun e=>?_,fun e=>?_⟩
 ·have b:=h.r1;rw[e,h.k1] at b;omega
 ·have b:=h.r1;rw[e,h.w1] at b;omega
theorem Ep (h:(d9 c k).J F s w)(q:CI k s):
 Calls prog 107 #[aj c.pk] w fun e w'=>e=.returned (.tuple #[])/\(d9 c k).J F (k.cJ s 12) w'/\b8 F w F w':=by
 obtain⟨cG,d,h⟩:=h;obtain⟨c0,_,_,_,_,_,_,_,N,_⟩:=d_ h;have E:ay (CI k s):=q;clear q;go_enter func107,ntmps107;go_wp2_with fail
 go_loopw [12] (fun iv wr=>∃(j:Nat),j<=12/\iv=ah j/\(cutV c k cG d).J F (k.cJ s j) wr/\b8 F w F wr) (fun iv _=>12-(intOf iv).toNat)
 case atStart=>exact⟨0,aX _,rfl,h,b8.refl _ _⟩
 case round=>
  obtain⟨j,O,rfl,b,l⟩:=hrel;by_cases t:j<12
  ·obtain⟨G,_,_,_,_,_,_,_,H,_⟩:=d_ b;obtain⟨P,Q,hr⟩:=xs b;obtain⟨u,I⟩:=hr j t;obtain⟨n1,R⟩:=Em b;have m:ay (k.cJ s (j+1)={(k.br (k.cJ s j) ((k.cJ s j).rs.getD j 0)).2 with rs:=(k.br (k.cJ s j) ((k.cJ s j).rs.getD j 0)).2.rs.set j (k.br (k.cJ s j) ((k.cJ s j).rs.getD j 0)).1}):=rfl;have J:ay (CI k (k.cJ s j)):=(E.o.cJ j).1;have n:ay ((cutV c k cG d).J F (k.cJ s j) wr.drew/\b8 F w F wr.drew):=⟨(cutV c k cG d).below b (aH _ wr).drew,l.below (aH _ wr).drew⟩
   obtain⟨f,o⟩:∃f,f=k.cJ s (j+1):=⟨_,rfl⟩
   rw[<-o] at m;have K:ay (f=k.cJ s (j+1)):=o;clear o;generalize (k.cJ s j).rs.getD j 0=x at u m;generalize k.cJ s j=s1 at*;have j0:(0:Int)<=(j:Int):=V;have S:(j:Int)<12:=V;clear hr b l;go_wp2_with fail
   go_region_held3 (fun w'=>w'.cell? (aq c.pk 0)=some (aj c.pw)/\w'.cell? (aq c.pw 3)=some (.slice (ak c.nb) 12 12)) (go_keep)
    (first
      |(go_at_call 182;refine(ql n.o.1 J.o x).mono ?_;rintro e g ⟨rfl,i,v⟩;obtain⟨g0,_,_,_,_,_,_,_,L,_⟩:=d_ i;obtain⟨_,U,A⟩:=xs i;obtain⟨y1,M⟩:=A j t;have p:ay ((cutV c k cG d).J F (k.br s1 x).2 g/\b8 F w F g):=⟨i,n.o.2.trans v⟩;clear i v A n))
   obtain⟨B,C⟩:=DJ p.o.1 j (k.br s1 x).1;have D:ay ((cutV c k cG d).J F f (g.setCell ⟨c.nb,j,none⟩ (.int .i64 (k.br s1 x).1))/\b8 F w F (g.setCell ⟨c.nb,j,none⟩ (.int .i64 (k.br s1 x).1))):=⟨by rw[m.o];exact B,p.o.2.trans C⟩
   clear B C p g0 L y1 M G H u I;go_wp2_with fail;go_roundw
   case rel=>exact⟨j+1,V,af,by rw[<-K.o];exact D.o.1,D.o.2⟩
   case measure=>simp[intOf];omega
  ·obtain rfl:j=12:=V;go_wp2_with fail;go_end0;exact⟨rfl,⟨_,_,b⟩,l⟩
end
section
variable {a:Wc}{F:Nat->Prop}{S:cq}{w:ax}
theorem Er (h:(fM a).J F S w)(d:S.full a=true):
 Calls prog 50 #[aj a.pw] w fun e w'=>e=.returned (ah 3)/\Below w.heap.size w w':=by
 obtain⟨j,ar,k,f,_⟩:=h;obtain⟨l,hw,_⟩:=i3 f;obtain⟨b,_⟩:=kJ hw;have b:=b;obtain⟨c0,_,_,_,g,_⟩:=jN hw;have n1:=b.hg;have m:a.O-S.s.g<S.s.y:=by simpa[cq.full] using d
 go_enter func50,ntmps50;go_wp2_with fail;refine(kE w b).mono ?_;rintro e w1 ⟨rfl,c⟩
 have c1:=(c.cell (p:=aq a.pw 0) g).trans c0;go_wp2_with fail;refine(oQ w1 (b.below c bW)).mono ?_;rintro e n ⟨rfl,i⟩
 have hb:=c.trans (i.mono c.size)
 go_wp2_with fail;go_ret;exact⟨rfl,hb⟩
theorem Es (h:(fM a).J F S w)(hf:S.full a=false)(hq:S.q.length+S.r.length<=90000):
 Calls prog 50 #[aj a.pw] w fun e w'=>∃i,e=.returned (ah 0)/\(fM a).J i (S.cut a) w'/\b8 F w i w':=by
 have dd:∀(aR:Fn)(first cap:Array Value)(w:ax),(Instr.makeFunc aR first cap).run prog w=.ok (.func aR first cap) w:=fun _ _ _ _=>rfl;obtain⟨b6,ar,X,g,aV,a0,a2⟩:=h;obtain⟨bb,hw,bd⟩:=i3 g;obtain⟨f,_⟩:=kJ hw;have f:At w a.p a.q a.N a.O S.s.y S.s.g S.s.ws:=f;obtain⟨c0,_,_,_,b7,_⟩:=jN hw;have n1:=f.hg;have b9:S.s.y<=a.O-S.s.g:=by exact qr
 have de:¬(a.O:Int)-S.s.g<S.s.y:=V;have n4:=f.hO;have df:=f.hy;have dg:=f.hN';have be:ay (_):=CI.start f.hN f.hN' f.hO f.hy f.hg f.hl b9;have bg:=kE w f;have bi:ay (_/\_):=⟨hw,f⟩
 have ca:ay (∀{Y:Type}(ab:dr Y) A ad w',ab.J A ad w'->b8 bb w A w'->_):=bd;have n:=g7 aV a0 a2;clear g hw f bd aV a0 a2 hf;go_enter func50,ntmps50;go_wp2_with fail;refine bg.mono ?_;clear bg;rintro e w1 ⟨rfl,B⟩
 have c1:=(B.cell (p:=aq a.pw 0) b7).trans c0;have bl:=oQ w1 (bi.o.2.below B bW)
 go_wp2_with fail;refine bl.mono ?_;clear bl;rintro e dh ⟨rfl,bn⟩
 have hb:=B.trans (bn.mono B.size)
 have cb:=Ee ((dZ a).below bi.o.1 hb)
 have cc:=hide hb;clear B bn c0 c1 hb;go_wp2_with fail;refine cb.mono ?_;rintro e di ⟨pk,ch,cO,dj,rfl,C,ag⟩
 have ag:=(b8.of (F:=bb) cc.o).trans ag;obtain⟨c,hc⟩:∃c:gn,c=⟨pk,ch,a.pw,a.p,a.q,a.pc,cO,a.sd,a.nb,dF a.O,S.s.M⟩:=⟨_,rfl⟩
 have cd:pk=c.pk:=by rw[hc]
 have m:ay (_/\a.sd=c.sd/\c.c=dF a.O/\c.M=S.s.M/\a.pw=c.pw):=⟨hc,by rw[hc],by rw[hc],by rw[hc],by rw[hc]⟩
 rw[<-hc] at C;clear hc;subst cd;have C:=C;have ce:=Ep C be.o;clear C;go_wp2_with fail;refine ce.mono ?_;rintro e dk ⟨rfl,ai,cf⟩
 have ai:=ai;obtain⟨k1,dl,cg,ci,k5,k6⟩:=be.o.cJ 12;have cj:=Ea ai (s:=S.s.s1 a) k1 cg ci;have ck:=hide (ag.trans cf)
 go_wp2_with fail;refine cj.mono ?_;rintro e cl ⟨cm,rfl,L,co,M,b5,dm⟩
 rw[m.o.2.2.1,m.o.2.2.2.1] at L M b5;have L:=L;have M:=M;have b5:=b5;obtain⟨dn,bo,cp⟩:=ca.o (gK c (S.s.k0 a)) cm (S.s.s2 a) cl ⟨L,M,b5⟩ (ck.o.trans co)
 rw[m.o.2.1] at bo;have cr:=xT (c:=c) rfl bo (by show S.q.length<=90000;omega)
 have cs:=hide cp;go_wp2_with fail;refine cr.mono ?_;rintro e j ⟨dp,rfl,N,al⟩
 have N:=N;have al:=cs.o.trans al;obtain⟨dq,⟨⟨ds,dt,ct⟩,_⟩,_⟩:=i3 N;obtain⟨o,_,_,_,_,_,_,bp,_⟩:=d_ ct;have l0:=aQ j _ o;have cu:=aQ j _ bp;have k:ay (_/\_):=⟨(c7 (gK c (S.s.k0 a)) c.sd (.slice ar S.r.length X)).below N (aH _ j).drew,al.below (aH _ j).drew⟩
 have cv:(S.t3 a).2.length+S.r.length<=90000:=by have:(S.t3 a).2.length=S.q.length:=oZ _ _ _;omega
 go_wp2_with fail
 go_region_held3 (fun w'=>w'.cell? (aq c.pk 0)=some (aj c.pw)/\w'.cell? (aq c.pw 2)=some (aj c.sd)) (go_keep)
  (first
    |(go_at_call 110;refine(xN (m3 c) j.drew c.pk).mono ?_;rintro e cw ⟨rfl,cx,am⟩;have du:=(am.cell (p:=aq c.pk 0) l0).trans o;have dv:=(am.cell (p:=aq c.pw 2) cu).trans bp;have q:ay (_/\_):=⟨cx,am⟩)
    |(go_at_call 78;refine(Ei (t:=S.t3 a) (r:=S.r) rfl ((c7 (gK c (S.s.k0 a)) c.sd (.slice ar S.r.length X)).below k.o.1 q.o.2) (by exact cH n.o.1 (fun b e=>(q.o.2.block b (aM (cn n.o.1 b e).2 k.o.2.fr.size)).trans (k.o.2.fr.block b (cn n.o.1 b e).2 (n.o.2.1 b e)))) cv j.heap.size q.o.1 (fun d=>by have:=(c7 (gK c (S.s.k0 a)) c.sd (.slice ar S.r.length X)).lt k.o.1 _ d;have cy:j.drew.heap.size=j.heap.size:=rfl;omega)).mono ?_;rintro e O ⟨a1,c1,cz,rfl,br,Q,D,cA,cB⟩;obtain⟨E,⟨⟨dw,dx,G⟩,_⟩,_⟩:=i3 br;obtain⟨r0,_,_,_,_,_,_,dy,_⟩:=d_ G;have bs:ay (_/\_/\_/\w.heap.size<=cw.heap.size/\b8 b6 w cz O):=⟨br,Q,D,aT k.o.2.fr.size q.o.2.size,⟨(k.o.2.below q.o.2).fr.trans cA (fun b d=>d.elim (k.o.2.sub b) (fun d=>aJ (by have:=k.o.2.fr.size;have cy:j.drew.heap.size=j.heap.size:=rfl;omega))),fun b d=>(cB b d).elim (k.o.2.sub b) (fun d=>aJ (by have g:=k.o.2.fr.size;have R:=q.o.2.size;omega))⟩⟩))
 obtain⟨E,⟨G,H,U⟩,cC⟩:=i3 bs.o.1;have G:(d9 c (S.s.k0 a)).J E (S.s4 a) O:=G;have H:CI (S.s.k0 a) (S.s4 a):=H;have U:ef (S.s.k0 a) (S.s4 a):=U;obtain⟨an,cD⟩:=H.mw (l:=(S.s4 a).wk) (fun x cE=>(H.iA x cE).1)
 have an:CI (S.s.k0 a) (S.s5 a):=an;have cF:=El G H (by have:=U.wk;omega)
 have bt:ay (CI (S.s.k0 a) (S.s5 a)/\(S.s5 a).ep.length<=10000):=⟨an,by have g:(S.s5 a).ep=(S.s4 a).ep:=cD.ep;rw[g];have:=U.ep;omega⟩
 have cI:ay (∀{Y:Type}(ab:dr Y) A ad w',ab.J A ad w'->b8 E O A w'->_):=cC;go_wp2_with fail;refine cF.mono ?_;rintro e dz ⟨rfl,ao,cJ⟩
 have ao:=ao;have cK:=Ek ao bt.o.1 bt.o.2;go_wp2_with fail;refine cK.mono ?_;rintro e u ⟨rfl,v,ap⟩
 have v:=v;obtain⟨cG,cL,bx⟩:=v;obtain⟨o,_,_,_,_,bY,_⟩:=d_ bx;have v:(d9 c (S.s.k0 a)).J E (S.s6 a) u:=⟨cG,cL,bx⟩
 rw[m.o.1] at v;obtain⟨I,cM,cN,cP⟩:=Ej (pk:=c.pk) (a:=a) v;obtain⟨cQ,cR⟩:=kJ cM;have ap:b8 E O I u:=⟨(cJ.trans ap).fr,fun b hb=>aK (cN b hb)⟩
 have cS:=wi u cQ;have aB:ay (_/\_/\∀w',At w' a.p a.q a.N a.O 0 (S.s6 a).g (S.s6 a).ws->c_ a.p a.q u w'->(dZ a).J I ⟨0,(S.s6 a).g,(S.s6 a).ws,S.s.M,(S.s6 a).rs⟩ w'/\b8 I u I w'):=⟨ap,cP,fun w' g R=>cR w' _ _ _ g R⟩
 have cT:=aQ u _ o;have cU:=m.o.2.2.2.2.symm;have ep:c.p=a.p:=by rw[m.o.1]
 rw[cU] at o bY;rw[ep] at bY;go_wp2_with fail;refine cS.mono ?_;rintro e J ⟨rfl,cV,cW⟩
 obtain⟨bZ,b0⟩:=aB.o.2.2 J cV cW;obtain⟨cX,cY,cZ⟩:=xW bZ;obtain⟨_,dA,_⟩:=jN bZ;have dB:=(aP (a:=⟨c.pk,0,none⟩) (b0.fr.block c.pk cT aB.o.2.1)).trans o;have c2:=sE J cY.hp;have b1:ay (_/\∀w',Cd w' a.pc J.heap.size a.N (dF a.O) []->c_ a.pc cX J w'->∃i,(dZ a).J i ⟨0,(S.s6 a).g,(S.s6 a).ws,[],(S.s6 a).rs⟩ w'/\b8 I J i w'):=⟨aB.o.1.trans b0,fun w' g R=>cZ w' _ _ g R (aJ bW)⟩
 go_wp2_with fail;refine c2.mono ?_;rintro e W ⟨rfl,c3,K⟩
 have c4:ay (∃i,(fM a).J i (S.cut a) W/\b8 F w i W):=by
  obtain⟨c5,c6,c8⟩:=b1.o.2 W c3 ⟨K.os,K.tape,K.output,K.size,fun b hb g _=>K.block b hb g g⟩
  obtain⟨b2,b3,aF⟩:=cI.o (dZ a) c5 _ W c6 (b1.o.1.trans c8)
  obtain⟨_,Q,D,c9,da⟩:=bs.o;have db:S.cut a=⟨⟨0,(S.s6 a).g,(S.s6 a).ws,[],(S.s6 a).rs⟩,(S.s.k0 a).sR (S.t3 a) S.r,(S.s.k0 a).je (S.t3 a) S.r⟩:=by unfold cq.cut;rw[aG];unfold cq.full;simp;omega
  rw[db];rw[<-m.o.2.1] at b3;have b4:=da.trans aF;refine⟨fun b=>b2 b\/some b=(Value.slice a1 ((S.s.k0 a).sR (S.t3 a) S.r).length c1).ownBlock,⟨b2,a1,c1,b3,hY Q aF.fr (fun b e=>(D b e).1),fun b e d=>(aF.sub b d).elim (D b e).1 (fun d=>by have:=(cn Q b e).2;omega),fun b=>Iff.rfl⟩,⟨b4.fr.mono (fun b d=>(n.o.2.2 b).2 (aK d)),fun b d=>?_⟩⟩
  rcases d with d|d
  ·exact(b4.sub b d).imp (fun d=>(n.o.2.2 b).2 (aK d)) id
  ·exact aJ (aT c9 (D b d).2)
 go_wp2_with fail;go_ret;obtain⟨i,dc,j2⟩:=c4.o;exact⟨i,rfl,dc,j2⟩
theorem Eu (h:(fM a).J F S w)(hq:S.q.length+S.r.length<=90000):
 Calls prog 50 #[aj a.pw] w fun e w'=>∃c,e=.returned (ah (S.code a))/\(fM a).J c (S.cut a) w'/\b8 F w c w':=by
 cases hf:S.full a
 ·have b:S.code a=0:=by unfold cq.code;rw[hf];rfl
  rw[b];exact Es h hf hq
 ·have b:S.code a=3:=by unfold cq.code;rw[aI hf]
  have d:S.cut a=S:=by unfold cq.cut;rw[aI hf]
  rw[b,d];refine(Er h hf).mono ?_;rintro e w' ⟨rfl,hb⟩
  exact⟨F,rfl,(fM a).below h hb,b8.of hb⟩
end
abbrev cD:=Int×List (Int×Int)×Bool×Bool
structure ck where
 T:List cD
 rs:List (Int×Int)
 rg:List b7
 wt:List b7
theorem ta:∀(l:List (Int×Int))(i:Nat)(x:Int×Int),ev (l.set i x)=((ev l).set (i*2) (ah x.1)).set (i*2+1) (ah x.2)
 |[],_,_=>rfl
 |e::l,0,x=>by simp[ev]
 |e::l,i+1,x=>by
  have b:ev (e::l)=ah e.1::ah e.2::ev l:=by simp[ev]
  have c:ev ((e::l).set (i+1) x)=ah e.1::ah e.2::ev (l.set i x):=by simp[ev]
  rw[b,c,(ta l i x),show(i+1)*2=i*2+1+1 by omega];simp
def dO (g:Int)(q:List b7):Nat:=q.findIdx (fun e=>e.1==g)
abbrev x0:=cD×Option Addr×Nat
def tv (m:List x0):List Value:=m.flatMap fun x=>[ah x.1.1,.slice x.2.1 x.1.2.1.length x.2.2,.bool x.1.2.2.1,.bool x.1.2.2.2]
section
variable {rp rb:Nat}{b_ bZ:Int}{own:Nat->Nat}{s:ck}{m:List x0}{K8 v2 v3:Value}{w w':ax}
end
section
variable {rp rb:Nat}{b_ bZ:Int}{F:Nat->Prop}{s:ck}{w w':ax}
end
def i4 (p:Int×Int)(t:cD):Int×Int:=if t.2.2.2=true then p else if t.2.2.1=true then(p.1,p.2+(1+t.2.1.length)) else(p.1+(1+t.2.1.length),p.2)
def ec (l:List cD):Int×Int:=l.foldl i4 (0,0)
theorem x1 (l:List cD)(t:cD):ec (l++[t])=i4 (ec l) t:=by simp[ec,List.foldl_append]
theorem x2 (l:List cD)(h:∀t∈l,t.2.1.length<=12):0<=(ec l).1/\(ec l).1<=13*l.length/\0<=(ec l).2/\(ec l).2<=13*l.length:=by
 have key:∀(l:List cD)(p:Int×Int),(∀t∈l,t.2.1.length<=12)->p.1<=(l.foldl i4 p).1/\(l.foldl i4 p).1<=p.1+13*l.length/\p.2<=(l.foldl i4 p).2/\(l.foldl i4 p).2<=p.2+13*l.length:=by
  intro l
  induction l with
  |nil=>simp
  |cons t l b=>
   intro p hl;have d:=b (i4 p t) (fun x c=>hl x (aN _ c))
   have e:=hl t Z;rw[a8];have f:p.1<=(i4 p t).1/\(i4 p t).1<=p.1+13/\p.2<=(i4 p t).2/\(i4 p t).2<=p.2+13:=by
    unfold i4;split
    ·omega
    ·split
     ·dsimp only;omega
     ·dsimp only;omega
   simp only [List.length_cons];omega
 have:=key l (0,0) h;unfold ec;omega
section
variable {rp rb:Nat}{b_ bZ:Int}{F:Nat->Prop}{s:ck}{w:ax}
end
section
variable {rp rb:Nat}{b_ bZ:Int}{F:Nat->Prop}{s:ck}{w:ax}
def ck.th (s:ck)(i:Nat):Int:=if(s.rs.getD i (0,0)).1=3 then(s.rs.getD i (0,0)).2 else-1
end
def ck.gc (s:ck)(A:Nat)(I:Int):Int:=if s.th A<0\/(s.T.getD (s.th A).toNat (0,[],false,false)).1=5 then 2 else if I<0\/((s.T.getD (s.th A).toNat (0,[],false,false)).2.1.length:Int)<=I then 1 else 0
section
variable {rp rb:Nat}{b_ bZ:Int}{F:Nat->Prop}{s:ck}{w:ax}
end
section
variable {rp rb:Nat}{b_ bZ:Int}{F:Nat->Prop}{s:ck}{w:ax}
end
section
variable {rp rb:Nat}{b_ bZ:Int}{F:Nat->Prop}{s:ck}{w:ax}
end
section
variable {rp rb:Nat}{b_ bZ:Int}{F:Nat->Prop}{s:ck}{w:ax}
end
section
variable {rp rb:Nat}{b_ bZ:Int}{F:Nat->Prop}{s:ck}{w:ax}
end
theorem Ev (w:ax)(B:Nat)(l1 l2:List b7)(f g:Addr)(c1 c2:Nat)(q:w.cell? (aq B 0)=some (.slice (some f) l1.length c1))(A:w.cell? (aq B 1)=some (.slice (some g) l2.length c2))(C:dw w (some f) l1)(D:dw w (some g) l2)(hm:l1.length+l2.length<=100000):
 Calls prog 230 #[.slice (ak B) 2 2] w fun e w'=>∃a c,e=.returned (.slice a (l1.length+l2.length) c)/\w'.ownsRow w.heap.size 103 2 (.slice a (l1.length+l2.length) c) (l1.length+l2.length) (ev (l1++l2))/\Below w.heap.size w w':=by
 obtain⟨s,hi,t,u,x⟩:=info_parts nO;have E:=hide C;have F:=hide D;have hB:=aQ w _ q;go_enter func230,ntmps230;go_wp2
 go_loopw [3,11] (fun i iv wr=>wr=w/\((iv=ah 0/\i=ah 0)\/(iv=ah 1/\i=ah l1.length)\/(iv=ah 2/\i=ah (l1.length+l2.length:Nat)))) (fun _ iv _=>2-(intOf iv).toNat)
 exact⟨rfl,aK ⟨rfl,rfl⟩⟩
 ·
   obtain⟨hw,⟨rfl,rfl⟩|⟨rfl,rfl⟩|⟨rfl,rfl⟩⟩:=hrel
   all_goals
    have hw:=hw.symm;subst hw
   ·go_wp2;go_roundw;exact⟨trivial,aJ (aK ⟨af,af⟩)⟩
    simp[intOf]
   ·go_wp2;go_roundw;exact⟨trivial,aJ (aJ ⟨af,af⟩)⟩
    simp[intOf]
   ·go_wp2_with fail;refine(CS w (l1.length+l2.length) hm).mono ?_;rintro e w1 ⟨a1,G,rfl,b,hb⟩
    go_wp2
    go_loopw [6,27] (fun j iv wk=>Below w.heap.size w wk/\((∃a c,iv=ah 0/\j=.slice a 0 c/\wk.ownsRow w.heap.size 103 2 (.slice a 0 c) 0 [])\/(∃a c,iv=ah 1/\j=.slice a l1.length c/\wk.ownsRow w.heap.size 103 2 (.slice a l1.length c) l1.length (ev l1))\/(∃a c,iv=ah 2/\j=.slice a (l1.length+l2.length) c/\wk.ownsRow w.heap.size 103 2 (.slice a (l1.length+l2.length) c) (l1.length+l2.length) (ev (l1++l2))))) (fun _ iv _=>2-(intOf iv).toNat)
    exact⟨hb,aK ⟨a1,G,rfl,rfl,b⟩⟩
    ·
      obtain⟨hb,⟨a,c,rfl,rfl,b⟩|⟨a,c,rfl,rfl,b⟩|⟨a,c,rfl,rfl,b⟩⟩:=hrel
      ·have H:=(hb.cell (p:=aq B 0) hB).trans q;have hs:=hb.size;go_wp2_with (at_builtin;refine wpList_append_own _ rfl _ _ 151 rfl w.heap.size 103 s (.agg #[ah 0,ah 0]) 2 16 underlying151 hi t u x rfl aa (.slice a 0 c) 0 [] rfl b f l1.length c1 (ev l1) rfl (kC l1) ((E.o.below hb).cells f rfl) (nP l1) ?_ ?_ hs ?_;(unfold maxLen;omega);omega;intro v I d l _;rw[Nat.zero_add,List.nil_append] at d;obtain⟨a2,m,n⟩:=eE d;subst n)
       have o:=hb.grown l hs (fun k e=>(cn b k e.symm).1)
       go_wp2;go_roundw;exact⟨o,aJ (aK ⟨a2,m,af,rfl,d⟩)⟩
       simp[intOf]
      ·have H:=(hb.cell (p:=aq B 1) hB).trans A;have hs:=hb.size;go_wp2_with (at_builtin;refine wpList_append_own _ rfl _ _ 151 rfl w.heap.size 103 s (.agg #[ah 0,ah 0]) 2 16 underlying151 hi t u x rfl aa (.slice a l1.length c) l1.length (ev l1) rfl b g l2.length c2 (ev l2) rfl (kC l2) ((F.o.below hb).cells g rfl) (nP l2) ?_ ?_ hs ?_;(unfold maxLen;omega);omega;intro v I d l _;rw[<-iT] at d;obtain⟨a2,m,n⟩:=eE d;subst n)
       have o:=hb.grown l hs (fun k e=>(cn b k e.symm).1)
       go_wp2;go_roundw;exact⟨o,aJ (aJ ⟨a2,m,af,rfl,d⟩)⟩
       simp[intOf]
      ·go_wp2;go_ret;exact⟨a,c,rfl,b,hb⟩
end Go.Proofs.YtpkjkjhanlbcoaaGreat
