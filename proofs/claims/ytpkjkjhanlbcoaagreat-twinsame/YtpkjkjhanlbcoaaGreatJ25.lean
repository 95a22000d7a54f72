import Derived.Test.YtpkjkjhanlbcoaaGreatJ24
namespace Go.Proofs.YtpkjkjhanlbcoaaGreat
set_option maxRecDepth 100000
set_option maxHeartbeats 16000000
open Tryz
open Go.RowKit W Kp cf
section
variable {a:Wc}{S:cq}{W:ck}{m:Nat->Int}{Y G:List Int}
theorem dM.vq {T:List cD}{v:Int×Int}(hv:dM T v)(d:T.length<=10000):eZ T v:=by
 refine⟨?_,hv.t⟩
 by_cases b:v.1=3
 ·obtain⟨h0,c⟩:=hv.t b;have:=c.1;rw[b];exact nG _ h0 V
 ·exact hv.o b
abbrev rQ (W:ck)(x:Int):Prop:=0<=x/\cv W.T x.toNat
abbrev rR (m:Nat->Int)(x:Int):Int:=m x.toNat
theorem cy.vp (h:cy a S W m Y G)(hb:cI a S.s)(c:W.T.length<=10000){v:Int×Int}(hv:dM W.T v):lC (rQ W) (rR m) (gq v) (wv m v):=by
 obtain⟨d,e⟩:=nr (hv.vq c)
 obtain⟨_,f,g⟩:=h.dec hb hv;unfold lC;rw[d,e,f,g];by_cases b:v.1=3
 ·rw[aI b];exact aK ⟨b,b,hv.t b,rfl⟩
 ·rw[aG b];exact aJ ⟨b,rfl,rfl⟩
theorem cy.bi (h:cy a S W m Y G)(hb:cI a S.s)(g:W.T.length<=10000):px (rQ W) (rR m) (tI W.T.length) (gP W.T) (gQ W.T W.wt) (Y++G) (fun v=>pk (ld a.N S.s.y S.s.g S.s.ws v)) (eV a.N S.s.y S.s.g S.s.ws S.q):=by
 refine⟨fun x b=>pH.2 ⟨b.1,by have:=b.2.1;have:=b.1;omega⟩,fun x b=>List.mem_append.2 (h.mem b.2),fun x y b hy e=>?_,fun x b=>?_,fun x b=>?_⟩
 ·have:=h.inj _ _ b.2 hy.2 e;have:=b.1;have:=hy.1;omega
 ·exact(h.parts b.2).1
 ·obtain⟨p,hi⟩:=b;obtain⟨i,rfl⟩:=Int.eq_ofNat_of_zero_le p;rw[Int.toNat_natCast] at hi;obtain⟨j,q,_⟩:=h.parts hi;have hv:=h.mem hi;show jj _ _ (eV a.N S.s.y S.s.g S.s.ws S.q (m ((i:Int)).toNat))
  unfold gQ;rw[Int.toNat_natCast];by_cases d:(W.T.getD i t0).1=5
  ·have hl:(W.T.getD i t0).2.1=[]:=by have f:=(h.hd i hi).1;rw[d] at f;simp[hc] at f;exact f
   rw[aI d,hl,List.map_nil,List.nil_append];unfold eV;rw[aI (by rw[j];exact d)];unfold ef;rw[h.wt,lH (we m) (fun e=>e.1==ew 3 (m i)) (fun e=>e.1==(i:Int)) W.wt (fun e he=>?_),List.map_map]
   ·have key:∀l:List b7,(∀e∈l,iF W.T e)->jj (lC (rQ W) (rR m)) (l.map (fun e=>ew 3 e.2)) (l.map ((·.2)∘we m)):=by
     intro l
     induction l with
     |nil=>intro _;trivial
     |cons e l s=>
      intro hl;have he:=hl e Z;refine⟨?_,s (fun x b=>hl x (aO _ b))⟩
      have:=h.vp hb g (v:=(3,e.2)) ⟨fun _=>⟨he.h0,he.h⟩,fun c=>absurd rfl c⟩
      exact this
    exact key _ (fun e he=>h.dx e (List.mem_filter.1 he).1)
   ·have he:=h.dx e he;show(ew 3 _==ew 3 (m i))=(e.1==(i:Int))
    by_cases n:e.1=(i:Int)
    ·rw[n,Int.toNat_natCast];simp
    ·have n1:ew 3 (m e.1.toNat)≠ew 3 (m i):=fun c=>by have c1:=(h.word hb he.g).2.2;rw[c,(h.word hb hi).2.2] at c1;have:=h.inj _ _ hi he.g c1;have:=he.g0;omega
     rw[beq_false_of_ne n1,beq_false_of_ne n]
  ·rw[aG d,List.append_nil];have o:pk (ld a.N S.s.y S.s.g S.s.ws (m i))≠5:=by rw[j];exact d
   have l1:=yU h.kv.inv.full hb.y1 S.q hv o;rw[q] at l1;have l1:(eV a.N S.s.y S.s.g S.s.ws S.q (m i)).length=(W.T.getD i t0).2.1.length:=V;refine jj.of (by rw[aW];exact l1.symm) (fun k hk=>?_)
   rw[aW] at hk;rw[(Gz h.kv.inv.full hb.y1 S.q hv o).1 k V,jY gq _ k (0,0) 0 hk,h.fd i hi k hk];exact h.vp hb g (h.fv i hi _ (getD_in hk))
theorem cy.view (h:cy a S W m Y G)(hb:cI a S.s)(b:W.T.length<=10000):(iO a.N S.s.y S.s.g S.s.ws S.q S.s.rs).1=(dU.ez W.T W.wt W.rs).1/\(iO a.N S.s.y S.s.g S.s.ws S.q S.s.rs).2.2=(dU.ez W.T W.wt W.rs).2.2:=by
 obtain⟨c,d⟩:=h.kv.inv.full.lists hb.n1 hb.y1 hb.o1 hb.g1;have hl:jj (lC (rQ W) (rR m)) (W.rs.map gq) S.s.rs:=by
  rw[h.rs];refine jj.of Z (fun i hi=>?_)
  rw[aW] at hi;rw[jY gq _ i (0,0) 0 hi,jY (wv m) _ i (0,0) 0 hi];exact h.vp hb b (h.rv _ (getD_in hi))
 unfold iO dU.ez;rw[c,d];obtain⟨b1,b2,_⟩:=Gw (h.bi hb b) hl (by rw[nm];exact aD _) bW
 exact⟨b1.symm,b2⟩
end
structure vu where
 hp:Nat
 bY:Nat
 rb:Nat
 tp:Nat
 n:Nat
 o:Nat
structure dA (w1:ax)(c:Wc)(t:vu)(F G:Nat->Prop)(S:cq)(W:ck)(i k:Nat)(w:ax):Prop where
 g:(cw c t.hp).J F S w
 r:(cx t.bY t.n t.o t.rb).J G W w
 tw:w.heap[t.tp]?=some (.cells #[aj t.hp,aj t.bY,ah k,ah 0,ah 0] 71 (0,0))
 pS:¬F t.tp
 tG:¬G t.tp
 rS:w1.heap.size<=t.tp
 ok:dV c S i
 gi:d3 W i
 rl:∃m Y X,cy c S W m Y X
 ap:∀b,F b->¬G b
 fS:∀b,F b->w1.heap.size<=b
 rU:∀b,G b->w1.heap.size<=b
 be:Below w1.heap.size w1 w
 sz:c.N=t.n/\c.O=t.o/\16<=t.n/\t.n<=256/\t.o<=1024
section
variable {w1 w w':ax}{c:Wc}{t:vu}{i k:Nat}{F G F' G':Nat->Prop}{S S2:cq}{W W2:ck}
theorem dA.below (h:dA w1 c t F G S W i k w)(hb:Below w.heap.size w w'):dA w1 c t F G S W i k w':=
 ⟨(cw c t.hp).below h.g hb,(cx t.bY t.n t.o t.rb).below h.r hb,(hb.block t.tp (lt_of_some h.tw)).trans h.tw,h.pS,h.tG,h.rS,h.ok,h.gi,h.rl,h.ap,h.fS,h.rU,h.be.trans (hb.mono h.be.size),h.sz⟩
theorem dA.cells (h:dA w1 c t F G S W i k w):w.cell? (aq t.tp 0)=some (aj t.hp)/\w.cell? (aq t.tp 1)=some (aj t.bY)/\w.cell? (aq t.tp 2)=some (ah k)/\w.cell? (aq t.tp 3)=some (ah 0)/\w.cell? (aq t.tp 4)=some (ah 0)/\w.frozen? (aq t.tp 2)=false:=by refine⟨?_,?_,?_,?_,?_,?_⟩<;>simp[World.cell?,World.frozen?,h.tw]
theorem dA.us (h:dA w1 c t F G S W i k w):d_ W.T=((S.s.y:Int),(S.s.g:Int)):=by obtain⟨m,Y,X,b⟩:=h.rl;exact b.us (pC h.g)
theorem dA.cG (h:dA w1 c t F G S W i k w)(hi:i<=10000):(iO c.N S.s.y S.s.g S.s.ws S.q S.s.rs).1=(dU.ez W.T W.wt W.rs).1/\(iO c.N S.s.y S.s.g S.s.ws S.q S.s.rs).2.2=(dU.ez W.T W.wt W.rs).2.2:=by obtain⟨m,Y,X,b⟩:=h.rl;exact b.view (pC h.g) (aT h.gi.tj hi)
theorem dA.bd (h:dA w1 c t F G S W i k w)(hi:i<=10000):(dU.ez W.T W.wt W.rs).1.length=12/\(dU.ez W.T W.wt W.rs).2.2.length<=10000/\∀nd∈(dU.ez W.T W.wt W.rs).2.2,nd.2.length<=20000:=by obtain⟨q1,b,q3⟩:=Kj (h.gi.AT hi) W.rs;exact⟨q1.trans h.gi.rl,b,q3⟩
theorem dA.KK (h:dA w1 c t F G S W i k w):Calls prog 22 #[aj c.p] w fun e w'=>e=.returned (.tuple #[ah (d_ W.T).1,ah (d_ W.T).2])/\Below w.heap.size w w':=by rw[h.us];exact Hz h.g
theorem dA.KL (h:dA w1 c t F G S W i k w)(hi:i<=10000):Calls prog 137 #[aj t.bY] w fun e w'=>e=.returned (.tuple #[ah (d_ W.T).1,ah (d_ W.T).2])/\Below w.heap.size w w':=by obtain⟨gl,b,_⟩:=h.r;exact uC b h.gi.tl (aT h.gi.tj hi)
theorem dA.Bv (h:dA w1 c t F G S W i k w)(hi:i<=10000):Calls prog 25 #[aj c.pw] w fun e w'=>∃b f d g,e=.returned (.agg #[.slice b 12 f,.slice d (dU.ez W.T W.wt W.rs).2.2.length g])/\nQ w' w.heap.size b (dU.ez W.T W.wt W.rs).1/\lN w' w.heap.size d (dU.ez W.T W.wt W.rs).2.2/\Below w.heap.size w w':=by obtain⟨v1,v2⟩:=h.cG hi;rw[<-v1,<-v2];exact Hy h.g (by have:=h.ok.kP;omega)
theorem dA.KM (h:dA w1 c t F G S W i k w)(hi:i<=10000):Calls prog 138 #[aj t.bY] w fun e w'=>∃b f d g,e=.returned (.agg #[.slice b 12 f,.slice d (dU.ez W.T W.wt W.rs).2.2.length g])/\nQ w' w.heap.size b (dU.ez W.T W.wt W.rs).1/\lN w' w.heap.size d (dU.ez W.T W.wt W.rs).2.2/\Below w.heap.size w w':=by
 obtain⟨gl,j,_⟩:=h.r;refine(J0 j (h.gi.AT hi) h.gi.g5 h.gi.rv).mono ?_;rintro e w' ⟨b,f,d,o,g,rfl,l,m,rfl,n⟩
 exact⟨b,f,d,g,rfl,l,m,n⟩
theorem KN (h:dA w1 c t F G S W i k w)(hi:i<=10000):Calls prog 69 #[aj t.tp] w fun e w'=>e=.returned (.bool true)/\Below w.heap.size w w':=by
 have j:=h.bd hi;have x:ay (dA w1 c t F G S W i k w/\i<=10000):=⟨h,hi⟩
 obtain⟨q0,q1,_⟩:=em h.g;obtain⟨l,m,_⟩:=h.cells;have P:=h.KK;have U:ay (∀(r1 d n1 A:Option Addr)(C n D E:Nat)(w':ax),dv w' r1 (dU.ez W.T W.wt W.rs).1->dv w' d (dU.ez W.T W.wt W.rs).1->Ln w' n1 (dU.ez W.T W.wt W.rs).2.2->Ln w' A (dU.ez W.T W.wt W.rs).2.2->Calls prog 30 #[.agg #[.slice r1 12 C,.slice n1 (dU.ez W.T W.wt W.rs).2.2.length D],.agg #[.slice d 12 n,.slice A (dU.ez W.T W.wt W.rs).2.2.length E]] w' fun e o=>e=.returned (.bool true)/\Below w'.heap.size w' o):=fun r1 d n1 A C n D E w' ap ar aB aF=>by have:=wL r1 d n1 A C n D E _ _ w' (by rw[j.1];decide) (by have:=j.2.1;omega) (fun nd aR=>by have:=j.2.2 nd aR;omega) ap ar aB aF;rwa [j.1] at this
 clear h hi j;go_enter func69,ntmps69;go_wp2_with fail;refine P.mono ?_;clear P;rintro e X ⟨rfl,H⟩
 have f:ay (dA w1 c t F G S W i k X/\Below w.heap.size w X):=⟨x.o.1.below H,H⟩
 have P:=f.o.1.KL x.o.2;clear H q0 q1 l m;obtain⟨l,m,_⟩:=f.o.1.cells;go_wp2_with fail;refine P.mono ?_;clear P;rintro e g ⟨rfl,I⟩
 have p:ay (dA w1 c t F G S W i k g/\Below w.heap.size w g):=⟨f.o.1.below I,f.o.2.trans (I.mono f.o.2.size)⟩
 have B:ay (dA w1 c t F G S W i k g.drew/\Below w.heap.size w g.drew):=⟨p.o.1.below (aH _ g).drew,p.o.2.trans ((aH _ g).drew.mono p.o.2.size)⟩
 clear I l m f;obtain⟨l,m,_⟩:=p.o.1.cells;obtain⟨q0,q1,_⟩:=em p.o.1.g;have J:=B.o.1.Bv x.o.2;have Y:ay (∀w',dA w1 c t F G S W i k w'->Calls prog 138 #[aj t.bY] w' fun e o=>∃d n q K,e=.returned (.agg #[.slice d 12 n,.slice q (dU.ez W.T W.wt W.rs).2.2.length K])/\nQ o w'.heap.size d (dU.ez W.T W.wt W.rs).1/\lN o w'.heap.size q (dU.ez W.T W.wt W.rs).2.2/\Below w'.heap.size w' o):=fun w' h=>h.KM x.o.2;generalize (d_ W.T).1=be at*;generalize (d_ W.T).2=bg at*;generalize dU.ez W.T W.wt W.rs=aV at*;obtain⟨a0,ms,a1⟩:=aV;dsimp only at J U Y;go_wp2_with fail
 go_region_held3 (fun w'=>w'.cell? (aq t.tp 0)=some (aj t.hp)/\w'.cell? (aq t.tp 1)=some (aj t.bY)/\w'.cell? (aq t.hp 0)=some (aj c.pw)) (first|exact⟨u0,L,M⟩|exact⟨z0,a2,bb⟩|exact⟨l,m,q0⟩|(go_keep;done)) (first
  |(go_at_call 25;refine J.mono ?_;clear J;rintro e s ⟨ab,bd,q,K,rfl,ad,ag,N⟩;have b:ay ((dA w1 c t F G S W i k s/\Below w.heap.size w s)/\dv s ab a0/\Ln s q a1):=⟨⟨B.o.1.below N,B.o.2.trans (N.mono B.o.2.size)⟩,ad.1,ag.ln⟩;have ai:=Y.o s b.o.1.1;obtain⟨z0,a2,_⟩:=b.o.1.1.cells;obtain⟨bb,_⟩:=em b.o.1.1.g;clear ad ag N)
  |(go_at_call 138;refine ai.mono ?_;clear ai;rintro e O ⟨rc,dc,nd,ne,rfl,al,am,u⟩;have v:ay (dA w1 c t F G S W i k O/\Below w.heap.size w O):=⟨b.o.1.1.below u,b.o.1.2.trans (u.mono b.o.1.2.size)⟩;have an:=U.o ab rc q nd bd dc K ne O (b.o.2.1.below u) al.1 (b.o.2.2.below u) am.ln;obtain⟨u0,L,_⟩:=v.o.1.cells;obtain⟨M,_⟩:=em v.o.1.g;clear al am u)
  |(go_at_call 30;refine an.mono ?_;clear an;rintro e ao ⟨rfl,Q⟩;have R:ay (dA w1 c t F G S W i k ao/\Below w.heap.size w ao):=⟨v.o.1.below Q,v.o.2.trans (Q.mono v.o.2.size)⟩;clear u0 L M;obtain⟨u0,L,_⟩:=R.o.1.cells;obtain⟨M,_⟩:=em R.o.1.g;clear Q))
 go_wp2_with fail;go_ret;exact⟨rfl,R.o.2⟩
end
theorem vv {w:ax}{b:Nat}{c v:Value}{T:TypeId}(h:w.heap[b]?=some (.cells #[c,v] T (0,0))):w.cell? (aq b 0)=some c/\w.cell? (aq b 1)=some v/\w.frozen? (aq b 0)=false/\w.frozen? (aq b 1)=false:=by refine⟨?_,?_,?_,?_⟩<;>simp[World.cell?,World.frozen?,h]
theorem Bw (n o:Nat)(w:ax)(h0:16<=n)(g:n<=256)(A:o<=1024):
 Calls prog 28 #[ah n,ah o] w fun e w'=>∃c t F G,e=.returned (.tuple #[aj t.tp,.agg #[ah 0,ah 0]])/\(t.n=n/\t.o=o)/\dA w c t F G (g9 n o).1 (g9 n o).2 0 0 w':=by
 have S:=au w (.cells #[.int .i64 0,.int .i64 0] 28)
 have P:=E5 n o (w.alloc (.cells #[.int .i64 0,.int .i64 0] 28)) h0 g A;have U:=aN w (.cells #[.int .i64 0,.int .i64 0] 28)
 have W:w.heap.size<(w.alloc (.cells #[.int .i64 0,.int .i64 0] 28)).heap.size:=Z;have X:=hide S;have I:ay ((∀w',Calls prog 67 #[ah n,ah o] w' fun e K=>∃bY rb F,e=.returned (.tuple #[aj bY,.agg #[ah 0,ah 0]])/\(cx bY n o rb).J F nz K/\(∀b,F b->w'.heap.size<=b)/\Below w'.heap.size w' K)/\_/\_/\_):=⟨fun w'=>JN n o w' h0 g A,h0,g,A⟩
 go_enter func28,ntmps28;go_wp2_with fail;generalize w.alloc (.cells #[.int .i64 0,.int .i64 0] 28)=w0 at*;generalize Y:w.heap.size=fb at*;refine P.mono ?_;rintro e w1 ⟨c,hp,F,rfl,J,⟨ab,co⟩,lo,L⟩
 have M:=(L.block fb W).trans U;have ad:=lt_of_some M;have B:=au w1 (.cells #[.int .i64 0,.int .i64 0] 28)
 have ag:=aN w1 (.cells #[.int .i64 0,.int .i64 0] 28)
 have N:=dq ab co;have u:ay (_/\(∀b,F b->fb<b/\b<w1.heap.size)/\_):=⟨(cw c hp).below J B,fun b d=>⟨by have:=lo b d;omega,(cw c hp).lt J b d⟩,(X.o.trans (L.mono V)).trans (B.mono V)⟩
 have l:=dq ((B.block fb ad).trans M) ag;go_wp2_with fail;generalize w1.alloc (.cells #[.int .i64 0,.int .i64 0] 28)=ai at*;generalize w1.heap.size=f at*;refine(I.o.1 ai).mono ?_;rintro e i ⟨bY,rb,G,rfl,O,Q,q⟩
 have C:=(q.block fb (lt_of_some l.o.1)).trans l.o.1;have D:=(q.block f (lt_of_some l.o.2)).trans l.o.2;obtain⟨aB,y1,z0,aF⟩:=vv D;obtain⟨u0,al,t0,aR⟩:=vv C;have nx:f≠fb:=V;have aV:=lt_of_some D;have a0:=lt_of_some C;have am:ay (_/\_/\_/\(∀b,G b->f<b)/\_):=⟨(cw c hp).below u.o.1 q,O,u.o.2.1,fun b d=>by have g:=Q b d;have an:=lt_of_some l.o.2;omega,u.o.2.2.trans (q.mono (by have:=lt_of_some l.o.1;omega))⟩
 clear O Q q C D l u;go_wp2_with fail;obtain⟨j,m⟩:∃j,j=(((i.setCell ⟨f,0,none⟩ (.int .i64 0)).setCell ⟨f,1,none⟩ (.int .i64 0)).setCell ⟨fb,0,none⟩ (.int .i64 0)).setCell ⟨fb,1,none⟩ (.int .i64 0):=⟨_,rfl⟩
 rw[<-m];have v0:j.cell? (aq fb 0)=some (ah 0):=by rw[m,a5 _ _ _ _ Z];exact bf _ _ _ ((a5 _ ⟨f,1,none⟩ ⟨fb,0,none⟩ _ (fun e=>absurd (congrArg Addr.block e) nx)).trans ((a5 i ⟨f,0,none⟩ ⟨fb,0,none⟩ _ (fun e=>absurd (congrArg Addr.block e) nx)).trans u0))
 have v1:j.cell? (aq fb 1)=some (ah 0):=by rw[m];exact bf _ _ _ ((a5 _ ⟨fb,0,none⟩ ⟨fb,1,none⟩ _ Z).trans ((a5 _ ⟨f,1,none⟩ ⟨fb,1,none⟩ _ (fun e=>absurd (congrArg Addr.block e) nx)).trans ((a5 i ⟨f,0,none⟩ ⟨fb,1,none⟩ _ (fun e=>absurd (congrArg Addr.block e) nx)).trans al)))
 have E:Fr (fun k=>k=f\/k=fb) i j:=by rw[m];exact((((Fr.refl (fun k=>k=f\/k=fb) i).set f 0 _ (aK rfl)).set f 1 _ (aK rfl)).set fb 0 _ (aJ rfl)).set fb 1 _ (aJ rfl)
 have ao:j.heap.size=i.heap.size:=by rw[m];simp
 clear m;have s:=au j (.cells #[.pointer (some ⟨hp,0,none⟩),.pointer (some ⟨bY,0,none⟩),.int .i64 0,.int .i64 0,.int .i64 0] 71)
 have ht:=aN j (.cells #[.pointer (some ⟨hp,0,none⟩),.pointer (some ⟨bY,0,none⟩),.int .i64 0,.int .i64 0,.int .i64 0] 71)
 rw[ao] at ht;have g0:=(s.cell (p:=aq fb 0) (by show fb<_;omega)).trans v0;have g1:=(s.cell (p:=aq fb 1) (by show fb<_;omega)).trans v1;obtain⟨k1,R,x,H,k5⟩:=am.o;have ap:=k5.trans (E.below V (fun k e=>by rcases e with rfl|rfl<;>omega))
 have ar:dA w c ⟨hp,bY,rb,i.heap.size,n,o⟩ F G (g9 n o).1 (g9 n o).2 0 0 (j.alloc (.cells #[.pointer (some ⟨hp,0,none⟩),.pointer (some ⟨bY,0,none⟩),.int .i64 0,.int .i64 0,.int .i64 0] 71)):=
  ⟨(cw c hp).below ((cw c hp).fr k1 E (fun b hd e=>by have:=x b hd;rcases e with rfl|rfl<;>omega)) s,(cx bY n o rb).below ((cx bY n o rb).fr R E (fun b hd e=>by have:=H b hd;rcases e with rfl|rfl<;>omega)) s,ht,fun d=>by have g:=x _ d;have g:i.heap.size<f:=g.2;omega,fun d=>by have g:=(cx bY n o rb).lt R _ d;exact absurd g (Nat.lt_irrefl _),by show w.heap.size<=i.heap.size;omega,dV.start c n o,d3.start,⟨_,_,_,cy.start c n o⟩,fun b d e=>by have g:=x b d;have an:=H b e;omega,fun b d=>by have g:=x b d;omega,fun b d=>by have g:=H b d;omega,by rw[Y];exact ap.trans (s.mono V),N.o.1,N.o.2,I.o.2⟩
 refine a3 (v:=.tuple #[aj i.heap.size,.agg #[ah 0,ah 0]]) (by simp only [results,results28];simp[go_sem,g0,g1]) rfl ⟨c,⟨hp,bY,rb,i.heap.size,n,o⟩,F,G,rfl,⟨rfl,rfl⟩,ar⟩
theorem KO (n o:Int)(w:ax)(h:n<16\/256<n\/o<0\/1024<o):
 Calls prog 28 #[ah n,ah o] w fun e w'=>e=.returned (.tuple #[.pointer none,.agg #[ah 1,ah (-1)]])/\Below w.heap.size w w':=by
 have f:=au w (.cells #[.int .i64 0,.int .i64 0] 28)
 have g:=aN w (.cells #[.int .i64 0,.int .i64 0] 28)
 have P:=Hw n o (w.alloc (.cells #[.int .i64 0,.int .i64 0] 28)) h;go_enter func28,ntmps28;go_wp2_with fail;refine P.mono ?_;rintro e w1 ⟨rfl,c⟩
 have i:=(c.block w.heap.size Z).trans g;have hB1:=f.trans (c.mono Z)
 have j:=c.size;simp at j;obtain⟨y0,y1,q,s⟩:=vv i;have l1:w.heap.size<w1.heap.size:=V;clear c g f i;go_wp2_with fail
 go_region_law (fail)
 all_goals
  obtain⟨b,hW0⟩:∃b,b=(w1.setCell ⟨w.heap.size,0,none⟩ (.int .i64 1)).setCell ⟨w.heap.size,1,none⟩ (.int .i64 (-1)):=⟨_,rfl⟩
  rw[<-hW0];have t:b.heap.size=w1.heap.size:=by rw[hW0];simp[World.setCell]
  have g0:b.cell? (aq w.heap.size 0)=some (ah 1):=by exact ll
  have g1:b.cell? (aq w.heap.size 1)=some (ah (-1)):=by exact qi
  have l:Below w.heap.size w b:=by exact ta
  have d:=(au b (.cells #[.int .i64 1,.int .i64 (-1)] 28)).drew;have r0:=(d.cell (p:=aq w.heap.size 0) (by show w.heap.size<_;omega)).trans g0;have r1:=(d.cell (p:=aq w.heap.size 1) (by show w.heap.size<_;omega)).trans g1;have m:=l.trans (d.mono V)
  generalize (b.alloc (.cells #[.int .i64 1,.int .i64 (-1)] 28)).drew=u at*;go_wp2_with fail;refine a3 (v:=.tuple #[.pointer none,.agg #[.int .i64 1,.int .i64 (-1)]]) (by simp[results,results28,go_sem,r0,r1]) rfl ⟨rfl,m⟩
section
variable {w1 w w':ax}{c:Wc}{t:vu}{i k:Nat}{F G F' G':Nat->Prop}{S S2:cq}{W W2:ck}{g:gO}
theorem dA.gr (h:dA w1 c t F G S W i k w)(d:b8 F w F' w'):(cx t.bY t.n t.o t.rb).J G W w'/\(∀b,F' b->¬G b)/\(∀b,F' b->w1.heap.size<=b)/\Below w1.heap.size w1 w'/\w'.heap[t.tp]?=some (.cells #[aj t.hp,aj t.bY,ah k,ah 0,ah 0] 71 (0,0))/\¬F' t.tp:=
 ⟨(cx t.bY t.n t.o t.rb).fr h.r d.fr (fun k g f=>h.ap k f g),fun b f g=>(d.sub b f).elim (fun c=>h.ap b c g) (fun c=>by have:=(cx t.bY t.n t.o t.rb).lt h.r b g;omega),fun b f=>(d.sub b f).elim (h.fS b) (fun c=>aT h.be.size c),h.be.trans (d.fr.below h.be.size (fun k e=>h.fS k e)),(d.fr.block t.tp (lt_of_some h.tw) h.pS).trans h.tw,fun e=>(d.sub _ e).elim h.pS (fun c=>by have:=lt_of_some h.tw;omega)⟩
theorem dA.of {l:ax}{j:Nat}(h:dA w1 c t F G S W i k w)(q:b8 F w F' w')(hg:(cw c t.hp).J F' S2 w')(d:b8 G w' G' l)(hr:(cx t.bY t.n t.o t.rb).J G' W2 l)(ok:dV c S2 j)(hi:d3 W2 j)(s:∃m Y X,cy c S2 W2 m Y X):dA w1 c t F' G' S2 W2 j k l:=by obtain⟨A,o,u,n,p,v⟩:=h.gr q;have x:=lt_of_some p;exact⟨(cw c t.hp).fr hg d.fr (fun k g f=>o k g f),hr,(d.fr.block t.tp x h.tG).trans p,v,fun e=>(d.sub _ e).elim h.tG (fun e=>by omega),h.rS,ok,hi,s,fun b g f=>(d.sub b f).elim (o b g) (fun e=>by have:=(cw c t.hp).lt hg b g;omega),u,fun b f=>(d.sub b f).elim (h.rU b) (fun e=>aT n.size e),n.trans (d.fr.below n.size (fun k e=>h.rU k e)),h.sz⟩
theorem dA.hds (h:dA w1 c t F G S W i k w)(hg:∀T wt,e4 T wt->dR T wt (g T wt))(kd R A B I n:Int):nE c (S.hd c kd R A B I n) (W.ij g t.n t.o kd R A B I n):=by obtain⟨m,Y,X,b⟩:=h.rl;have:=b.hds h.ok (pC h.g) hg kd R A B I n;rwa [h.sz.1,h.sz.2.1] at this
theorem dA.step (h:dA w1 c t F G S W i k w){fb:Nat}{d v:Value}(m:w1.heap.size<=fb)(n:¬F fb)(o:¬G fb)(g:fb≠t.tp):dA w1 c t F G S W i (k+1) (((w.setCell ⟨t.tp,2,none⟩ (.int .i64 ((k:Int)+1))).setCell ⟨fb,0,none⟩ d).setCell ⟨fb,1,none⟩ v):=by
 have f:Fr (fun b=>b=t.tp\/b=fb) w (((w.setCell ⟨t.tp,2,none⟩ (.int .i64 ((k:Int)+1))).setCell ⟨fb,0,none⟩ d).setCell ⟨fb,1,none⟩ v):=
  (((Fr.refl (fun b=>b=t.tp\/b=fb) w).set t.tp 2 _ (aK rfl)).set fb 0 _ (aJ rfl)).set fb 1 _ (aJ rfl)
 refine⟨(cw c t.hp).fr h.g f (fun b j e=>?_),(cx t.bY t.n t.o t.rb).fr h.r f (fun b l e=>?_),?_,h.pS,h.tG,h.rS,h.ok,h.gi,h.rl,h.ap,h.fS,h.rU,h.be.trans (f.below h.be.size (fun b e=>?_)),h.sz⟩
 ·rcases e with rfl|rfl
  ·exact h.pS j
  ·exact n j
 ·rcases e with rfl|rfl
  ·exact h.tG l
  ·exact o l
 ·rw[aU _ _ _ _ (show t.tp≠fb from fun e=>g e.symm),aU _ _ _ _ (show t.tp≠fb from fun e=>g e.symm)];simp only [World.setCell,Array.getElem?_modify,if_true,h.tw,Option.map_some];simp
 ·rcases e with rfl|rfl
  ·exact h.rS
  ·exact m
theorem KP (h:dA w1 c t F G S W i i w)(hg:∀T wt,e4 T wt->dR T wt (g T wt))(hi:i<=8000)(kd R A B I n:Int):
 Calls prog 29 #[aj t.tp,dK kd R A B I n] w fun e w'=>∃F' G',e=.returned (.tuple #[ah (W.ij g t.n t.o kd R A B I n).1,.agg #[ah 0,ah 0]])/\dA w1 c t F' G' (S.hd c kd R A B I n).2 (W.ij g t.n t.o kd R A B I n).2 (i+1) (i+1) w'/\Fr (fun b=>F b\/G b\/b=t.tp) w w'/\(∀b,F' b->F b\/w.heap.size<=b)/\(∀b,G' b->G b\/w.heap.size<=b):=by
 have al:=pC h.g;have O:ay (nE c (S.hd c kd R A B I n) (W.ij g t.n t.o kd R A B I n)):=h.hds hg kd R A B I n;have am:ay (dV c (S.hd c kd R A B I n).2 (i+1)):=(h.ok.hd al kd R A B I n).1;have an:ay (d3 (W.ij g t.n t.o kd R A B I n).2 (i+1)):=h.gi.ij V (hg _ _ h.gi.iv) kd R A B I n;have J:=(au w (cz kd R A B I n)).alloc Z (.cells #[.int .i64 0,.int .i64 0] 28)
 have j:=vR (h.below J) h.be.size ((cw c t.hp).lt h.g) ((cx t.bY t.n t.o t.rb).lt h.r) (lt_of_some h.tw)
 have l:ay (((w.alloc (cz kd R A B I n)).alloc (.cells #[.int .i64 0,.int .i64 0] 28)).heap[w.heap.size]?=some (cz kd R A B I n)/\((w.alloc (cz kd R A B I n)).alloc (.cells #[.int .i64 0,.int .i64 0] 28)).heap[w.heap.size+1]?=some (.cells #[ah 0,ah 0] 28 (0,0))):=⟨by rw[aS _ _ _ Z];exact aN _ _,iP _ _ _⟩
 have ao:ay (∀w',(cx t.bY t.n t.o t.rb).J G W w'->_):=fun w' ap=>JJ ap (h.gi.uS V) (hg _ _ h.gi.iv) (by have:=h.sz;omega) (by have:=h.sz;omega) (by have:=h.sz;omega) (by have:=h.sz;omega) kd R A B I n;have ar:ay (Fr (fun b=>F b\/G b\/b=t.tp) w ((w.alloc (cz kd R A B I n)).alloc (.cells #[.int .i64 0,.int .i64 0] 28))):=Fr.of J;have P:=Hu (((h.below J).below bX.drew).g) h.ok V kd R A B I n;obtain⟨aB,y1,aF,aR,aV,a0⟩:=eu l.o.1;obtain⟨a1,a2,_,cf,_⟩:=j.o.1.cells;generalize S.hd c kd R A B I n=D at*;generalize W.ij g t.n t.o kd R A B I n=E at*;obtain⟨cd,Q⟩:=D;obtain⟨cg,U⟩:=E;have bb:=O.o.1;subst bb;have bd:=hide O.o.2;go_enter func29,ntmps29;go_wp2_with fail;generalize (w.alloc (cz kd R A B I n)).alloc (.cells #[.int .i64 0,.int .i64 0] 28)=w0 at*;generalize be:w.heap.size=f at*;have ab:=hide be;have bg:=hide hi
 go_region_held3 (fun w'=>w'.cell? (aq t.tp 0)=some (aj t.hp)/\w'.cell? (aq t.tp 1)=some (aj t.bY)/\w'.cell? (aq f 0)=some (ah kd)/\w'.cell? (aq f 1)=some (ah R)/\w'.cell? (aq f 2)=some (ah A)/\w'.cell? (aq f 3)=some (ah B)/\w'.cell? (aq f 4)=some (ah I)/\w'.cell? (aq f 5)=some (ah n)) (first|exact⟨v0,v1,u0,bi,bl,bn,bo,bp⟩|exact⟨q0,q1,z0,br,bs,bt,bx,bY⟩|exact⟨a1,a2,aB,y1,aF,aR,aV,a0⟩|(go_keep;done)) (first
  |(go_at_call 20;refine P.mono ?_;rintro e C ⟨m,rfl,bZ,ad⟩;have b0:=hide bZ;have o:ay (b8 F w0 m C):=⟨(Fr.of (av w0).drew).trans ad.fr (fun b c=>aK c),fun b c=>ad.sub b c⟩;have K:=hide (j.o.1.gr o.o);have p:=dq ((o.o.fr.block f (lt_of_some l.o.1) (fun d=>by have:=j.o.2.2.1 f d;omega)).trans l.o.1) ((o.o.fr.block (f+1) (lt_of_some l.o.2) (fun d=>by have:=j.o.2.2.1 (f+1) d;omega)).trans l.o.2);have b1:=ao.o C K.o.1;obtain⟨z0,br,bs,bt,bx,bY⟩:=eu p.o.1;have q0:C.cell? (aq t.tp 0)=some (aj t.hp):=aA K.o.2.2.2.2.1;have q1:C.cell? (aq t.tp 1)=some (aj t.bY):=(by simp[World.cell?,K.o.2.2.2.2.1]))
  |(go_at_call 68;refine b1.mono ?_;rintro e ch ⟨G2,rfl,b2,q⟩;have L:ay (_):=j.o.1.of o.o b0.o q b2 am.o an.o bd.o;have u:ay (_/\_/\¬m (f+1)/\¬G2 (f+1)):=⟨(q.fr.block f (lt_of_some p.o.1) (fun d=>by have:=j.o.2.2.2.1 f d;omega)).trans p.o.1,(q.fr.block (f+1) (lt_of_some p.o.2) (fun d=>by have:=j.o.2.2.2.1 (f+1) d;omega)).trans p.o.2,fun d=>(o.o.sub _ d).elim (fun d=>by have:=j.o.2.2.1 (f+1) d;omega) (fun d=>by have:=lt_of_some l.o.2;omega),fun d=>(q.sub _ d).elim (fun d=>by have:=j.o.2.2.2.1 (f+1) d;omega) (fun d=>by have:=lt_of_some p.o.2;omega)⟩;have ag:ay (_/\(∀b,m b->F b\/f<=b)/\(∀b,G2 b->G b\/f<=b)):=⟨(ar.o.trans o.o.fr (fun b d=>aK (aK d))).trans q.fr (fun b d=>aK (aJ (aK d))),fun b d=>(o.o.sub b d).imp id (fun d=>by have:=lt_of_some l.o.1;omega),fun b d=>(q.sub b d).imp id (fun d=>by have:=lt_of_some p.o.1;omega)⟩;obtain⟨u0,bi,bl,bn,bo,bp⟩:=eu u.o.1;obtain⟨v0,v1,_⟩:=L.o.cells))
 have b3:=KN L.o (by have:=bg.o;omega)
 go_wp2_with fail;refine b3.mono ?_;rintro e k ⟨rfl,M⟩
 have ai:ay (dA w1 c t m G2 Q U (i+1) i k):=L.o.below M;have b4:=hide ((M.block _ (lt_of_some u.o.2.1)).trans u.o.2.1)
 have H:=jp u.o.2.2.1 u.o.2.2.2 j.o.2.1 j.o.2.2.2.2;have N:=dq (ag.o.1.trans (Fr.of (X:=fun _=>False) M) (fun _ d=>d.elim)) ag.o.2;obtain⟨_,_,ci,_,_,cj⟩:=ai.o.cells;obtain⟨b5,b6,ck,cl⟩:k.cell? (aq (f+1) 0)=some (ah 0)/\k.cell? (aq (f+1) 1)=some (ah 0)/\k.frozen? (aq (f+1) 0)=false/\k.frozen? (aq (f+1) 1)=false:=by refine⟨?_,?_,?_,?_⟩<;>simp[World.cell?,World.frozen?,b4.o]
 have ne:¬t.tp=f+1:=by have:=H.o.2.2.2;omega
 have b7:¬f+1=t.tp:=V;go_wp2_with fail;obtain⟨s,x⟩:∃s,s=((k.setCell ⟨t.tp,2,none⟩ (.int .i64 ((i:Int)+1))).setCell ⟨f+1,0,none⟩ (.int .i64 0)).setCell ⟨f+1,1,none⟩ (.int .i64 0):=⟨_,rfl⟩
 rw[<-x];have v0:s.cell? (aq (f+1) 0)=some (ah 0):=by rw[x,a5 _ _ _ _ Z];exact bf _ _ _ ((a5 k ⟨t.tp,2,none⟩ ⟨f+1,0,none⟩ _ (fun e=>absurd (congrArg Addr.block e) ne)).trans b5)
 have v1:s.cell? (aq (f+1) 1)=some (ah 0):=by rw[x];exact bf _ _ _ ((a5 _ ⟨f+1,0,none⟩ ⟨f+1,1,none⟩ _ Z).trans ((a5 k ⟨t.tp,2,none⟩ ⟨f+1,1,none⟩ _ (fun e=>absurd (congrArg Addr.block e) ne)).trans b6))
 have b9:dA w1 c t m G2 Q U (i+1) (i+1) s:=by rw[x];exact ai.o.step (by have:=H.o.2.2.1;omega) H.o.1 H.o.2.1 b7
 have ca:Fr (fun b=>F b\/G b\/b=t.tp) w s:=by
  refine N.o.1.trans (Y:=fun b=>b=t.tp\/b=f+1) ?_ (fun b d=>d.elim (fun d=>aK (aJ (aJ d))) (fun d=>aJ (by have cb:=ab.o;omega)))
  rw[x];exact(((Fr.refl (fun b=>b=t.tp\/b=f+1) k).set t.tp 2 _ (aK rfl)).set (f+1) 0 _ (aJ rfl)).set (f+1) 1 _ (aJ rfl)
 have cc:∀b,m b->F b\/w.heap.size<=b:=fun b d=>(N.o.2.1 b d).imp id (fun d=>by have cb:=ab.o;omega)
 have ce:∀b,G2 b->G b\/w.heap.size<=b:=fun b d=>(N.o.2.2 b d).imp id (fun d=>by omega)
 refine a3 (v:=.tuple #[ah cd,.agg #[ah 0,ah 0]]) (by simp[results,results29,go_sem,v0,v1]) rfl ⟨m,G2,rfl,b9,ca,cc,ce⟩
theorem Bx (h:dA w1 c t F G S W i i w)(hg:∀T wt,e4 T wt->dR T wt (g T wt))(hi:i<=8000)(kd R A B I n:Int):
 Calls prog 29 #[aj t.tp,dK kd R A B I n] w fun e w'=>∃F' G',e=.returned (.tuple #[ah (W.ij g t.n t.o kd R A B I n).1,.agg #[ah 0,ah 0]])/\dA w1 c t F' G' (S.hd c kd R A B I n).2 (W.ij g t.n t.o kd R A B I n).2 (i+1) (i+1) w':=by
 refine(KP h hg hi kd R A B I n).mono ?_;rintro e w' ⟨F',G',rfl,b,_⟩
 exact⟨F',G',rfl,b⟩
end
theorem KQ (x y:Value)(w:ax):Sem.run prog (Instr.field 60 (.agg #[x,y]) 1) w=.ok y w:=by unfold Instr.field;simp[go_sem];rfl
theorem KR (g:gO):(g9 16 8).2.ij g ((16:Nat):Int) ((8:Nat):Int) 4 0 0 0 0 0=(0,⟨[(1,[(0,0),(0,0)],false,false)],[(3,0),(0,0),(0,0),(0,0),(0,0),(0,0),(0,0),(0,0),(0,0),(0,0),(0,0),(0,0)],[],[]⟩):=rfl
theorem By:(dU.ez [(1,[(0,0),(0,0)],false,false)] [] [(3,0),(0,0),(0,0),(0,0),(0,0),(0,0),(0,0),(0,0),(0,0),(0,0),(0,0),(0,0)]).2.2.length=1:=by decide+kernel
theorem vx (w:ax):Calls prog 27 #[] w fun e w'=>e=.returned (.bool true)/\Below w.heap.size w w':=by
 obtain⟨g,hg⟩:=AP;have bl:ay (∀T wt,e4 T wt->dR T wt (g T wt)):=hg;clear hg;go_enter func27,ntmps27;go_wp2_with fail;refine(Bw 16 8 w aa aa aa).mono ?_;rintro e w1 ⟨c,t,F,G,rfl,⟨tn,tm⟩,U⟩
 have v:=au w1 (.cells #[.int .i64 0,.int .i64 0] 28)
 have bn:ay (dA w c t F G (g9 16 8).1 (g9 16 8).2 0 0 (w1.alloc (.cells #[.int .i64 0,.int .i64 0] 28))):=U.below v;have P:=Bx (U.below v) bl.o aa 4 0 0 0 0 0;rw[tn,tm,KR] at P;clear U v tn tm;go_wp2_with fail;refine P.mono ?_;clear P;rintro e n ⟨l,G2,rfl,W⟩
 have v:=au n (.cells #[.int .i64 0,.int .i64 0] 28)
 generalize ((g9 16 8).1.hd c 4 0 0 0 0 0).2=m at*;obtain⟨x,o,X,Y,ar,I⟩:∃(x:List (Int×Int))(o:List (Int×List (Int×Int))),x.length=12/\o.length=1/\(∀nd∈o,nd.2.length<=20000)/\ay (∀w',dA w c t l G2 m ⟨[(1,[(0,0),(0,0)],false,false)],[(3,0),(0,0),(0,0),(0,0),(0,0),(0,0),(0,0),(0,0),(0,0),(0,0),(0,0),(0,0)],[],[]⟩ 1 1 w'->Calls prog 25 #[.pointer (some ⟨c.pw,0,none⟩)] w' fun e A=>∃j p J ab,e=.returned (.agg #[.slice j 12 p,.slice J 1 ab])/\dv A j x/\Ln A J o/\Below w'.heap.size w' A):=by
  obtain⟨b1,b2,b3⟩:=W.bd aa;refine⟨_,_,b1,By,b3,fun w' h=>?_⟩
  refine(h.Bv aa).mono ?_;rintro e A ⟨j,p,J,ab,rfl,q1,bo,q3⟩
  exact⟨j,p,J,ab,by rw[By],q1.1,bo.ln,q3⟩
 have bp:ay (∀(r1 j n1 K:Option Addr)(ad p ag L:Nat)(w':ax),dv w' r1 x->dv w' j x->Ln w' n1 o->Ln w' K o->Calls prog 30 #[.agg #[.slice r1 12 ad,.slice n1 1 ag],.agg #[.slice j 12 p,.slice K 1 L]] w' fun e A=>e=.returned (.bool true)/\Below w'.heap.size w' A):=fun r1 j n1 K ad p ag L w' br bs bt bx=>by have:=wL r1 j n1 K ad p ag L _ _ w' (by rw[X];decide) (by rw[Y];decide) (fun nd bY=>by have:=ar nd bY;omega) br bs bt bx;rwa [X,Y] at this
 have q:ay (dA w c t l G2 m ⟨[(1,[(0,0),(0,0)],false,false)],[(3,0),(0,0),(0,0),(0,0),(0,0),(0,0),(0,0),(0,0),(0,0),(0,0),(0,0),(0,0)],[],[]⟩ 1 1 (n.alloc (.cells #[.int .i64 0,.int .i64 0] 28))/\(n.alloc (.cells #[.int .i64 0,.int .i64 0] 28)).heap[n.heap.size]?=some (.cells #[ah 0,ah 0] 28 (0,0))):=⟨W.below v,aN _ _⟩
 generalize (⟨[(1,[(0,0),(0,0)],false,false)],[(3,0),(0,0),(0,0),(0,0),(0,0),(0,0),(0,0),(0,0),(0,0),(0,0),(0,0),(0,0)],[],[]⟩:ck)=B at*;clear W v X Y ar bn;have cf:=KQ
 go_upto_region 5 with fail
 generalize n.alloc (.cells #[.int .i64 0,.int .i64 0] 28)=M at*;generalize n.heap.size=b at*;have d:M.cell? ⟨b,0,none⟩=some (.int .i64 0):=by simp[World.cell?,q.o.2]
 obtain⟨f,_⟩:=q.o.1.cells;obtain⟨i,_⟩:=em q.o.1.g;have aB:=I.o M.drew (q.o.1.below bX.drew)
 go_region_held3 (fun w'=>w'.cell? (aq b 0)=some (ah 0)/\w'.cell? (aq t.tp 0)=some (aj t.hp)/\w'.cell? (aq t.hp 0)=some (aj c.pw)) (first|exact⟨d,f,i⟩|(go_keep;done)) (first
  |(go_at_call 25;refine aB.mono ?_;clear aB;rintro e N ⟨cg,L,n4,c4,rfl,bZ,b0,ai⟩;have s:ay ((dA w c t l G2 m B 1 1 N/\N.heap[b]?=some (.cells #[ah 0,ah 0] 28 (0,0)))):=⟨(q.o.1.below bX.drew).below ai,(((av M).drew.trans ai).block b (lt_of_some q.o.2)).trans q.o.2⟩;clear d f i;have d:N.cell? (aq b 0)=some (ah 0):=aA s.o.2;obtain⟨f,_⟩:=s.o.1.cells;obtain⟨i,_⟩:=em s.o.1.g;have aF:=I.o N s.o.1;clear bZ b0 ai)
  |(go_at_call 25;refine aF.mono ?_;clear aF;rintro e C ⟨aR,b4,aV,c5,rfl,a0,a1,al⟩;have k:ay ((dA w c t l G2 m B 1 1 C/\C.heap[b]?=some (.cells #[ah 0,ah 0] 28 (0,0)))/\dv C aR x/\Ln C aV o):=⟨⟨s.o.1.below al,(al.block b (lt_of_some s.o.2)).trans s.o.2⟩,a0,a1⟩;clear d f i;have d:C.cell? (aq b 0)=some (ah 0):=aA k.o.1.2;obtain⟨f,_⟩:=k.o.1.1.cells;obtain⟨i,_⟩:=em k.o.1.1.g;have a2:=I.o C k.o.1.1;clear a0 a1 al)
  |(go_at_call 25;refine a2.mono ?_;clear a2;rintro e O ⟨b5,b6,b7,b8,rfl,bb,bd,H⟩;have D:ay (dA w c t l G2 m B 1 1 O/\O.heap[b]?=some (.cells #[ah 0,ah 0] 28 (0,0))):=⟨k.o.1.1.below H,(H.block b (lt_of_some k.o.1.2)).trans k.o.1.2⟩;have be:=bp.o aR b5 aV b7 b4 b6 c5 b8 O (k.o.2.1.below H) bb (k.o.2.2.below H) bd;clear d f i;have d:O.cell? (aq b 0)=some (ah 0):=aA D.o.2;obtain⟨f,_⟩:=D.o.1.cells;obtain⟨i,_⟩:=em D.o.1.g;clear bb bd H)
  |(go_at_call 30;refine be.mono ?_;clear be;rintro e Q ⟨rfl,am⟩;have u:ay (dA w c t l G2 m B 1 1 Q/\Q.heap[b]?=some (.cells #[ah 0,ah 0] 28 (0,0))):=⟨D.o.1.below am,(am.block b (lt_of_some D.o.2)).trans D.o.2⟩;clear d f i;have d:Q.cell? (aq b 0)=some (ah 0):=aA u.o.2;obtain⟨f,_⟩:=u.o.1.cells;obtain⟨i,_⟩:=em u.o.1.g;have bg:=I.o Q u.o.1;clear am)
  |(go_at_call 25;refine bg.mono ?_;clear bg;rintro e R ⟨b9,ca,cb,cc,rfl,cd,ce,an⟩;have E:ay (dA w c t l G2 m B 1 1 R/\R.heap[b]?=some (.cells #[ah 0,ah 0] 28 (0,0))):=⟨u.o.1.below an,(an.block b (lt_of_some u.o.2)).trans u.o.2⟩;have bi:=CP b9 none cb none 12 0 1 0 ca 0 cc 0 R aa;clear d f i;have d:R.cell? (aq b 0)=some (ah 0):=aA E.o.2;obtain⟨f,_⟩:=E.o.1.cells;obtain⟨i,_⟩:=em E.o.1.g;clear cd ce an)
  |(go_at_call 30;refine bi.mono ?_;clear bi;rintro e ao ⟨rfl,ap⟩;have S:ay (dA w c t l G2 m B 1 1 ao/\ao.heap[b]?=some (.cells #[ah 0,ah 0] 28 (0,0))):=⟨E.o.1.below ap,(ap.block b (lt_of_some E.o.2)).trans E.o.2⟩;clear d f i;have d:ao.cell? (aq b 0)=some (ah 0):=aA S.o.2;obtain⟨f,_⟩:=S.o.1.cells;obtain⟨i,_⟩:=em S.o.1.g;clear ap))
 go_wp2_with fail;go_ret;exact⟨rfl,S.o.1.be⟩
open Go.ChangeShapes Go.WideShapes Go.ChangeAt Go.RowKit Go.Joins Go.Deep W cf
theorem KT:prog.cellsOf 44=6:=ae
theorem KU:prog.cellsOf 3=1:=ae
theorem KV:prog.cellsOf 2=1:=ae
structure S6 where
 k:Int
 R:Int
 A:Int
 B:Int
 I:Int
 n:Int
def kW:S6:=⟨0,0,0,0,0,0⟩
def im (a:Int):Prop:=-9223372036854775808<=a/\a<=9223372036854775807
structure C6 (w:ax)(b o:Nat)(s:S6):Prop where
 c0:w.cell? (aq b o)=some (ah s.k)
 c1:w.cell? (aq b (o+1))=some (ah s.R)
 c2:w.cell? (aq b (o+2))=some (ah s.A)
 c3:w.cell? (aq b (o+3))=some (ah s.B)
 c4:w.cell? (aq b (o+4))=some (ah s.I)
 c5:w.cell? (aq b (o+5))=some (ah s.n)
theorem C6.below {w w':ax}{b o B:Nat}{s:S6}(h:C6 w b o s)(hb:Below B w w')(hB:b<B):C6 w' b o s:=
 ⟨(hb.cell hB).trans h.c0,(hb.cell hB).trans h.c1,(hb.cell hB).trans h.c2,(hb.cell hB).trans h.c3,(hb.cell hB).trans h.c4,(hb.cell hB).trans h.c5⟩
def vy (w:ax)(ad:Option Addr)(l:List S6):Prop:=
 0<l.length->∃b o,ad=some ⟨b,o,none⟩/\b<w.heap.size/\∀i,i<l.length->C6 w b (o+i*6) (l.getD i kW)/\im (l.getD i kW).k/\im (l.getD i kW).R/\im (l.getD i kW).A/\im (l.getD i kW).B/\im (l.getD i kW).I/\im (l.getD i kW).n
theorem KW {c:Type}{b:List c}(h:b.length=6):∃c0 c1 c2 c3 c4 c5,b=[c0,c1,c2,c3,c4,c5]:=by
 match b,h with
 |[c0,c1,c2,c3,c4,c5],_=>exact⟨c0,c1,c2,c3,c4,c5,rfl⟩
theorem oE {a:Int}(h:(Lit.int .i64 a).wf=true):im a:=by
 have:IntKind.i64.min<=a/\a<=9223372036854775807:=by simpa[Lit.wf] using h
 exact⟨this.1,this.2⟩
theorem KX {H:Type}{enc:TypeId×Value->H}{W:ax}{sp:Nat->Bool}{q:Bool}{t:Nat}{b:List Value}{x:DataW H×List MemPlace}
 (u:DataW.trod enc prog W 0 sp q t 44 b=some x):∃s:S6,b=[.int .i64 s.k,.int .i64 s.R,.int .i64 s.A,.int .i64 s.B,.int .i64 s.I,.int .i64 s.n]/\im s.k/\im s.R/\im s.A/\im s.B/\im s.I/\im s.n:=by
 obtain⟨v,m,_,G,hl,w,hg⟩:=DataW.trod_struct underlying44 u;obtain⟨c0,c1,c2,c3,c4,c5,rfl⟩:=KW hl
 match v,w with
 |[J,y1,K,L,M,N],_=>
  have t0:=hg 0 _ rfl;have c:=hg 1 _ rfl;have d:=hg 2 _ rfl;have t3:=hg 3 _ rfl;have e:=hg 4 _ rfl;have f:=hg 5 _ rfl;simp[KU,KV] at t0 c d t3 e f;obtain⟨k,g,_,w0⟩:=DataW.trod_int underlying3 t0;obtain⟨R,i,_,w1⟩:=DataW.trod_int underlying3 c;obtain⟨A,j,_,C⟩:=DataW.trod_int underlying3 d;obtain⟨B,l,_,D⟩:=DataW.trod_int underlying3 t3;obtain⟨I,o,_,E⟩:=DataW.trod_int underlying3 e;obtain⟨n,p,_,F⟩:=DataW.trod_int underlying2 f;simp at g i j l o p;exact⟨⟨k,R,A,B,I,n⟩,by rw[g,i,j,l,o,p],oE w0,oE w1,oE C,oE D,oE E,oE F⟩
theorem KY {H:Type}{enc:TypeId×Value->H}{W:ax}{sp:Nat->Bool}{t:Bool}{u len cap:Nat}{ad:Option Addr}{x:DataW H×List MemPlace}
 (v:DataW.trod enc prog W 0 sp t u 36 [.slice ad len cap]=some x):∃l:List S6,l.length=len/\vy W ad l:=by
 rcases open_slice underlying36 v with⟨e,_⟩|⟨z,l,c,m,n,D,G,e,hb,hl,hm,w,_,A⟩
 ·simp at e;obtain⟨rfl,rfl,rfl⟩:=e;exact⟨[],rfl,fun h=>by simp at h⟩
 ·obtain⟨rfl,rfl,rfl⟩:=e;have I:len<=m:=by rw[w];split<;>omega
  have key:∀i,i<len->∃s:S6,(W.cell? (z.add (i*6))=some (ah s.k)/\W.cell? (z.add (i*6+1))=some (ah s.R)/\W.cell? (z.add (i*6+2))=some (ah s.A)/\W.cell? (z.add (i*6+3))=some (ah s.B)/\W.cell? (z.add (i*6+4))=some (ah s.I)/\W.cell? (z.add (i*6+5))=some (ah s.n))/\im s.k/\im s.R/\im s.A/\im s.B/\im s.I/\im s.n:=by
   intro i hi;obtain⟨J,f,B⟩:=A i V;rw[KT] at f;obtain⟨_,_,d⟩:=World.cells?_some f;obtain⟨s,rfl,hb⟩:=KX B;refine⟨s,⟨?_,?_,?_,?_,?_,?_⟩,hb⟩
   ·have:=d 0 V;rw[add_add] at this;simpa using this
   ·have:=d 1 V;rw[add_add] at this;simpa using this
   ·have:=d 2 V;rw[add_add] at this;simpa using this
   ·have:=d 3 V;rw[add_add] at this;simpa using this
   ·have:=d 4 V;rw[add_add] at this;simpa using this
   ·have:=d 5 V;rw[add_add] at this;simpa using this
  have:Inhabited S6:=⟨kW⟩
  obtain⟨S,g⟩:=choose_lt key;refine⟨(List.range len).map S,Z,fun hp=>?_⟩
  simp only [List.length_map,List.length_range] at hp⊢;obtain⟨b,o,C⟩:=z;have h0:=(g 0 hp).1.1;have E:C=none:=by simpa[Addr.add] using World.cell?_spot h0
  subst E;refine⟨b,o,rfl,aQ W (⟨b,o,none⟩:Addr) (by simpa[Addr.add] using h0),fun i hi=>?_⟩
  obtain⟨⟨k0,k1,k,p,q,k5⟩,k6⟩:=g i hi;have ea:∀j,(⟨b,o,none⟩:Addr).add j=⟨b,o+j,none⟩:=fun j=>by simp[Addr.add]
  rw[ea] at k0 k1 k p q k5;have F:((List.range len).map S).getD i kW=S i:=by simp[hi]
  rw[F];exact⟨⟨k0,by exact k1,by exact k,by exact p,by exact q,by exact k5⟩,k6⟩
namespace TSm
theorem walk (n o:Int)(a:Option Addr)(cc:Nat)(l:List S6)(w:ax)(hl:vy w a l):
 Calls prog 5 #[ah n,ah o,.slice a l.length cc] w fun e w'=>e=.returned (.bool true)/\Below w.heap.size w w':=by
 obtain⟨g,hg⟩:=AP;have O:ay (vy w a l):=hl;have Q:ay (∀T wt,e4 T wt->dR T wt (g T wt)):=hg;by_cases a2:300<l.length
 ·go_enter func5,ntmps5;go_wp2_with fail;refine(vx w).mono ?_;rintro e w1 ⟨rfl,k⟩
  have bb:(300:Int)<(l.length:Int):=V;go_wp2_with fail;go_ret;exact⟨rfl,k⟩
 ·by_cases R:n<16\/256<n\/o<0\/1024<o
  ·have H:ay (n<16\/256<n\/o<0\/1024<o):=R;go_enter func5,ntmps5;go_wp2_with fail;refine(vx w).mono ?_;rintro e w1 ⟨rfl,k⟩
   go_wp2_with fail;refine(KO n o w1 H.o).mono ?_;rintro e b ⟨rfl,U⟩
   have I:=k.trans (U.mono k.size)
   have p:=au b (.cells #[.int .i64 1,.int .i64 (-1)] 28)
   have J:ay (Below w.heap.size w (b.alloc (.cells #[.int .i64 1,.int .i64 (-1)] 28))):=I.trans (p.mono I.size)
   have q:ay ((b.alloc (.cells #[.int .i64 1,.int .i64 (-1)] 28)).heap[b.heap.size]?=some (.cells #[ah 1,ah (-1)] 28 (0,0))):=aN _ _;go_wp2_with fail;generalize b.alloc (.cells #[.int .i64 1,.int .i64 (-1)] 28)=s at*;generalize b.heap.size=d at*;refine(Kh n o s H.o).mono ?_;rintro e f ⟨rfl,m⟩
   have j:=(m.block d (lt_of_some q.o)).trans q.o;have K:=J.o.trans (m.mono J.o.size)
   have X:f.cell? (aq d 0)=some (ah 1):=aA j
   have Y:f.cell? (aq d 1)=some (ah (-1)):=aA j
   have ab:=lt_of_some j;have nx:d≠f.heap.size:=V;have ad:=K.alloc K.size (.cells #[.int .i64 1,.int .i64 (-1)] 28)
   go_wp2_with fail;go_ret;exact⟨rfl,ad⟩
  ·have bd:16<=n/\n<=256/\0<=o/\o<=1024:=V;obtain⟨n,rfl⟩:=Int.eq_ofNat_of_zero_le (show 0<=n by omega)
   obtain⟨o,rfl⟩:=Int.eq_ofNat_of_zero_le (show 0<=o by omega)
   have v:ay (16<=n/\n<=256/\o<=1024):=⟨V,V,V⟩
   have ag:ay (∀w',Calls prog 14 #[ah n,ah o] w' fun e ai=>e=.returned (.agg #[ah 0,ah 0])/\Below w'.heap.size w' ai):=fun w'=>Ke n o w' V V V V;go_enter func5,ntmps5;go_wp2_with fail;refine(vx w).mono ?_;rintro e w1 ⟨rfl,k⟩
   have u:ay (Below w.heap.size w w1):=k;go_wp2_with fail;refine(Bw n o w1 v.o.1 v.o.2.1 v.o.2.2).mono ?_;rintro e b ⟨c,t,L,M,rfl,_,al⟩
   have p:=au b (.cells #[.int .i64 0,.int .i64 0] 28)
   have am:ay (dA w1 c t L M (g9 n o).1 (g9 n o).2 0 0 (b.alloc (.cells #[.int .i64 0,.int .i64 0] 28))):=al.below p;have q:ay ((b.alloc (.cells #[.int .i64 0,.int .i64 0] 28)).heap[b.heap.size]?=some (.cells #[ah 0,ah 0] 28 (0,0))):=aN _ _;go_wp2_with fail;generalize b.alloc (.cells #[.int .i64 0,.int .i64 0] 28)=s at*;generalize b.heap.size=d at*;refine(ag.o s).mono ?_;rintro e f ⟨rfl,m⟩
   have j:=(m.block d (lt_of_some q.o)).trans q.o;have X:f.cell? (aq d 0)=some (ah 0):=aA j
   have Y:f.cell? (aq d 1)=some (ah 0):=aA j
   have ab:=lt_of_some j;have nx:d≠f.heap.size:=V;have an:Below s.heap.size s (f.alloc (.cells #[.int .i64 0,.int .i64 0] 28)):=m.alloc m.size _;have ao:=hide (am.o.below an)
   go_wp2_with fail;generalize f.alloc (.cells #[.int .i64 0,.int .i64 0] 28)=be at*
   go_loopw [10] (fun iv wr=>∃(i:Nat)(S:cq)(W:ck)(F G:Nat->Prop),i<=l.length/\iv=ah i/\ay (dA w1 c t F G S W i i wr)) (fun iv _=>l.length-(intOf iv).toNat)
   exact⟨0,(g9 n o).1,(g9 n o).2,L,M,aY _,rfl,ao⟩
   ·
     obtain⟨i,S,W,F,G,hi,rfl,x⟩:=hrel;by_cases ap:i<l.length
     ·obtain⟨bg,bi,ar,l0,hc⟩:=O.o V;obtain⟨aB,_⟩:=hc i ap;subst ar;have bl:(i:Int)<(l.length:Int):=V;generalize l.getD i kW=st at*;obtain⟨A,sR,B,C,D,sn⟩:=st;obtain⟨bn,y1,bo,bp,br,bs⟩:=aB.below (u.o.trans (x.o.be.mono u.o.size)) l0;have P:=Bx x.o Q.o V A sR B C D sn;generalize (S.hd c A sR B C D sn).2=aF at*;generalize W.ij g t.n t.o A sR B C D sn=E at*;obtain⟨cd,aR⟩:=E;go_wp2_with fail;refine P.mono ?_;rintro e N ⟨aV,G2,rfl,a0⟩
      have p:=au N (.cells #[.int .i64 0,.int .i64 0] 28)
      have a1:=hide (a0.below p)
      go_wp2_with fail;go_roundw;exact⟨i+1,aF,aR,aV,G2,V,af,a1⟩
      simp[intOf];omega
     ·obtain rfl:i=l.length:=V;go_wp2_with fail;go_ret;exact⟨rfl,u.o.trans (x.o.be.mono u.o.size)⟩
end TSm
end Go.Proofs.YtpkjkjhanlbcoaaGreat
