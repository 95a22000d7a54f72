import Derived.Test.YtjpjpjemibgjpaaGreatJ26
import Derived.Test.YtjpjpjemibgjpaaGreatJ22
import Derived.Test.YtjpjpjemibgjpaaGreatJ09
import Derived.Test.YtjpjpjemibgjpaaGreatJ05
import Derived.Test.YtjpjpjemibgjpaaGreatJ00
import Derived.Test.YtjpjpjemibgjpaaGreatJ01
import Derived.Test.YtjpjpjemibgjpaaGreatJ03
import Derived.Test.YtjpjpjemibgjpaaGreatJ04
import Derived.Test.YtjpjpjemibgjpaaGreatJ02
namespace Go.Proofs.YtjpjpjemibgjpaaGreat
set_option maxRecDepth 100000
set_option maxHeartbeats 2000000
open Tryz
open Go.RowKit W Kp bY
theorem zQ {p q N O y g:Nat}{ws:List Int}(w:World)(h:At w p q N O y g ws):
 Calls prog 104 #[af p] w fun e w'=>∃v1 v2,e=.returned (.tuple #[v1,v2])/\w'.ownsRow w.heap.size 3 1 v1 (dv N y g ws).length ((dv N y g ws).map (Value.int .i64))/\w'.ownsRow w.heap.size 3 1 v2 (c8 N y g ws).length ((c8 N y g ws).map (Value.int .i64))/\(∀b,some b=v1.ownBlock->some b≠v2.ownBlock)/\Below w.heap.size w w':=by
 obtain⟨c0,c1,c2,i,j,k,l⟩:=h.cells;have lp:=h.ee;have C:=h.ef;have k1:=h.hN';have D:=h.hy;have E:=h.hO;have F:=h.hg;go_enter func104,ntmps104;go_wp2_with fail;refine(rA 0 N y w.heap.size _ ((h.alloc _).alloc _) ((Below.heap_alloc _ _ _ V).trans (aw _ _)) I I I I I I).mono ?_;rintro e w1 ⟨rfl,v1,m,f,a⟩
 have n:At w1 p q N O y g ws:=((h.alloc _).alloc _).same (a.block p (by simp;omega) I) (a.block q (by simp;omega) I)
 have c:w1.heap[w.heap.size+1]?=some (.cells #[.slice none 0 0] 96 (0,0)):=(a.block (w.heap.size+1) V I).trans (oW _ V)
 have t:Hid (w1.heap[w.heap.size]?=some (.cells #[v1] 96 (0,0))):=m;have u:Hid (w1.heap[w.heap.size+1]?=some (.cells #[.slice none 0 0] 96 (0,0))):=c;have v:=a.size;simp only [World.size_alloc] at v;clear m c c0 c1 c2 i j k l;obtain⟨c0,c1,c2,i,j,k,l⟩:=n.cells;go_wp2_with fail;refine(rB N O g (w.heap.size+1) _ n u.out I I I I I I).mono ?_;rintro e o ⟨rfl,v2,c,s,d⟩
 have G:o.cell? (ah w.heap.size 0)=some v1:=by have:=(d.block w.heap.size I I).trans t.out;simp[World.cell?,this]
 have H:o.cell? (ah (w.heap.size+1) 0)=some v2:=by simp[World.cell?,c]
 have J:=d.size;clear c;go_wp2_with fail
 go_quiet (fail)
 go_wp2_with fail;go_ret2;have x:∀b,some b=v1.ownBlock->some b≠v2.ownBlock:=fun b e A=>by have q1:=(bR f b e).2;have K:=(bR s b A).1;omega
 simp only [World.size_alloc] at f a;have B:dv N y g ws=du N y g ws (0+(y:Int)) 2000 0:=by rw[Int.zero_add];rfl
 refine⟨v1,v2,rfl,?_,?_,x,?_⟩
 ·rw[B];exact i0 (jR (base:=w.heap.size+1+1) (rj f d bJ I) I) (below_drewN bK _)
 ·exact i0 (jR s I) (below_drewN bK _)
 ·exact below_drewN (((bK.alloc bJ _).alloc V _).trans ((a.below I bJ).trans (d.below I I))) _
theorem zR (f:Nat)(c:Array Value)(p:Int->Bool)(a:dQ f)(w:World):
 Calls prog 167 #[.slice none 0 0,.func (.func f) #[] c] w fun r w'=>r=.returned (.slice none 0 0)/\Below w.heap.size w w':=by
 have P:=tM f c p a w [] (fun w' x b _=>by cases b) none 0 V (fun h=>by simp at h)
 clear a;go_enter func167,ntmps167;go_wp2_with fail;refine P.mono ?_;clear P;rintro r w1 ⟨d,⟨rfl,_⟩|⟨g,_,e,_⟩⟩
 ·go_wp2_with fail;go_ret;exact⟨rfl,d⟩
 ·simp at e
theorem zS (f:Nat)(c:Array Value)(p:Int->Bool)(j:dQ f)(w:World)(l:List Int)(d:Option Addr)(a B:Nat)
 (hl:∀(w':World)(x:Int),x∈l->Fr (fun b=>some b=(Value.slice d l.length a).ownBlock) w w'->Calls prog f (#[ae x]++c) w' fun r m=>r=.returned (.bool (p x))/\Below w'.heap.size w' m)
 (hm:l.length<=100000)(k:w.ownsRow B 3 1 (.slice d l.length a) l.length (l.map (Value.int .i64))):
 Calls prog 167 #[.slice d l.length a,.func (.func f) #[] c] w fun r w'=>r=.returned (.slice d (dA p l).length a)/\w'.ownsRow B 3 1 (.slice d (dA p l).length a) (dA p l).length ((dA p l).map (Value.int .i64))/\Fr (fun b=>some b=(Value.slice d l.length a).ownBlock) w w':=by
 rcases k.2 with⟨i,o⟩|⟨g,t,u,i,_⟩
 ·have q:l=[]:=List.eq_nil_of_length_eq_zero o;subst q;simp at i;obtain⟨rfl,rfl⟩:=i;refine(zR f c p j w).mono ?_;rintro r w' ⟨rfl,s⟩
  exact⟨rfl,aO _ _ _ _,Fr.of s⟩
 ·simp at i;obtain⟨rfl,rfl⟩:=i;have e:∀n a,(fun b=>some b=(Value.slice (ag g) n a).ownBlock)=(fun b=>b=g):=fun n a=>by
   funext b
   simp[Value.ownBlock]
  rw[e] at hl⊢;exact zL f c p j w l g a B hl hm k
theorem tY {pk pw p q N O y g:Nat}{ws:List Int}(w:World)(k:At w p q N O y g ws)(c1:w.cell? (ah pk 0)=some (af pw))(c2:w.cell? (ah pw 0)=some (af p))(l:List Int)(d:Option Addr)(c B:Nat)(e:Int)(hl:l.length<=100000)(E:∀x∈l,0<=x/\x<=100000)
 (i:w.ownsRow B 3 1 (.slice d l.length c) l.length (l.map (Value.int .i64)))(hB:pk<B/\pw<B/\p<B/\q<B):
 Calls prog 107 #[af pk,.slice d l.length c,ae e] w fun r w'=>r=.returned (.slice d (dA (fun x=>decide (e<=x+pf (ld N y g ws x))) l).length c)/\w'.ownsRow B 3 1 (.slice d (dA (fun x=>decide (e<=x+pf (ld N y g ws x))) l).length c) (dA (fun x=>decide (e<=x+pf (ld N y g ws x))) l).length ((dA (fun x=>decide (e<=x+pf (ld N y g ws x))) l).map (Value.int .i64))/\Fr (fun b=>some b=(Value.slice d l.length c).ownBlock) w w':=by
 have M:∀(o:Fn)(first c:Array Value)(w:World),(Instr.makeFunc o first c).run prog w=.ok (.func o first c) w:=fun _ _ _ _=>rfl;obtain⟨W,f⟩:∃W,W=(w.alloc (.cells #[.pointer (some ⟨pk,0,none⟩)] 112)).alloc (.cells #[.int .i64 e] 3):=⟨_,rfl⟩
 have m:Below w.heap.size w W:=by rw[f];exact((Below.refl _ w).alloc bJ _).alloc V _
 have s:W.heap[w.heap.size]?=some (.cells #[af pk] 112 (0,0)):=by rw[f,Below.heap_alloc _ _ _ V];exact aw _ _
 have t:W.heap[w.heap.size+1]?=some (.cells #[ae e] 3 (0,0)):=by rw[f];simpa using aw (w.alloc (.cells #[.pointer (some ⟨pk,0,none⟩)] 112)) (.cells #[ae e] 3)
 have lk:=au w _ c1;have lw:=au w _ c2;have lp:=k.ee;have u:=k.ef;have F:W.heap.size=w.heap.size+2:=by rw[f];simp
 have v:W.ownsRow B 3 1 (.slice d l.length c) l.length (l.map (Value.int .i64)):=ca i (fun b e=>m.block b (bR i b e).2)
 have P:=zS 168 #[af w.heap.size,af (w.heap.size+1)] (fun x=>decide (e<=x+pf (ld N y g ws x))) zJ W l d c B (fun w' x G j=>by
  have A:∀b,some b=(Value.slice d l.length c).ownBlock->B<=b/\b<w.heap.size:=fun b e=>bR i b e;have k0:∀b,b<B->b<w.heap.size->w'.heap[b]?=w.heap[b]?:=fun b H n=>(j.block b I (fun e=>by have:=(A b e).1;omega)).trans (m.block b n)
  have k1:∀b,w.heap.size<=b->b<W.heap.size->w'.heap[b]?=W.heap[b]?:=fun b H n=>j.block b n (fun e=>by have:=(A b e).2;omega)
  have J:=(k1 w.heap.size bJ I).trans s;have y1:=(k1 (w.heap.size+1) I I).trans t;exact zK w' (k.same (k0 p hB.2.2.1 lp) (k0 q hB.2.2.2 u)) (by simp[World.cell?,J]) ((aD (a:=⟨pk,0,none⟩) (k0 pk hB.1 lk)).trans c1) ((aD (a:=⟨pw,0,none⟩) (k0 pw hB.2.1 lw)).trans c2) (by simp[World.cell?,y1]) x (E x G)) hl v
 have K:Hid (Below w.heap.size w W/\∀b,some b=(Value.slice d l.length c).ownBlock->b<w.heap.size):=⟨m,fun b e=>(bR i b e).2⟩
 have L:Hid (W=(w.alloc (.cells #[.pointer (some ⟨pk,0,none⟩)] 112)).alloc (.cells #[.int .i64 e] 3)):=f;clear k i v s t m F f lk lw lp u c1 c2;generalize (fun x=>decide (e<=x+pf (ld N y g ws x)))=pp at P⊢;go_enter func107,ntmps107;go_wp2_with fail;rw[<-L.out];refine P.mono ?_;clear P;rintro r w1 ⟨rfl,C,j⟩
 have D:Hid (w1.ownsRow B 3 1 (.slice d (dA pp l).length c) (dA pp l).length ((dA pp l).map (Value.int .i64))/\Fr (fun b=>some b=(Value.slice d l.length c).ownBlock) w w1):=⟨C,(Fr.of K.out.1).trans j (fun b e=>ap e)⟩
 clear C j;go_wp2_with fail;go_ret;exact⟨rfl,D.out.1,D.out.2⟩
theorem zT (w:World)(pk:Nat)(G Y:List Int)(c d:Option Addr)(gc f:Nat)(k:w.cell? (ah pk 1)=some (.slice d Y.length f))(o:w.cell? (ah pk 2)=some (.slice c G.length gc))(yr:w.ownsRow 0 3 1 (.slice d Y.length f) Y.length (Y.map (Value.int .i64)))(gr:w.ownsRow 0 3 1 (.slice c G.length gc) G.length (G.map (Value.int .i64)))(hl:G.length+Y.length<=4000):
 Calls prog 108 #[af pk] w fun e w'=>∃a g,e=.returned (.slice a (G.length+Y.length) g)/\w'.ownsRow w.heap.size 3 1 (.slice a (G.length+Y.length) g) (G.length+Y.length) ((G++Y).map (Value.int .i64))/\Below w.heap.size w w':=by
 have lk:=au w _ k;have q:=(Below.refl w.drew.heap.size w.drew).alloc bJ (.cells #[.slice c G.length gc,.slice d Y.length f] 96)
 have i:Below w.heap.size w (w.drew.alloc (.cells #[.slice c G.length gc,.slice d Y.length f] 96)):=(Below.refl w.heap.size w).drew.trans (q.mono bJ)
 have l:=aw w.drew (.cells #[.slice c G.length gc,.slice d Y.length f] 96)
 have P:=tC (w.drew.alloc (.cells #[.slice c G.length gc,.slice d Y.length f] 96)) w.heap.size G Y c d gc f (by simp only [World.cell?];rw[show w.heap.size=w.drew.heap.size from rfl,l];rfl) (by simp only [World.cell?];rw[show w.heap.size=w.drew.heap.size from rfl,l];rfl) (ca gr (fun b e=>i.block b (bR gr b e).2)) (ca yr (fun b e=>i.block b (bR yr b e).2)) I;have m:Hid (Below w.heap.size w (w.drew.alloc (.cells #[.slice c G.length gc,.slice d Y.length f] 96))):=i;clear yr gr q l i;go_enter func108,ntmps108;go_wp2_with fail
 go_region_held3 (fun w'=>w'.cell? (ah pk 1)=some (.slice d Y.length f)/\w'.cell? (ah pk 2)=some (.slice c G.length gc)) (go_keep)
  (first
    |(go_at_call 169;refine P.mono ?_;clear P;rintro e w3 ⟨a,g,rfl,n,s⟩;have j:=m.out.trans (s.mono m.out.size);have y1:=(j.cell (p:=ah pk 1) lk).trans k;have u:=(j.cell (p:=ah pk 2) lk).trans o;have t:Hid (w3.ownsRow w.heap.size 3 1 (.slice a (G.length+Y.length) g) (G.length+Y.length) ((G++Y).map (Value.int .i64))/\Below w.heap.size w w3):=⟨d5 n (fun b e=>az m.out.size (bR n b e).1),j⟩;clear n s j))
 clear y1 u k o;go_wp2_with fail;go_ret;exact⟨a,g,rfl,t.out.1,t.out.2⟩
structure gS (w:World)(p:Nat)(a0:Option Addr)(k0:Nat)(a1:Option Addr)(k1:Nat)(r q:List bN):Prop where
 blk:w.heap[p]?=some (.cells #[.slice a0 r.length k0,.slice a1 q.length k1] 128 (0,0))
 r0:w.ownsRow 0 83 2 (.slice a0 r.length k0) r.length (ev r)
 q0:w.ownsRow 0 83 2 (.slice a1 q.length k1) q.length (ev q)
theorem pX {w:World}{base:Nat}{e:TypeId}{b:Option Addr}{c:Nat}{l:List bN}(h:w.ownsRow base e 2 (.slice b l.length c) l.length (ev l)):gq w b l c:=by
 refine⟨fR h,?_,?_⟩
 ·rcases h.2 with⟨a,h0⟩|⟨g,d,f,a,_,_,hc,_⟩
  ·omega
  ·simp at a;omega
 ·intro i;rcases h.2 with⟨a,h0⟩|⟨g,d,f,a,_⟩
  ·simp at a;exact⟨h0,a.2.2⟩
  ·rw[i] at a;simp at a
theorem gS.keep {w w':World}{p:Nat}{a a1:Option Addr}{k0 k1:Nat}{r q:List bN}(h:gS w p a k0 a1 k1 r q)(b:w'.heap[p]?=w.heap[p]?)(c:∀k,some k=(Value.slice a r.length k0).ownBlock->w'.heap[k]?=w.heap[k]?)(d:∀k,some k=(Value.slice a1 q.length k1).ownBlock->w'.heap[k]?=w.heap[k]?):gS w' p a k0 a1 k1 r q:=
 ⟨b.trans h.blk,ca h.r0 c,ca h.q0 d⟩
theorem gS.below {w w':World}{p:Nat}{b a1:Option Addr}{k0 k1:Nat}{r q:List bN}(h:gS w p b k0 a1 k1 r q)(a:Below w.heap.size w w'):gS w' p b k0 a1 k1 r q:=
 h.keep (a.block p (lt_of_some h.blk)) (fun k e=>a.block k (bR h.r0 k e).2) (fun k e=>a.block k (bR h.q0 k e).2)
theorem gS.np {w:World}{p:Nat}{a a1:Option Addr}{k0 k1:Nat}{r q:List bN}(h:gS w p a k0 a1 k1 r q){b n:Nat}{v:Value}{l:List Value}(c:w.ownsRow b 83 2 v n l):∀k,some k=v.ownBlock->k≠p:=by intro k e d;obtain⟨f,hc⟩:=dO c k e;rw[d,h.blk] at hc;simp at hc
def g5 (n:Nat):Bool:=decide (24<=n)
theorem tZ {n:Nat}(h:24<=n):g5 n=true:=by simp[g5,h]
theorem t1 {n:Nat}(h:¬24<=n):g5 n=false:=by simp[g5,h]
theorem zU {n0 n1:Nat}(h0:n0<=100000)(a:n1<=100000):Hid (decide ((24:Int)<=IntKind.i64.wrap ((n0:Int)+(n1:Int)))=g5 (n0+n1)):=by
 show _=_;rw[show IntKind.i64.wrap ((n0:Int)+(n1:Int))=(n0:Int)+n1 by rw[a_];omega];unfold g5;by_cases h:24<=n0+n1
 ·rw[a8 h,a8 I]
 ·rw[aZ h,aZ I]
theorem t2 (w:World)(p:Nat)(a a1:Option Addr)(n0 k0 n1 k1:Nat)(h:w.heap[p]?=some (.cells #[.slice a n0 k0,.slice a1 n1 k1] 128 (0,0)))(h0:n0<=100000)(b:n1<=100000):
 Calls prog 78 #[af p] w fun e w'=>e=.returned (.bool (g5 (n0+n1)))/\Below w.heap.size w w':=by
 have c0:w.cell? (ah p 0)=some (.slice a n0 k0):=by simp[World.cell?,h]
 have c1:w.cell? (ah p 1)=some (.slice a1 n1 k1):=by simp[World.cell?,h]
 clear h;have c:=zU h0 b;go_enter func78,ntmps78;go_wp2_with fail
 go_region_held3 (fun w'=>w'.cell? (ah p 0)=some (.slice a n0 k0)/\w'.cell? (ah p 1)=some (.slice a1 n1 k1)) (go_keep) (fail)
 go_wp2_with fail;go_ret;exact⟨by rw[<-c.out];rfl,bK.drew⟩
theorem gS.cells {w:World}{p:Nat}{a a1:Option Addr}{k0 k1:Nat}{r q:List bN}(h:gS w p a k0 a1 k1 r q):w.cell? (ah p 0)=some (.slice a r.length k0)/\w.cell? (ah p 1)=some (.slice a1 q.length k1)/\w.frozen? (ah p 0)=false/\w.frozen? (ah p 1)=false/\p<w.heap.size:=
 ⟨by simp[World.cell?,h.blk],by simp[World.cell?,h.blk],by simp[World.frozen?,h.blk],by simp[World.frozen?,h.blk],lt_of_some h.blk⟩
theorem zV {w:World}{p:Nat}{x y v:Value}{T:TypeId}(h:w.heap[p]?=some (.cells #[x,y] T (0,0))):(w.setCell ⟨p,0,none⟩ v).heap[p]?=some (.cells #[v,y] T (0,0)):=by simp only [World.setCell,Array.getElem?_modify,if_true,h,Option.map_some];simp
theorem zW (w:World)(p:Nat)(b a1:Option Addr)(k0 k1:Nat)(r q:List bN)(g z:Int)(h:gS w p b k0 a1 k1 r q)(h0:r.length<=90000)(C:q.length<=90000):
 Calls prog 32 #[af p,.agg #[ae g,ae z]] w fun e w'=>e=.returned (.bool (!g5 (r.length+q.length)))/\
  ((24<=r.length+q.length/\Below w.heap.size w w')\/(¬24<=r.length+q.length/\∃b1 c1,gS w' p (ag b1) c1 a1 k1 (r++[(g,z)]) q/\w.heap.size<=b1/\Fr (fun k=>k=p) w w')):=by
 obtain⟨c0,c1,t,D,lp⟩:=h.cells;have H:Hid (gS w p b k0 a1 k1 r q):=h;have f:=(Below.refl w.heap.size w).alloc bJ (.cells #[ae g,ae z] 83)
 have u:Hid (gq w b r k0):=pX h.r0;by_cases c:24<=r.length+q.length
 ·rw[tZ c];clear h;go_enter func32,ntmps32;go_wp2_with fail;refine(t2 _ p b a1 r.length k0 q.length k1 ((f.block p lp).trans H.out.blk) I I).mono ?_;rintro e w1 ⟨rfl,a⟩
  rw[tZ c];have d:=f.trans (a.mono V)
  go_wp2_with fail;go_ret;exact⟨rfl,ap ⟨c,d⟩⟩
 ·rw[t1 c];clear h;go_enter func32,ntmps32;go_wp2_with fail;refine(t2 _ p b a1 r.length k0 q.length k1 ((f.block p lp).trans H.out.blk) I I).mono ?_;rintro e w1 ⟨rfl,a⟩
  rw[t1 c];have d:=f.trans (a.mono V)
  have E:w.heap.size<w1.heap.size:=by have:=a.size;simp at this;omega
  have F:w1.cell? (ah w.heap.size 0)=some (ae g):=(a.cell V).trans V;have y1:w1.cell? (ah w.heap.size 1)=some (ae z):=(a.cell V).trans V;have v:=(d.cell (p:=ah p 0) lp).trans c0;have x:=(d.frozen (p:=ah p 0) lp).trans t;have n:p<w1.heap.size:=I;have A:=u.out.below d;clear a f;go_wp2_with fail
  go_region_with (go_at_call 79;refine(q4 _ b r k0 g z (A.below (bK.drew)) I).mono ?_;rintro e i ⟨b1,fD,rfl,l,m⟩;have G:=(m.cell (p:=ah p 0) n).trans v;have J:=(m.frozen (p:=ah p 0) n).trans x)
  all_goals
   go_wp2_with fail;go_ret;refine⟨rfl,an ⟨c,b1,fD,?_⟩⟩
   have o:Below w.heap.size w i:=d.drew.trans (m.mono (by simp;omega))
   have lb:w1.heap.size<=b1:=(bR l b1 rfl).1;have j:=H.out.below o;have B:Fr (fun k=>k=p) w (i.setCell ⟨p,0,none⟩ (.slice (some ⟨b1,0,none⟩) (r.length+1) fD)):=(Fr.of o).set p 0 _ rfl;have s:∀k,k≠p->(i.setCell ⟨p,0,none⟩ (.slice (some ⟨b1,0,none⟩) (r.length+1) fD)).heap[k]?=i.heap[k]?:=fun k hk=>Below.heap_setCell _ _ _ _ hk;refine⟨⟨by simpa using zV j.blk,?_,ca j.q0 (fun k e=>s k (j.np j.q0 k e))⟩,I,B⟩
   have:=d5 (base':=0) (ca (w':=i.setCell ⟨p,0,none⟩ (.slice (some ⟨b1,0,none⟩) (r.length+1) fD)) l (fun k e=>s k (j.np l k e))) (fun _ _=>aA _)
   simpa using this
theorem zX (w:World)(p:Nat)(d a1:Option Addr)(k0 k1:Nat)(r q:List bN)(h:gS w p d k0 a1 k1 r q)(h0:r.length<=90000)(D:q.length<=90000):
 Calls prog 106 #[af p] w fun e w'=>∃g b0 c0 b1 c1,e=.returned (af g)/\w.heap.size<=g/\gS w' g b0 c0 b1 c1 r q/\(∀z,b0=some z->w.heap.size<=z.block)/\(∀z,b1=some z->w.heap.size<=z.block)/\(∀k,some k=(Value.slice b0 r.length c0).ownBlock->some k≠(Value.slice b1 q.length c1).ownBlock)/\Below w.heap.size w w':=by
 obtain⟨c0,c1,m,n,lp⟩:=h.cells;have o:Hid (gq w d r k0):=pX h.r0;have s:Hid (gq w a1 q k1):=pX h.q0;clear h m n;go_enter func106,ntmps106;go_wp2_with fail;have hd:=(Below.refl w.heap.size w).drew
 go_region_held3 (fun w'=>w'.cell? (ah p 0)=some (.slice d r.length k0)/\w'.cell? (ah p 1)=some (.slice a1 q.length k1)) (first|exact⟨c0,c1⟩|exact⟨u0,j⟩|exact⟨v0,v1⟩|go_keep)
  (first
    |(have E:=a;go_at_call 166;refine(oS _ a1 q k1 (s.out.below a) I).mono ?_;rintro e t ⟨u,v,rfl,i,c⟩;have l:=c.size;have v0:=(c.cell (p:=ah p 0) (av lp b)).trans u0;have v1:=(c.cell (p:=ah p 1) (av lp b)).trans j)
    |(go_at_call 166;refine(oS _ d r k0 (o.out.below hd) I).mono ?_;rintro e w3 ⟨x,A,rfl,f,B⟩;have a:Below w.heap.size w w3:=hd.trans B;have b:=a.size;have u0:=(a.cell (p:=ah p 0) lp).trans c0;have j:=(a.cell (p:=ah p 1) lp).trans c1))
 go_wp2_with fail;go_ret;refine⟨t.heap.size,x,A,u,v,rfl,az b l,⟨aw _ _,d5 (fC (ca f (fun k e=>c.block k (bR f k e).2)) _) (fun _ _=>aA _),d5 (fC i _) (fun _ _=>aA _)⟩,fun z e=>(bR f z.block (by rw[e];rfl)).1,fun z e=>az b (bR i z.block (by rw[e];rfl)).1,fun k e C=>?_,(a.trans (c.mono b)).alloc (az b l) _⟩
 have q1:=(bR f k e).2;have F:=(bR i k C).1;omega
abbrev t4 (a:Wc)(bW ps:Nat)(yv ov:Value):Obj:=.cells #[af a.pw,yv,ov,.map (some bW),af ps,.slice none 0 0,.slice none 0 0] 115 (0,0)
structure eC (a:Wc)(S:bZ)(w:World)(pk bW ps:Nat)(b0:Option Addr)(d0:Nat)(b1:Option Addr)(d1:Nat)(yv ov:Value)(T:List Int)(w':World):Prop where
 bl:Below w.heap.size w w'
 cb:w'.heap[pk]?=some (t4 a bW ps yv ov)
 sd:gS w' ps b0 d0 b1 d1 S.r S.q
 mp:Mp w' bW T (fun _=>-1)
 iS:w.heap.size=bW
 hZ:bW<ps
 pp:ps<pk
 l0:∀k,some k=(Value.slice b0 S.r.length d0).ownBlock->bW<k/\k<pk
 l1:∀k,some k=(Value.slice b1 S.q.length d1).ownBlock->bW<k/\k<pk
 ln:∀k,some k=(Value.slice b0 S.r.length d0).ownBlock->some k≠(Value.slice b1 S.q.length d1).ownBlock
section
variable {a:Wc}{S:bZ}{w w' w'':World}{pk bW ps:Nat}{b0 b1:Option Addr}{d0 d1:Nat}{yv ov:Value}{T:List Int}
theorem eC.fr {X:Nat->Prop}(h:eC a S w pk bW ps b0 d0 b1 d1 yv ov T w')(f:Fr X w' w'')(d:∀b,X b->pk<b):eC a S w pk bW ps b0 d0 b1 d1 yv ov T w'':=by
 have i:=h.iS;have j:=h.hZ;have k:=h.pp;have l:=lt_of_some h.cb;have hk:∀b,b<=pk->w''.heap[b]?=w'.heap[b]?:=fun b c=>f.block b I (fun g=>by have:=d b g;omega)
 exact {
  bl:=⟨f.os.trans h.bl.os,f.tape.trans h.bl.tape,f.output.trans h.bl.output,az h.bl.size f.size,fun b c=>(hk b I).trans (h.bl.block b c)⟩
  cb:=(hk pk bJ).trans h.cb
  sd:=⟨(hk ps I).trans h.sd.blk,ca h.sd.r0 (fun b e=>hk b (by have:=(h.l0 b e).2;omega)),ca h.sd.q0 (fun b e=>hk b (by have:=(h.l1 b e).2;omega))⟩
  mp:=h.mp.same (hk bW I)
  iS:=h.iS,hZ:=h.hZ,pp:=h.pp,l0:=h.l0,l1:=h.l1,ln:=h.ln}
theorem eC.below (h:eC a S w pk bW ps b0 d0 b1 d1 yv ov T w')(f:Below w'.heap.size w' w''):eC a S w pk bW ps b0 d0 b1 d1 yv ov T w'':=h.fr (Fr.of (X:=fun _=>False) f) (fun _ b=>b.elim)
theorem eC.set (h:eC a S w pk bW ps b0 d0 b1 d1 yv ov T w')(i:Nat)(v:Value){c d:Value}(e:(w'.setCell ⟨pk,i,none⟩ v).heap[pk]?=some (t4 a bW ps c d)):eC a S w pk bW ps b0 d0 b1 d1 c d T (w'.setCell ⟨pk,i,none⟩ v):=by
 have j:=h.iS;have k:=h.hZ;have l:=h.pp;have f:Fr (fun b=>b=pk) w' (w'.setCell ⟨pk,i,none⟩ v):=(Fr.refl _ w').set pk i v rfl;have hk:∀b,b<pk->(w'.setCell ⟨pk,i,none⟩ v).heap[b]?=w'.heap[b]?:=fun b g=>f.block b (by have:=lt_of_some h.cb;omega) (fun m=>by omega)
 exact {
  bl:=⟨f.os.trans h.bl.os,f.tape.trans h.bl.tape,f.output.trans h.bl.output,az h.bl.size f.size,fun b g=>(hk b I).trans (h.bl.block b g)⟩
  cb:=e
  sd:=⟨(hk ps I).trans h.sd.blk,ca h.sd.r0 (fun b e=>hk b (h.l0 b e).2),ca h.sd.q0 (fun b e=>hk b (h.l1 b e).2)⟩
  mp:=h.mp.same (hk bW I)
  iS:=h.iS,hZ:=h.hZ,pp:=h.pp,l0:=h.l0,l1:=h.l1,ln:=h.ln}
theorem eC.set1 (h:eC a S w pk bW ps b0 d0 b1 d1 yv ov T w')(v:Value):eC a S w pk bW ps b0 d0 b1 d1 v ov T (w'.setCell ⟨pk,1,none⟩ v):=h.set 1 v (by simp only [World.setCell,Array.getElem?_modify,if_true,h.cb,Option.map_some];simp)
theorem eC.set2 (h:eC a S w pk bW ps b0 d0 b1 d1 yv ov T w')(v:Value):eC a S w pk bW ps b0 d0 b1 d1 yv v T (w'.setCell ⟨pk,2,none⟩ v):=h.set 2 v (by simp only [World.setCell,Array.getElem?_modify,if_true,h.cb,Option.map_some];simp)
theorem eC.add {x:Int}(h:eC a S w pk bW ps b0 d0 b1 d1 yv ov T w')(f:Fr (fun b=>b=bW) w' w'')(hm:Mp w'' bW (T++[x]) (fun _=>-1)):eC a S w pk bW ps b0 d0 b1 d1 yv ov (T++[x]) w'':=by
 have i:=h.iS;have j:=h.hZ;have k:=h.pp;have l:=lt_of_some h.cb;have hk:∀b,b<=pk->b≠bW->w''.heap[b]?=w'.heap[b]?:=fun b c d=>f.block b I (fun g=>d g)
 exact {
  bl:=⟨f.os.trans h.bl.os,f.tape.trans h.bl.tape,f.output.trans h.bl.output,az h.bl.size f.size,fun b c=>(hk b I I).trans (h.bl.block b c)⟩
  cb:=(hk pk bJ I).trans h.cb
  sd:=⟨(hk ps I I).trans h.sd.blk,ca h.sd.r0 (fun b e=>hk b (by have:=(h.l0 b e).2;omega) (by have:=(h.l0 b e).1;omega)),ca h.sd.q0 (fun b e=>hk b (by have:=(h.l1 b e).2;omega) (by have:=(h.l1 b e).1;omega))⟩
  mp:=hm
  iS:=h.iS,hZ:=h.hZ,pp:=h.pp,l0:=h.l0,l1:=h.l1,ln:=h.ln}
theorem eC.cells (h:eC a S w pk bW ps b0 d0 b1 d1 yv ov T w'):w'.cell? (ah pk 0)=some (af a.pw)/\w'.cell? (ah pk 1)=some yv/\w'.cell? (ah pk 2)=some ov/\w'.cell? (ah pk 3)=some (.map (some bW))/\(∀i,w'.frozen? (ah pk i)=false)/\pk<w'.heap.size:=by
 have b:=h.cb;refine⟨?_,?_,?_,?_,fun i=>?_,lt_of_some b⟩
 all_goals first|simp[World.cell?,b]|simp[World.frozen?,b]
theorem eC.done {f:Nat->Prop}{g i:Option Addr}{j gc:Nat}(hw:(dD a).J f S.s w)(x:cu (S.s.j0 a) dw)(h:eC a S w pk bW ps b0 d0 b1 d1 (.slice g (S.s.j0 a).Y.length j) (.slice i (S.s.j0 a).G.length gc) (S.s.j0 a).T w')
 (yr:w'.ownsRow (pk+1) 3 1 (.slice g (S.s.j0 a).Y.length j) (S.s.j0 a).Y.length ((S.s.j0 a).Y.map (Value.int .i64)))(gr:w'.ownsRow (pk+1) 3 1 (.slice i (S.s.j0 a).G.length gc) (S.s.j0 a).G.length ((S.s.j0 a).G.map (Value.int .i64)))(A:∀b,some b=(Value.slice g (S.s.j0 a).Y.length j).ownBlock->some b≠(Value.slice i (S.s.j0 a).G.length gc).ownBlock):
 ∃p,(cA (cZ ⟨pk,bW,ps,.slice g (S.s.j0 a).Y.length j,.slice i (S.s.j0 a).G.length gc⟩ (S.s.j0 a)) ps (.slice b0 S.r.length d0)).J p (dw,S.q) w'/\(∀b,some b=(Value.slice b0 S.r.length d0).ownBlock->¬p b/\w.heap.size<=b)/\(∀b,p b->f b\/w.heap.size<=b):=by
 have J:=h.iS;have m1:=h.hZ;have K:=h.pp;have lk:=lt_of_some h.cb;have s:=(dD a).lt hw
 classical
 obtain⟨own,l⟩:∃own:Nat->Nat,own=fun b=>if f b then 1 else if b=pk then 5 else if b=bW then 6 else if some b=(Value.slice g (S.s.j0 a).Y.length j).ownBlock then 9 else if some b=(Value.slice i (S.s.j0 a).G.length gc).ownBlock then 10 else 0:=⟨_,rfl⟩
 have m:∀b,w.heap.size<=b->¬f b:=fun b d c=>by have:=s b c;omega
 have o1:∀b,f b↔own b=1:=fun b=>by
  rw[l];dsimp only;by_cases c:f b
  ·simp[c]
  ·rw[ao c];refine⟨fun e=>absurd e c,fun e=>?_⟩
   split at e
   ·omega
   ·split at e
    ·omega
    ·split at e
     ·omega
     ·split at e<;>omega
 have ok:own pk=5:=by rw[l];dsimp only;rw[ao (m pk I),aq rfl]
 have B:own bW=6:=by rw[l];dsimp only;rw[ao (m bW I),ao I,aq rfl]
 have C:∀b,some b=(Value.slice g (S.s.j0 a).Y.length j).ownBlock->own b=9:=fun b e=>by have q:=(bR yr b e).1;rw[l];dsimp only;rw[ao (m b I),ao I,ao I,aq e]
 have D:∀b,some b=(Value.slice i (S.s.j0 a).G.length gc).ownBlock->own b=10:=fun b e=>by have q:=(bR gr b e).1;rw[l];dsimp only;rw[ao (m b I),ao I,ao I,ao (fun o=>A b o e),aq e]
 have n:∀b,own b≠0->b<w'.heap.size/\(f b\/b=pk\/b=bW\/pk<b):=fun b d=>by
  rw[l] at d;dsimp only at d;by_cases c:f b
  ·have:=s b c;have:=h.bl.size;exact⟨I,ap c⟩
  ·rw[ao c] at d;by_cases t:b=pk
   ·exact⟨I,an (ap t)⟩
   ·rw[ao t] at d;by_cases o:b=bW
    ·exact⟨I,an (an (ap o))⟩
    ·rw[ao o] at d;by_cases u:some b=(Value.slice g (S.s.j0 a).Y.length j).ownBlock
     ·have:=bR yr b u;exact⟨this.2,an (an (an I))⟩
     ·rw[ao u] at d;by_cases v:some b=(Value.slice i (S.s.j0 a).G.length gc).ownBlock
      ·have:=bR gr b v;exact⟨this.2,an (an (an I))⟩
      ·rw[ao v] at d;exact absurd rfl d
 clear l;have E:(cZ ⟨pk,bW,ps,.slice g (S.s.j0 a).Y.length j,.slice i (S.s.j0 a).G.length gc⟩ (S.s.j0 a)).J (fun b=>own b≠0) dw w':=by
  refine⟨⟨.slice none 0 0,.slice none 0 0,f,own,?_,fun b=>Iff.rfl⟩,x⟩
  exact {
   wd:=(dD a).keep hw h.bl.size (fun b d=>h.bl.block b (s b d))
   w1:=o1
   cb:=h.cb
   k1:=ok
   mp:=h.mp
   m1:=B
   tr:=aO _ _ _ _
   fU:=fun b e=>by simp[Value.ownBlock] at e
   er:=aO _ _ _ _
   eo:=fun b e=>by simp[Value.ownBlock] at e
   yr:=d5 yr (fun _ _=>aA _)
   gh:=C
   gr:=d5 gr (fun _ _=>aA _)
   go:=D
   lt:=fun b d=>(n b d).1}
 have F:¬own ps≠0:=fun c=>by
  rcases(n ps c).2 with q|q|q|q
  ·exact m ps I q
  ·omega
  ·omega
  ·omega
 have n1:∀k,bW<k->k<pk->¬own k≠0:=fun k k1 L c=>by
  rcases(n k c).2 with q|q|q|q
  ·exact m k I q
  ·omega
  ·omega
  ·omega
 have G:∀k,some k=(Value.slice b0 S.r.length d0).ownBlock->k≠ps:=fun k e H=>by obtain⟨M,hc⟩:=dO h.sd.r0 k e;rw[H,h.sd.blk] at hc;simp at hc
 refine⟨fun b=>own b≠0\/b=ps\/some b=(Value.slice b1 S.q.length d1).ownBlock,⟨fun b=>own b≠0,b1,d1,E,h.sd.blk,h.sd.q0,fun k hk=>ap hk,an (ap rfl),F,fun k e=>⟨an (an e),n1 k (h.l1 k e).1 (h.l1 k e).2⟩,fun k hk=>?_⟩,fun b e=>⟨fun c=>?_,by have:=(h.l0 b e).1;omega⟩,fun b c=>?_⟩
 ·rcases hk with c|c|c
  ·exact(n k c).1
  ·omega
  ·have:=(h.l1 k c).2;omega
 ·rcases c with c|c|c
  ·exact n1 b (h.l0 b e).1 (h.l0 b e).2 c
  ·exact G b e c
  ·exact h.ln b e c
 ·rcases c with c|c|c
  ·rcases(n b c).2 with q|q|q|q
   ·exact ap q
   ·exact an I
   ·exact an I
   ·exact an I
  ·exact an I
  ·have:=(h.l1 b c).1;exact an I
end
end Go.Proofs.YtjpjpjemibgjpaaGreat
