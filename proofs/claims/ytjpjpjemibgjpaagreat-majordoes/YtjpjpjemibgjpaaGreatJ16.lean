import Derived.Test.YtjpjpjemibgjpaaGreatJ09
import Derived.Tactics
import Derived.Tactics2
import Derived.Recover
import Derived.Laws.EntriesVeiled
import Derived.Deep.DeepCutAuto
import Derived.Test.YtjpjpjemibgjpaaGreatJ15
import Derived.Test.YtjpjpjemibgjpaaGreatJ01
import Derived.Test.YtjpjpjemibgjpaaGreatJ06
import Derived.Test.YtjpjpjemibgjpaaGreatJ00
import Derived.Test.YtjpjpjemibgjpaaGreatJ04
import Derived.Test.YtjpjpjemibgjpaaGreatJ02
namespace Go.Proofs.YtjpjpjemibgjpaaGreat
set_option maxRecDepth 100000
set_option maxHeartbeats 2000000
open Tryz
open Go.RowKit W Kp bY
theorem xZ (a b c:Addr)(w:World):
 CallsD prog 172 #[.pointer (some a),.pointer (some b),.pointer (some c)] .returning w fun e d w'=>e=.returned (.tuple #[])/\d=.returning/\w'=w:=by
 refine callsD_of_wpS func172 rfl fun f i g=>?_;apply wpS_seq;apply wpS_region;simp[wpOpsS,go_sem,recoverD,g,ntmps172,Exit.thenS];refine wpS_cond (t:=false) (by simp[Act.eval,Array.replicate]) ?_;simp only [Bool.false_eq_true,if_false];refine wpS_of_wp (wp_skip ?_)
 cases f
 simp_all [bodyPostS,results,results172]
theorem sB (f:Nat)(b c:Array Value)(i:dQ f)(w:World)(p:Nat)(g a1:Option Addr)(n0 k0 n1 k1:Nat)(c0:w.cell? (ah p 0)=some (.slice g n0 k0))(c1:w.cell? (ah p 1)=some (.slice a1 n1 k1))(R:Bool->World->Prop)
 (h:∀w1,w1=((w.alloc (.cells #[.pointer (some ⟨p,0,none⟩)] 52)).alloc (.cells #[.bool false] 4)).alloc (.cells #[.slice g n0 k0,.slice a1 n1 k1] 128)->Calls prog f (b++c) w1 fun r a=>∃d,r=.returned (.bool d)/\R d a/\a.heap[w.heap.size+1]?=some (.cells #[.bool false] 4 (0,0))):
 Calls prog 115 #[af p,.func (.func f) b c] w fun e w'=>∃d a,e=.returned (.bool d)/\R d a/\a.heap[w.heap.size+1]?=some (.cells #[.bool false] 4 (0,0))/\w'=a.setCell ⟨w.heap.size+1,0,none⟩ (.bool d):=by
 have o:=au w _ c0;have H:Hid (∀w1,w1=((w.alloc (.cells #[.pointer (some ⟨p,0,none⟩)] 52)).alloc (.cells #[.bool false] 4)).alloc (.cells #[.slice g n0 k0,.slice a1 n1 k1] 128)->Calls prog f (b++c) w1 fun r a=>∃d,r=.returned (.bool d)/\R d a/\a.heap[w.heap.size+1]?=some (.cells #[.bool false] 4 (0,0))):=h;clear h;have q:∀(args:Array Value)(w:World),(callFunc f args).run prog w=.ok (.enter f args) w:=i;clear i;have s:∀(j:Fn)(first k:Array Value)(w:World),(Instr.makeFunc j first k).run prog w=.ok (.func j first k) w:=fun _ _ _ _=>rfl
 go_enter_defers func115,ntmps115
 go_wp2_with fail;refine(H.out _ rfl).mono ?_;rintro e a ⟨d,rfl,l,hk⟩
 have m:a.cell? (ah (w.heap.size+1) 0)=some (.bool false):=by simp[World.cell?,hk]
 have t:a.frozen? (ah (w.heap.size+1) 0)=false:=by simp[World.frozen?,hk]
 go_wp2_with fail;refine leaves_cons (f:=172) (args:=#[af (w.heap.size+1+1),af w.heap.size,af (w.heap.size+1)]) V (by simp[go_sem]) ?_;refine(xZ _ _ _ _).mono ?_;rintro e u v ⟨rfl,rfl,rfl⟩
 have n:(a.setCell ⟨w.heap.size+1,0,none⟩ (.bool d)).cell? (ah (w.heap.size+1) 0)=some (.bool d):=aH _ _ _ m;simp[Leaves,settle,results,results115,go_sem,n];cases d
 ·exact ap ⟨rfl,a,l,hk,rfl⟩
 ·exact an ⟨rfl,a,l,hk,rfl⟩
theorem x0:dQ 116:=gb func116 ab rfl
theorem pt {n:Type}(o:eQ n)(D:Int->Prop)(j fk l:eV)(is:n->Int->Bool)(kp:n->Int->Int×n)(nw:n->Int->Int)(O:jW o D j fk l is kp nw)(r:List bN)(v:Option Addr)(B:Nat)(J:o.vr=.slice v r.length B)(ad:r.length<=90000)(hD:∀e∈r,D e.1/\D e.2)
 (F:Nat->Prop)(s:n)(w:World)(ai:∀e∈o.wt (eH o is kp s r),D e.1/\D e.2)(al:(o.wt s).length+r.length<=90000)(x:o.J F s w)(Q:cS w v r):
 Calls prog 53 #[af o.p,.agg #[j.v,fk.v,l.v]] w fun e w'=>∃a1 c1 a2 c2 a d,e=.returned (.tuple #[])/\o.J a (eH o is kp s r) d/\(∀k,a k->k≠o.p->w'.heap[k]?=d.heap[k]?)/\d.heap.size<=w'.heap.size/\
  w'.heap[o.p]?=some (.cells #[.slice a1 (el o is kp nw s r).length c1,.slice a2 (em o is kp nw s r).length c2] 128 (0,0))/\w'.ownsRow w.heap.size 83 2 (.slice a1 (el o is kp nw s r).length c1) (el o is kp nw s r).length (ev (el o is kp nw s r))/\
  w'.ownsRow w.heap.size 83 2 (.slice a2 (em o is kp nw s r).length c2) (em o is kp nw s r).length (ev (em o is kp nw s r))/\Fr F w w'/\(∀k,a k->F k\/w.heap.size<=k)/\(∀k,some k=(Value.slice a1 (el o is kp nw s r).length c1).ownBlock->¬a k)/\(∀k,some k=(Value.slice a2 (em o is kp nw s r).length c2).ownBlock->¬a k)/\(∀k,some k=(Value.slice a1 (el o is kp nw s r).length c1).ownBlock->some k≠(Value.slice a2 (em o is kp nw s r).length c2).ownBlock):=by
 obtain⟨R,S,hp,_,ar,_⟩:=o.side x;rw[J] at hp;have c0:w.cell? (ah o.p 0)=some (.slice v r.length B):=by simp[World.cell?,hp]
 have c1:w.cell? (ah o.p 1)=some (.slice R (o.wt s).length S):=by simp[World.cell?,hp]
 have lp:o.p<w.heap.size:=lt_of_some hp;have ax:Hid (∀w1,Below w.heap.size w w1->jr w1 o.p (w.heap.size+1) (w.heap.size+2) w.heap.size j fk l->w1.heap[w.heap.size+3]?=some (.cells #[kD (w.heap.size+2) (w.heap.size+1) w.heap.size] 81 (0,0))->Calls prog 116 #[af w.heap.size,af (w.heap.size+1),af (w.heap.size+3),af (w.heap.size+2)] w1 fun e w'=>∃a1 c1 a2 c2 a d,e=.returned (.bool true)/\o.J a (eH o is kp s r) d/\Fr (fun k=>k=o.p) d w'/\
  w'.heap[o.p]?=some (.cells #[.slice a1 (el o is kp nw s r).length c1,.slice a2 (em o is kp nw s r).length c2] 128 (0,0))/\w'.ownsRow w1.heap.size 83 2 (.slice a1 (el o is kp nw s r).length c1) (el o is kp nw s r).length (ev (el o is kp nw s r))/\
  w'.ownsRow w1.heap.size 83 2 (.slice a2 (em o is kp nw s r).length c2) (em o is kp nw s r).length (ev (em o is kp nw s r))/\Fr F w1 w'/\(∀k,a k->F k\/w1.heap.size<=k)/\(∀k,some k=(Value.slice a1 (el o is kp nw s r).length c1).ownBlock->¬a k)/\(∀k,some k=(Value.slice a2 (em o is kp nw s r).length c2).ownBlock->¬a k)/\(∀k,some k=(Value.slice a1 (el o is kp nw s r).length c1).ownBlock->some k≠(Value.slice a2 (em o is kp nw s r).length c2).ownBlock)):=by
  intro w1 U hB hc;have q:∀k,w.heap.size<=k->¬F k:=fun k hk h=>by have:=o.lt x k h;omega
  exact xt o D j fk l is kp nw O r v B J ad hD F s w1 ai al _ _ _ _ (o.below x U) hB hc (q _ I) (q _ I) (q _ I) (q _ I) ⟨I,I,I⟩ (Q.below U)
 have W:Hid (o.J F s w):=x;clear O x hp J Q ar;go_enter func53,ntmps53;go_wp2_with fail;have f:∃b,b=(((w.alloc (.cells #[.pointer (some ⟨o.p,0,none⟩)] 52)).alloc (.cells #[j.v,fk.v,l.v] 120)).alloc (.cells #[.func (.func 113) #[] #[.pointer (some ⟨w.heap.size+1,0,none⟩)]] 81)).alloc (.cells #[kD (w.heap.size+1+1) (w.heap.size+1) w.heap.size] 81):=⟨_,rfl⟩
 obtain⟨b,f⟩:=f;have sz:b.heap.size=w.heap.size+4:=by rw[f];simp
 have C:Below w.heap.size w b:=by rw[f];exact((((Below.refl _ w).alloc bJ _).alloc V _).alloc (by simp;omega) _).alloc (by simp;omega) _
 have g0:b.heap[w.heap.size]?=some (.cells #[af o.p] 52 (0,0)):=by rw[f,Below.heap_alloc _ _ _ (by simp;omega),Below.heap_alloc _ _ _ (by simp;omega),Below.heap_alloc _ _ _ V];exact aw _ _
 have g1:b.heap[w.heap.size+1]?=some (.cells #[j.v,fk.v,l.v] 120 (0,0)):=by rw[f,Below.heap_alloc _ _ _ V,Below.heap_alloc _ _ _ V];simpa using aw (w.alloc (.cells #[.pointer (some ⟨o.p,0,none⟩)] 52)) (.cells #[j.v,fk.v,l.v] 120)
 have g2:b.heap[w.heap.size+2]?=some (.cells #[.func (.func 113) #[] #[af (w.heap.size+1)]] 81 (0,0)):=by rw[f,Below.heap_alloc _ _ _ V];simpa using aw ((w.alloc (.cells #[.pointer (some ⟨o.p,0,none⟩)] 52)).alloc (.cells #[j.v,fk.v,l.v] 120)) (.cells #[.func (.func 113) #[] #[af (w.heap.size+1)]] 81)
 have g3:b.heap[w.heap.size+3]?=some (.cells #[kD (w.heap.size+1+1) (w.heap.size+1) w.heap.size] 81 (0,0)):=by rw[f];simpa using aw (((w.alloc (.cells #[.pointer (some ⟨o.p,0,none⟩)] 52)).alloc (.cells #[j.v,fk.v,l.v] 120)).alloc (.cells #[.func (.func 113) #[] #[.pointer (some ⟨w.heap.size+1,0,none⟩)]] 81)) (.cells #[kD (w.heap.size+1+1) (w.heap.size+1) w.heap.size] 81)
 rw[<-f];have P:=sB 116 #[] #[af w.heap.size,af (w.heap.size+1),af (w.heap.size+1+1+1),af (w.heap.size+1+1)] x0 b o.p v R r.length B (o.wt s).length S ((C.cell (p:=ah o.p 0) lp).trans c0) ((C.cell (p:=ah o.p 1) lp).trans c1)
  (fun _ g=>∃a1 c1 a2 c2 a d,o.J a (eH o is kp s r) d/\Fr (fun k=>k=o.p) d g/\
    g.heap[o.p]?=some (.cells #[.slice a1 (el o is kp nw s r).length c1,.slice a2 (em o is kp nw s r).length c2] 128 (0,0))/\g.ownsRow (w.heap.size+7) 83 2 (.slice a1 (el o is kp nw s r).length c1) (el o is kp nw s r).length (ev (el o is kp nw s r))/\
    g.ownsRow (w.heap.size+7) 83 2 (.slice a2 (em o is kp nw s r).length c2) (em o is kp nw s r).length (ev (em o is kp nw s r))/\Fr F w g/\(∀k,a k->F k\/w.heap.size+7<=k)/\(∀k,some k=(Value.slice a1 (el o is kp nw s r).length c1).ownBlock->¬a k)/\(∀k,some k=(Value.slice a2 (em o is kp nw s r).length c2).ownBlock->¬a k)/\(∀k,some k=(Value.slice a1 (el o is kp nw s r).length c1).ownBlock->some k≠(Value.slice a2 (em o is kp nw s r).length c2).ownBlock))
  (by
    intro w1 K;have s1:w1.heap.size=w.heap.size+7:=by rw[K];simp;omega
    have b1:Below b.heap.size b w1:=by rw[K];exact(((Below.refl _ b).alloc bJ _).alloc V _).alloc (by simp;omega) _
    have hk:w1.heap[b.heap.size+1]?=some (.cells #[.bool false] 4 (0,0)):=by rw[K,Below.heap_alloc _ _ _ V];simpa using aw (b.alloc (.cells #[.pointer (some ⟨o.p,0,none⟩)] 52)) (.cells #[.bool false] 4)
    have b2:Below w.heap.size w w1:=C.trans (b1.mono I)
    refine(ax.out w1 b2 ⟨(b1.block _ I).trans g1,(b1.block _ I).trans g2,(b1.block _ I).trans g0⟩ ((b1.block _ I).trans g3)).mono ?_;rintro e g ⟨a1,c1,a2,c2,a,d,rfl,q1,E,q3,t,u,G,A,L,M,N⟩
    rw[s1] at t u A;refine⟨true,rfl,⟨a1,c1,a2,c2,a,d,q1,E,q3,t,u,(Fr.of (X:=F) b2).trans G (fun _ c=>ap c),A,L,M,N⟩,(G.block _ I (fun h=>?_)).trans hk⟩
    have:=o.lt W.out _ h;omega)
 refine P.mono ?_;clear P;rintro e w3 ⟨aB,g,rfl,⟨a1,aF,a2,aR,a,d,q1,E,q3,t,u,G,A,L,M,N⟩,hk,rfl⟩
 obtain⟨m,hm⟩:∃m,m=b.heap.size+1:=⟨_,rfl⟩
 rw[<-hm];have aT:Hid (m=w.heap.size+5):=by show m=_;omega
 clear hm hk C g0 g1 g2 g3 sz f;go_wp2_with fail;go_end0;have hm:=aT.out;have H:∀k,k≠m->(g.setCell ⟨m,0,none⟩ (.bool aB)).heap[k]?=g.heap[k]?:=fun k hk=>Below.heap_setCell _ _ _ _ hk;refine⟨a1,aF,a2,aR,a,d,rfl,q1,fun k Y aV=>?_,?_,(H _ I).trans q3,?_,?_,G.trans ((Fr.refl (fun k=>k=m) g).set _ 0 _ rfl) (fun i c=>an I),fun k h=>(A k h).imp id (fun h=>by omega),L,M,N⟩
 ·refine(H k ?_).trans (E.block k (o.lt q1 k Y) aV)
  rcases A k Y with h|h
  ·have:=o.lt W.out k h;omega
  ·omega
 ·have:=E.size;simpa[World.setCell] using this
 ·exact d5 (ca t (fun k e=>H k (by have:=(bR t k e).1;omega))) (fun k e=>by have:=(bR t k e).1;omega)
 ·exact d5 (ca u (fun k e=>H k (by have:=(bR u k e).1;omega))) (fun k e=>by have:=(bR u k e).1;omega)
def cA {A:Type}(o:dB A)(p:Nat)(vr:Value):eQ (A×List bN) where
 J F s w:=∃a b c,o.J a s.1 w/\w.heap[p]?=some (.cells #[vr,.slice b s.2.length c] 128 (0,0))/\w.ownsRow 0 83 2 (.slice b s.2.length c) s.2.length (ev s.2)/\(∀k,a k->F k)/\F p/\¬a p/\(∀k,some k=(Value.slice b s.2.length c).ownBlock->F k/\¬a k)/\(∀k,F k->k<w.heap.size)
 lt:=by rintro F t w ⟨a,b,c,v,f,i,j,l,n,u,m⟩ k hk;exact m k hk
 keep:=by rintro F t w w' ⟨a,b,c,v,f,i,j,l,n,u,m⟩ hs hk;exact⟨a,b,c,o.keep v hs (fun k h=>hk k (j k h)),(hk p l).trans f,ca i (fun k e=>hk k (u k e).1),j,l,n,u,fun k h=>av (m k h) hs⟩
 p:=p
 vr:=vr
 wt s:=s.2
 put s q:=(s.1,q)
 side:=by
  rintro F s w ⟨a,b,c,v,f,i,j,l,n,u,m⟩
  refine⟨b,c,f,⟨fR i,?_,?_⟩,l,fun hp z e=>(u z.block (by rw[e];rfl)).1⟩
  ·rcases i.2 with⟨d,h0⟩|⟨g,D,E,d,_,_,hc,_⟩
   ·omega
   ·simp at d;omega
  ·intro G;rcases i.2 with⟨d,h0⟩|⟨g,D,E,d,_⟩
   ·simp at d;exact⟨h0,d.2.2⟩
   ·rw[G] at d;simp at d
 set:=by
  rintro F s w ⟨a,b,c,v,f,i,j,l,n,u,m⟩ w1 q b1 fD x B;have lp:=lt_of_some f;have K:=bR B b1 rfl;have C:∀k,k≠p->(w1.setCell ⟨p,1,none⟩ (.slice (some ⟨b1,0,none⟩) q.length fD)).heap[k]?=w1.heap[k]?:=fun k hk=>Below.heap_setCell _ _ _ _ hk;have hs:(w1.setCell ⟨p,1,none⟩ (.slice (some ⟨b1,0,none⟩) q.length fD)).heap.size=w1.heap.size:=by simp[World.setCell]
  have L:=x.size;refine⟨a,ag b1,fD,o.keep (o.below v x) (by rw[hs];exact ak _) (fun k h=>C k (fun e=>n (by rw[<-e];exact h))),?_,d5 (ca B (fun k e=>C k (by simp[Value.ownBlock] at e;omega))) (fun _ _=>aA _),fun k h=>ap (j k h),ap l,n,fun k e=>?_,fun k h=>?_⟩
  ·have H:=(x.block p lp).trans f;simp only [World.setCell,Array.getElem?_modify,if_true,H,Option.map_some];simp
  ·simp[Value.ownBlock] at e;exact⟨an e,fun h=>by have:=m k (j k h);omega⟩
  ·rw[hs];rcases h with h|h
   ·have:=m k h;omega
   ·omega
 ns:=fun _ _=>rfl
theorem pu {a:Type}(o:dB a)(p:Nat)(vr:Value)(D:Int->Prop)(b fk c:eV)(is:a->Int->Bool)(kp:a->Int->Int×a)(nw:a->Int->Int)(ea:dQ b.f)(eR:dQ fk.f)(en:dQ c.f)(ha:ic o D b.f b.b b.c is)(hk:mn o D fk.f fk.b fk.c kp)(ht:jV o D c.f c.b c.c nw):
 jW (cA o p vr) D b fk c (fun s x=>is s.1 x) (fun s x=>((kp s.1 x).1,((kp s.1 x).2,s.2))) (fun s x=>nw s.1 x) where
 ea:=ea
 eR:=eR
 en:=en
 ha:=by
  rintro F s w x hD ⟨d,i,j,f,_⟩
  exact ha d s.1 w x hD f
 hk:=by
  rintro F s w x hD _ ⟨d,i,j,f,q,l,t,B,u,m,C⟩
  refine(hk d s.1 w x hD f).mono ?_;rintro r w' ⟨v,rfl,A,g,n⟩
  have lp:=lt_of_some q;refine⟨fun k=>F k\/v k,rfl,⟨v,i,j,A,(g.block p lp u).trans q,ca l (fun k e=>g.block k (bR l k e).2 (m k e).2),fun k h=>an h,ap B,fun h=>(n p h).elim u (fun h=>by omega),fun k e=>⟨ap (m k e).1,fun h=>(n k h).elim (m k e).2 (fun h=>by have:=(bR l k e).2;omega)⟩,fun k h=>?_⟩,g.mono t,fun k h=>?_⟩
  ·rcases h with h|h
   ·exact av (C k h) g.size
   ·exact o.lt A k h
  ·rcases h with h|h
   ·exact ap h
   ·exact(n k h).imp (t k) id
 ht:=by
  rintro F s w x hD ⟨d,i,j,f,_⟩
  exact ht d s.1 w x hD f
 hl:=fun _ _=>rfl
structure nF {σ:Type}(o:eQ σ):Prop where
 sC:∀{F s w},o.J F s w->∀{w1:World}{q:List bN}{a1:Option Addr}{c1:Nat},Below w.heap.size w w1->w1.ownsRow w.heap.size 83 2 (.slice a1 q.length c1) q.length (ev q)->
  o.J (fun k=>F k\/some k=(Value.slice a1 q.length c1).ownBlock) (o.put s q) (w1.setCell ⟨o.p,1,none⟩ (.slice a1 q.length c1))
 sD:∀{F s w},o.J F s w->∀{ad:Option Addr}{cap:Nat},w.heap[o.p]?=some (.cells #[o.vr,.slice ad (o.wt s).length cap] 128 (0,0))->∀i,i<(o.wt s).length->∀g z:Int,∃b f,ad=some ⟨b,f,none⟩/\F b/\b≠o.p/\w.frozen? (ah b (f+i*2))=false/\w.frozen? (ah b (f+i*2+1))=false/\
  o.J F (o.put s ((o.wt s).set i (g,z))) ((w.setCell ⟨b,f+i*2,none⟩ (.int .i64 g)).setCell ⟨b,f+i*2+1,none⟩ (.int .i64 z))
def ju {a:Type}(o:eQ a)(is:a->Int->Bool)(kp:a->Int->Int×a)(t:a×Bool)(i:Nat):a×Bool:=
 if is t.1 ((o.wt t.1).getD i (0,0)).2||!is t.1 ((o.wt t.1).getD i (0,0)).1 then t
 else(o.put (kp t.1 ((o.wt t.1).getD i (0,0)).2).2 ((o.wt (kp t.1 ((o.wt t.1).getD i (0,0)).2).2).set i (((o.wt t.1).getD i (0,0)).1,(kp t.1 ((o.wt t.1).getD i (0,0)).2).1)),true)
def eL {a:Type}(o:eQ a)(is:a->Int->Bool)(kp:a->Int->Int×a)(s:a)(n:Nat):a×Bool:=(List.range n).foldl (ju o is kp) (o.put s (o.wt s),false)
theorem x1 {a:Type}(o:eQ a)(is:a->Int->Bool)(kp:a->Int->Int×a)(s:a):eL o is kp s 0=(o.put s (o.wt s),false):=rfl
theorem sE {a:Type}(o:eQ a)(is:a->Int->Bool)(kp:a->Int->Int×a)(s:a)(n:Nat):eL o is kp s (n+1)=ju o is kp (eL o is kp s n) n:=by simp[eL,List.range_succ]
theorem x2 {a:Type}(o:eQ a)(is:a->Int->Bool)(kp:a->Int->Int×a)(hl:∀s x,(o.wt (kp s x).2).length=(o.wt s).length)(t:a×Bool)(i:Nat):(o.wt (ju o is kp t i).1).length=(o.wt t.1).length:=by
 unfold ju;split
 ·rfl
 ·simp[o.ns,hl]
theorem sF {a:Type}(o:eQ a)(is:a->Int->Bool)(kp:a->Int->Int×a)(hl:∀s x,(o.wt (kp s x).2).length=(o.wt s).length)(s:a):∀n,(o.wt (eL o is kp s n).1).length=(o.wt s).length
 |0=>by rw[x1];simp[o.ns]
 |n+1=>by rw[sE,x2 o is kp hl,sF o is kp hl s n]
theorem sG {a:Type}{o:eQ a}{is:a->Int->Bool}{kp:a->Int->Int×a}{t:a×Bool}{i:Nat}{g z:Int}(hg:((o.wt t.1).getD i (0,0)).1=g)(hz:((o.wt t.1).getD i (0,0)).2=z)(h:is t.1 z=true\/is t.1 g=false):ju o is kp t i=t:=by unfold ju;rw[hg,hz];rcases h with h|h<;>simp[h]
theorem x3 {a:Type}{o:eQ a}{is:a->Int->Bool}{kp:a->Int->Int×a}{t:a×Bool}{i:Nat}{g z:Int}(hg:((o.wt t.1).getD i (0,0)).1=g)(hz:((o.wt t.1).getD i (0,0)).2=z)(b:is t.1 z=false)(c:is t.1 g=true):ju o is kp t i=(o.put (kp t.1 z).2 ((o.wt (kp t.1 z).2).set i (g,(kp t.1 z).1)),true):=by unfold ju;rw[hg,hz];simp[b,c]
def j1 (n:Nat):Code->Option Code
 |.region m o d=>match m==n with
  |true=>some (.region m o d)
  |false=>none
 |.seq a b=>match j1 n a with
  |some c=>some c
  |none=>j1 n b
 |.cond _ a b=>match j1 n a with
  |some c=>some c
  |none=>j1 n b
 |.block _ c=>j1 n c
 |.loop c=>j1 n c
 |.scope c=>j1 n c
 |_=>none
theorem x4 {s1 s2 d s4 s5 s6 bi bl bn bo bp br bx f g i j k m n o q s t u v x A B C D E F G H J K L M N O P R S U W X Y ad ai al ar ax aB aF aR:Value}{Q:Exit->Act->World->Prop}{bs p a:Nat}{b:Option Addr}{l:List bN}{w:World}(hl:l.length<=100000)(h:gq w b l a)(c0:w.cell? (ah bs 0)=some (af p))(c1:w.cell? (ah p 1)=some (.slice b l.length a))(bL:w.frozen? (ah p 1)=false)
 (bg:∀(aT aV a0 a2 a3 bb bd be:Value)(a1:Option Addr)(k1:Nat)(w1:World),w1.ownsRow w.heap.size 83 2 (.slice a1 l.length k1) l.length (ev l)->Below w.heap.size w w1->Q .normal ⟨#[af bs,s1,s2,d,s4,s5,aT,aV,a0,a2,a3,bb,bd,be,f,g,i,j,k,m,n,o,q,s,t,u,v,x,A,B,C,D,E,F,G,H,J,K,L,M,N,O,P,R,S,U,W,X,Y,ad,ai,al,ar,ax,aB,aF,aR],[]⟩ (w1.setCell ⟨p,1,none⟩ (.slice a1 l.length k1))):
 Code.wp prog ((Tryz.f171.body.bind (j1 1)).getD .skip) Q ⟨#[af bs,s1,s2,d,s4,s5,s6,bi,bl,bn,bo,bp,br,bx,f,g,i,j,k,m,n,o,q,s,t,u,v,x,A,B,C,D,E,F,G,H,J,K,L,M,N,O,P,R,S,U,W,X,Y,ad,ai,al,ar,ax,aB,aF,aR],[]⟩ w:=by
 conv=>arg 2;whnf
 refine wp_region_noPanic ?_;have bM:Hid (∀(aT aV a0 a2 a3 bb bd be:Value)(a1:Option Addr)(k1:Nat)(w1:World),w1.ownsRow w.heap.size 83 2 (.slice a1 l.length k1) l.length (ev l)->Below w.heap.size w w1->Q .normal ⟨#[af bs,s1,s2,d,s4,s5,aT,aV,a0,a2,a3,bb,bd,be,f,g,i,j,k,m,n,o,q,s,t,u,v,x,A,B,C,D,E,F,G,H,J,K,L,M,N,O,P,R,S,U,W,X,Y,ad,ai,al,ar,ax,aB,aF,aR],[]⟩ (w1.setCell ⟨p,1,none⟩ (.slice a1 l.length k1))):=bg;have bO:Hid (gq w b l a):=h;have l2:=au w _ c0;have lp:=au w _ c1;dsimp only at l2 lp;clear bg h
 go_region_with (go_at_call 166;refine(oS _ b l a (bO.out.below (bK.drew)) hl).mono ?_;rintro e w1 ⟨a1,k1,rfl,bP,c⟩;have bQ:=(c.cell (p:=ah bs 0) l2).trans c0;have bR:=(c.cell (p:=ah p 1) lp).trans c1;have bS:=(c.frozen (p:=ah p 1) lp).trans bL)
 all_goals exact NoPanic.normal (bM.out _ _ _ _ _ _ _ _ a1 k1 w1 bP ((Below.refl _ w).drew.trans c))
theorem x5 {n:Type}(o:eQ n)(bL:nF o)(D:Int->Prop)(f fk al:eV)(is:n->Int->Bool)(kp:n->Int->Int×n)(nw:n->Int->Int)(u:jW o D f fk al is kp nw)(F:Nat->Prop)(s:n)(w:World)(co:(o.wt s).length<=90000)
 (hD:∀j,j<(o.wt s).length->D ((o.wt (eL o is kp s j).1).getD j (0,0)).1/\D ((o.wt (eL o is kp s j).1).getD j (0,0)).2)(bl bs:Nat)(m:o.J F s w)(ar:w.heap[bl]?=some (.cells #[f.v,fk.v,al.v] 120 (0,0)))(P:w.heap[bs]?=some (.cells #[af o.p] 52 (0,0)))(bM:¬F bl)(bN:¬F bs):
 Calls prog 171 #[af bs,af bl] w fun r w'=>∃bO,r=.returned (.bool (eL o is kp s (o.wt s).length).2)/\o.J bO (eL o is kp s (o.wt s).length).1 w'/\Fr F w w'/\∀k,bO k->F k\/w.heap.size<=k:=by
 have bP:Hid (nF o):=bL;have bQ:Hid (ic o.todB D f.f f.b f.c is):=u.ha;have cp:Hid (kC o D fk.f fk.b fk.c kp):=u.hk;have bS:Hid (∀s x,(o.wt (kp s x).2).length=(o.wt s).length):=u.hl;have cq:Hid (∀j,j<(o.wt s).length->D ((o.wt (eL o is kp s j).1).getD j (0,0)).1/\D ((o.wt (eL o is kp s j).1).getD j (0,0)).2):=hD;have cr:Hid (o.J F s w):=m;have cs:Hid (w.heap[bl]?=some (.cells #[f.v,fk.v,al.v] 120 (0,0))):=ar;have ct:Hid (w.heap[bs]?=some (.cells #[af o.p] 52 (0,0))):=P;have cQ:∀(args:Array Value)(w:World),(callFunc f.f args).run prog w=.ok (.enter f.f args) w:=u.ea;have cR:∀(args:Array Value)(w:World),(callFunc fk.f args).run prog w=.ok (.enter fk.f args) w:=u.eR;have c0:w.cell? (ah bs 0)=some (af o.p):=by simp[World.cell?,P]
 have l1:bl<w.heap.size:=lt_of_some ar;have l2:bs<w.heap.size:=lt_of_some P;obtain⟨Q,R,hp,L,ax,aB⟩:=o.side m;have c1:w.cell? (ah o.p 1)=some (.slice Q (o.wt s).length R):=by simp[World.cell?,hp]
 have cu:w.frozen? (ah o.p 1)=false:=by simp[World.frozen?,hp]
 have lp:o.p<w.heap.size:=lt_of_some hp;have cv:Hid (gq w Q (o.wt s) R):=L;clear u bL hD m ar P hp L aB;go_enter func171,ntmps171
 go_upto_region 1 with fail
 refine x4 I cv.out c0 c1 cu ?_;intro cS cT cU cV cW cX cY cZ a1 k1 w1 aF S;have cw:=S.size;have bT:=bP.out.sC cr.out S aF;have bU:Fr F w (w1.setCell ⟨o.p,1,none⟩ (.slice a1 (o.wt s).length k1)):=(Fr.of (X:=F) S).trans ((Fr.refl (fun k=>k=o.p) w1).set o.p 1 _ rfl) (fun i c=>ap (by rw[c];exact ax))
 have bV:∀k,F k\/some k=(Value.slice a1 (o.wt s).length k1).ownBlock->F k\/w.heap.size<=k:=fun k h=>h.imp id (fun e=>(bR aF k e).1)
 clear aF;go_wp2_with fail
 go_loopw [3,4] (fun cx iv wr=>∃(j:Nat)(b:n)(b1:Bool)(l:Nat->Prop),j<=(o.wt s).length/\iv=ae j/\cx=.bool b1/\Hid (eL o is kp s j=(b,b1))/\o.J l b wr/\Fr F w wr/\Hid (∀k,l k->F k\/w.heap.size<=k)) (fun _ iv _=>(o.wt s).length-(intOf iv).toNat)
 case atStart=>exact⟨0,_,false,_,aA _,rfl,rfl,rfl,bT,bU,bV⟩
 case round=>
  clear bT bU bV cw S;obtain⟨j,b,b1,l,c2,rfl,rfl,M,m,v,q⟩:=hrel;have bW:(o.wt b).length=(o.wt s).length:=by have bX:=sF o is kp bS.out s j;rw[M.out] at bX;exact bX
  obtain⟨Q,R,hp,L,ax,aB⟩:=o.side m;have c3:=v.size;have n1:¬l bl:=fun h=>(q.out bl h).elim bM (fun h=>by omega)
  have bY:¬l bs:=fun h=>(q.out bs h).elim bN (fun h=>by omega)
  have aR:=(v.block bl l1 bM).trans cs.out;have aT:=(v.block bs l2 bN).trans ct.out;have cy:wr.cell? (ah bs 0)=some (af o.p):=by simp[World.cell?,aT]
  have cz:wr.cell? (ah o.p 1)=some (.slice Q (o.wt s).length R):=by simp[World.cell?,hp,bW]
  by_cases aV:j<(o.wt s).length
  ·obtain⟨b0,c4,cA,c5,hc⟩:=L.lp I;obtain⟨bZ,b2⟩:=hc j I;obtain⟨U,N⟩:=cq.out j aV;rw[M.out] at U N;have a0:Hid (eL o is kp s (j+1)=ju o is kp (b,b1) j):=by show _=_;rw[sE,M.out]
   obtain⟨g,hg⟩:∃g,((o.wt b).getD j (0,0)).1=g:=⟨_,rfl⟩
   obtain⟨z,hz⟩:∃z,((o.wt b).getD j (0,0)).2=z:=⟨_,rfl⟩
   rw[hg] at bZ;rw[hz] at b2;have U:D g:=by rw[<-hg];exact U
   have N:D z:=by rw[<-hz];exact N
   have a2:Hid (((o.wt b).getD j (0,0)).1=g):=hg;have a3:Hid (((o.wt b).getD j (0,0)).2=z):=hz;subst cA;have A:Hid (o.J l b wr):=m;have bb:Hid (Fr F w wr):=v;have cB:Hid (wr.heap[bs]?=some (.cells #[af o.p] 52 (0,0))):=aT;have b3:wr.cell? (ah bl 0)=some (.func (.func f.f) f.b f.c):=by simp[World.cell?,aR]
   have m1:wr.cell? (ah bl 1)=some (.func (.func fk.f) fk.b fk.c):=by simp[World.cell?,aR]
   have bd:=(Below.refl wr.heap.size wr).alloc bJ (.cells #[ae g,ae z] 83)
   have b4:bl<wr.heap.size:=I;have cC:bs<wr.heap.size:=I;have c6:o.p<wr.heap.size:=lt_of_some hp;have j0:(0:Int)<=(j:Int):=I;have c7:(j:Int)<((o.wt s).length:Int):=I;clear hc hg hz m v aR aT hp L ax aB M;go_wp2_with fail;refine(bQ.out l b _ z N (o.below A.out bd)).mono ?_;rintro r B ⟨rfl,C⟩
   have W:wr.heap.size<B.heap.size:=by have:=C.size;simp at this;omega
   have E:Below wr.heap.size wr B:=bd.trans (C.mono V)
   have b7:B.cell? (ah wr.heap.size 0)=some (ae g):=(C.cell V).trans V;have y1:B.cell? (ah wr.heap.size 1)=some (ae z):=(C.cell V).trans V;have b8:B.frozen? (ah wr.heap.size 1)=false:=(C.frozen V).trans V;have cD:B.cell? (ah bl 0)=some (.func (.func f.f) f.b f.c):=(E.cell b4).trans b3;cases hz1:is b z
   ·go_wp2_with fail;refine(bQ.out l b _ g U (o.below A.out E)).mono ?_;rintro r w3 ⟨rfl,G⟩
    have b9:wr.heap.size<w3.heap.size:=by have:=G.size;omega
    have t:Below wr.heap.size wr w3:=E.trans (G.mono I)
    have z0:=(G.cell (p:=ah wr.heap.size 0) W).trans b7;have ca:=(G.cell (p:=ah wr.heap.size 1) W).trans y1;have cb:=(G.frozen (p:=ah wr.heap.size 1) W).trans b8;have cE:w3.cell? (ah bl 1)=some (.func (.func fk.f) fk.b fk.c):=(t.cell b4).trans m1;clear b7 y1 b8 cD G C E bZ b2 cy cz;cases hg1:is b g
    ·have be:Hid (eL o is kp s (j+1)=(b,b1)):=a0.out.trans (sG a2.out a3.out (an hg1))
     go_wp2_with fail;go_roundw
     case rel=>exact⟨j+1,b,b1,l,I,ac,rfl,be,o.below A.out t,bb.out.trans (Fr.of (X:=F) t) (fun _ c=>ap c),q⟩
     case measure=>simp[intOf];omega
    ·have bg:Hid (eL o is kp s (j+1)=(o.put (kp b z).2 ((o.wt (kp b z).2).set j (g,(kp b z).1)),true)):=a0.out.trans (x3 a2.out a3.out hz1 hg1)
     have H:Hid ((o.wt (kp b z).2).length=(o.wt s).length):=(bS.out b z).trans bW;go_wp2_with fail;refine(cp.out l b _ z N (by rw[H.out];exact co) (o.below A.out t)).mono ?_;rintro r d ⟨J,rfl,bi,O,Y⟩
     generalize (kp b z).1=y at bg⊢;generalize (kp b z).2=s2 at bg H bi;have bn:¬l wr.heap.size:=fun h=>by have:=o.lt A.out _ h;omega
     have bo:¬J wr.heap.size:=fun h=>(Y _ h).elim bn (fun h=>by omega)
     have cc:¬J bs:=fun h=>(Y _ h).elim bY (fun h=>by omega)
     have cF:=O.size;have ad:=O.block _ b9 bn;have cd:=((O.block bs I bY).trans (t.block bs cC)).trans cB.out;have v0:d.cell? (ah wr.heap.size 0)=some (ae g):=(aD (a:=⟨wr.heap.size,0,none⟩) ad).trans z0;have v1:d.cell? (ah wr.heap.size 1)=some (ae z):=(aD (a:=⟨wr.heap.size,1,none⟩) ad).trans ca;have cG:d.frozen? (ah wr.heap.size 1)=false:=(World.frozen?_of_block (a:=⟨wr.heap.size,1,none⟩) ad).trans cb;have bp:∀k:Nat,k≠wr.heap.size->(d.setCell ⟨wr.heap.size,1,none⟩ (.int .i64 y)).heap[k]?=d.heap[k]?:=fun k hk=>Below.heap_setCell _ _ _ _ hk;have ce:(d.setCell ⟨wr.heap.size,1,none⟩ (.int .i64 y)).heap.size=d.heap.size:=by simp[World.setCell]
     have br:o.J J s2 (d.setCell ⟨wr.heap.size,1,none⟩ (.int .i64 y)):=o.keep bi (by rw[ce];exact ak _) (fun k hk=>bp k (fun e=>bo (by rw[<-e];exact hk)))
     have t0:(d.setCell ⟨wr.heap.size,1,none⟩ (.int .i64 y)).cell? (ah wr.heap.size 0)=some (ae g):=(aC d ⟨wr.heap.size,1,none⟩ ⟨wr.heap.size,0,none⟩ (ae y) V).trans v0;have c8:(d.setCell ⟨wr.heap.size,1,none⟩ (.int .i64 y)).cell? (ah wr.heap.size 1)=some (ae y):=aH _ _ _ v1;have t3:(d.setCell ⟨wr.heap.size,1,none⟩ (.int .i64 y)).cell? (ah bs 0)=some (af o.p):=(aD (a:=⟨bs,0,none⟩) (bp bs I)).trans (by simp[World.cell?,cd])
     have cf:Fr F w (d.setCell ⟨wr.heap.size,1,none⟩ (.int .i64 y)):=((bb.out.trans (Fr.of (X:=F) t) (fun _ c=>ap c)).trans O (fun i c=>q.out i c)).trans ((Fr.refl (fun k=>k=wr.heap.size) d).set _ 1 _ rfl) (fun i c=>an I)
     have cg:Hid (∀k,J k->F k\/w.heap.size<=k):=fun k h=>(Y k h).elim (q.out k) (fun h=>an I)
     obtain⟨c9,ch,bx,ci,cH,cI⟩:=o.side br;obtain⟨b5,K,cj,ai,da,db,dc,ck⟩:=bP.out.sD br bx j (by rw[H.out];exact aV) g y;obtain⟨b6,dd,cl,cJ,cm⟩:=ci.lp (by rw[H.out];omega)
     obtain⟨cK,cL⟩:=cm j (by rw[H.out];exact aV)
     rw[cj] at cl;cases cl;subst cj;have de:(d.setCell ⟨wr.heap.size,1,none⟩ (.int .i64 y)).cell? (ah o.p 1)=some (.slice (some ⟨b5,K,none⟩) (o.wt s).length ch):=by simp[World.cell?,bx,H.out]
     have df:b5≠wr.heap.size:=fun e=>bo (by rw[<-e];exact ai)
     have dg:b5≠bs:=fun e=>cc (by rw[<-e];exact ai)
     have cM:Hid (J b5):=ai;generalize ((o.wt s2).getD j (0,0)).1=dh at cK;generalize ((o.wt s2).getD j (0,0)).2=di at cL;clear z0 ca cb cE Y bi O ad cd bp br bx ci cH cI cm t bd W b9 cF bo cc ce cJ bn ai b3 m1;go_wp2_with fail;generalize d.setCell ⟨wr.heap.size,1,none⟩ (.int .i64 y)=cn at*;clear v0 v1 cG
     go_region_held3 (fun w'=>w'.cell? (ah bs 0)=some (af o.p)/\w'.cell? (ah o.p 1)=some (.slice (some ⟨b5,K,none⟩) (o.wt s).length ch)/\w'.cell? (ah wr.heap.size 0)=some (ae g)/\w'.cell? (ah wr.heap.size 1)=some (ae y)) (go_keep) (fail)
     have cN:=(cf.trans (((Fr.refl (fun k=>k=b5) cn).set b5 (K+j*2) (ae g) rfl).set b5 (K+j*2+1) (ae y) rfl) (fun i c=>by rw[c];exact cg.out _ cM.out)).drew;have cO:=o.keep (w':=((cn.setCell ⟨b5,K+j*2,none⟩ (.int .i64 g)).setCell ⟨b5,K+j*2+1,none⟩ (.int .i64 y)).drew) ck bJ (fun _ _=>rfl)
     clear cf ck;go_wp2_with fail;go_roundw
     case rel=>exact⟨j+1,o.put s2 ((o.wt s2).set j (g,y)),true,J,I,ac,rfl,bg,cO,cN,cg⟩
     case measure=>simp[intOf];omega
   ·have be:Hid (eL o is kp s (j+1)=(b,b1)):=a0.out.trans (sG a2.out a3.out (ap hz1))
    go_wp2_with fail;go_roundw
    case rel=>exact⟨j+1,b,b1,l,I,ac,rfl,be,o.below A.out E,bb.out.trans (Fr.of (X:=F) E) (fun _ c=>ap c),q⟩
    case measure=>simp[intOf];omega
  ·obtain rfl:j=(o.wt s).length:=I;have cP:=M.out;go_wp2_with fail;go_ret;rw[cP];exact⟨l,rfl,m,v,q.out⟩
theorem x6:dQ 171:=gb func171 ab rfl
theorem sH {n:Type}(o:eQ n)(E:nF o)(D:Int->Prop)(g fk l:eV)(is:n->Int->Bool)(kp:n->Int->Int×n)(nw:n->Int->Int)(G:jW o D g fk l is kp nw)(x:Option Addr)(nr A:Nat)(H:o.vr=.slice x nr A)(F:Nat->Prop)(s:n)(w:World)(R:(o.wt s).length<=90000)
 (hD:∀j,j<(o.wt s).length->D ((o.wt (eL o is kp s j).1).getD j (0,0)).1/\D ((o.wt (eL o is kp s j).1).getD j (0,0)).2)(t:o.J F s w):
 Calls prog 112 #[af o.p,.agg #[g.v,fk.v,l.v]] w fun e w'=>∃a,e=.returned (.bool (eL o is kp s (o.wt s).length).2)/\o.J a (eL o is kp s (o.wt s).length).1 w'/\Fr F w w'/\∀k,a k->F k\/w.heap.size<=k:=by
 obtain⟨J,K,hp,_,S,_⟩:=o.side t;rw[H] at hp;have c0:w.cell? (ah o.p 0)=some (.slice x nr A):=by simp[World.cell?,hp]
 have c1:w.cell? (ah o.p 1)=some (.slice J (o.wt s).length K):=by simp[World.cell?,hp]
 have lp:o.p<w.heap.size:=lt_of_some hp;have L:Hid (o.J F s w):=t;have U:Hid (∀w1,Below w.heap.size w w1->w1.heap[w.heap.size+1]?=some (.cells #[g.v,fk.v,l.v] 120 (0,0))->w1.heap[w.heap.size]?=some (.cells #[af o.p] 52 (0,0))->Calls prog 171 #[af w.heap.size,af (w.heap.size+1)] w1 fun r w'=>∃a,r=.returned (.bool (eL o is kp s (o.wt s).length).2)/\o.J a (eL o is kp s (o.wt s).length).1 w'/\Fr F w1 w'/\∀k,a k->F k\/w1.heap.size<=k):=by
  intro w1 W Y ad;have q:∀k,w.heap.size<=k->¬F k:=fun k hk h=>by have:=o.lt t k h;omega
  exact x5 o E D g fk l is kp nw G F s w1 R hD _ _ (o.below t W) Y ad (q _ I) (q _ I)
 clear G t hp H S E hD;go_enter func112,ntmps112;go_wp2_with fail;have f:∃b,b=(w.alloc (.cells #[.pointer (some ⟨o.p,0,none⟩)] 52)).alloc (.cells #[g.v,fk.v,l.v] 120):=⟨_,rfl⟩
 obtain⟨b,f⟩:=f;have sz:b.heap.size=w.heap.size+2:=by rw[f];simp
 have v:Below w.heap.size w b:=by rw[f];exact((Below.refl _ w).alloc bJ _).alloc V _
 have g0:b.heap[w.heap.size]?=some (.cells #[af o.p] 52 (0,0)):=by rw[f,Below.heap_alloc _ _ _ V];exact aw _ _
 have g1:b.heap[w.heap.size+1]?=some (.cells #[g.v,fk.v,l.v] 120 (0,0)):=by rw[f];simpa using aw (w.alloc (.cells #[.pointer (some ⟨o.p,0,none⟩)] 52)) (.cells #[g.v,fk.v,l.v] 120)
 rw[<-f];have P:=sB 171 #[] #[af w.heap.size,af (w.heap.size+1)] x6 b o.p x J nr A (o.wt s).length K ((v.cell (p:=ah o.p 0) lp).trans c0) ((v.cell (p:=ah o.p 1) lp).trans c1)
  (fun M d=>∃a,M=(eL o is kp s (o.wt s).length).2/\o.J a (eL o is kp s (o.wt s).length).1 d/\Fr F w d/\∀k,a k->F k\/w.heap.size+5<=k)
  (by
    intro w1 B;have s1:w1.heap.size=w.heap.size+5:=by rw[B];simp;omega
    have b1:Below b.heap.size b w1:=by rw[B];exact(((Below.refl _ b).alloc bJ _).alloc V _).alloc (by simp;omega) _
    have hk:w1.heap[b.heap.size+1]?=some (.cells #[.bool false] 4 (0,0)):=by rw[B,Below.heap_alloc _ _ _ V];simpa using aw (b.alloc (.cells #[.pointer (some ⟨o.p,0,none⟩)] 52)) (.cells #[.bool false] 4)
    have b2:Below w.heap.size w w1:=v.trans (b1.mono I)
    refine(U.out w1 b2 ((b1.block _ I).trans g1) ((b1.block _ I).trans g0)).mono ?_;rintro e d ⟨C,rfl,q1,u,q3⟩
    rw[s1] at q3;refine⟨_,rfl,⟨C,rfl,q1,(Fr.of (X:=F) b2).trans u (fun _ c=>ap c),q3⟩,(u.block _ I (fun h=>?_)).trans hk⟩
    have:=o.lt L.out _ h;omega)
 refine P.mono ?_;clear P;rintro e w3 ⟨M,d,rfl,⟨C,rfl,q1,u,q3⟩,hk,rfl⟩
 obtain⟨m,hm⟩:∃m,m=b.heap.size+1:=⟨_,rfl⟩
 rw[<-hm];have ai:Hid (m=w.heap.size+3):=by show m=_;omega
 clear hm hk v g0 g1 sz f;have hm:=ai.out;have N:∀k,k≠m->(d.setCell ⟨m,0,none⟩ (.bool (eL o is kp s (o.wt s).length).2)).heap[k]?=d.heap[k]?:=fun k hk=>Below.heap_setCell _ _ _ _ hk;have O:=o.keep (w':=d.setCell ⟨m,0,none⟩ (.bool (eL o is kp s (o.wt s).length).2)) q1 (by simp[World.setCell]) (fun k hk=>N k (fun e=>by
  rcases q3 k hk with h|h
  ·have:=o.lt L.out k h;omega
  ·omega))
 have Q:=u.trans ((Fr.refl (fun k=>k=m) d).set m 0 (.bool (eL o is kp s (o.wt s).length).2) rfl) (fun i c=>an I)
 have al:Hid (∃a,o.J a (eL o is kp s (o.wt s).length).1 (d.setCell ⟨m,0,none⟩ (.bool (eL o is kp s (o.wt s).length).2))/\Fr F w (d.setCell ⟨m,0,none⟩ (.bool (eL o is kp s (o.wt s).length).2))/\∀k,a k->F k\/w.heap.size<=k):=⟨C,O,Q,fun k h=>(q3 k h).imp id (fun h=>by omega)⟩
 clear O Q N q1 u q3 hm;go_wp2_with fail;go_ret;obtain⟨a,ar,ax,aB⟩:=al.out;exact⟨a,rfl,ar,ax,aB⟩
structure bP where
 N:Nat
 O:Nat
 y:Nat
 T:List Int
structure bU where
 g:Nat
 ws:List Int
 f:Int->Int
 nx:Int
 wk:List Int
 ep:List Int
 rs:List Int
def bP.ld (k:bP)(s:bU)(a:Int):Int:=Proofs.YtjpjpjemibgjpaaGreat.ld k.N k.y s.g s.ws a
def bP.cq (k:bP)(x:Int):Bool:=cI x&&k.T.contains (bQ x)
def bP.ls (k:bP)(s:bU)(x:Int):Bool:=k.cq x&&(s.f (bQ x)==-1)
def bP.nw (k:bP)(s:bU)(x:Int):Int:=if(k.cq x&&!(s.f (bQ x)==-1))=true then ew 3 (s.f (bQ x)) else x
def fe (f:Int->Int)(a v:Int):Int->Int:=fun b=>if b=a then v else f b
def bP.cp (k:bP)(s:bU)(a:Int):bU:={s with g:=h9 k.N k.O k.y s.g s.ws a,ws:=h_ k.N k.O k.y s.g s.ws a,f:=fe s.f a (kt k.N k.O k.y s.g s.ws a)}
def bP.br (k:bP)(s:bU)(x:Int):Int×bU:=if k.ls s x=true then(k.nw (k.cp s (bQ x)) x,k.cp s (bQ x)) else(k.nw s x,s)
def bP.st (k:bP)(s:bU)(a x:Int):bU:={s with ws:=if cO k.N k.y s.g a=true then s.ws.set a.toNat x else s.ws}
def bP.kf (k:bP)(s:bU)(a:Int):bU:=k.st (k.br s (k.ld s a)).2 a (k.br s (k.ld s a)).1
def bP.eW (k:bP)(s:bU)(a:Int):Nat->bU
 |0=>s
 |n+1=>k.kf (k.eW s a n) (a+1+n)
def bP.lk (k:bP)(s:bU)(a:Int):bU:=
 if pk (k.ld s a)=1\/pk (k.ld s a)=2 then k.eW s a (pf (k.ld s a)).toNat
 else if pk (k.ld s a)=3 then k.kf {s with wk:=s.wk++[a]} (a+2)
 else if pk (k.ld s a)=4 then {s with ep:=s.ep++[a]} else s
def bP.lb (k:bP):Nat->bU->bU
 |0,s=>s
 |n+1,s=>if hB k.N s.g s.nx=true then k.lb n {k.lk s s.nx with nx:=s.nx+(1+pf (k.ld s s.nx))} else s
def bP.cr (k:bP)(t:List Int×bU)(a:Int):List Int×bU:=if k.ls t.2 (k.ld t.2 (a+1))=true then(t.1++[a],t.2) else(t.1,k.kf (k.kf t.2 (a+1)) (a+2))
def bP.c4 (k:bP)(s:bU)(l:List Int):List Int×bU:=l.foldl k.cr ([],s)
def bP.kv (k:bP)(s:bU):Bool×bU:=(decide ((k.c4 s s.ep).1.length<s.ep.length),{(k.c4 s s.ep).2 with ep:=(k.c4 s s.ep).1})
def dt {a:Type}(is:a->Int->Bool)(kp:a->Int->Int×a)(t:(a×List bN)×Bool)(i:Nat):(a×List bN)×Bool:=
 if is t.1.1 (t.1.2.getD i (0,0)).2||!is t.1.1 (t.1.2.getD i (0,0)).1 then t
 else(((kp t.1.1 (t.1.2.getD i (0,0)).2).2,t.1.2.set i ((t.1.2.getD i (0,0)).1,(kp t.1.1 (t.1.2.getD i (0,0)).2).1)),true)
def fF {a:Type}(is:a->Int->Bool)(kp:a->Int->Int×a)(s:a×List bN)(n:Nat):(a×List bN)×Bool:=(List.range n).foldl (dt is kp) (s,false)
def bP.al (k:bP)(s:bU)(x:Int):Bool:=!k.ls s x
def bP.wa (k:bP)(s:bU×List bN):(bU×List bN)×Bool:=fF k.al k.br s s.2.length
def bP.mu (k:bP)(s:bU):Nat:=(k.N+k.O+13-s.nx).toNat+s.ep.length+(k.O-s.g)
def bP.cK (k:bP):Nat->bU×List bN->bU×List bN
 |0,s=>s
 |n+1,s=>
  if(k.kv (k.lb (k.O+1) s.1)).1=true then k.cK n ((k.kv (k.lb (k.O+1) s.1)).2,s.2)
  else if(k.wa ((k.kv (k.lb (k.O+1) s.1)).2,s.2)).2=true then k.cK n (k.wa ((k.kv (k.lb (k.O+1) s.1)).2,s.2)).1
  else(k.wa ((k.kv (k.lb (k.O+1) s.1)).2,s.2)).1
def bP.sp (k:bP)(s:bU×List bN):bU×List bN:=k.cK (k.mu s.1+1) s
def bP.ke (k:bP)(s:bU×List bN)(x:Int):Int×(bU×List bN):=((k.br s.1 x).1,k.sp ((k.br s.1 x).2,s.2))
def bP.cg (k:bP)(s:bU):Nat->bU
 |0=>s
 |n+1=>{(k.br (k.cg s n) ((k.cg s n).rs.getD n 0)).2 with rs:=(k.br (k.cg s n) ((k.cg s n).rs.getD n 0)).2.rs.set n (k.br (k.cg s n) ((k.cg s n).rs.getD n 0)).1}
def bP.ff (k:bP)(e c:Int)(M:List Int)(s:bU)(a:Int):bU:=if a+pf (k.ld s a)<e then(if(fS k.N c a&&M.contains (cN k.N a))=true then k.lk s a else s) else s
def bP.lm (k:bP)(c:Int)(M:List Int)(s:bU)(l:List Int):bU:=l.foldl (k.ff s.nx c M) s
def bP.ex (k:bP)(s:bU)(a:Int):bU:=if k.ls s (k.ld s (a+1))=true then k.st s (a+1) 3 else k.st s (a+1) (k.nw s (k.ld s (a+1)))
def bP.mw (k:bP)(s:bU)(l:List Int):bU:=l.foldl k.ex s
def bP.gg (k:bP)(s:bU)(a:Int):bU:=k.st (k.st s (a+1) 3) (a+2) 3
def bP.be (k:bP)(s:bU)(l:List Int):bU:=l.foldl k.gg s
def bP.sz (k:bP)(s:bU):Nat:=((k.T.filter (fun a=>s.f a==-1)).map (fun a=>1+(pf (k.ld s a)).toNat)).sum
structure CI (k:bP)(s:bU):Prop where
 hN:16<=k.N
 hN':k.N<=256
 hO:k.O<=1024
 hy:k.y<=k.N
 hg:s.g<=k.O
 len:s.ws.length=k.N+k.O
 th:∀a∈k.T,0<=a/\pc (k.ld s a)=0/\a+1+pf (k.ld s a)<=k.y
 nd:k.T.Nodup
 room:k.sz s<=k.O-s.g
 f5:(k.N:Int)<=s.nx
 gC:s.nx<=(k.N:Int)+k.O+13
 gN:∀a∈s.wk,(k.N:Int)<=a/\a<=2000
 gD:∀a∈s.ep,(k.N:Int)<=a/\a<=2000
 tl:k.T.length<=2000
structure d6 (k:bP)(s:bU):Prop where
 wk:s.wk.length+(k.N+k.O+13-s.nx).toNat<=4000
 ep:s.ep.length+(k.N+k.O+13-s.nx).toNat<=4000
end Go.Proofs.YtjpjpjemibgjpaaGreat
