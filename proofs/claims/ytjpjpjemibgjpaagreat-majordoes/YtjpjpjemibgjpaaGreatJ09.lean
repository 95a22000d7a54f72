import Derived.Test.YtjpjpjemibgjpaaGreatJ08
import Derived.Test.YtjpjpjemibgjpaaGreatJ07
import Derived.Test.YtjpjpjemibgjpaaGreatJ01
import Derived.Test.YtjpjpjemibgjpaaGreatJ00
import Derived.Test.YtjpjpjemibgjpaaGreatJ02
import Derived.Test.YtjpjpjemibgjpaaGreatJ06
import Derived.Test.YtjpjpjemibgjpaaGreatJ04
import Derived.Test.YtjpjpjemibgjpaaGreatJ03
import Derived.Test.YtjpjpjemibgjpaaGreatJ05
namespace Go.Proofs.YtjpjpjemibgjpaaGreat
set_option maxRecDepth 100000
set_option maxHeartbeats 2000000
open Tryz
open Go.RowKit W Kp bY
structure eQ (σ:Type) extends dB σ where
 p:Nat
 vr:Value
 wt:σ->List bN
 put:σ->List bN->σ
 side:∀{F s w},J F s w->∃ad cap,w.heap[p]?=some (.cells #[vr,.slice ad (wt s).length cap] 128 (0,0))/\gq w ad (wt s) cap/\F p/\(0<(wt s).length->∀z,ad=some z->F z.block)
 set:∀{F s w},J F s w->∀{w1:World}{q:List bN}{b1 fD:Nat},Below w.heap.size w w1->w1.ownsRow w.heap.size 83 2 (.slice (ag b1) q.length fD) q.length (ev q)->
  J (fun k=>F k\/k=b1) (put s q) (w1.setCell ⟨p,1,none⟩ (.slice (some ⟨b1,0,none⟩) q.length fD))
 ns:∀s q,wt (put s q)=q
theorem gq.keep {w w':World}{b:Option Addr}{l:List bN}{c:Nat}(h:gq w b l c)(hs:w.heap.size<=w'.heap.size)(hk:0<l.length->∀a,b=some a->w'.heap[a.block]?=w.heap[a.block]?):gq w' b l c:=⟨h.lp.keep hs hk,h.le,h.nil⟩
theorem gq.below {w w':World}{a:Option Addr}{l:List bN}{b:Nat}(h:gq w a l b)(c:Below w.heap.size w w'):gq w' a l b:=⟨h.lp.below c,h.le,h.nil⟩
def kC {a:Type}(o:eQ a)(D:Int->Prop)(f:Nat)(b c:Array Value)(kp:a->Int->Int×a):Prop:=
 ∀F t w (x:Int),D x->(o.wt (kp t x).2).length<=90000->o.J F t w->Calls prog f (b.push (ae x)++c) w fun r w'=>∃d,r=.returned (ae (kp t x).1)/\o.J d (kp t x).2 w'/\Fr F w w'/\∀k,d k->F k\/w.heap.size<=k
structure eV where
 f:Nat
 b:Array Value
 c:Array Value
abbrev eV.v (x:eV):Value:=.func (.func x.f) x.b x.c
structure jr (w:World)(p bl xk bs:Nat)(fa fk fn:eV):Prop where
 l:w.heap[bl]?=some (.cells #[fa.v,fk.v,fn.v] 120 (0,0))
 g:w.heap[xk]?=some (.cells #[.func (.func 113) #[] #[af bl]] 81 (0,0))
 s:w.heap[bs]?=some (.cells #[af p] 52 (0,0))
theorem sb {d:Type}(o:dB d)(D:Int->Prop)(a:eV)(is:d->Int->Bool)(he:dQ a.f)(ha:ic o D a.f a.b a.c is)(F:Nat->Prop)(s:d)(w:World)(bl:Nat)(e:bN)(hD:D e.1)(i:o.J F s w)(hc:w.cell? (ah bl 0)=some a.v):
 Calls prog 113 #[en e,af bl] w fun r w'=>r=.returned (.bool (is s e.1))/\Below w.heap.size w w':=by
 obtain⟨g,z⟩:=e;obtain⟨f,b,c⟩:=a;have k:Hid (ic o D f b c is):=ha;have l:Hid (o.J F s w):=i;have n:=au w _ hc;have p:∀(args:Array Value)(w:World),(callFunc f args).run prog w=.ok (.enter f args) w:=he;clear he ha i;go_enter func113,ntmps113;go_wp2_with fail;have j:=(Below.refl w.heap.size w).alloc bJ (.cells #[ae g,ae z] 83)
 refine(k.out F s _ g hD (o.below l.out j)).mono ?_;rintro r w1 ⟨rfl,m⟩
 go_wp2_with fail;go_ret;exact⟨rfl,j.trans (m.mono V)⟩
theorem xl {d:Type}(o:dB d)(D:Int->Prop)(a:eV)(is:d->Int->Bool)(he:dQ a.f)(ha:ic o D a.f a.b a.c is)(F:Nat->Prop)(s:d)(w:World)(bl:Nat)(e:bN)(hD:D e.2)(i:o.J F s w)(hc:w.cell? (ah bl 0)=some a.v):
 Calls prog 118 #[en e,af bl] w fun r w'=>r=.returned (.bool (is s e.2))/\Below w.heap.size w w':=by
 obtain⟨g,z⟩:=e;obtain⟨f,b,c⟩:=a;have k:Hid (ic o D f b c is):=ha;have l:Hid (o.J F s w):=i;have n:=au w _ hc;have p:∀(args:Array Value)(w:World),(callFunc f args).run prog w=.ok (.enter f args) w:=he;clear he ha i;go_enter func118,ntmps118;go_wp2_with fail;have j:=(Below.refl w.heap.size w).alloc bJ (.cells #[ae g,ae z] 83)
 refine(k.out F s _ z hD (o.below l.out j)).mono ?_;rintro r w1 ⟨rfl,m⟩
 go_wp2_with fail;go_ret;exact⟨rfl,j.trans (m.mono V)⟩
def cm {a:Type}(o:eQ a)(is:a->Int->Bool)(kp:a->Int->Int×a)(s:a)(e:bN):Bool×a:=
 if is s e.1 then(true,o.put (kp s e.2).2 (o.wt (kp s e.2).2++[(e.1,(kp s e.2).1)])) else(false,s)
theorem nt {a:Type}{o:eQ a}{is:a->Int->Bool}{kp:a->Int->Int×a}{s:a}{e:bN}(h:is s e.1=false):cm o is kp s e=(false,s):=by simp[cm,h]
theorem nu {a:Type}{o:eQ a}{is:a->Int->Bool}{kp:a->Int->Int×a}{s:a}{e:bN}(h:is s e.1=true):cm o is kp s e=(true,o.put (kp s e.2).2 (o.wt (kp s e.2).2++[(e.1,(kp s e.2).1)])):=by simp[cm,h]
theorem xm {m:Type}(o:eQ m)(D:Int->Prop)(b fk aR:eV)(is:m->Int->Bool)(kp:m->Int->Int×m)(he:dQ b.f)(O:dQ fk.f)(ha:ic o.todB D b.f b.b b.c is)(hk:kC o D fk.f fk.b fk.c kp)
 (F:Nat->Prop)(s:m)(w:World)(bl v bs:Nat)(e:bN)(hD:D e.1/\D e.2)(P:(o.wt (kp s e.2).2).length<=90000)(Q:o.J F s w)(hB:jr w o.p bl v bs b fk aR)(hs:¬F bs):
 Calls prog 114 #[en e,af v,af bl,af bs] w fun r w'=>∃R,r=.returned (.bool (cm o is kp s e).1)/\o.J R (cm o is kp s e).2 w'/\Fr F w w'/\∀k,R k->F k\/w.heap.size<=k:=by
 obtain⟨g,z⟩:=e;have aT:Hid (ic o.todB D b.f b.b b.c is):=ha;have aV:Hid (kC o D fk.f fk.b fk.c kp):=hk;have J:Hid ((o.wt (kp s z).2).length<=90000):=P;have a0:Hid (dQ b.f):=he;have x:Hid (o.J F s w):=Q;have c0:w.cell? (ah bl 0)=some b.v:=by simp[World.cell?,hB.l]
 have c1:w.cell? (ah bl 1)=some (.func (.func fk.f) fk.b fk.c):=by simp[World.cell?,hB.l]
 have c2:w.cell? (ah v 0)=some (.func (.func 113) #[] #[af bl]):=by simp[World.cell?,hB.g]
 have a1:w.cell? (ah bs 0)=some (af o.p):=by simp[World.cell?,hB.s]
 have l1:bl<w.heap.size:=lt_of_some hB.l;have l2:v<w.heap.size:=lt_of_some hB.g;have a2:bs<w.heap.size:=lt_of_some hB.s;have bS:∀(args:Array Value)(w:World),(callFunc fk.f args).run prog w=.ok (.enter fk.f args) w:=O;clear he ha Q hk O P hB;go_enter func114,ntmps114;go_wp2_with fail;have A:=(Below.refl w.heap.size w).alloc bJ (.cells #[ae g,ae z] 83)
 refine(sb o.todB D b is a0.out aT.out F s _ bl (g,z) hD.1 (o.below x.out A) ((A.cell l1).trans c0)).mono ?_;rintro r w1 ⟨rfl,j⟩
 have d:=A.trans (j.mono V)
 have a3:w.heap.size<w1.heap.size:=by have:=j.size;simp at this;omega
 have S:w1.cell? (ah w.heap.size 0)=some (ae g):=(j.cell V).trans V;have y1:w1.cell? (ah w.heap.size 1)=some (ae z):=(j.cell V).trans V;have bb:w1.cell? (ah bl 1)=some (.func (.func fk.f) fk.b fk.c):=(d.cell l1).trans c1;have U:w1.cell? (ah bs 0)=some (af o.p):=(d.cell a2).trans a1;have W:w1.frozen? (ah w.heap.size 1)=false:=(j.frozen V).trans V;clear j A;cases hg:is s g
 ·have n:Hid (cm o is kp s (g,z)=(false,s)):=nt hg;go_wp2_with fail;go_ret;rw[n.out];exact⟨F,rfl,o.below x.out d,Fr.of d,fun k h=>ap h⟩
 ·have n:Hid (cm o is kp s (g,z)=(true,o.put (kp s z).2 (o.wt (kp s z).2++[(g,(kp s z).1)]))):=nu hg;go_wp2_with fail;refine(aV.out F s _ z hD.2 J.out (o.below x.out d)).mono ?_;rintro r w3 ⟨t,rfl,B,u,C⟩
  generalize (kp s z).1=y at n⊢;generalize (kp s z).2=s1 at n B J;have K:¬F w.heap.size:=fun h=>by have:=o.lt x.out _ h;omega
  have E:¬t w.heap.size:=fun h=>(C _ h).elim K (fun h=>by omega)
  have bT:=u.size;have bU:=d.size;obtain⟨L,M,hp,Y,G,ad⟩:=o.side B;have ai:o.p≠w.heap.size:=fun e=>E (by rw[<-e];exact G)
  have bV:o.p<w3.heap.size:=lt_of_some hp;have bW:bs≠o.p:=fun e=>(C bs (by rw[e];exact G)).elim hs (fun h=>by omega)
  have bX:=J.out;have H:=u.block _ a3 K;have al:=u.block bs I hs;have z0:w3.cell? (ah w.heap.size 0)=some (ae g):=(aD (a:=⟨w.heap.size,0,none⟩) H).trans S;have ar:w3.cell? (ah w.heap.size 1)=some (ae z):=(aD (a:=⟨w.heap.size,1,none⟩) H).trans y1;have bd:w3.frozen? (ah w.heap.size 1)=false:=(World.frozen?_of_block (a:=⟨w.heap.size,1,none⟩) H).trans W;have ax:w3.cell? (ah bs 0)=some (af o.p):=(aD (a:=⟨bs,0,none⟩) al).trans U;have be:bs≠w.heap.size:=I;have l:∀k:Nat,k≠w.heap.size->(w3.setCell ⟨w.heap.size,1,none⟩ (.int .i64 y)).heap[k]?=w3.heap[k]?:=fun k hk=>Below.heap_setCell _ _ _ _ hk;have N:(w3.setCell ⟨w.heap.size,1,none⟩ (.int .i64 y)).heap.size=w3.heap.size:=by simp[World.setCell]
  have bg:(w3.setCell ⟨w.heap.size,1,none⟩ (.int .i64 y)).cell? (ah w.heap.size 0)=some (ae g):=(aC w3 ⟨w.heap.size,1,none⟩ ⟨w.heap.size,0,none⟩ (ae y) V).trans z0;have bi:(w3.setCell ⟨w.heap.size,1,none⟩ (.int .i64 y)).cell? (ah w.heap.size 1)=some (ae y):=aH _ _ _ ar;have bn:(w3.setCell ⟨w.heap.size,1,none⟩ (.int .i64 y)).cell? (ah bs 0)=some (af o.p):=(aD (a:=⟨bs,0,none⟩) (l bs be)).trans ax;have bo:(w3.setCell ⟨w.heap.size,1,none⟩ (.int .i64 y)).cell? (ah o.p 1)=some (.slice L (o.wt s1).length M):=(aD (a:=⟨o.p,1,none⟩) (l o.p ai)).trans (by simp[World.cell?,hp])
  have bp:(w3.setCell ⟨w.heap.size,1,none⟩ (.int .i64 y)).frozen? (ah o.p 1)=false:=(World.frozen?_of_block (a:=⟨o.p,1,none⟩) (l o.p ai)).trans (by simp[World.frozen?,hp])
  have br:o.J t s1 (w3.setCell ⟨w.heap.size,1,none⟩ (.int .i64 y)):=o.keep B (by rw[N];exact ak _) (fun k hk=>l k (fun e=>E (by rw[<-e];exact hk)))
  have bx:gq (w3.setCell ⟨w.heap.size,1,none⟩ (.int .i64 y)) L (o.wt s1) M:=Y.keep (by rw[N];exact ak _) (fun hq a e=>l _ (fun bL=>E (by rw[<-bL];exact ad hq a e)))
  have bM:Fr F w (w3.setCell ⟨w.heap.size,1,none⟩ (.int .i64 y)):=((Fr.of (X:=F) d).trans u (fun _ c=>ap c)).trans ((Fr.refl (fun k=>k=w.heap.size) w3).set _ 1 _ rfl) (fun i c=>an I)
  have aB:Hid (∀k,t k->F k\/w.heap.size<=k):=fun k h=>(C k h).imp id (fun h=>by omega)
  have bO:Hid (t o.p):=G;have lo:bs<(w3.setCell ⟨w.heap.size,1,none⟩ (.int .i64 y)).heap.size:=I;have lp:o.p<(w3.setCell ⟨w.heap.size,1,none⟩ (.int .i64 y)).heap.size:=I;have lw:w.heap.size<(w3.setCell ⟨w.heap.size,1,none⟩ (.int .i64 y)).heap.size:=I;clear K E hp Y G ad H al ax l u B C S y1 bb U W N;go_wp2_with fail;generalize w3.setCell ⟨w.heap.size,1,none⟩ (.int .i64 y)=bY at*;clear z0 ar bd
  go_region_with (go_at_call 79;refine(q4 _ L (o.wt s1) M g y (bx.below (bK.drew)) I).mono ?_;rintro e bP ⟨b1,fD,rfl,aF,f⟩;have bZ:=(f.cell (p:=ah w.heap.size 0) lw).trans bg;have b0:=(f.cell (p:=ah w.heap.size 1) lw).trans bi;have b2:=(f.cell (p:=ah bs 0) lo).trans bn;have b3:=(f.cell (p:=ah o.p 1) lp).trans bo;have b4:=(f.frozen (p:=ah o.p 1) lp).trans bp)
  all_goals
   go_wp2_with fail;go_ret;rw[n.out];have bQ:=o.set (q:=o.wt s1++[(g,y)]) (b1:=b1) (fD:=fD) (o.below br bK.drew) f (by simpa using aF)
   refine⟨fun k=>t k\/k=b1,rfl,by simpa using bQ,(bM.drew.trans (Fr.of (X:=F) f) (fun _ c=>ap c)).trans ((Fr.refl (fun k=>k=o.p) bP).set o.p 1 _ rfl) (fun i c=>by rw[c];exact aB.out _ bO.out),fun k h=>h.elim (aB.out k) (fun h=>an (by have:=(bR aF b1 rfl).1;simp at this;omega))⟩
def boxed {d:Type}(o:eQ d)(bl c bs:Nat)(e fk f:eV):dB d where
 J F s w:=∃a,o.J a s w/\jr w o.p bl c bs e fk f/\¬a bl/\¬a c/\¬a bs/\∀k,F k↔(a k\/k=bl\/k=c\/k=bs)
 lt:=by
  rintro F t w ⟨a,h0,hB,_,_,_,b⟩ k hk;rcases(b k).1 hk with h|rfl|rfl|rfl
  ·exact o.lt h0 k h
  ·exact lt_of_some hB.l
  ·exact lt_of_some hB.g
  ·exact lt_of_some hB.s
 keep:=by rintro F t w w' ⟨a,h0,hB,g,i,j,b⟩ hs hk;exact⟨a,o.keep h0 hs (fun k h=>hk k ((b k).2 (ap h))),⟨(hk bl ((b bl).2 V)).trans hB.l,(hk c ((b c).2 V)).trans hB.g,(hk bs ((b bs).2 V)).trans hB.s⟩,g,i,j,b⟩
theorem xn {b:Type}(o:eQ b)(bl c bs:Nat)(D:Int->Prop)(a fk j:eV)(is:b->Int->Bool)(kp:b->Int->Int×b)(he:dQ a.f)(u:dQ fk.f)(ha:ic o.todB D a.f a.b a.c is)(hk:kC o D fk.f fk.b fk.c kp):
 Looks (boxed o bl c bs a fk j) (fun e=>D e.1/\D e.2) (fun s=>∀x,(o.wt (kp s x).2).length<=90000) 114 #[] #[af c,af bl,af bs] (cm o is kp):=by
 intro F s w e hD v A;obtain⟨l,h0,hB,m,n,f,g⟩:=A;refine(xm o D a fk j is kp he u ha hk l s w bl c bs e hD (v e.2) h0 hB f).mono ?_;rintro r w' ⟨i,rfl,B,d,p⟩
 have q:∀k,k<w.heap.size->¬l k->¬i k:=fun k hk C h=>(p k h).elim C (fun h=>by omega)
 have lb:=lt_of_some hB.l;have t:=lt_of_some hB.g;have ls:=lt_of_some hB.s;refine⟨fun k=>i k\/k=bl\/k=c\/k=bs,rfl,⟨i,B,⟨(d.block _ lb m).trans hB.l,(d.block _ t n).trans hB.g,(d.block _ ls f).trans hB.s⟩,q _ lb m,q _ t n,q _ ls f,fun k=>Iff.rfl⟩,d.mono (fun k h=>(g k).2 (ap h)),fun k h=>?_⟩
 rcases h with h|h
 ·exact(p k h).imp (fun h=>(g k).2 (ap h)) id
 ·exact ap ((g k).2 (an h))
def eu {b:Type}(lk:b->bN->Bool×b):Nat->b->List bN->b×List bN
 |0,s,a=>(s,a)
 |n+1,s,a=>if(pts lk s a).1.length=0 then((pts lk s a).2.2,(pts lk s a).2.1) else eu lk n (pts lk s a).2.2 (pts lk s a).2.1
theorem lA {b:Type}(lk:b->bN->Bool×b)(n:Nat)(s:b)(a:List bN)(h:(pts lk s a).1.length=0):eu lk (n+1) s a=((pts lk s a).2.2,(pts lk s a).2.1):=by rw[eu,aq h]
theorem lB {b:Type}(lk:b->bN->Bool×b)(n:Nat)(s:b)(a:List bN)(h:¬(pts lk s a).1.length=0):eu lk (n+1) s a=eu lk n (pts lk s a).2.2 (pts lk s a).2.1:=by rw[eu,ao h]
theorem xo {a:Type}(lk:a->bN->Bool×a)(t:a)(l:List bN)(e:bN):(e∈(pts lk t l).1\/e∈(pts lk t l).2.1)->e∈l:=by
 have key:∀(l:List bN)(s:List bN×List bN×a),(e∈(l.foldl (ec lk) s).1\/e∈(l.foldl (ec lk) s).2.1)->e∈s.1\/e∈s.2.1\/e∈l:=by
  intro l
  induction l with
  |nil=>intro s h;rcases h with h|h<;>simp at h<;>simp[h]
  |cons x r b=>
   intro s h;rw[aI] at h;have:=b _ h;unfold ec at this
   split at this<;>simp only [List.mem_append,List.mem_cons] at this⊢<;>grind
 intro h;have:=key l ([],[],t) h;simpa using this
abbrev kD (a bl bs:Nat):Value:=.func (.func 114) #[] #[af a,af bl,af bs]
theorem pd {a:Type}(o:eQ a)(is:a->Int->Bool)(kp:a->Int->Int×a)(hl:∀s x,(o.wt (kp s x).2).length=(o.wt s).length)(s:a)(l:List bN):(o.wt (pts (cm o is kp) s l).2.2).length=(o.wt s).length+(pts (cm o is kp) s l).1.length:=by
 have key:∀(l:List bN)(t:List bN×List bN×a),(o.wt (l.foldl (ec (cm o is kp)) t).2.2).length+t.1.length=(o.wt t.2.2).length+(l.foldl (ec (cm o is kp)) t).1.length:=by
  intro l
  induction l with
  |nil=>intro t;simp
  |cons e r c=>
   intro t;rw[aI];have h:=c (ec (cm o is kp) t e)
   cases hc:is t.2.2 e.1
   ·have b:ec (cm o is kp) t e=(t.1,t.2.1++[e],t.2.2):=by simp[ec,cm,hc]
    rw[b] at h⊢;exact h
   ·have b:ec (cm o is kp) t e=(t.1++[e],t.2.1,o.put (kp t.2.2 e.2).2 (o.wt (kp t.2.2 e.2).2++[(e.1,(kp t.2.2 e.2).1)])):=by simp[ec,cm,hc]
    rw[b] at h⊢;dsimp only at h;rw[o.ns,aJ,aJ,hl] at h;simp at h;omega
 have:=key l ([],[],s)
 simpa[pts] using this
def eH {a:Type}(o:eQ a)(is:a->Int->Bool)(kp:a->Int->Int×a)(s:a)(r:List bN):a:=(eu (cm o is kp) ((r.filter (fun e=>!is s e.2)).length+1) s (r.filter (fun e=>!is s e.2))).1
def el {a:Type}(o:eQ a)(is:a->Int->Bool)(kp:a->Int->Int×a)(nw:a->Int->Int)(s:a)(r:List bN):List bN:=((r.filter (fun e=>is s e.2)).filter (fun e=>is (eH o is kp s r) e.1)).map fun e=>(nw (eH o is kp s r) e.1,nw (eH o is kp s r) e.2)
def em {a:Type}(o:eQ a)(is:a->Int->Bool)(kp:a->Int->Int×a)(nw:a->Int->Int)(s:a)(r:List bN):List bN:=((o.wt (eH o is kp s r)).filter (fun e=>is (eH o is kp s r) e.1)).map fun e=>(nw (eH o is kp s r) e.1,nw (eH o is kp s r) e.2)
structure jW {σ:Type}(o:eQ σ)(D:Int->Prop)(fa fk fn:eV)(is:σ->Int->Bool)(kp:σ->Int->Int×σ)(nw:σ->Int->Int):Prop where
 ea:dQ fa.f
 eR:dQ fk.f
 en:dQ fn.f
 ha:ic o.todB D fa.f fa.b fa.c is
 hk:kC o D fk.f fk.b fk.c kp
 ht:jV o.todB D fn.f fn.b fn.c nw
 hl:∀s x,(o.wt (kp s x).2).length=(o.wt s).length
theorem sc:dQ 113:=gb func113 ab rfl
theorem xp:dQ 114:=gb func114 ab rfl
theorem xq:dQ 118:=gb func118 ab rfl
def se:Value->Nat
 |.slice _ n _=>n
 |_=>0
def ny (n m:Nat):Nat:=if n=0 then 0 else m+1
theorem xr {c a y n:Nat}(hc:¬c=0)(h:y+n=a):ny y n<ny c a:=by unfold ny;rw[ao hc];split<;>omega
theorem lC {w:World}{a:Addr}{p i:Nat}{v:Value}(h:a.block≠p):(w.setCell ⟨p,i,none⟩ v).cell? a=w.cell? a:=aD (Below.heap_setCell _ _ _ _ h)
theorem nz {w:World}{p:Nat}{x y v1 v2:Value}{T:TypeId}(h:w.heap[p]?=some (.cells #[x,y] T (0,0))):((w.setCell ⟨p,0,none⟩ v1).setCell ⟨p,1,none⟩ v2).heap[p]?=some (.cells #[v1,v2] T (0,0)):=by simp only [World.setCell,Array.getElem?_modify,if_true,h,Option.map_some];simp
theorem Fr.unbox {F:Nat->Prop}{w w':World}{p bl a bs:Nat}{c fk d:eV}(h:Fr (fun k=>F k\/k=bl\/k=a\/k=bs) w w')(hB:jr w p bl a bs c fk d)(b:jr w' p bl a bs c fk d):Fr F w w':=
 ⟨h.os,h.tape,h.output,h.size,fun k hk i=>by
  by_cases e:k=bl
  ·rw[e,hB.l,b.l]
  by_cases f:k=a
  ·rw[f,hB.g,b.g]
  by_cases g:k=bs
  ·rw[g,hB.s,b.s]
  exact h.block k hk (by simp[i,e,f,g])⟩
theorem xt {O:Type}(o:eQ O)(D:Int->Prop)(l fk d:eV)(is:O->Int->Bool)(kp:O->Int->Int×O)(nw:O->Int->Int)(br:jW o D l fk d is kp nw)(r:List bN)(bx:Option Addr)(b8:Nat)(cI:o.vr=.slice bx r.length b8)(cJ:r.length<=90000)(hD:∀e∈r,D e.1/\D e.2)
 (F:Nat->Prop)(s:O)(w:World)(dx:∀e∈o.wt (eH o is kp s r),D e.1/\D e.2)(er:(o.wt s).length+r.length<=90000)(bl b bs G:Nat)(aF:o.J F s w)(hB:jr w o.p bl b bs l fk d)(b9:w.heap[G]?=some (.cells #[kD b bl bs] 81 (0,0)))(bL:¬F bl)(bM:¬F b)(dy:¬F bs)(dz:¬F G)(dA:G≠bl/\G≠b/\G≠bs)(cK:cS w bx r):
 Calls prog 116 #[af bs,af bl,af G,af b] w fun e w'=>∃a1 c1 a2 c2 bO cL,e=.returned (.bool true)/\o.J bO (eH o is kp s r) cL/\Fr (fun k=>k=o.p) cL w'/\
  w'.heap[o.p]?=some (.cells #[.slice a1 (el o is kp nw s r).length c1,.slice a2 (em o is kp nw s r).length c2] 128 (0,0))/\w'.ownsRow w.heap.size 83 2 (.slice a1 (el o is kp nw s r).length c1) (el o is kp nw s r).length (ev (el o is kp nw s r))/\
  w'.ownsRow w.heap.size 83 2 (.slice a2 (em o is kp nw s r).length c2) (em o is kp nw s r).length (ev (em o is kp nw s r))/\Fr F w w'/\(∀k,bO k->F k\/w.heap.size<=k)/\(∀k,some k=(Value.slice a1 (el o is kp nw s r).length c1).ownBlock->¬bO k)/\(∀k,some k=(Value.slice a2 (em o is kp nw s r).length c2).ownBlock->¬bO k)/\(∀k,some k=(Value.slice a1 (el o is kp nw s r).length c1).ownBlock->some k≠(Value.slice a2 (em o is kp nw s r).length c2).ownBlock):=by
 obtain⟨es,et,hp,_,ew,_⟩:=o.side aF;rw[cI] at hp;have ex:w.cell? (ah bs 0)=some (af o.p):=by simp[World.cell?,hB.s]
 have ey:w.cell? (ah o.p 0)=some (.slice bx r.length b8):=by simp[World.cell?,hp]
 have l1:bl<w.heap.size:=lt_of_some hB.l;have l2:b<w.heap.size:=lt_of_some hB.g;have ez:bs<w.heap.size:=lt_of_some hB.s;have dB:G<w.heap.size:=lt_of_some b9;have v:Hid (jW o D l fk d is kp nw):=br;have dC:Hid (jr w o.p bl b bs l fk d):=hB;have eA:Hid (∀e∈r,D e.1/\D e.2):=hD;have dD:Hid (∀e∈o.wt (eH o is kp s r),D e.1/\D e.2):=dx;have dE:Hid (w.heap[G]?=some (.cells #[kD b bl bs] 81 (0,0))):=b9;have c0:w.cell? (ah bl 0)=some l.v:=by simp[World.cell?,hB.l]
 have cb:=oR (fun e=>D e.1/\D e.2) 118 #[] #[af bl] (fun e=>is s e.2) xq w (fun w' e hd hs hk=>xl o.todB D l is br.ea br.ha F s w' bl e hd.2 (o.keep aF hs (fun k h=>hk k (o.lt aF k h))) ((aD (a:=⟨bl,0,none⟩) (hk bl l1)).trans c0)) r bx b8 hD I cK;obtain⟨A,bP⟩:∃A,Hid (A=r.filter (fun e=>is s e.2)):=⟨_,rfl⟩
 obtain⟨B,aR⟩:∃B,Hid (B=r.filter (fun e=>!is s e.2)):=⟨_,rfl⟩
 rw[<-bP.out,<-aR.out] at cb;have dF:A.length<=90000:=by rw[bP.out];exact az (aY _ _) cJ
 have cM:B.length<=90000:=by rw[aR.out];exact az (aY _ _) cJ
 have dG:(o.wt s).length+B.length<=90000:=by have:=aY (fun e=>!is s e.2) r;rw[aR.out];omega
 have cN:Hid ((eu (cm o is kp) (B.length+1) s B).1=eH o is kp s r):=by show _=_;rw[aR.out];rfl
 have cO:Hid (∀e∈A,D e.1/\D e.2):=fun e he=>hD e (by rw[bP.out] at he;exact(List.mem_filter.1 he).1)
 have dH:Hid (∀e∈B,D e.1/\D e.2):=fun e he=>hD e (by rw[aR.out] at he;exact(List.mem_filter.1 he).1)
 have cP:Hid ((boxed o bl b bs l fk d).J (fun k=>F k\/k=bl\/k=b\/k=bs) s w):=⟨F,aF,hB,bL,bM,dy,fun k=>Iff.rfl⟩
 clear br aF hp cI cK b9 hD hB c0;go_enter func116,ntmps116;go_wp2_with fail;refine cb.mono ?_;clear cb;rintro e w1 ⟨a1,aT,a2,ce,rfl,cf,cg,ch⟩
 have cQ:Fr (fun k=>F k\/k=bl\/k=b\/k=bs) w w1:=Fr.of ch;have cR:=(boxed o bl b bs l fk d).below cP.out ch;have cT:Hid (∀k,(F k\/k=bl\/k=b\/k=bs)->(F k\/k=bl\/k=b\/k=bs)\/w.heap.size<=k):=fun k h=>ap h;have ci:=(boxed o bl b bs l fk d).lt cP.out;have P:Hid (∀k,some k=(Value.slice a1 A.length aT).ownBlock->¬(F k\/k=bl\/k=b\/k=bs)):=fun k e h=>by have:=(bR cf k e).1;have:=ci k h;omega
 have cU:Hid (∀k,some k=(Value.slice a2 B.length ce).ownBlock->¬(F k\/k=bl\/k=b\/k=bs)):=fun k e h=>by have:=(bR cg k e).1;have:=ci k h;omega
 clear ci ch;go_wp2_with fail
 go_loopw [6,7] (fun cj vc wr=>∃(f C:List bN)(aV cV:Option Addr)(cd cc n:Nat)(U:Nat->Prop)(s2:O),cj=.slice aV f.length cd/\vc=.slice cV C.length cc/\Hid (C.length=0->s2=eH o is kp s r)/\Hid (¬C.length=0->(eu (cm o is kp) n s2 f).1=eH o is kp s r/\f.length<n)/\Hid (∀e∈f,D e.1/\D e.2)/\f.length<=90000/\C.length<=90000/\(o.wt s2).length+f.length<=90000/\
  wr.ownsRow w.heap.size 83 2 (.slice aV f.length cd) f.length (ev f)/\wr.ownsRow w.heap.size 83 2 (.slice a1 A.length aT) A.length (ev A)/\(boxed o bl b bs l fk d).J U s2 wr/\Fr (fun k=>F k\/k=bl\/k=b\/k=bs) w wr/\Hid (∀k,U k->(F k\/k=bl\/k=b\/k=bs)\/w.heap.size<=k)/\
  Hid (∀k,some k=(Value.slice a1 A.length aT).ownBlock->¬U k)/\Hid (∀k,some k=(Value.slice aV f.length cd).ownBlock->¬U k)) (fun cj vc _=>ny (se vc) (se cj))
 case atStart=>
  refine⟨B,B,a2,a2,ce,ce,B.length+1,(fun k=>F k\/k=bl\/k=b\/k=bs),s,rfl,rfl,fun h=>?_,fun _=>⟨cN.out,Nat.lt_succ_self _⟩,dH,cM,cM,dG,cg,cf,cR,cQ,cT,P,cU⟩
  rw[<-cN.out,List.eq_nil_of_length_eq_zero h];rfl
 case round=>
  clear cf cg cR cQ cT P cU;obtain⟨f,C,aV,cV,cd,cc,n,U,s2,rfl,rfl,ck,W,cW,eB,eC,eD,hd,a0,cl,Q,bQ,P,cn⟩:=hrel;by_cases ad:C.length=0
  ·have bS:Hid (s2=eH o is kp s r):=ck.out ad;obtain⟨R,j0,H,n1,co,cp,cX⟩:=cl;have cY:wr.cell? (ah b 0)=some (.func (.func 113) #[] #[af bl]):=by simp[World.cell?,H.g]
   have cZ:wr.cell? (ah bl 0)=some l.v:=by simp[World.cell?,H.l]
   have c3:wr.cell? (ah bl 2)=some (.func (.func d.f) d.b d.c):=by simp[World.cell?,H.l]
   have c4:wr.cell? (ah bs 0)=some (af o.p):=by simp[World.cell?,H.s]
   obtain⟨a3,bb,bT,c5,bd,dI⟩:=o.side j0;have c6:wr.cell? (ah o.p 1)=some (.slice a3 (o.wt s2).length bb):=by simp[World.cell?,bT]
   have m1:=lt_of_some H.l;have cq:=lt_of_some H.g;have cr:=lt_of_some H.s;have cs:=lt_of_some bT;have c7:=Q.size;have c8:Hid (∀(w':World)(e:bN),D e.1/\D e.2->wr.heap.size<=w'.heap.size->(∀k,k<wr.heap.size->w'.heap[k]?=wr.heap[k]?)->Calls prog 113 ((#[]:Array Value).push (en e)++#[af bl]) w' fun r dJ=>r=.returned (.bool (is s2 e.1))/\Below w'.heap.size w' dJ):=
    fun w' e hd hs hk=>sb o.todB D l is v.out.ea v.out.ha R s2 w' bl e hd.1 (o.keep j0 hs (fun k h=>hk k (o.lt j0 k h))) ((aD (a:=⟨bl,0,none⟩) (hk bl m1)).trans cZ)
   have ct:=oR (fun e=>D e.1/\D e.2) 113 #[] #[af bl] (fun e=>is s2 e.1) sc wr c8.out A a1 aT cO.out I (fR a0)
   obtain⟨t,bU⟩:∃t,Hid (t=A.filter (fun e=>is s2 e.1)):=⟨_,rfl⟩
   rw[<-bU.out] at ct;have eE:t.length<=90000:=by rw[bU.out];exact az (aY _ _) dF
   have dK:Hid (∀e∈t,D e.1/\D e.2):=fun e he=>cO.out e (by rw[bU.out] at he;exact(List.mem_filter.1 he).1)
   have dL:(o.wt s2).length<=90000:=I;have c9:Hid (∀e∈o.wt s2,D e.1/\D e.2):=by rw[bS.out];exact dD
   obtain⟨u,bV⟩:∃u,Hid (u=(o.wt s2).filter (fun e=>is s2 e.1)):=⟨_,rfl⟩
   have eF:u.length<=90000:=by rw[bV.out];exact az (aY _ _) dL
   have dM:Hid (∀e∈u,D e.1/\D e.2):=fun e he=>c9.out e (by rw[bV.out] at he;exact(List.mem_filter.1 he).1)
   have cu:Hid (jr wr o.p bl b bs l fk d):=H;have dN:Hid (o.J R s2 wr):=j0;have dO:Hid (gq wr a3 (o.wt s2) bb):=c5;have da:Hid (Fr (fun k=>F k\/k=bl\/k=b\/k=bs) w wr):=Q;clear hd a0 H j0 c5 Q ck W P cn dI;go_wp2_with fail;refine ct.mono ?_;clear ct;rintro e w3 ⟨b1,cv,b2,cw,rfl,cx,_,E⟩
   have cy:=oR (fun e=>D e.1/\D e.2) 113 #[] #[af bl] (fun e=>is s2 e.1) sc w3.drew (fun w' e hd hs hk=>c8.out w' e hd (az E.size hs) (fun k h=>(hk k (av h E.size)).trans (E.block k h))) (o.wt s2) a3 bb c9.out I (dO.out.lp.below E.drew)
   rw[<-bV.out] at cy;have db:=(E.cell (p:=ah b 0) cq).trans cY;have dc:=(E.cell (p:=ah bs 0) cr).trans c4;have dd:=(E.cell (p:=ah o.p 1) cs).trans c6;have de:=(E.cell (p:=ah bl 2) m1).trans c3;go_wp2_with fail;have be:=E.size
   go_region_held3 (fun w'=>w'.cell? (ah bs 0)=some (af o.p)/\w'.cell? (ah o.p 1)=some (.slice a3 (o.wt s2).length bb)/\w'.cell? (ah b 0)=some (.func (.func 113) #[] #[af bl])) (go_keep)
    (first|(go_at_call 117;refine cy.mono ?_;rintro e g ⟨dP,dQ,eG,eI,rfl,df,_,L⟩;have dR:=(L.cell (p:=ah b 0) (av cq be)).trans db;have cz:=(L.cell (p:=ah bs 0) (av cr be)).trans dc;have dS:=(L.cell (p:=ah o.p 1) (av cs be)).trans dd;have cA:=(L.cell (p:=ah bl 2) (av m1 be)).trans de))
   have bg:Below wr.heap.size wr g:=E.drew.trans (L.mono be)
   have eJ:w3.heap.size<=g.heap.size:=L.size;have dg:=ca (w:=w3) cx (fun k e=>L.block k (bR cx k e).2)
   have bW:=o.below dN.out bg;have dh:=(bg.block o.p cs).trans bT;have bX:o.p≠bs:=fun e=>cp (by rw[<-e];exact bd)
   have bY:o.p≠bl:=fun e=>n1 (by rw[<-e];exact bd)
   have dT:o.p≠b:=fun e=>co (by rw[<-e];exact bd)
   have di:Hid (∀k,R k->F k\/w.heap.size<=k):=fun k h=>by
    rcases bQ.out k ((cX k).2 (ap h)) with(c|c|c|c)|c
    ·exact ap c
    ·exact absurd (by rw[<-c];exact h) n1
    ·exact absurd (by rw[<-c];exact h) co
    ·exact absurd (by rw[<-c];exact h) cp
    ·exact an c
   have dU:Hid (R o.p):=bd;have dj:o.p<g.heap.size:=lt_of_some dh;have dk:bs<g.heap.size:=I;have dl:bl<g.heap.size:=I;have dV:t.length<=100000:=I;have dW:u.length<=100000:=I;have dm:=fR dg;have dn:=fR df;have cB:=o.below bW (Below.refl g.heap.size g).drew;have dp:=dm.below (Below.refl g.heap.size g).drew;have dq:=dn.below (Below.refl g.heap.size g).drew;clear cx L E db dc dd de cZ cY c4 c6 c3 cy dR dS bT bd n1 co cp cX;go_wp2_with fail
   go_region_held3 (fun w'=>w'.cell? (ah bs 0)=some (af o.p)/\w'.cell? (ah bl 2)=some (.func (.func d.f) d.b d.c)) (first|exact⟨cz,cA⟩|exact⟨cC,cD⟩|exact⟨bZ,b0⟩|exact⟨(lC bX.symm).trans bZ,(lC bY.symm).trans b0⟩|exact⟨(lC bX.symm).trans ((lC bX.symm).trans bZ),(lC bY.symm).trans ((lC bY.symm).trans b0)⟩)
    (first
      |(have eK:=J;go_at_call 119;refine(sa o.todB D d.f d.b d.c nw v.out.en v.out.ht u dP dQ R s2 _ dM.out dW (o.below cB J) (dq.below J)).mono ?_;rintro e q ⟨ai,al,rfl,K,S⟩;have eL:=S.size;have bZ:=(S.cell (p:=ah bs 0) (av dk bi)).trans cC;have b0:=(S.cell (p:=ah bl 2) (av dl bi)).trans cD;have bn:=(S.block o.p (av dj bi)).trans ((J.block o.p dj).trans dh);have q0:q.cell? (ah o.p 0)=some o.vr:=(by simp[World.cell?,bn]);have q1:q.cell? (ah o.p 1)=some (.slice a3 (o.wt s2).length bb):=(by simp[World.cell?,bn]);have dX:q.frozen? (ah o.p 0)=false:=(by simp[World.frozen?,bn]);have dY:q.frozen? (ah o.p 1)=false:=(by simp[World.frozen?,bn]))
      |(go_at_call 119;refine(sa o.todB D d.f d.b d.c nw v.out.en v.out.ht t b1 cv R s2 _ dK.out dV cB dp).mono ?_;rintro e b3 ⟨ar,ax,rfl,M,J⟩;have bi:=J.size;have cC:=(J.cell (p:=ah bs 0) dk).trans cz;have cD:=(J.cell (p:=ah bl 2) dl).trans cA))
   have dZ:Below g.heap.size g b3:=(Below.refl g.heap.size g).drew.trans (J.mono bJ)
   have dr:Below g.heap.size g q:=dZ.trans (S.mono bi)
   have b4:Below wr.heap.size wr q:=bg.trans (dr.mono bg.size)
   have d0:=o.below bW dr;have d1:Hid (b3.ownsRow g.heap.size 83 2 (.slice ar t.length ax) t.length (ev (t.map fun e=>(nw s2 e.1,nw s2 e.2)))):=M;have d2:Hid (q.ownsRow g.heap.size 83 2 (.slice ai u.length al) u.length (ev (u.map fun e=>(nw s2 e.1,nw s2 e.2)))):=d5 K (fun k e=>az bi (bR K k e).1)
   have d3:Hid (Below b3.heap.size b3 q):=S;have d4:Hid (∀k,some k=(Value.slice ar t.length ax).ownBlock->some k≠(Value.slice ai u.length al).ownBlock):=fun k e d6=>by have bL:=(bR M k e).2;have bM:=(bR K k d6).1;omega
   clear M K J S dp dq cB dm dn dg df cC cD bZ b0 cz cA q0 q1 dX dY;go_wp2_with fail;go_ret;have d7:el o is kp nw s r=t.map fun e=>(nw s2 e.1,nw s2 e.2):=by unfold el;rw[<-bS.out,<-bP.out,<-bU.out]
   have d8:em o is kp nw s r=u.map fun e=>(nw s2 e.1,nw s2 e.2):=by unfold em;rw[<-bS.out,<-bV.out]
   have bo:∀k,k≠o.p->((q.setCell ⟨o.p,0,none⟩ (.slice ar t.length ax)).setCell ⟨o.p,1,none⟩ (.slice ai u.length al)).heap[k]?=q.heap[k]?:=fun k hk=>(Below.heap_setCell _ _ _ _ hk).trans (Below.heap_setCell _ _ _ _ hk)
   have M:=d1.out;have K:=d2.out;have ds:=da.out.size;have dt:=bg.size;have d9:jr ((q.setCell ⟨o.p,0,none⟩ (.slice ar t.length ax)).setCell ⟨o.p,1,none⟩ (.slice ai u.length al)) o.p bl b bs l fk d:=
    ⟨(bo bl bY.symm).trans ((b4.block bl m1).trans cu.out.l),(bo b dT.symm).trans ((b4.block b cq).trans cu.out.g),(bo bs bX.symm).trans ((b4.block bs cr).trans cu.out.s)⟩
   have du:Fr (fun k=>k=o.p) q ((q.setCell ⟨o.p,0,none⟩ (.slice ar t.length ax)).setCell ⟨o.p,1,none⟩ (.slice ai u.length al)):=((Fr.refl (fun k=>k=o.p) q).set o.p 0 _ rfl).set o.p 1 _ rfl;rw[d7,d8,aE,aE,<-bS.out];refine⟨ar,ax,ai,al,R,q,rfl,d0,du,nz bn,?_,?_,?_,di.out,fun k e h=>?_,fun k e h=>?_,d4.out⟩
   ·refine d5 (ca M (fun k e=>?_)) (fun k e=>az (az ds dt) (bR M k e).1)
    have:=bR M k e;exact(bo k I).trans (d3.out.block k this.2)
   ·refine d5 (ca K (fun k e=>?_)) (fun k e=>az (az ds dt) (bR K k e).1)
    have:=bR K k e;exact bo k I
   ·exact((da.out.trans (Fr.of (X:=fun _=>False) b4) (fun _ c=>c.elim)).trans du (fun i c=>by rw[c];exact(di.out o.p dU.out).imp ap id)).unbox dC.out d9
   ·have:=o.lt bW k h;have:=(bR M k e).1;omega
   ·have:=o.lt bW k h;have:=(bR K k e).1;omega
  ·have ea:wr.cell? (ah G 0)=some (kD b bl bs):=by
    have hk:=Q.block G dB (by simp[dz,dA])
    simp[World.cell?,hk,dE.out]
   have dv:∀j,j<f.length->∀x,(o.wt (kp (pts (cm o is kp) s2 (f.take j)).2.2 x).2).length<=90000:=fun j eM x=>by
    have bL:=pd o is kp v.out.hl s2 (f.take j)
    have bM:=l6 (cm o is kp) s2 (f.take j)
    rw[v.out.hl,bL];simp at bM;omega
   have b5:=qY (boxed o bl b bs l fk d) (fun e=>D e.1/\D e.2) (fun s=>∀x,(o.wt (kp s x).2).length<=90000) 114 #[] #[af b,af bl,af bs] (cm o is kp) xp (xn o bl b bs D l fk d is kp v.out.ea v.out.eR v.out.ha v.out.hk) f aV cd U s2 wr cW.out dv I cl ((fR hd).apart (fun _ z e=>cn.out z.block (by rw[e];rfl)))
   obtain⟨Y,N,aB,bp⟩:∃Y N aB,Hid (pts (cm o is kp) s2 f=(Y,N,aB)):=⟨_,_,_,rfl⟩
   have cE:=l6 (cm o is kp) s2 f;have cF:=pd o is kp v.out.hl s2 f;have b6:=xo (cm o is kp) s2 f;rw[bp.out] at b5 cE b6 cF;dsimp only at b5 cE b6 cF;have eb:(o.wt aB).length+N.length<=90000:=I;clear cF dv;obtain⟨n,rfl⟩:∃m,n=m+1:=⟨n-1,by have:=(W.out ad).2;omega⟩
   have ec:Hid (Y.length=0->aB=eH o is kp s r):=fun h=>by
    have e:=lA (cm o is kp) n s2 f (by rw[bp.out];exact h)
    rw[<-(W.out ad).1,e,bp.out]
   have ed:Hid (¬Y.length=0->(eu (cm o is kp) n aB N).1=eH o is kp s r/\N.length<n):=fun h=>by
    have e:=lB (cm o is kp) n s2 f (by rw[bp.out];exact h)
    refine⟨?_,?_⟩
    ·rw[<-(W.out ad).1,e,bp.out]
    ·have:=(W.out ad).2;omega
   have ee:Hid (∀e∈N,D e.1/\D e.2):=fun e he=>cW.out e (b6 e (an he))
   clear b6;go_wp2_with fail;refine b5.mono ?_;clear b5;rintro e eN ⟨b1,cv,b2,cw,b7,rfl,ef,hN,eg,cG,cH,eh,dw⟩
   have c7:=Q.size;have ei:Hid (∀k,b7 k->(F k\/k=bl\/k=b\/k=bs)\/w.heap.size<=k):=fun k h=>(cH k h).elim (bQ.out k) (fun h=>an I)
   have ej:Hid (∀k,some k=(Value.slice a1 A.length aT).ownBlock->¬b7 k):=fun k e h=>(cH k h).elim (P.out k e) (fun h=>by have:=(bR a0 k e).2;omega)
   have ek:Hid (∀k,some k=(Value.slice b2 N.length cw).ownBlock->¬b7 k):=dw;have eo:=fQ a0 cG P.out;have ep:=Q.trans cG bQ.out;have eq:=d5 hN (base':=w.heap.size) (fun k e=>az c7 (bR hN k e).1)
   clear cH eh dw ef hN a0 Q cG cl bQ P cn hd ck W ea;go_wp2_with fail;go_roundw
   case rel=>exact⟨N,Y,b2,b1,cw,cv,n,b7,aB,rfl,rfl,ec,ed,ee,I,I,eb,eq,eo,eg,ep,ei,ej,ek⟩
   case measure=>
    exact xr ad cE
theorem nA (w:World)(f:Option Addr)(c:Nat)(L:List Bool)(v:Int×Int)(h:iI w f L)(a:v.1=3->0<=v.2/\v.2<L.length)(hm:L.length<=100000):
 Calls prog 93 #[.slice f L.length c,.agg #[ae v.1,ae v.2]] w fun e w'=>e=.returned (.bool (dl L v))/\Below w.heap.size w w':=by
 obtain⟨k,n⟩:=v;dsimp only at a⊢;have d:=(Below.refl w.heap.size w).alloc bJ (.cells #[ae k,ae n] 77)
 by_cases hk:k=3
 ·subst hk;obtain⟨n0,n1⟩:=a rfl;obtain⟨n,rfl⟩:=Int.eq_ofNat_of_zero_le n0;obtain⟨b,rfl,g,hc⟩:=h I;have e:dl L (3,(n:Int))=L.getD n false:=by unfold dl;simp
  rw[e];have i:=(d.cell (p:=ah b n) g).trans (hc n I)
  have j:(0:Int)<=(n:Int):=I;clear hc a e n0;generalize L.getD n false=r at*;go_enter func93,ntmps93;go_wp2_with fail;go_ret;exact⟨rfl,d⟩
 ·have e:dl L (k,n)=true:=by unfold dl;simp[hk]
  rw[e];have l:(k !=3)=true:=by simpa using hk
  have m:(k==3)=false:=by simpa using hk
  clear a e h;go_enter func93,ntmps93;go_wp2_with fail;go_ret;exact⟨rfl,d⟩
theorem nB (w:World)(a:Nat)(d:Option Addr)(c base:Nat)(L:List Bool)(v:Int×Int)(h:eZ w a d c base L)(m:v.1=3->0<=v.2/\v.2<L.length)(hm:L.length<=100000):
 Calls prog 159 #[.agg #[ae v.1,ae v.2],af a] w fun e w'=>e=.returned (.bool (!dl L v))/\eZ w' a d c base (dV L v)/\Fr (fun k=>some k=(Value.slice d L.length c).ownBlock) w w':=by
 have p:=(Below.refl w.heap.size w).alloc bJ (.cells #[ae v.1,ae v.2] 77)
 have s:=aw w (.cells #[ae v.1,ae v.2] 77)
 have o:=h.below p;have i:=nA (w.alloc (.cells #[.int .i64 v.1,.int .i64 v.2] 77)) d c L v (mj o.row) m hm;have c0:(w.alloc (.cells #[.int .i64 v.1,.int .i64 v.2] 77)).cell? (ah a 0)=some (.slice d L.length c):=by simp[World.cell?,o.blk]
 have lo:=lt_of_some h.blk;have f:Hid (Below w.heap.size w (w.alloc (.cells #[.int .i64 v.1,.int .i64 v.2] 77))/\eZ (w.alloc (.cells #[.int .i64 v.1,.int .i64 v.2] 77)) a d c base L/\(w.alloc (.cells #[.int .i64 v.1,.int .i64 v.2] 77)).heap[w.heap.size]?=some (.cells #[ae v.1,ae v.2] 77 (0,0))):=⟨p,o,s⟩
 clear p o s;cases hs:dl L v
 ·obtain⟨t,g2⟩:=l_ hs;obtain⟨n0,n1⟩:=m t;have j:dV L v=L.set v.2.toNat true:=by unfold dV;rw[ao (by rw[hs];simp)]
  rw[hs] at i;rw[j];obtain⟨k,n⟩:=v;dsimp only at*;subst t;obtain⟨n,rfl⟩:=Int.eq_ofNat_of_zero_le n0;rw[Int.toNat_natCast];obtain⟨b,D,B⟩:=dP h.row I;cases B;have E:(0:Int)<=(n:Int):=I;clear h m hs j g2 n0;go_enter func159,ntmps159;go_wp2_with fail;generalize w.alloc (.cells #[.int .i64 3,.int .i64 (n:Int)] 77)=w0 at*;generalize C:w.heap.size=q at*;refine i.mono ?_;clear i;rintro e w1 ⟨rfl,g⟩
  have B1:=f.out.2.1.below g;have u:=(g.block q (lt_of_some f.out.2.2)).trans f.out.2.2;have q1:w1.cell? (ah q 1)=some (ae (n:Int)):=by simp[World.cell?,u]
  have c1:w1.cell? (ah a 0)=some (.slice (ag b) L.length c):=by simp[World.cell?,B1.blk]
  have hg:(L.map Value.bool)[n]?=some (.bool (L.getD n false)):=by rw[aX,am (by omega:n<L.length),aj,am (by omega:n<L.length)];rfl
  obtain⟨y1,F⟩:=eO B1.row hg;have x:=h7 B1.row n (.bool true)
  have ne:=B1.ne b rfl;have A:Below q w w1:=f.out.1.trans (g.mono (by have:=lt_of_some f.out.2.2;omega))
  have l:Hid (eZ (w1.setCell ⟨b,n,none⟩ (.bool true)) a (ag b) c base (L.set n true)/\Fr (fun k=>some k=(Value.slice (ag b) L.length c).ownBlock) w (w1.setCell ⟨b,n,none⟩ (.bool true))):=by
   refine⟨⟨?_,?_⟩,(Fr.of (by rw[C];exact A)).set b n _ rfl⟩
   ·rw[aM];exact(Below.heap_setCell _ _ _ _ (fun e=>ne (Eq.symm e))).trans B1.blk
   ·rw[aM,List.map_set];exact x
  clear g B1 u x hg A;go_wp2_with fail;go_ret;exact⟨rfl,l.out.1,l.out.2⟩
 ·have j:dV L v=L:=by unfold dV;rw[aq hs]
  rw[hs] at i;rw[j];clear h m hs j;obtain⟨k,n⟩:=v;dsimp only at*;go_enter func159,ntmps159;go_wp2_with fail;refine i.mono ?_;clear i;rintro e w1 ⟨rfl,g⟩
  have l:Hid (eZ w1 a d c base L/\Fr (fun k=>some k=(Value.slice d L.length c).ownBlock) w w1):=⟨f.out.2.1.below g,Fr.of (f.out.1.trans (g.mono f.out.1.size))⟩
  clear g;go_wp2_with fail;go_ret;exact⟨rfl,l.out.1,l.out.2⟩
end Go.Proofs.YtjpjpjemibgjpaaGreat
