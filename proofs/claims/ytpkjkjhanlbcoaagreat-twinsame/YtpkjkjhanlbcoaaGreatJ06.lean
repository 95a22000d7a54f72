import Derived.Test.YtpkjkjhanlbcoaaGreatJ04
namespace Go.Proofs.YtpkjkjhanlbcoaaGreat
set_option maxRecDepth 100000
set_option maxHeartbeats 2000000
open Tryz
open Go.RowKit W Kp cf
theorem sw {P:Prop}(h:P:=by simp only [World.setCell,Array.getElem?_modify,if_true,h,Option.map_some];simp):P:=h
structure fJ (σ:Type) extends dr σ where
 p:Nat
 vr:Value
 wt:σ->List b7
 put:σ->List b7->σ
 side:∀{F s w},J F s w->∃ad cap,w.heap[p]?=some (.cells #[vr,.slice ad (wt s).length cap] 153 (0,0))/\ir w ad (wt s) cap/\F p/\(0<(wt s).length->∀z,ad=some z->F z.block)
 set:∀{F s w},J F s w->∀{w1:ax}{q:List b7}{b1 gb:Nat},aw w w1->w1.ownsRow w.heap.size 103 2 (.slice (ak b1) q.length gb) q.length (ev q)->
  J (fun k=>F k\/k=b1) (put s q) (w1.setCell ⟨p,1,none⟩ (.slice (some ⟨b1,0,none⟩) q.length gb))
 p7:∀s q,wt (put s q)=q
theorem ir.keep {w w':ax}{ad:Option Addr}{l:List b7}{cap:Nat}(h:ir w ad l cap)(hs:w.heap.size<=w'.heap.size)(hk:0<l.length->∀a,ad=some a->w'.heap[a.block]?=w.heap[a.block]?):ir w' ad l cap:=⟨h.lp.keep hs hk,h.le,h.nil⟩
theorem ir.below {w w':ax}{ad:Option Addr}{l:List b7}{cap:Nat}(h:ir w ad l cap)(hb:aw w w'):ir w' ad l cap:=⟨h.lp.below hb,h.le,h.nil⟩
def mR {d:Type}(o:fJ d)(D:Int->Prop)(f:Nat)(b c:Array Value)(kp:d->Int->Int×d):Prop:=
 ∀F t w (x:Int),D x->(o.wt (kp t x).2).length<=90000->o.J F t w->Calls prog f (b.push (ah x)++c) w fun r w'=>∃e,r=.returned (ah (kp t x).1)/\o.J e (kp t x).2 w'/\Fr F w w'/\∀k,e k->F k\/w.heap.size<=k
structure fP where
 f:Nat
 b:Array Value
 c:Array Value
abbrev fP.v (x:fP):Value:=.func (.func x.f) x.b x.c
structure lh (w:ax)(p bl C5 bs:Nat)(fa fk fn:fP):Prop where
 l:w.heap[bl]?=some (.cells #[fa.v,fk.v,fn.v] 145 (0,0))
 g:w.heap[C5]?=some (.cells #[.func (.func 146) #[] #[aj bl]] 101 (0,0))
 s:w.heap[bs]?=some (.cells #[aj p] 52 (0,0))
theorem wW {i:Type}(o:dr i)(D:Int->Prop)(d:fP)(is:i->Int->Bool)(he:dN d.f)(ha:j9 o D d.f d.b d.c is)(F:Nat->Prop)(s:i)(w:ax)(bl:Nat)(e:b7)(l:D e.1)(j:o.J F s w)(hc:w.cell? (aq bl 0)=some d.v):
 Calls prog 146 #[en e,aj bl] w fun r w'=>r=.returned (.bool (is s e.1))/\aw w w':=by
 obtain⟨g,z⟩:=e;obtain⟨f,b,c⟩:=d;have m:ay (_):=ha;have n:ay (_):=j;have p:=aQ w _ hc;have q:∀(args:Array Value)(w:ax),_=_:=he;clear he ha j;go_enter func146,ntmps146;go_wp2_with fail;have k:=au w (.cells #[.int .i64 g,.int .i64 z] 103)
 refine(m.out F s _ g l (o.below n.out k)).mono ?_;rintro r w1 ⟨rfl,hb⟩
 go_wp2_with fail;go_ret;exact⟨rfl,k.trans (hb.mono Z)⟩
theorem C7 {i:Type}(o:dr i)(D:Int->Prop)(d:fP)(is:i->Int->Bool)(he:dN d.f)(ha:j9 o D d.f d.b d.c is)(F:Nat->Prop)(s:i)(w:ax)(bl:Nat)(e:b7)(l:D e.2)(j:o.J F s w)(hc:w.cell? (aq bl 0)=some d.v):
 Calls prog 151 #[en e,aj bl] w fun r w'=>r=.returned (.bool (is s e.2))/\aw w w':=by
 obtain⟨g,z⟩:=e;obtain⟨f,b,c⟩:=d;have m:ay (_):=ha;have n:ay (_):=j;have p:=aQ w _ hc;have q:∀(args:Array Value)(w:ax),_=_:=he;clear he ha j;go_enter func151,ntmps151;go_wp2_with fail;have k:=au w (.cells #[.int .i64 g,.int .i64 z] 103)
 refine(m.out F s _ z l (o.below n.out k)).mono ?_;rintro r w1 ⟨rfl,hb⟩
 go_wp2_with fail;go_ret;exact⟨rfl,k.trans (hb.mono Z)⟩
def cm {b:Type}(o:fJ b)(is:b->Int->Bool)(kp:b->Int->Int×b)(s:b)(e:b7):Bool×b:=
 if is s e.1 then(true,o.put (kp s e.2).2 (o.wt (kp s e.2).2++[(e.1,(kp s e.2).1)])) else(false,s)
theorem mS {b:Type}{o:fJ b}{is:b->Int->Bool}{kp:b->Int->Int×b}{s:b}{e:b7}(h:is s e.1=false):cm o is kp s e=(false,s):=by simp[cm,h]
theorem mT {b:Type}{o:fJ b}{is:b->Int->Bool}{kp:b->Int->Int×b}{s:b}{e:b7}(h:is s e.1=true):cm o is kp s e=(true,o.put (kp s e.2).2 (o.wt (kp s e.2).2++[(e.1,(kp s e.2).1)])):=by simp[cm,h]
theorem a5 (w:ax)(a b:Addr)(v:Value)(h:a ≠ b):(w.setCell a v).cell? b = w.cell? b:=by intros;apply World.cell?_setCell_other<;>assumption
theorem bf (w:ax)(a:Addr)(v:Value){u:Value}(h:w.cell? a = some u):(w.setCell a v).cell? a = some v:=by intros;apply World.cell?_setCell_same<;>assumption
theorem C8 {m:Type}(o:fJ m)(D:Int->Prop)(d fk am:fP)(is:m->Int->Bool)(kp:m->Int->Int×m)(he:dN d.f)(L:dN fk.f)(ha:j9 o.todr D d.f d.b d.c is)(hk:mR o D fk.f fk.b fk.c kp)
 (F:Nat->Prop)(s:m)(w:ax)(bl v bs:Nat)(e:b7)(M:D e.1/\D e.2)(hn:(o.wt (kp s e.2).2).length<=90000)(N:o.J F s w)(hB:lh w o.p bl v bs d fk am)(hs:¬F bs):
 Calls prog 147 #[en e,aj v,aj bl,aj bs] w fun r w'=>∃O,r=.returned (.bool (cm o is kp s e).1)/\o.J O (cm o is kp s e).2 w'/\Fr F w w'/\∀k,O k->F k\/w.heap.size<=k:=by
 obtain⟨g,z⟩:=e;have an:ay (j9 o.todr D d.f d.b d.c is):=ha;have ao:ay (mR o D fk.f fk.b fk.c kp):=hk;have I:ay ((o.wt (kp s z).2).length<=90000):=hn;have ap:ay (dN d.f):=he;have x:ay (o.J F s w):=N;have c0:w.cell? (aq bl 0)=some d.v:=by simp[World.cell?,hB.l]
 have c1:w.cell? (aq bl 1)=some (.func (.func fk.f) fk.b fk.c):=by simp[World.cell?,hB.l]
 have c2:w.cell? (aq v 0)=some (.func (.func 146) #[] #[aj bl]):=by simp[World.cell?,hB.g]
 have c3:w.cell? (aq bs 0)=some (aj o.p):=by simp[World.cell?,hB.s]
 have l1:bl<w.heap.size:=lt_of_some hB.l;have l2:v<w.heap.size:=lt_of_some hB.g;have ar:bs<w.heap.size:=lt_of_some hB.s;have bt:∀(args:Array Value)(w:ax),(callFunc fk.f args).run prog w=.ok (.enter fk.f args) w:=L;clear he ha N hk L hn hB;go_enter func147,ntmps147;go_wp2_with fail;have A:=au w (.cells #[.int .i64 g,.int .i64 z] 103)
 refine(wW o.todr D d is ap.out an.out F s _ bl (g,z) M.1 (o.below x.out A) ((A.cell l1).trans c0)).mono ?_;rintro r w1 ⟨rfl,hb⟩
 have f:=A.trans (hb.mono Z)
 have aB:w.heap.size<w1.heap.size:=by have:=hb.size;simp at this;omega
 have P:w1.cell? (aq w.heap.size 0)=some (ah g):=(hb.cell Z).trans Z;have y1:w1.cell? (aq w.heap.size 1)=some (ah z):=(hb.cell Z).trans Z;have aF:w1.cell? (aq bl 1)=some (.func (.func fk.f) fk.b fk.c):=(f.cell l1).trans c1;have Q:w1.cell? (aq bs 0)=some (aj o.p):=(f.cell ar).trans c3;have R:w1.frozen? (aq w.heap.size 1)=false:=(hb.frozen Z).trans Z;clear hb A;cases hg:is s g
 ·have n:ay (cm o is kp s (g,z)=(false,s)):=mS hg;go_wp2_with fail;go_ret;rw[n.out];exact⟨F,rfl,o.below x.out f,Fr.of f,fun k h=>aK h⟩
 ·have n:ay (cm o is kp s (g,z)=(true,o.put (kp s z).2 (o.wt (kp s z).2++[(g,(kp s z).1)]))):=mT hg;go_wp2_with fail;refine(ao.out F s _ z M.2 I.out (o.below x.out f)).mono ?_;rintro r b ⟨t,rfl,B,u,C⟩
  generalize (kp s z).1=y at n⊢;generalize (kp s z).2=s1 at n B I;have J:¬F w.heap.size:=fun h=>by have:=o.lt x.out _ h;omega
  have E:¬t w.heap.size:=fun h=>(C _ h).elim J (fun h=>by omega)
  have bx:=u.size;have bY:=f.size;obtain⟨ad,cap,hp,S,G,U⟩:=o.side B;have W:o.p≠w.heap.size:=fun e=>E (by rw[<-e];exact G)
  have bZ:o.p<b.heap.size:=lt_of_some hp;have b0:bs≠o.p:=fun e=>(C bs (by rw[e];exact G)).elim hs (fun h=>by omega)
  have b2:=I.out;have H:=u.block _ aB J;have Y:=u.block bs V hs;have z0:b.cell? (aq w.heap.size 0)=some (ah g):=(aP (a:=⟨w.heap.size,0,none⟩) H).trans P;have ab:b.cell? (aq w.heap.size 1)=some (ah z):=(aP (a:=⟨w.heap.size,1,none⟩) H).trans y1;have aR:b.frozen? (aq w.heap.size 1)=false:=(World.frozen?_of_block (a:=⟨w.heap.size,1,none⟩) H).trans R;have ag:b.cell? (aq bs 0)=some (aj o.p):=(aP (a:=⟨bs,0,none⟩) Y).trans Q;have aV:bs≠w.heap.size:=V;have l:∀k:Nat,k≠w.heap.size->(b.setCell ⟨w.heap.size,1,none⟩ (.int .i64 y)).heap[k]?=b.heap[k]?:=fun k hk=>aU _ _ _ _ hk;have K:(b.setCell ⟨w.heap.size,1,none⟩ (.int .i64 y)).heap.size=b.heap.size:=by simp[World.setCell]
  have a0:(b.setCell ⟨w.heap.size,1,none⟩ (.int .i64 y)).cell? (aq w.heap.size 0)=some (ah g):=(a5 b ⟨w.heap.size,1,none⟩ ⟨w.heap.size,0,none⟩ (ah y) Z).trans z0;have a1:(b.setCell ⟨w.heap.size,1,none⟩ (.int .i64 y)).cell? (aq w.heap.size 1)=some (ah y):=bf _ _ _ ab;have a2:(b.setCell ⟨w.heap.size,1,none⟩ (.int .i64 y)).cell? (aq bs 0)=some (aj o.p):=(aP (a:=⟨bs,0,none⟩) (l bs aV)).trans ag;have bb:(b.setCell ⟨w.heap.size,1,none⟩ (.int .i64 y)).cell? (aq o.p 1)=some (.slice ad (o.wt s1).length cap):=(aP (a:=⟨o.p,1,none⟩) (l o.p W)).trans (by simp[World.cell?,hp])
  have bd:(b.setCell ⟨w.heap.size,1,none⟩ (.int .i64 y)).frozen? (aq o.p 1)=false:=(World.frozen?_of_block (a:=⟨o.p,1,none⟩) (l o.p W)).trans (by simp[World.frozen?,hp])
  have be:o.J t s1 (b.setCell ⟨w.heap.size,1,none⟩ (.int .i64 y)):=o.keep B (by rw[K];exact aD _) (fun k hk=>l k (fun e=>E (by rw[<-e];exact hk)))
  have bg:ir (b.setCell ⟨w.heap.size,1,none⟩ (.int .i64 y)) ad (o.wt s1) cap:=S.keep (by rw[K];exact aD _) (fun hq a e=>l _ (fun bi=>E (by rw[<-bi];exact U hq a e)))
  have bn:Fr F w (b.setCell ⟨w.heap.size,1,none⟩ (.int .i64 y)):=((Fr.of (X:=F) f).trans u (fun _ c=>aK c)).trans ((Fr.refl (fun k=>k=w.heap.size) b).set _ 1 _ rfl) (fun i c=>aJ V)
  have ai:ay (∀k,t k->F k\/w.heap.size<=k):=fun k h=>(C k h).imp id (fun h=>by omega)
  have bo:ay (t o.p):=G;have lo:bs<(b.setCell ⟨w.heap.size,1,none⟩ (.int .i64 y)).heap.size:=V;have lp:o.p<(b.setCell ⟨w.heap.size,1,none⟩ (.int .i64 y)).heap.size:=V;have lw:w.heap.size<(b.setCell ⟨w.heap.size,1,none⟩ (.int .i64 y)).heap.size:=V;clear J E hp S G U H Y ag l u B C P y1 aF Q R K;go_wp2_with fail;generalize b.setCell ⟨w.heap.size,1,none⟩ (.int .i64 y)=b3 at*;clear z0 ab aR
  go_region_with (go_at_call 104;refine(vX _ ad (o.wt s1) cap g y (bg.below (bX.drew)) V).mono ?_;rintro e bp ⟨b1,gb,rfl,al,j⟩;have b4:=(j.cell (p:=aq w.heap.size 0) lw).trans a0;have b5:=(j.cell (p:=aq w.heap.size 1) lw).trans a1;have b6:=(j.cell (p:=aq bs 0) lo).trans a2;have b8:=(j.cell (p:=aq o.p 1) lp).trans bb;have b9:=(j.frozen (p:=aq o.p 1) lp).trans bd)
  all_goals
   go_wp2_with fail;go_ret;rw[n.out];have br:=o.set (q:=o.wt s1++[(g,y)]) (b1:=b1) (gb:=gb) (o.below be bX.drew) j (by simpa using al)
   refine⟨fun k=>t k\/k=b1,rfl,by simpa using br,(bn.drew.trans (Fr.of (X:=F) j) (fun _ c=>aK c)).trans ((Fr.refl (fun k=>k=o.p) bp).set o.p 1 _ rfl) (fun i c=>by rw[c];exact ai.out _ bo.out),fun k h=>h.elim (ai.out k) (fun h=>aJ (by have:=(cn al b1 rfl).1;simp at this;omega))⟩
def boxed {e:Type}(o:fJ e)(bl d bs:Nat)(f fk g:fP):dr e where
 J F s w:=∃b,o.J b s w/\lh w o.p bl d bs f fk g/\¬b bl/\¬b d/\¬b bs/\∀k,F k↔(b k\/k=bl\/k=d\/k=bs)
 lt:=by
  rintro F t w ⟨b,h0,hB,_,_,_,c⟩ k hk;rcases(c k).1 hk with h|rfl|rfl|rfl
  ·exact o.lt h0 k h
  ·exact lt_of_some hB.l
  ·exact lt_of_some hB.g
  ·exact lt_of_some hB.s
 keep:=by rintro F t w w' ⟨b,h0,hB,i,j,l,c⟩ hs hk;exact⟨b,o.keep h0 hs (fun k h=>hk k ((c k).2 (aK h))),⟨(hk bl ((c bl).2 Z)).trans hB.l,(hk d ((c d).2 Z)).trans hB.g,(hk bs ((c bs).2 Z)).trans hB.s⟩,i,j,l,c⟩
theorem C9 {c:Type}(o:fJ c)(bl d bs:Nat)(D:Int->Prop)(b fk j:fP)(is:c->Int->Bool)(kp:c->Int->Int×c)(he:dN b.f)(v:dN fk.f)(ha:j9 o.todr D b.f b.b b.c is)(hk:mR o D fk.f fk.b fk.c kp):
 Looks (boxed o bl d bs b fk j) (fun e=>D e.1/\D e.2) (fun s=>∀x,(o.wt (kp s x).2).length<=90000) 147 #[] #[aj d,aj bl,aj bs] (cm o is kp):=by
 intro F s w e A B C;obtain⟨l,h0,hB,m,n,g,i⟩:=C;refine(C8 o D b fk j is kp he v ha hk l s w bl d bs e A (B e.2) h0 hB g).mono ?_;rintro r w' ⟨p,rfl,E,f,t⟩
 have q:∀k,k<w.heap.size->¬l k->_:=fun k hk hn h=>(t k h).elim hn (fun h=>by omega)
 have lb:=lt_of_some hB.l;have u:=lt_of_some hB.g;have ls:=lt_of_some hB.s;refine⟨fun k=>p k\/k=bl\/k=d\/k=bs,rfl,⟨p,E,⟨(f.block _ lb m).trans hB.l,(f.block _ u n).trans hB.g,(f.block _ ls g).trans hB.s⟩,q _ lb m,q _ u n,q _ ls g,fun k=>Iff.rfl⟩,f.mono (fun k h=>(i k).2 (aK h)),fun k h=>?_⟩
 rcases h with h|h
 ·exact(t k h).imp (fun h=>(i k).2 (aK h)) id
 ·exact aK ((i k).2 (aJ h))
def eB {c:Type}(lk:c->b7->Bool×c):Nat->c->List b7->c×List b7
 |0,s,b=>(s,b)
 |n+1,s,b=>if(pts lk s b).1.length=0 then((pts lk s b).2.2,(pts lk s b).2.1) else eB lk n (pts lk s b).2.2 (pts lk s b).2.1
theorem lR {c:Type}(lk:c->b7->Bool×c)(n:Nat)(s:c)(b:List b7)(h:(pts lk s b).1.length=0):eB lk (n+1) s b=((pts lk s b).2.2,(pts lk s b).2.1):=by rw[eB,aI h]
theorem lS {c:Type}(lk:c->b7->Bool×c)(n:Nat)(s:c)(b:List b7)(h:¬(pts lk s b).1.length=0):eB lk (n+1) s b=eB lk n (pts lk s b).2.2 (pts lk s b).2.1:=by rw[eB,aG h]
theorem sx {b:Type}(lk:b->b7->Bool×b)(t:b)(l:List b7)(e:b7):(e∈(pts lk t l).1\/e∈(pts lk t l).2.1)->e∈l:=by
 have key:∀(l:List b7)(s:List b7×List b7×b),(e∈(l.foldl (eh lk) s).1\/e∈(l.foldl (eh lk) s).2.1)->e∈s.1\/e∈s.2.1\/e∈l:=by
  intro l
  induction l with
  |nil=>intro s h;rcases h with h|h<;>simp at h<;>simp[h]
  |cons x r c=>
   intro s h;have:=c _ h;unfold eh at this
   split at this<;>simp only [List.mem_append,List.mem_cons] at this⊢<;>grind
 intro h;have:=key l ([],[],t) h;simpa using this
abbrev mU (b bl bs:Nat):Value:=.func (.func 147) #[] #[aj b,aj bl,aj bs]
theorem aX {α:Type _}{«as» bs:List α}:(«as» ++ bs).length = «as».length + bs.length:=List.length_append ..
theorem sy {b:Type}(o:fJ b)(is:b->Int->Bool)(kp:b->Int->Int×b)(hl:∀s x,(o.wt (kp s x).2).length=(o.wt s).length)(s:b)(l:List b7):(o.wt (pts (cm o is kp) s l).2.2).length=(o.wt s).length+(pts (cm o is kp) s l).1.length:=by
 have key:∀(l:List b7)(t:List b7×List b7×b),(o.wt (l.foldl (eh (cm o is kp)) t).2.2).length+t.1.length=(o.wt t.2.2).length+(l.foldl (eh (cm o is kp)) t).1.length:=by
  intro l
  induction l with
  |nil=>simp
  |cons e r d=>
   intro t;rw[a8];have h:=d (eh (cm o is kp) t e)
   cases hc:is t.2.2 e.1
   ·have c:eh (cm o is kp) t e=(t.1,t.2.1++[e],t.2.2):=by simp[eh,cm,hc]
    rw[c] at h⊢;exact h
   ·have c:eh (cm o is kp) t e=(t.1++[e],t.2.1,o.put (kp t.2.2 e.2).2 (o.wt (kp t.2.2 e.2).2++[(e.1,(kp t.2.2 e.2).1)])):=by simp[eh,cm,hc]
    rw[c] at h⊢;rw[o.p7,aX,aX,hl] at h;simp at h;omega
 have:=key l ([],[],s)
 simpa[pts] using this
def ft {b:Type}(o:fJ b)(is:b->Int->Bool)(kp:b->Int->Int×b)(s:b)(r:List b7):b:=(eB (cm o is kp) ((r.filter (fun e=>!is s e.2)).length+1) s (r.filter (fun e=>!is s e.2))).1
def eO {b:Type}(o:fJ b)(is:b->Int->Bool)(kp:b->Int->Int×b)(nw:b->Int->Int)(s:b)(r:List b7):List b7:=((r.filter (fun e=>is s e.2)).filter (fun e=>is (ft o is kp s r) e.1)).map fun e=>(nw (ft o is kp s r) e.1,nw (ft o is kp s r) e.2)
def eP {b:Type}(o:fJ b)(is:b->Int->Bool)(kp:b->Int->Int×b)(nw:b->Int->Int)(s:b)(r:List b7):List b7:=((o.wt (ft o is kp s r)).filter (fun e=>is (ft o is kp s r) e.1)).map fun e=>(nw (ft o is kp s r) e.1,nw (ft o is kp s r) e.2)
structure lU {σ:Type}(o:fJ σ)(D:Int->Prop)(fa fk fn:fP)(is:σ->Int->Bool)(kp:σ->Int->Int×σ)(nw:σ->Int->Int):Prop where
 ea:dN fa.f
 e6:dN fk.f
 en:dN fn.f
 ha:j9 o.todr D fa.f fa.b fa.c is
 hk:mR o D fk.f fk.b fk.c kp
 ht:k7 o.todr D fn.f fn.b fn.c nw
 hl:∀s x,(o.wt (kp s x).2).length=(o.wt s).length
theorem wX:dN 146:=f_ func146 ae rfl
theorem C_:dN 147:=f_ func147 ae rfl
theorem Da:dN 151:=f_ func151 ae rfl
def wY:Value->Nat
 |.slice _ n _=>n
 |_=>0
def p8 (n m:Nat):Nat:=if n=0 then 0 else m+1
theorem Db {c b y n:Nat}(hc:¬c=0)(h:y+n=b):p8 y n<p8 c b:=by unfold p8;rw[aG hc];split<;>omega
theorem nY {w:ax}{a:Addr}{p i:Nat}{v:Value}(h:a.block≠p):(w.setCell ⟨p,i,none⟩ v).cell? a=w.cell? a:=aP (aU _ _ _ _ h)
theorem gy {w:ax}{p:Nat}{x y v1 v2:Value}{T:TypeId}(h:w.heap[p]?=some (.cells #[x,y] T (0,0))):((w.setCell ⟨p,0,none⟩ v1).setCell ⟨p,1,none⟩ v2).heap[p]?=some (.cells #[v1,v2] T (0,0)):=by exact sw
theorem Fr.unbox {F:Nat->Prop}{w w':ax}{p bl b bs:Nat}{d fk e:fP}(h:Fr (fun k=>F k\/k=bl\/k=b\/k=bs) w w')(hB:lh w p bl b bs d fk e)(c:lh w' p bl b bs d fk e):Fr F w w':=
 ⟨h.os,h.tape,h.output,h.size,fun k hk j=>by
  by_cases f:k=bl
  ·rw[f,hB.l,c.l]
  by_cases g:k=b
  ·rw[g,hB.g,c.g]
  by_cases i:k=bs
  ·rw[i,hB.s,c.s]
  exact h.block k hk (by simp[j,f,g,i])⟩
theorem bm {α:Type _}(p:α -> Bool)(l:List α):(List.filter p l).length <= l.length:=List.length_filter_le ..
theorem av(w:World):Below w.heap.size w w:=Below.refl _ w
theorem Dc {M:Type}(o:fJ M)(D:Int->Prop)(l fk d:fP)(is:M->Int->Bool)(kp:M->Int->Int×M)(nw:M->Int->Int)(bn:lU o D l fk d is kp nw)(r:List b7)(bo:Option Addr)(ci:Nat)(cS:o.vr=.slice bo r.length ci)(hr:r.length<=90000)(an:∀e∈r,D e.1/\D e.2)
 (F:Nat->Prop)(s:M)(w:ax)(dI:∀e∈o.wt (ft o is kp s r),D e.1/\D e.2)(eA:(o.wt s).length+r.length<=90000)(bl b bs G:Nat)(ao:o.J F s w)(hB:lh w o.p bl b bs l fk d)(cj:w.heap[G]?=some (.cells #[mU b bl bs] 101 (0,0)))(bp:¬F bl)(br:¬F b)(dJ:¬F bs)(dK:¬F G)(dL:G≠bl/\G≠b/\G≠bs)(cT:dv w bo r):
 Calls prog 149 #[aj bs,aj bl,aj G,aj b] w fun e w'=>∃a1 c1 a2 c2 bt cU,e=.returned (.bool true)/\o.J bt (ft o is kp s r) cU/\Fr (fun k=>k=o.p) cU w'/\
  w'.heap[o.p]?=some (.cells #[.slice a1 (eO o is kp nw s r).length c1,.slice a2 (eP o is kp nw s r).length c2] 153 (0,0))/\w'.ownsRow w.heap.size 103 2 (.slice a1 (eO o is kp nw s r).length c1) (eO o is kp nw s r).length (ev (eO o is kp nw s r))/\
  w'.ownsRow w.heap.size 103 2 (.slice a2 (eP o is kp nw s r).length c2) (eP o is kp nw s r).length (ev (eP o is kp nw s r))/\Fr F w w'/\(∀k,bt k->F k\/w.heap.size<=k)/\(∀k,some k=(Value.slice a1 (eO o is kp nw s r).length c1).ownBlock->¬bt k)/\(∀k,some k=(Value.slice a2 (eP o is kp nw s r).length c2).ownBlock->¬bt k)/\(∀k,some k=(Value.slice a1 (eO o is kp nw s r).length c1).ownBlock->some k≠(Value.slice a2 (eP o is kp nw s r).length c2).ownBlock):=by
 obtain⟨eC,eD,hp,_,eE,_⟩:=o.side ao;rw[cS] at hp;have c3:w.cell? (aq bs 0)=some (aj o.p):=by simp[World.cell?,hB.s]
 have c4:w.cell? (aq o.p 0)=some (.slice bo r.length ci):=by simp[World.cell?,hp]
 have l1:bl<w.heap.size:=lt_of_some hB.l;have l2:b<w.heap.size:=lt_of_some hB.g;have eF:bs<w.heap.size:=lt_of_some hB.s;have dM:G<w.heap.size:=lt_of_some cj;have v:ay (lU o D l fk d is kp nw):=bn;have dN:ay (lh w o.p bl b bs l fk d):=hB;have eG:ay (∀e∈r,D e.1/\D e.2):=an;have dO:ay (∀e∈o.wt (ft o is kp s r),D e.1/\D e.2):=dI;have dP:ay (w.heap[G]?=some (.cells #[mU b bl bs] 101 (0,0))):=cj;have c0:w.cell? (aq bl 0)=some l.v:=by simp[World.cell?,hB.l]
 have ck:=r_ (fun e=>D e.1/\D e.2) 151 #[] #[aj bl] (fun e=>is s e.2) Da w (fun w' e hd hs hk=>C7 o.todr D l is bn.ea bn.ha F s w' bl e hd.2 (o.keep ao hs (fun k h=>hk k (o.lt ao k h))) ((aP (a:=⟨bl,0,none⟩) (hk bl l1)).trans c0)) r bo ci an V cT;obtain⟨A,bx⟩:∃A,ay (A=r.filter (fun e=>is s e.2)):=⟨_,rfl⟩
 obtain⟨B,ap⟩:∃B,ay (B=r.filter (fun e=>!is s e.2)):=⟨_,rfl⟩
 rw[<-bx.out,<-ap.out] at ck;have dQ:A.length<=90000:=by rw[bx.out];exact aT (bm _ _) hr
 have cV:B.length<=90000:=by rw[ap.out];exact aT (bm _ _) hr
 have dR:(o.wt s).length+B.length<=90000:=by have:=bm (fun e=>!is s e.2) r;rw[ap.out];omega
 have cW:ay ((eB (cm o is kp) (B.length+1) s B).1=ft o is kp s r):=by show _=_;rw[ap.out];rfl
 have cX:ay (∀e∈A,D e.1/\D e.2):=fun e he=>an e (by rw[bx.out] at he;exact(List.mem_filter.1 he).1)
 have dS:ay (∀e∈B,D e.1/\D e.2):=fun e he=>an e (by rw[ap.out] at he;exact(List.mem_filter.1 he).1)
 have cY:ay ((boxed o bl b bs l fk d).J (fun k=>F k\/k=bl\/k=b\/k=bs) s w):=⟨F,ao,hB,bp,br,dJ,fun k=>Iff.rfl⟩
 clear bn ao hp cS cT cj an hB c0;go_enter func149,ntmps149;go_wp2_with fail;refine ck.mono ?_;clear ck;rintro e w1 ⟨a1,ar,a2,cl,rfl,co,cp,cq⟩
 have cZ:Fr (fun k=>F k\/k=bl\/k=b\/k=bs) w w1:=Fr.of cq;have c5:=(boxed o bl b bs l fk d).below cY.out cq;have c6:ay (∀k,(F k\/k=bl\/k=b\/k=bs)->(F k\/k=bl\/k=b\/k=bs)\/w.heap.size<=k):=fun k h=>aK h;have cr:=(boxed o bl b bs l fk d).lt cY.out;have O:ay (∀k,some k=(Value.slice a1 A.length ar).ownBlock->¬(F k\/k=bl\/k=b\/k=bs)):=fun k e h=>by have:=(cn co k e).1;have:=cr k h;omega
 have c7:ay (∀k,some k=(Value.slice a2 B.length cl).ownBlock->¬(F k\/k=bl\/k=b\/k=bs)):=fun k e h=>by have:=(cn cp k e).1;have:=cr k h;omega
 clear cr cq;go_wp2_with fail
 go_loopw [6,7] (fun cs vc wr=>∃(f C:List b7)(ad c8:Option Addr)(cd cc n:Nat)(S:Nat->Prop)(s2:M),cs=.slice ad f.length cd/\vc=.slice c8 C.length cc/\ay (C.length=0->s2=ft o is kp s r)/\ay (¬C.length=0->(eB (cm o is kp) n s2 f).1=ft o is kp s r/\f.length<n)/\ay (∀e∈f,D e.1/\D e.2)/\f.length<=90000/\C.length<=90000/\(o.wt s2).length+f.length<=90000/\
  wr.ownsRow w.heap.size 103 2 (.slice ad f.length cd) f.length (ev f)/\wr.ownsRow w.heap.size 103 2 (.slice a1 A.length ar) A.length (ev A)/\(boxed o bl b bs l fk d).J S s2 wr/\Fr (fun k=>F k\/k=bl\/k=b\/k=bs) w wr/\ay (∀k,S k->(F k\/k=bl\/k=b\/k=bs)\/w.heap.size<=k)/\
  ay (∀k,some k=(Value.slice a1 A.length ar).ownBlock->¬S k)/\ay (∀k,some k=(Value.slice ad f.length cd).ownBlock->¬S k)) (fun cs vc _=>p8 (wY vc) (wY cs))
 case atStart=>
  refine⟨B,B,a2,a2,cl,cl,B.length+1,(fun k=>F k\/k=bl\/k=b\/k=bs),s,rfl,rfl,fun h=>?_,fun _=>⟨cW.out,Nat.lt_succ_self _⟩,dS,cV,cV,dR,cp,co,c5,cZ,c6,O,c7⟩
  rw[<-cW.out,List.eq_nil_of_length_eq_zero h];rfl
 case round=>
  clear co cp c5 cZ c6 O c7;obtain⟨f,C,ad,c8,cd,cc,n,S,s2,rfl,rfl,ct,U,c9,eH,eI,eJ,hd,aB,cu,P,bY,O,cv⟩:=hrel;by_cases W:C.length=0
  ·have bZ:ay (s2=ft o is kp s r):=ct.out W;obtain⟨Q,j0,H,n1,cw,cx,da⟩:=cu;have db:wr.cell? (aq b 0)=some (.func (.func 146) #[] #[aj bl]):=by simp[World.cell?,H.g]
   have dc:wr.cell? (aq bl 0)=some l.v:=by simp[World.cell?,H.l]
   have dd:wr.cell? (aq bl 2)=some (.func (.func d.f) d.b d.c):=by simp[World.cell?,H.l]
   have de:wr.cell? (aq bs 0)=some (aj o.p):=by simp[World.cell?,H.s]
   obtain⟨aF,aR,b0,df,aV,dT⟩:=o.side j0;have dg:wr.cell? (aq o.p 1)=some (.slice aF (o.wt s2).length aR):=by simp[World.cell?,b0]
   have m1:=lt_of_some H.l;have cy:=lt_of_some H.g;have cz:=lt_of_some H.s;have cA:=lt_of_some b0;have dh:=P.size;have di:ay (∀(w':ax)(e:b7),D e.1/\D e.2->wr.heap.size<=w'.heap.size->(∀k,k<wr.heap.size->w'.heap[k]?=wr.heap[k]?)->Calls prog 146 ((#[]:Array Value).push (en e)++#[aj bl]) w' fun r dU=>r=.returned (.bool (is s2 e.1))/\aw w' dU):=
    fun w' e hd hs hk=>wW o.todr D l is v.out.ea v.out.ha Q s2 w' bl e hd.1 (o.keep j0 hs (fun k h=>hk k (o.lt j0 k h))) ((aP (a:=⟨bl,0,none⟩) (hk bl m1)).trans dc)
   have cB:=r_ (fun e=>D e.1/\D e.2) 146 #[] #[aj bl] (fun e=>is s2 e.1) wX wr di.out A a1 ar cX.out V (g7 aB)
   obtain⟨t,b3⟩:∃t,ay (t=A.filter (fun e=>is s2 e.1)):=⟨_,rfl⟩
   rw[<-b3.out] at cB;have eK:t.length<=90000:=by rw[b3.out];exact aT (bm _ _) dQ
   have dV:ay (∀e∈t,D e.1/\D e.2):=fun e he=>cX.out e (by rw[b3.out] at he;exact(List.mem_filter.1 he).1)
   have dW:(o.wt s2).length<=90000:=V;have dj:ay (∀e∈o.wt s2,D e.1/\D e.2):=by rw[bZ.out];exact dO
   obtain⟨u,b4⟩:∃u,ay (u=(o.wt s2).filter (fun e=>is s2 e.1)):=⟨_,rfl⟩
   have eL:u.length<=90000:=by rw[b4.out];exact aT (bm _ _) dW
   have dX:ay (∀e∈u,D e.1/\D e.2):=fun e he=>dj.out e (by rw[b4.out] at he;exact(List.mem_filter.1 he).1)
   have cC:ay (lh wr o.p bl b bs l fk d):=H;have dY:ay (o.J Q s2 wr):=j0;have dZ:ay (ir wr aF (o.wt s2) aR):=df;have dk:ay (Fr (fun k=>F k\/k=bl\/k=b\/k=bs) w wr):=P;clear hd aB H j0 df P ct U O cv dT;go_wp2_with fail;refine cB.mono ?_;clear cB;rintro e cD ⟨b1,cE,b2,cF,rfl,cG,_,E⟩
   have cI:=r_ (fun e=>D e.1/\D e.2) 146 #[] #[aj bl] (fun e=>is s2 e.1) wX cD.drew (fun w' e hd hs hk=>di.out w' e hd (aT E.size hs) (fun k h=>(hk k (aM h E.size)).trans (E.block k h))) (o.wt s2) aF aR dj.out V (dZ.out.lp.below E.drew)
   rw[<-b4.out] at cI;have dl:=(E.cell (p:=aq b 0) cy).trans db;have dm:=(E.cell (p:=aq bs 0) cz).trans de;have dn:=(E.cell (p:=aq o.p 1) cA).trans dg;have dp:=(E.cell (p:=aq bl 2) m1).trans dd;go_wp2_with fail;have a0:=E.size
   go_region_held3 (fun w'=>w'.cell? (aq bs 0)=some (aj o.p)/\w'.cell? (aq o.p 1)=some (.slice aF (o.wt s2).length aR)/\w'.cell? (aq b 0)=some (.func (.func 146) #[] #[aj bl])) (go_keep)
    (first|(go_at_call 150;refine cI.mono ?_;rintro e g ⟨d0,d1,eM,eN,rfl,dq,_,K⟩;have d2:=(K.cell (p:=aq b 0) (aM cy a0)).trans dl;have cJ:=(K.cell (p:=aq bs 0) (aM cz a0)).trans dm;have d3:=(K.cell (p:=aq o.p 1) (aM cA a0)).trans dn;have cK:=(K.cell (p:=aq bl 2) (aM m1 a0)).trans dp))
   have bb:aw wr g:=E.drew.trans (K.mono a0)
   have eQ:cD.heap.size<=g.heap.size:=K.size;have dr:=cH (w:=cD) cG (fun k e=>K.block k (cn cG k e).2)
   have b5:=o.below dY.out bb;have ds:=(bb.block o.p cA).trans b0;have b6:o.p≠bs:=fun e=>cx (by rw[<-e];exact aV)
   have b8:o.p≠bl:=fun e=>n1 (by rw[<-e];exact aV)
   have d4:o.p≠b:=fun e=>cw (by rw[<-e];exact aV)
   have dt:ay (∀k,Q k->F k\/w.heap.size<=k):=fun k h=>by
    rcases bY.out k ((da k).2 (aK h)) with(c|c|c|c)|c
    ·exact aK c
    ·exact absurd (by rw[<-c];exact h) n1
    ·exact absurd (by rw[<-c];exact h) cw
    ·exact absurd (by rw[<-c];exact h) cx
    ·exact aJ c
   have d5:ay (Q o.p):=aV;have du:o.p<g.heap.size:=lt_of_some ds;have dw:bs<g.heap.size:=V;have dx:bl<g.heap.size:=V;have d6:t.length<=100000:=V;have d7:u.length<=100000:=V;have dy:=g7 dr;have dz:=g7 dq;have cL:=o.below b5 (av g).drew;have dA:=dy.below (av g).drew;have dB:=dz.below (av g).drew;clear cG K E dl dm dn dp dc db de dg dd cI d2 d3 b0 aV n1 cw cx da;go_wp2_with fail
   go_region_held3 (fun w'=>w'.cell? (aq bs 0)=some (aj o.p)/\w'.cell? (aq bl 2)=some (.func (.func d.f) d.b d.c)) (first|exact⟨cJ,cK⟩|exact⟨cM,cN⟩|exact⟨b9,ca⟩|exact⟨(nY b6.symm).trans b9,(nY b8.symm).trans ca⟩|exact⟨(nY b6.symm).trans ((nY b6.symm).trans b9),(nY b8.symm).trans ((nY b8.symm).trans ca)⟩)
    (first
      |(have eR:=I;go_at_call 152;refine(wC o.todr D d.f d.b d.c nw v.out.en v.out.ht u d0 d1 Q s2 _ dX.out d7 (o.below cL I) (dB.below I)).mono ?_;rintro e q ⟨ab,ag,rfl,J,R⟩;have eS:=R.size;have b9:=(R.cell (p:=aq bs 0) (aM dw bd)).trans cM;have ca:=(R.cell (p:=aq bl 2) (aM dx bd)).trans cN;have be:=(R.block o.p (aM du bd)).trans ((I.block o.p du).trans ds);have q0:q.cell? (aq o.p 0)=some o.vr:=(by simp[World.cell?,be]);have q1:q.cell? (aq o.p 1)=some (.slice aF (o.wt s2).length aR):=(by simp[World.cell?,be]);have d8:q.frozen? (aq o.p 0)=false:=(by simp[World.frozen?,be]);have d9:q.frozen? (aq o.p 1)=false:=(by simp[World.frozen?,be]))
      |(go_at_call 152;refine(wC o.todr D d.f d.b d.c nw v.out.en v.out.ht t b1 cE Q s2 _ dV.out d6 cL dA).mono ?_;rintro e cb ⟨ai,al,rfl,L,I⟩;have bd:=I.size;have cM:=(I.cell (p:=aq bs 0) dw).trans cJ;have cN:=(I.cell (p:=aq bl 2) dx).trans cK))
   have ea:aw g cb:=(av g).drew.trans (I.mono bW)
   have dC:aw g q:=ea.trans (R.mono bd)
   have ce:aw wr q:=bb.trans (dC.mono bb.size)
   have eb:=o.below b5 dC;have ec:ay (cb.ownsRow g.heap.size 103 2 (.slice ai t.length al) t.length (ev (t.map fun e=>(nw s2 e.1,nw s2 e.2)))):=L;have ed:ay (q.ownsRow g.heap.size 103 2 (.slice ab u.length ag) u.length (ev (u.map fun e=>(nw s2 e.1,nw s2 e.2)))):=eT J (fun k e=>aT bd (cn J k e).1)
   have ee:ay (aw cb q):=R;have ef:ay (∀k,some k=(Value.slice ai t.length al).ownBlock->some k≠(Value.slice ab u.length ag).ownBlock):=fun k e eg=>by have bp:=(cn L k e).2;have br:=(cn J k eg).1;omega
   clear L J I R dA dB cL dy dz dr dq cM cN b9 ca cJ cK q0 q1 d8 d9;go_wp2_with fail;go_ret;have eh:eO o is kp nw s r=t.map fun e=>(nw s2 e.1,nw s2 e.2):=by unfold eO;rw[<-bZ.out,<-bx.out,<-b3.out]
   have ei:eP o is kp nw s r=u.map fun e=>(nw s2 e.1,nw s2 e.2):=by unfold eP;rw[<-bZ.out,<-b4.out]
   have bg:∀k,k≠o.p->((q.setCell ⟨o.p,0,none⟩ (.slice ai t.length al)).setCell ⟨o.p,1,none⟩ (.slice ab u.length ag)).heap[k]?=q.heap[k]?:=fun k hk=>(aU _ _ _ _ hk).trans (aU _ _ _ _ hk)
   have L:=ec.out;have J:=ed.out;have dD:=dk.out.size;have dE:=bb.size;have ej:lh ((q.setCell ⟨o.p,0,none⟩ (.slice ai t.length al)).setCell ⟨o.p,1,none⟩ (.slice ab u.length ag)) o.p bl b bs l fk d:=
    ⟨(bg bl b8.symm).trans ((ce.block bl m1).trans cC.out.l),(bg b d4.symm).trans ((ce.block b cy).trans cC.out.g),(bg bs b6.symm).trans ((ce.block bs cz).trans cC.out.s)⟩
   have dF:Fr (fun k=>k=o.p) q ((q.setCell ⟨o.p,0,none⟩ (.slice ai t.length al)).setCell ⟨o.p,1,none⟩ (.slice ab u.length ag)):=((Fr.refl (fun k=>k=o.p) q).set o.p 0 _ rfl).set o.p 1 _ rfl;rw[eh,ei,aW,aW,<-bZ.out];refine⟨ai,al,ab,ag,Q,q,rfl,eb,dF,gy be,?_,?_,?_,dt.out,fun k e h=>?_,fun k e h=>?_,ef.out⟩
   ·refine eT (cH L (fun k e=>?_)) (fun k e=>aT (aT dD dE) (cn L k e).1)
    have:=cn L k e;exact(bg k V).trans (ee.out.block k this.2)
   ·refine eT (cH J (fun k e=>?_)) (fun k e=>aT (aT dD dE) (cn J k e).1)
    have:=cn J k e;exact bg k V
   ·exact((dk.out.trans (Fr.of (X:=fun _=>False) ce) (fun _ c=>c.elim)).trans dF (fun i c=>by rw[c];exact(dt.out o.p d5.out).imp aK id)).unbox dN.out ej
   ·have:=o.lt b5 k h;have:=(cn L k e).1;omega
   ·have:=o.lt b5 k h;have:=(cn J k e).1;omega
  ·have ek:wr.cell? (aq G 0)=some (mU b bl bs):=by
    have hk:=P.block G dM (by simp[dK,dL])
    simp[World.cell?,hk,dP.out]
   have dG:∀j,j<f.length->∀x,(o.wt (kp (pts (cm o is kp) s2 (f.take j)).2.2 x).2).length<=90000:=fun j eU x=>by
    have bp:=sy o is kp v.out.hl s2 (f.take j)
    have br:=oL (cm o is kp) s2 (f.take j)
    rw[v.out.hl,bp];simp at br;omega
   have cf:=vV (boxed o bl b bs l fk d) (fun e=>D e.1/\D e.2) (fun s=>∀x,(o.wt (kp s x).2).length<=90000) 147 #[] #[aj b,aj bl,aj bs] (cm o is kp) C_ (C9 o bl b bs D l fk d is kp v.out.ea v.out.e6 v.out.ha v.out.hk) f ad cd S s2 wr c9.out dG V cu ((g7 hd).apart (fun _ z e=>cv.out z.block (by rw[e];rfl)))
   obtain⟨Y,N,am,bi⟩:∃Y N am,ay (pts (cm o is kp) s2 f=(Y,N,am)):=⟨_,_,_,rfl⟩
   have cO:=oL (cm o is kp) s2 f;have cP:=sy o is kp v.out.hl s2 f;have cg:=sx (cm o is kp) s2 f;rw[bi.out] at cf cO cg cP;dsimp only at cf cO cg cP;have el:(o.wt am).length+N.length<=90000:=V;clear cP dG;obtain⟨n,rfl⟩:∃m,n=m+1:=⟨n-1,by have:=(U.out W).2;omega⟩
   have em:ay (Y.length=0->am=ft o is kp s r):=fun h=>by
    have e:=lR (cm o is kp) n s2 f (by rw[bi.out];exact h)
    rw[<-(U.out W).1,e,bi.out]
   have eo:ay (¬Y.length=0->(eB (cm o is kp) n am N).1=ft o is kp s r/\N.length<n):=fun h=>by
    have e:=lS (cm o is kp) n s2 f (by rw[bi.out];exact h)
    refine⟨?_,?_⟩
    ·rw[<-(U.out W).1,e,bi.out]
    ·have:=(U.out W).2;omega
   have ep:ay (∀e∈N,D e.1/\D e.2):=fun e he=>c9.out e (cg e (aJ he))
   clear cg;go_wp2_with fail;refine cf.mono ?_;clear cf;rintro e eV ⟨b1,cE,b2,cF,ch,rfl,eq,hN,er,cQ,cR,es,dH⟩
   have dh:=P.size;have et:ay (∀k,ch k->(F k\/k=bl\/k=b\/k=bs)\/w.heap.size<=k):=fun k h=>(cR k h).elim (bY.out k) (fun h=>aJ V)
   have eu:ay (∀k,some k=(Value.slice a1 A.length ar).ownBlock->¬ch k):=fun k e h=>(cR k h).elim (O.out k e) (fun h=>by have:=(cn aB k e).2;omega)
   have ew:ay (∀k,some k=(Value.slice b2 N.length cF).ownBlock->¬ch k):=dH;have ex:=hQ aB cQ O.out;have ey:=P.trans cQ bY.out;have ez:=eT hN (base':=w.heap.size) (fun k e=>aT dh (cn hN k e).1)
   clear cR es dH eq hN aB P cQ cu bY O cv hd ct U ek;go_wp2_with fail;go_roundw
   case rel=>exact⟨N,Y,b2,b1,cF,cE,n,ch,am,rfl,rfl,em,eo,ep,V,V,el,ez,ex,er,ey,et,eu,ew⟩
   case measure=>
    exact Db W cO
end Go.Proofs.YtpkjkjhanlbcoaaGreat
