import Derived.Test.YtpkjkjhanlbcoaaGreatJ12
import Derived.Tactics
import Derived.Tactics2
import Derived.Recover
namespace Go.Proofs.YtpkjkjhanlbcoaaGreat
set_option maxRecDepth 100000
set_option maxHeartbeats 2000000
open Tryz
open Go.RowKit W Kp ch
theorem xU {P:Prop}(h:P:=by
 by_cases c:i<t
 ·rw[List.getElem?_append_left (by simp;omega),aH aa,List.getElem?_take_of_lt c]
 ·have e1:(ws.take t).length=t:=by simp;omega
  rw[List.getElem?_append_right aa,e1];by_cases c2:i<t+n
  ·rw[aJ aa,List.getElem?_append_left aa,List.getElem?_take_of_lt aa,List.getElem?_drop,show f+(i-t)=f+i-t by omega]
  ·rw[aH aa,List.getElem?_append_right aa,hl,List.getElem?_drop,show t+n+(i-t-n)=i by omega]):P:=h
theorem qo {P:Prop}(h:P:=by rw[ee (hK hi.1 hi.2),ee (hK hi.1 hi.2),kR _ _ _ _ _ hlt,aH aa,aH aa]):P:=h
theorem s9 {P:Prop}(h:P:=by rw[ee (il hi.1 aa),ee (il hi.1 hi.2),kR _ _ _ _ _ hlt,aH aa,aH aa]):P:=h
theorem xV {P:Prop}(h:P:=by rw[hw1,a4 _ _ _ ac];simpa using aN (W4.alloc (.cells #[.pointer (some ⟨o.p,0,none⟩)] 52)) (.cells #[.bool false] 4)):P:=h
theorem xW {P:Prop}(h:P:=by simpa using aN (w.alloc (.cells #[.pointer (some ⟨o.p,0,none⟩)] 52)) (.cells #[fa.v,fk.v,fn.v] 145)):P:=h
theorem EK (a b c:Addr)(w:aw):
 CallsD prog 218 #[.pointer (some a),.pointer (some b),.pointer (some c)] .returning w fun e d w'=>e=.returned (.tuple #[])/\d=.returning/\w'=w:=by
 refine callsD_of_wpS func218 rfl fun f i g=>?_;apply wpS_seq;apply wpS_region;simp[wpOpsS,go_sem,recoverD,g,ntmps218,Exit.thenS];refine wpS_cond (t:=false) (by simp[Act.eval,Array.replicate]) ?_;refine wpS_of_wp (wp_skip ?_)
 cases f
 simp_all [bodyPostS,results,results218]
theorem xX (f:Nat)(b c:Array Value)(i:d7 f)(w:aw)(p:Nat)(a0 a1:Option Addr)(n0 k0 n1 k1:Nat)(c0:w.cell? (ao p 0)=some (.slice a0 n0 k0))(c1:w.cell? (ao p 1)=some (.slice a1 n1 k1))(R:Bool->aw->Prop)
 (h:∀w1,w1=((w.alloc (.cells #[.pointer (some ⟨p,0,none⟩)] 52)).alloc (.cells #[.bool false] 4)).alloc (.cells #[.slice a0 n0 k0,.slice a1 n1 k1] 153)->Calls prog f (b++c) w1 fun r d=>∃g,r=.returned (.bool g)/\R g d/\d.heap[w.heap.size+1]?=some (.cells #[.bool false] 4 (0,0))):
 Calls prog 148 #[am p,.func (.func f) b c] w fun e w'=>∃g d,e=.returned (.bool g)/\R g d/\d.heap[w.heap.size+1]?=some (.cells #[.bool false] 4 (0,0))/\w'=d.setCell ⟨w.heap.size+1,0,none⟩ (.bool g):=by
 have l:=aM w _ c0;have H:=hide h;clear h;have m:∀(args:Array Value)(w:aw),(callFunc f args).run prog w=.ok (.enter f args) w:=i;clear i
 go_enter_defers func148,ntmps148
 go_wp2_with fail;refine(H.o _ rfl).mono ?_;rintro e d ⟨g,rfl,j,hk⟩
 have k:d.cell? (ao (w.heap.size+1) 0)=some (.bool false):=aA hk
 have n:d.frozen? (ao (w.heap.size+1) 0)=false:=aC hk
 go_wp2_with fail;refine leaves_cons (f:=218) (args:=#[am (w.heap.size+1+1),am w.heap.size,am (w.heap.size+1)]) ac (by simp[go_sem]) ?_;refine(EK _ _ _ _).mono ?_;rintro e o q ⟨rfl,rfl,rfl⟩
 simp[Leaves,settle,results,results148,go_sem,(a8 _ _ _ k)];cases g
 ·exact aL ⟨rfl,d,j,hk,rfl⟩
 ·exact aK ⟨rfl,d,j,hk,rfl⟩
theorem EL:d7 149:=gW func149 ah rfl
theorem s_ {j:Type}(o:fG j)(D:Int->Prop)(fa fk fn:fL)(is:j->Int->Bool)(kp:j->Int->Int×j)(nw:j->Int->Int)(aB:lN o D fa fk fn is kp nw)(r:List b9)(t:Option Addr)(v:Nat)(ai:o.vr=.slice t r.length v)(aF:r.length<=90000)(hD:∀e∈r,D e.1/\D e.2)
 (F:Nat->Prop)(s:j)(w:aw)(aR:∀e∈o.wt (fu o is kp s r),D e.1/\D e.2)(aT:(o.wt s).length+r.length<=90000)(x:o.J F s w)(aV:c8 w t r):
 Calls prog 78 #[am o.p,.agg #[fa.v,fk.v,fn.v]] w fun e w'=>∃a1 c1 a2 c2 b d,e=.returned (.tuple #[])/\o.J b (fu o is kp s r) d/\(∀k,b k->k≠o.p->w'.heap[k]?=d.heap[k]?)/\d.heap.size<=w'.heap.size/\
  w'.heap[o.p]?=some (.cells #[.slice a1 (eV o is kp nw s r).length c1,.slice a2 (eW o is kp nw s r).length c2] 153 (0,0))/\w'.ownsRow w.heap.size 103 2 (.slice a1 (eV o is kp nw s r).length c1) (eV o is kp nw s r).length (ev (eV o is kp nw s r))/\
  w'.ownsRow w.heap.size 103 2 (.slice a2 (eW o is kp nw s r).length c2) (eW o is kp nw s r).length (ev (eW o is kp nw s r))/\Fr F w w'/\(∀k,b k->F k\/w.heap.size<=k)/\(∀k,some k=(Value.slice a1 (eV o is kp nw s r).length c1).ownBlock->¬b k)/\(∀k,some k=(Value.slice a2 (eW o is kp nw s r).length c2).ownBlock->¬b k)/\(∀k,some k=(Value.slice a1 (eV o is kp nw s r).length c1).ownBlock->some k≠(Value.slice a2 (eW o is kp nw s r).length c2).ownBlock):=by
 obtain⟨al,ap,hp,_,bi,_⟩:=o.side x;rw[ai] at hp;have c0:w.cell? (ao o.p 0)=some (.slice t r.length v):=aA hp
 have c1:w.cell? (ao o.p 1)=some (.slice al (o.wt s).length ap):=aA hp
 have lp:=lt_of_some hp;have a0:ay (∀w1,Below w.heap.size w w1->kV w1 o.p (w.heap.size+1) (w.heap.size+2) w.heap.size fa fk fn->w1.heap[w.heap.size+3]?=some (.cells #[mC (w.heap.size+2) (w.heap.size+1) w.heap.size] 101 (0,0))->Calls prog 149 #[am w.heap.size,am (w.heap.size+1),am (w.heap.size+3),am (w.heap.size+2)] w1 fun e w'=>∃a1 c1 a2 c2 b d,e=.returned (.bool true)/\o.J b (fu o is kp s r) d/\Fr (fun k=>k=o.p) d w'/\
  w'.heap[o.p]?=some (.cells #[.slice a1 (eV o is kp nw s r).length c1,.slice a2 (eW o is kp nw s r).length c2] 153 (0,0))/\w'.ownsRow w1.heap.size 103 2 (.slice a1 (eV o is kp nw s r).length c1) (eV o is kp nw s r).length (ev (eV o is kp nw s r))/\
  w'.ownsRow w1.heap.size 103 2 (.slice a2 (eW o is kp nw s r).length c2) (eW o is kp nw s r).length (ev (eW o is kp nw s r))/\Fr F w1 w'/\(∀k,b k->F k\/w1.heap.size<=k)/\(∀k,some k=(Value.slice a1 (eV o is kp nw s r).length c1).ownBlock->¬b k)/\(∀k,some k=(Value.slice a2 (eW o is kp nw s r).length c2).ownBlock->¬b k)/\(∀k,some k=(Value.slice a1 (eV o is kp nw s r).length c1).ownBlock->some k≠(Value.slice a2 (eW o is kp nw s r).length c2).ownBlock)):=by
  intro w1 hb hB hc;have q:∀k,w.heap.size<=k->¬F k:=fun k hk h=>by have:=o.lt x k h;omega
  exact Dj o D fa fk fn is kp nw aB r t v ai aF hD F s w1 aR aT _ _ _ _ (o.below x hb) hB hc (q _ aa) (q _ aa) (q _ aa) (q _ aa) ⟨aa,aa,aa⟩ (aV.below hb)
 have ar:=hide x;go_enter func78,ntmps78;go_wp2_with fail;have f:∃W4,W4=(((w.alloc (.cells #[.pointer (some ⟨o.p,0,none⟩)] 52)).alloc (.cells #[fa.v,fk.v,fn.v] 145)).alloc (.cells #[.func (.func 146) #[] #[.pointer (some ⟨w.heap.size+1,0,none⟩)]] 101)).alloc (.cells #[mC (w.heap.size+1+1) (w.heap.size+1) w.heap.size] 101):=⟨_,rfl⟩
 obtain⟨W4,f⟩:=f;have sz:W4.heap.size=w.heap.size+4:=by rw[f];simp
 have B:Below w.heap.size w W4:=by rw[f];exact((((aE _ w).alloc bY _).alloc ac _).alloc (by simp;omega) _).alloc (by simp;omega) _
 have g0:W4.heap[w.heap.size]?=some (.cells #[am o.p] 52 (0,0)):=by rw[f,a4 _ _ _ (by simp;omega),a4 _ _ _ (by simp;omega),a4 _ _ _ ac];exact aN _ _
 have g1:W4.heap[w.heap.size+1]?=some (.cells #[fa.v,fk.v,fn.v] 145 (0,0)):=by rw[f,a4 _ _ _ ac,a4 _ _ _ ac];exact xW
 have g2:W4.heap[w.heap.size+2]?=some (.cells #[.func (.func 146) #[] #[am (w.heap.size+1)]] 101 (0,0)):=by rw[f,a4 _ _ _ ac];simpa using aN ((w.alloc (.cells #[.pointer (some ⟨o.p,0,none⟩)] 52)).alloc (.cells #[fa.v,fk.v,fn.v] 145)) (.cells #[.func (.func 146) #[] #[.pointer (some ⟨w.heap.size+1,0,none⟩)]] 101)
 have g3:W4.heap[w.heap.size+3]?=some (.cells #[mC (w.heap.size+1+1) (w.heap.size+1) w.heap.size] 101 (0,0)):=by rw[f];simpa using aN (((w.alloc (.cells #[.pointer (some ⟨o.p,0,none⟩)] 52)).alloc (.cells #[fa.v,fk.v,fn.v] 145)).alloc (.cells #[.func (.func 146) #[] #[.pointer (some ⟨w.heap.size+1,0,none⟩)]] 101)) (.cells #[mC (w.heap.size+1+1) (w.heap.size+1) w.heap.size] 101)
 rw[<-f];have P:=xX 149 #[] #[am w.heap.size,am (w.heap.size+1),am (w.heap.size+1+1+1),am (w.heap.size+1+1)] EL W4 o.p t al r.length v (o.wt s).length ap ((B.cell (p:=ao o.p 0) lp).trans c0) ((B.cell (p:=ao o.p 1) lp).trans c1)
  (fun _ g=>∃a1 c1 a2 c2 b d,o.J b (fu o is kp s r) d/\Fr (fun k=>k=o.p) d g/\
    g.heap[o.p]?=some (.cells #[.slice a1 (eV o is kp nw s r).length c1,.slice a2 (eW o is kp nw s r).length c2] 153 (0,0))/\g.ownsRow (w.heap.size+7) 103 2 (.slice a1 (eV o is kp nw s r).length c1) (eV o is kp nw s r).length (ev (eV o is kp nw s r))/\
    g.ownsRow (w.heap.size+7) 103 2 (.slice a2 (eW o is kp nw s r).length c2) (eW o is kp nw s r).length (ev (eW o is kp nw s r))/\Fr F w g/\(∀k,b k->F k\/w.heap.size+7<=k)/\(∀k,some k=(Value.slice a1 (eV o is kp nw s r).length c1).ownBlock->¬b k)/\(∀k,some k=(Value.slice a2 (eW o is kp nw s r).length c2).ownBlock->¬b k)/\(∀k,some k=(Value.slice a1 (eV o is kp nw s r).length c1).ownBlock->some k≠(Value.slice a2 (eW o is kp nw s r).length c2).ownBlock))
  (by
    intro w1 hw1;have s1:w1.heap.size=w.heap.size+7:=by rw[hw1];simp;omega
    have b1:Below W4.heap.size W4 w1:=by rw[hw1];exact(((aE _ W4).alloc bY _).alloc ac _).alloc (by simp;omega) _
    have hk:w1.heap[W4.heap.size+1]?=some (.cells #[.bool false] 4 (0,0)):=by exact xV
    have b2:=B.trans (b1.mono aa)
    refine(a0.o w1 b2 ⟨(b1.block _ aa).trans g1,(b1.block _ aa).trans g2,(b1.block _ aa).trans g0⟩ ((b1.block _ aa).trans g3)).mono ?_;rintro e g ⟨a1,c1,a2,c2,b,d,rfl,q1,N,q3,l,n,S,u,ab,ad,ag⟩
    rw[s1] at l n u;refine⟨true,rfl,⟨a1,c1,a2,c2,b,d,q1,N,q3,l,n,(Fr.of (X:=F) b2).trans S (fun _ c=>aL c),u,ab,ad,ag⟩,(S.block _ aa (fun h=>?_)).trans hk⟩
    have:=o.lt ar.o _ h;omega)
 refine P.mono ?_;rintro e w3 ⟨a3,g,rfl,⟨a1,bb,a2,bd,b,d,q1,N,q3,l,n,S,u,ab,ad,ag⟩,hk,rfl⟩
 obtain⟨m,hm⟩:∃m,m=W4.heap.size+1:=⟨_,rfl⟩
 rw[<-hm];have be:ay (m=w.heap.size+5):=by show m=_;omega
 clear hm hk B g0 g1 g2 g3 sz f;go_wp2_with fail;go_end0;have hm:=be.o;have W:∀k,k≠m->(g.setCell ⟨m,0,none⟩ (.bool a3)).heap[k]?=g.heap[k]?:=fun k hk=>aP _ _ _ _ hk;refine⟨a1,bb,a2,bd,b,d,rfl,q1,fun k ax bg=>?_,?_,(W _ aa).trans q3,?_,?_,S.trans ((Fr.refl (fun k=>k=m) g).set _ 0 _ rfl) (fun i c=>aK aa),fun k h=>(u k h).imp id (fun h=>by omega),ab,ad,ag⟩
 ·refine(W k ?_).trans (N.block k (o.lt q1 k ax) bg)
  rcases u k ax with h|h
  ·have:=o.lt ar.o k h;omega
  ·omega
 ·have:=N.size;simpa[World.setCell] using this
 ·exact ec (cy l (fun k e=>W k (by have:=(cg l k e).1;omega))) (fun k e=>by have:=(cg l k e).1;omega)
 ·exact ec (cy n (fun k e=>W k (by have:=(cg n k e).1;omega))) (fun k e=>by have:=(cg n k e).1;omega)
def de {B:Type}(o:dS B)(p:Nat)(vr:Value):fG (B×List b9) where
 J F s w:=∃b c d,o.J b s.1 w/\w.heap[p]?=some (.cells #[vr,.slice c s.2.length d] 153 (0,0))/\w.ownsRow 0 103 2 (.slice c s.2.length d) s.2.length (ev s.2)/\(∀k,b k->F k)/\F p/\¬b p/\(∀k,some k=(Value.slice c s.2.length d).ownBlock->F k/\¬b k)/\(∀k,F k->k<w.heap.size)
 lt:=by rintro F t w ⟨b,c,d,x,i,j,l,m,u,v,n⟩ k hk;exact n k hk
 keep:=by rintro F t w w' ⟨b,c,d,x,i,j,l,m,u,v,n⟩ hs hk;exact⟨b,c,d,o.keep x hs (fun k h=>hk k (l k h)),(hk p m).trans i,cy j (fun k e=>hk k (v k e).1),l,m,u,v,fun k h=>aO (n k h) hs⟩
 p:=p
 vr:=vr
 wt s:=s.2
 put s q:=(s.1,q)
 side:=by
  rintro F s w ⟨b,c,d,x,i,j,l,m,u,v,n⟩
  refine⟨c,d,i,⟨gn j,?_,?_⟩,m,fun hp z e=>(v z.block (by rw[e];rfl)).1⟩
  ·rcases j.2 with⟨f,h0⟩|⟨g,W,ab,f,_,_,hc,_⟩
   ·omega
   ·simp at f;omega
  ·intro ad;rcases j.2 with⟨f,h0⟩|⟨g,W,ab,f,_⟩
   ·simp at f;exact⟨h0,f.2.2⟩
   ·rw[ad] at f;simp at f
 set:=by
  rintro F s w ⟨b,c,d,x,i,j,l,m,u,v,n⟩ w1 q b1 gq hb N;have lp:=lt_of_some i;have ai:=cg N b1 rfl;have S:∀k,k≠p->(w1.setCell ⟨p,1,none⟩ (.slice (some ⟨b1,0,none⟩) q.length gq)).heap[k]?=w1.heap[k]?:=fun k hk=>aP _ _ _ _ hk;have hs:(w1.setCell ⟨p,1,none⟩ (.slice (some ⟨b1,0,none⟩) q.length gq)).heap.size=w1.heap.size:=by simp[World.setCell]
  have al:=hb.size;refine⟨b,an b1,gq,o.keep (o.below x hb) (by rw[hs];exact aD _) (fun k h=>S k (fun e=>u (by rw[<-e];exact h))),?_,ec (cy N (fun k e=>S k (by simp[Value.ownBlock] at e;omega))) (fun _ _=>aX _),fun k h=>aL (l k h),aL m,u,fun k e=>?_,fun k h=>?_⟩
  ·have ag:=(hb.block p lp).trans i;simp only [World.setCell,Array.getElem?_modify,if_true,ag,Option.map_some];simp
  ·simp[Value.ownBlock] at e;exact⟨aK e,fun h=>by have:=n k (l k h);omega⟩
  ·rw[hs];rcases h with h|h
   ·have:=n k h;omega
   ·omega
 p7:=fun _ _=>rfl
theorem ta {b:Type}(o:dS b)(p:Nat)(vr:Value)(D:Int->Prop)(c fk d:fL)(is:b->Int->Bool)(kp:b->Int->Int×b)(nw:b->Int->Int)(ea:d7 c.f)(fg:d7 fk.f)(en:d7 d.f)(ha:kn o D c.f c.b c.c is)(hk:oI o D fk.f fk.b fk.c kp)(ht:lK o D d.f d.b d.c nw):
 lN (de o p vr) D c fk d (fun s x=>is s.1 x) (fun s x=>((kp s.1 x).1,((kp s.1 x).2,s.2))) (fun s x=>nw s.1 x) where
 ea:=ea
 fg:=fg
 en:=en
 ha:=by
  rintro F s w x hD ⟨f,j,l,g,_⟩
  exact ha f s.1 w x hD g
 hk:=by
  rintro F s w x hD _ ⟨f,j,l,g,t,m,u,S,v,n,W⟩
  refine(hk f s.1 w x hD g).mono ?_;rintro r w' ⟨B,rfl,N,i,q⟩
  have lp:=lt_of_some t;refine⟨fun k=>F k\/B k,rfl,⟨B,j,l,N,(i.block p lp v).trans t,cy m (fun k e=>i.block k (cg m k e).2 (n k e).2),fun k h=>aK h,aL S,fun h=>(q p h).elim v (fun h=>by omega),fun k e=>⟨aL (n k e).1,fun h=>(q k h).elim (n k e).2 (fun h=>by have:=(cg m k e).2;omega)⟩,fun k h=>?_⟩,i.mono u,fun k h=>?_⟩
  ·rcases h with h|h
   ·exact aO (W k h) i.size
   ·exact o.lt N k h
  ·rcases h with h|h
   ·exact aL h
   ·exact(q k h).imp (u k) id
 ht:=by
  rintro F s w x hD ⟨f,j,l,g,_⟩
  exact ht f s.1 w x hD g
 hl:=fun _ _=>rfl
section
variable {c:Cp}{own own':Nat->Nat}{vt kY:Value}{n1 n2 n1' kZ:Nat}{hm hm':Int->Option Addr×Nat}{st:gj}{w w':aw}{is:List Bool}{bx:Nat}{g:List Bool->List Bool}
end
theorem EM (w:aw)(p:Nat)(a0 a1:Option Addr)(k0 k1:Nat)(r q:List b9)(h:gu w p a0 k0 a1 k1 r q)(h0:r.length<=90000)(W:q.length<=90000):
 Calls prog 139 #[am p] w fun e w'=>∃g i c0 b1 c1,e=.returned (am g)/\w.heap.size<=g/\gu w' g i c0 b1 c1 r q/\(∀z,i=some z->w.heap.size<=z.block)/\(∀z,b1=some z->w.heap.size<=z.block)/\(∀k,some k=(Value.slice i r.length c0).ownBlock->some k≠(Value.slice b1 q.length c1).ownBlock)/\Below w.heap.size w w':=by
 obtain⟨c0,c1,n,o,lp⟩:=h.cells;have s:=hide (nF h.r0)
 have t:=hide (nF h.q0)
 clear h n o;go_enter func139,ntmps139;go_wp2_with fail;have hd:=(au w).drew
 go_region_held3 (fun w'=>w'.cell? (ao p 0)=some (.slice a0 r.length k0)/\w'.cell? (ao p 1)=some (.slice a1 q.length k1)) (first|exact⟨c0,c1⟩|exact⟨u0,l⟩|exact⟨v0,v1⟩|go_keep)
  (first
    |(have ab:=b;go_at_call 212;refine(rP _ a1 q k1 (t.o.below b) aa).mono ?_;rintro e u ⟨v,x,rfl,j,d⟩;have m:=d.size;have v0:=(d.cell (p:=ao p 0) (aO lp c)).trans u0;have v1:=(d.cell (p:=ao p 1) (aO lp c)).trans l)
    |(go_at_call 212;refine(rP _ a0 r k0 (s.o.below hd) aa).mono ?_;rintro e w3 ⟨B,F,rfl,f,N⟩;have b:=hd.trans N;have c:=b.size;have u0:=(b.cell (p:=ao p 0) lp).trans c0;have l:=(b.cell (p:=ao p 1) lp).trans c1))
 go_wp2_with fail;go_ret;refine⟨u.heap.size,B,F,v,x,rfl,aS c m,⟨aN _ _,ec (gb (cy f (fun k e=>d.block k (cg f k e).2)) _) (fun _ _=>aX _),ec (gb j _) (fun _ _=>aX _)⟩,fun z e=>(cg f z.block (by rw[e];rfl)).1,fun z e=>aS c (cg j z.block (by rw[e];rfl)).1,fun k e S=>?_,(b.trans (d.mono c)).alloc (aS c m) _⟩
 have q1:=(cg f k e).2;have ad:=(cg j k S).1;omega
section
variable {c:Cp}{bx p:Nat}{vr:Value}{g:List Bool->List Bool}{A:List Bool}{q r:List b9}
end
section
variable {c:Cp}{own own':Nat->Nat}{vt kY:Value}{n1 n2 n1' kZ:Nat}{hm hm':Int->Option Addr×Nat}{st:gj}{w w':aw}{is:List Bool}{g:List Bool->List Bool}
end
section
variable {T:List cH}{A:List Bool}{fm:Fm}
end
section
variable {ik:Nat}{ca b8:Int}{l:iN}{s:cn}{w w':aw}{A:List Bool}{ab p n1:Nat}{a1 a2:Option Addr}{k1 k2:Nat}{r q:List b9}
end
section
variable {ik:Nat}{ca b8:Int}{l:iN}{F:Nat->Prop}{s:cn}{w:aw}{g:List Bool->List Bool}
end
section
variable {ik rb:Nat}{ca b8:Int}{l:iN}{F:Nat->Prop}{s:cn}{w:aw}{g:List Bool->List Bool}
end
section
variable {ik:Nat}{ca b8:Int}{l:iN}{F:Nat->Prop}{s:cn}{w w':aw}
end
section
variable {ik:Nat}{ca b8:Int}{l:iN}{s:cn}{w:aw}
end
section
variable {w0 w:aw}{kb cr ik n:Nat}{T:List cH}{kd:Int->Int}{sh:Int->List Int}{M:cP->Int->cP}{s:cP}{vn:Value}{m:List du}
end
section
variable {w0 w w' w'':aw}{kb cr ik n:Nat}{s:cP}{vn:Value}{m:List du}
end
section
variable {w0:aw}{kb cr ik:Nat}{ca b8:Int}{l:iN}{S:cn}
end
section
variable {ik:Nat}{ca b8:Int}{l:iN}{S:cn}{w:aw}
end
theorem EN (T:List cH)(wt:List b9)(l:List _):gL (tI T.length) (fM T) (fN T wt) ([],[]) (eX.fi T wt l).2 (eX.fi T wt l).1:=
 m6 (jb _) (eU.start _) (by rw[jS];simp) _
theorem EO {T:List cH}{wt:List b9}(hw:nH T wt)(l:List _):(eX.fi T wt l).1.length=l.length/\(eX.fi T wt l).2.2.length<=10000/\∀nd∈(eX.fi T wt l).2.2,nd.2.length<=20000:=by
 have b:=EN T wt l;refine⟨?_,?_,fun nd c=>?_⟩
 ·unfold eX.fi;rw[kc,aU]
 ·rw[b.ok.len];refine aS b.ok.le ?_;rw[jS];exact hw.l1
 ·obtain⟨i,hi,e⟩:=List.mem_iff_getElem.1 c;obtain⟨d,q1,_,q3,_⟩:=b.nw i (aX _) (by rw[<-b.ok.len];exact hi)
  rw[aI hi,e] at q1;have q1:nd=d:=by simpa using q1
  rw[q1,q3];unfold fN;have f:=hw.tl ((eX.fi T wt l).2.1.getD i 0).toNat;have g:=hw.l2;rw[aZ,aU];split
  ·rw[aU];have:=bk (fun e:b9=>e.1==(eX.fi T wt l).2.1.getD i 0) wt;omega
  ·rw[List.length_nil];omega
section
variable {rp rb j:Nat}{ca b8:Int}{F:Nat->Prop}{s:cn}{w:aw}
theorem EP (h:(cq rp rb ca b8).J F s w)(hi:dG s j)(g:j<=10000):
 Calls prog 26 #[am rp] w fun e w'=>∃b k c d nc,e=.returned (.agg #[.slice b 12 k,.slice c d nc])/\nf w' w.heap.size b (eX.fi s.T s.wt s.rs).1/\lv w' w.heap.size c (eX.fi s.T s.wt s.rs).2.2/\d=(eX.fi s.T s.wt s.rs).2.2.length/\Below w.heap.size w w':=by
 obtain⟨c1,_,_,_,l,_,f,m⟩:=e8 h;have hl:c8 w (an rb) s.rs:=fun _=>⟨rb,0,rfl,l,fun i hi=>by obtain⟨n,o,_⟩:=m i aa;rw[Nat.zero_add];exact⟨n,o⟩⟩
 have P:=eX.EE (ss h) (by rw[f];exact c1) hl aa (hi.xH g) hi.rv;rw[f] at P;exact P
end
open Go.RowKit W
def d9 (L:Int->Int)(hi:Int):Int->List Int->Prop
 |a,[]=>a=hi
 |a,x::l=>x=a/\pc (L a)=0/\a+(1+pf (L a))<=hi/\d9 L hi (a+(1+pf (L a))) l
section
variable {L L':Int->Int}{hi:Int}
theorem d9.done:d9 L hi hi []:=rfl
theorem d9.step {a:Int}{l:List Int}(h0:pc (L a)=0)(b:a+(1+pf (L a))<=hi)(ht:d9 L hi (a+(1+pf (L a))) l):d9 L hi a (a::l):=⟨rfl,h0,b,ht⟩
theorem d9.mem {a:Int}{l:List Int}(h:d9 L hi a l):∀x∈l,a<=x/\x+(1+pf (L x))<=hi/\pc (L x)=0:=by
 induction l generalizing a with
 |nil=>intro x b;simp at b
 |cons z l c=>
  obtain⟨rfl,h0,d,ht⟩:=h;intro x b;rcases List.mem_cons.1 b with rfl|b
  ·exact⟨Int.le_refl _,d,h0⟩
  ·have:=dp (L z)
   have e:=c ht x b;exact⟨aa,e.2⟩
theorem d9.apart {a:Int}{l:List Int}(h:d9 L hi a l):∀x∈l,∀z∈l,x<z->x+(1+pf (L x))<=z:=by
 induction l generalizing a with
 |nil=>intro x b;simp at b
 |cons y l e=>
  obtain⟨rfl,h0,i,ht⟩:=h;intro x b z hz f;rcases List.mem_cons.1 b with ex|d
  ·rcases List.mem_cons.1 hz with g|c
   ·omega
   ·rw[ex];exact(ht.mem z c).1
  ·rcases List.mem_cons.1 hz with g|c
   ·have j:=(ht.mem x d).1;have k:=dp (L y)
    omega
   ·exact e ht x d z c f
theorem d9.heads {a:Int}{l:List Int}(h:d9 L hi a l)(he:∀x∈l,L' x=L x):d9 L' hi a l:=by
 induction l generalizing a with
 |nil=>exact h
 |cons z l b=>
  obtain⟨rfl,h0,c,ht⟩:=h;have e:=he z ac;refine .step (by rw[e];exact h0) (by rw[e];exact c) ?_;rw[e];exact b ht (fun x d=>he x (by simp[d]))
theorem d9.snoc {a:Int}{l:List Int}(h:d9 L hi a l)(he:∀x∈l,L' x=L x){b:Int}(h0:pc (L' hi)=0)(c:b=hi+(1+pf (L' hi))):d9 L' b a (l++[hi]):=by
 have hp:=dp (L' hi)
 induction l generalizing a with
 |nil=>
  have e:=h;subst e;refine .step h0 aa ?_;rw[<-c];exact .done
 |cons z l d=>
  obtain⟨rfl,f,i,ht⟩:=h;have e:=he z ac;refine .step (by rw[e];exact f) (by rw[e];omega) ?_;rw[e];exact d ht (fun x g=>he x (by simp[g]))
theorem d9.field {a:Int}{l:List Int}(h:d9 L hi a l){v i:Int}(b:v∈l)(c:0<=i)(d:i<pf (L v)):v+1+i∉l:=by intro hm;have:=h.apart v b _ hm aa;omega
theorem d9.eH {N y g:Nat}{ws:List Int}{hi a:Int}{l:List Int}(h:d9 (ld N y g ws) hi a l):∀k:Nat,hi-a<=k->eH N y g ws hi k a=l:=by
 induction l generalizing a with
 |nil=>
  have e:a=hi:=h;subst e;intro k _;exact vG k (Int.le_refl _)
 |cons z l b=>
  obtain⟨rfl,h0,c,ht⟩:=h;intro k hk;have hp:=dp (ld N y g ws z)
  match k,hk with
  |0,hk=>omega
  |k+1,hk=>
   unfold Proofs.YtpkjkjhanlbcoaaGreat.eH;rw[aJ aa,aJ h0,b ht k aa]
end
structure d_ (N y g:Nat)(ws:List Int)(Y G:List Int):Prop where
 ty:d9 (ld N y g ws) y 0 Y
 ej:d9 (ld N y g ws) ((N:Int)+g) N G
theorem d_.lists {N O y g:Nat}{ws:List Int}{Y G:List Int}(h:d_ N y g ws Y G)(hN:N<=256)(hy:y<=N)(hO:O<=1024)(hg:g<=O):dW N y g ws=Y/\dB N y g ws=G:=
 ⟨h.ty.eH 2000 aa,h.ej.eH 2000 aa⟩
theorem d_.start {N:Nat}{ws:List Int}:d_ N 0 0 ws [] []:=⟨.done,by simpa using d9.done (L:=ld N 0 0 ws) (hi:=(N:Int))⟩
theorem d_.stands {N y g:Nat}{ws:List Int}{Y G:List Int}(h:d_ N y g ws Y G)(hy:y<=N){v:Int}(b:v∈Y\/v∈G):ii N y g v (pf (ld N y g ws v))=pf (ld N y g ws v):=by
 have hp:=dp (ld N y g ws v)
 refine Int.min_eq_left ?_;rcases b with b|b
 ·have c:=h.ty.mem v b;have e:hB N g v=false:=by rw[Bool.eq_false_iff];intro d;have:=jc d;omega
  rw[e,aH ac];omega
 ·have c:=h.ej.mem v b;have e:hB N g v=true:=by exact bq ⟨c.1,aa⟩
  rw[e,aJ rfl];omega
open Go.ChangeShapes Go.WideShapes Go.ChangeAt Go.RowKit Go.Joins Go.Deep W
namespace oV
theorem qp (ws:List Int)(t f n i:Nat)(b:t+n<=ws.length)(d:f+n<=ws.length):
 (splice ws t ((ws.drop f).take n)).getD i 0=if t<=i/\i<t+n then ws.getD (f+i-t) 0 else ws.getD i 0:=by
 have hl:((ws.drop f).take n).length=n:=by simp;omega
 unfold splice;rw[hl];simp only [List.getD_eq_getElem?_getD];exact xU
theorem copied {N O y g:Nat}{ws:List Int}{a:Nat}(hl:ws.length=N+O)(hy:y<=N)(hi:dm N y g a=true)(n:Nat)(d:1+(n:Int)<=gg N y g a-a)(f:1+(n:Int)<=(O:Int)-g)(j:Nat)(i:j<=n):
 ld N y (g+(1+n)) (splice ws (N+g) ((ws.drop a).take (1+n))) ((N:Int)+g+j)=ws.getD (a+j) 0/\ld N y (g+(1+n)) (splice ws (N+g) ((ws.drop a).take (1+n))) ((a:Int)+j)=ws.getD (a+j) 0:=by
 have he:gg N y g a<=(N:Int)+g:=by unfold gg;split<;>omega
 constructor
 ·have b:hB N ((g+(1+n):Nat):Int) ((N:Int)+g+j)=true:=by simp[hB];omega
  have hi:dm N y (g+(1+n)) ((N:Int)+g+j)=true:=by unfold dm;rw[b];simp
  unfold ld;rw[aJ hi,show((N:Int)+g+j).toNat=N+g+j by omega,qp _ _ _ _ _ aa aa,aJ aa,show a+(N+g+j)-(N+g)=a+j by omega]
 ·have e:dm N y (g+(1+n)) ((a:Int)+j)=true:=by
   unfold gg at d;split at d
   ·rename_i c;have c:=jc c;have b:hB 0 y ((a:Int)+j)=true:=by simp[hB];omega
    unfold dm;rw[b];rfl
   ·rename_i c;have c1:hB N g a=true:=by unfold dm at hi;simp only [Bool.not_eq_true] at c;rw[c] at hi;simpa using hi
    have c2:=jc c1;have b:hB N ((g+(1+n):Nat):Int) ((a:Int)+j)=true:=by simp[hB];omega
    unfold dm;rw[b];simp
  unfold ld;rw[aJ e,show((a:Int)+j).toNat=a+j by omega,qp _ _ _ _ _ aa aa,aH aa]
end oV
open Go.RowKit W oV
theorem ee {N y g:Nat}{ws:List Int}{a:Int}(h:dm N y g a=true):ld N y g ws a=ws.getD a.toNat 0:=by unfold ld;rw[aJ h]
theorem il {N y g:Nat}{a:Int}(h0:0<=a)(b:a<y):dm N y g a=true:=by unfold dm hB;rw[bq (⟨h0,aa⟩:(0:Int)<=a/\a<0+(y:Int))];rfl
theorem hK {N y g:Nat}{a:Int}(h0:(N:Int)<=a)(b:a<(N:Int)+g):dm N y g a=true:=by unfold dm hB;rw[bq (⟨h0,b⟩:(N:Int)<=a/\a<(N:Int)+g),Bool.or_true]
section
variable {N O y g:Nat}{ws:List Int}{Y G:List Int}
theorem d_.im (h:d_ N y g ws Y G):∀x∈Y,0<=x/\x<y:=fun x b=>by
 have c:=h.ty.mem x b;have d:=dp (ld N y g ws x)
 omega
theorem d_.io (h:d_ N y g ws Y G):∀x∈G,(N:Int)<=x/\x<(N:Int)+g:=fun x b=>by
 have c:=h.ej.mem x b;have d:=dp (ld N y g ws x)
 omega
theorem d_.make (h:d_ N y g ws Y G)(hl:ws.length=N+O){k f:Int}(hm:hC N y k f=true):d_ N (iC N y k f) g (eR N y k f ws) (Y++[(y:Int)]) G:=by
 obtain⟨c,j⟩:=oq hm;have l:=iH k f c;have e:iC N y k f=y+1+f.toNat:=by unfold iC;rw[aJ hm]
 have i:eR N y k f ws=fp ws y (hw k f) f.toNat:=by unfold eR;rw[aJ hm]
 rw[e,i];have hlt:y+f.toNat<ws.length:=aa;have d:ld N (y+1+f.toNat) g (fp ws y (hw k f) f.toNat) y=hw k f:=vZ _ _ hlt;have hp:=pI k f c;refine⟨h.ty.snoc (fun x b=>?_) (by rw[d];exact hp.2.2) (by rw[d,hp.2.1];omega),h.ej.heads (fun x b=>?_)⟩
 ·have hi:=h.im x b;exact s9
 ·have hi:=h.io x b;exact qo
theorem d_.copy (h:d_ N y g ws Y G)(hl:ws.length=N+O)(hy:y<=N)(hg:g<=O){a:Int}(hm:ih N O y g ws a=true)(ha:a∈Y\/a∈G):d_ N y (js N O y g ws a) (ju N O y g ws a) Y (G++[((N+g:Nat):Int)])/\ld N y (js N O y g ws a) (ju N O y g ws a) ((N+g:Nat):Int)=ld N y g ws a:=by
 obtain⟨f,p,q⟩:=ot hm;have hp:=dp (ld N y g ws a)
 have j:js N O y g ws a=g+(1+(pf (ld N y g ws a)).toNat):=by unfold js;rw[aJ hm]
 have k:ju N O y g ws a=splice ws (N+g) ((ws.drop a.toNat).take (1+(pf (ld N y g ws a)).toNat)):=by unfold ju;rw[aJ hm]
 have l:0<=a/\a+(1+pf (ld N y g ws a))<=(N:Int)+g/\dm N y g a=true:=by
  rcases ha with ha|ha
  ·have m:=h.ty.mem a ha;have b:=h.im a ha;exact⟨b.1,aa,il b.1 b.2⟩
  ·have m:=h.ej.mem a ha;have b:=h.io a ha;exact⟨aa,aa,hK b.1 b.2⟩
 rw[j,k];obtain⟨n,o⟩:∃n,n=(pf (ld N y g ws a)).toNat:=⟨_,rfl⟩
 rw[<-o];have c:∀i:Nat,_=_:=fun i=>qp ws (N+g) a.toNat (1+n) i aa aa;have d:ld N y (g+(1+n)) (splice ws (N+g) ((ws.drop a.toNat).take (1+n))) ((N+g:Nat):Int)=ld N y g ws a:=by rw[ee (hK aa aa),Int.toNat_natCast,c,aJ aa,Nat.add_sub_cancel,ee l.2.2]
 refine⟨⟨h.ty.heads (fun x e=>?_),?_⟩,d⟩
 ·have hi:=h.im x e;rw[ee (il hi.1 hi.2),ee (il hi.1 hi.2),c,aH aa]
 ·have ht:=h.ej;rw[show(N:Int)+g=((N+g:Nat):Int) by omega] at ht;refine ht.snoc (fun x e=>?_) (by rw[d];exact f) (by rw[d];omega)
  have hi:=h.io x e;rw[ee (hK hi.1 aa),ee (hK hi.1 hi.2),c,aH aa]
theorem d_.set (h:d_ N y g ws Y G)(hl:ws.length=N+O)(hy:y<=N)(hg:g<=O){v i z:Int}(c:v∈Y\/v∈G)(j:0<=i)(k:i<pf (ld N y g ws v)):d_ N y g (ws.set (v+1+i).toNat z) Y G/\∀x,(x∈Y\/x∈G)->ld N y g (ws.set (v+1+i).toNat z) x=ld N y g ws x:=by
 have hb:0<=v/\v+1+i<(N:Int)+g:=by
  rcases c with c|c
  ·have f:=h.ty.mem v c;have d:=h.im v c;omega
  ·have f:=h.ej.mem v c;have d:=h.io v c;omega
 have key:∀x,(x∈Y\/x∈G)->ld N y g (ws.set (v+1+i).toNat z) x=ld N y g ws x:=fun x b=>by
  have l:x≠v+1+i:=by
   intro e;rcases c with c|c<;>rcases b with b|b
   ·exact h.ty.field c j k (by rw[<-e];exact b)
   ·have f:=h.ty.mem v c;have d:=h.io x b;omega
   ·have f:=h.io v c;have d:=h.im x b;omega
   ·exact h.ej.field c j k (by rw[<-e];exact b)
  have hi:dm N y g x=true/\0<=x:=by
   rcases b with b|b
   ·have d:=h.im x b;exact⟨il d.1 d.2,d.1⟩
   ·have d:=h.io x b;exact⟨hK d.1 d.2,aa⟩
  rw[ee hi.1,ee hi.1,kQ _ _ _ _ aa,aH aa]
 exact⟨⟨h.ty.heads (fun x b=>key x (aL b)),h.ej.heads (fun x b=>key x (aK b))⟩,key⟩
end
structure qq {σ:Type}(o:fG σ):Prop where
 xY:∀{F s w},o.J F s w->∀{w1:aw}{q:List b9}{a1:Option Addr}{c1:Nat},Below w.heap.size w w1->w1.ownsRow w.heap.size 103 2 (.slice a1 q.length c1) q.length (ev q)->
  o.J (fun k=>F k\/some k=(Value.slice a1 q.length c1).ownBlock) (o.put s q) (w1.setCell ⟨o.p,1,none⟩ (.slice a1 q.length c1))
 xZ:∀{F s w},o.J F s w->∀{ad:Option Addr}{cap:Nat},w.heap[o.p]?=some (.cells #[o.vr,.slice ad (o.wt s).length cap] 153 (0,0))->∀i,i<(o.wt s).length->∀g z:Int,∃b f,ad=some ⟨b,f,none⟩/\F b/\b≠o.p/\w.frozen? (ao b (f+i*2))=false/\w.frozen? (ao b (f+i*2+1))=false/\
  o.J F (o.put s ((o.wt s).set i (g,z))) ((w.setCell ⟨b,f+i*2,none⟩ (.int .i64 g)).setCell ⟨b,f+i*2+1,none⟩ (.int .i64 z))
def k3 {b:Type}(o:fG b)(is:b->Int->Bool)(kp:b->Int->Int×b)(t:b×Bool)(i:Nat):b×Bool:=
 if is t.1 ((o.wt t.1).getD i (0,0)).2||!is t.1 ((o.wt t.1).getD i (0,0)).1 then t
 else(o.put (kp t.1 ((o.wt t.1).getD i (0,0)).2).2 ((o.wt (kp t.1 ((o.wt t.1).getD i (0,0)).2).2).set i (((o.wt t.1).getD i (0,0)).1,(kp t.1 ((o.wt t.1).getD i (0,0)).2).1)),true)
def fA {b:Type}(o:fG b)(is:b->Int->Bool)(kp:b->Int->Int×b)(s:b)(n:Nat):b×Bool:=(List.range n).foldl (k3 o is kp) (o.put s (o.wt s),false)
theorem EQ {b:Type}(o:fG b)(is:b->Int->Bool)(kp:b->Int->Int×b)(s:b):fA o is kp s 0=(o.put s (o.wt s),false):=rfl
theorem x4 {b:Type}(o:fG b)(is:b->Int->Bool)(kp:b->Int->Int×b)(s:b)(n:Nat):fA o is kp s (n+1)=k3 o is kp (fA o is kp s n) n:=by simp[fA,List.range_succ]
theorem ER {b:Type}(o:fG b)(is:b->Int->Bool)(kp:b->Int->Int×b)(hl:∀s x,(o.wt (kp s x).2).length=(o.wt s).length)(t:b×Bool)(i:Nat):(o.wt (k3 o is kp t i).1).length=(o.wt t.1).length:=by
 unfold k3;split
 ·rfl
 ·simp[o.p7,hl]
theorem x5 {b:Type}(o:fG b)(is:b->Int->Bool)(kp:b->Int->Int×b)(hl:∀s x,(o.wt (kp s x).2).length=(o.wt s).length)(s:b):∀n,(o.wt (fA o is kp s n).1).length=(o.wt s).length
 |0=>by rw[EQ];simp[o.p7]
 |n+1=>by rw[x4,ER o is kp hl,x5 o is kp hl s n]
theorem x6 {b:Type}{o:fG b}{is:b->Int->Bool}{kp:b->Int->Int×b}{t:b×Bool}{i:Nat}{g z:Int}(hg:((o.wt t.1).getD i (0,0)).1=g)(hz:((o.wt t.1).getD i (0,0)).2=z)(h:is t.1 z=true\/is t.1 g=false):k3 o is kp t i=t:=by unfold k3;rw[hg,hz];rcases h with h|h<;>simp[h]
theorem ES {b:Type}{o:fG b}{is:b->Int->Bool}{kp:b->Int->Int×b}{t:b×Bool}{i:Nat}{g z:Int}(hg:((o.wt t.1).getD i (0,0)).1=g)(hz:((o.wt t.1).getD i (0,0)).2=z)(c:is t.1 z=false)(d:is t.1 g=true):k3 o is kp t i=(o.put (kp t.1 z).2 ((o.wt (kp t.1 z).2).set i (g,(kp t.1 z).1)),true):=by unfold k3;rw[hg,hz];simp[c,d]
def lP (n:Nat):Code->Option Code
 |.region m o d=>match m==n with
  |true=>some (.region m o d)
  |false=>none
 |.seq a b=>match lP n a with
  |some c=>some c
  |none=>lP n b
 |.cond _ a b=>match lP n a with
  |some c=>some c
  |none=>lP n b
 |.block _ c=>lP n c
 |.loop c=>lP n c
 |.scope c=>lP n c
 |_=>none
theorem ET {s1 s2 f s4 s5 s6 b6 b7 b8 ca cb cc cd g i j k m n o q s t u v x B F N S W ab ad ag ai al ap ar ax aB aF aR aT aV a0 a2 a3 bb bd be bg bi bl bn bo bp:Value}{Q:Exit->Act->aw->Prop}{bs p b:Nat}{c:Option Addr}{l:List b9}{w:aw}(hl:l.length<=100000)(h:iz w c l b)(c0:w.cell? (ao bs 0)=some (am p))(c1:w.cell? (ao p 1)=some (.slice c l.length b))(ce:w.frozen? (ao p 1)=false)
 (b5:∀(br bt bx b0 b1 b2 b3 b4:Value)(a1:Option Addr)(k1:Nat)(w1:aw),w1.ownsRow w.heap.size 103 2 (.slice a1 l.length k1) l.length (ev l)->Below w.heap.size w w1->Q .normal ⟨#[am bs,s1,s2,f,s4,s5,br,bt,bx,b0,b1,b2,b3,b4,g,i,j,k,m,n,o,q,s,t,u,v,x,B,F,N,S,W,ab,ad,ag,ai,al,ap,ar,ax,aB,aF,aR,aT,aV,a0,a2,a3,bb,bd,be,bg,bi,bl,bn,bo,bp],[]⟩ (w1.setCell ⟨p,1,none⟩ (.slice a1 l.length k1))):
 Code.wp prog ((Tryz.f217.body.bind (lP 1)).getD .skip) Q ⟨#[am bs,s1,s2,f,s4,s5,s6,b6,b7,b8,ca,cb,cc,cd,g,i,j,k,m,n,o,q,s,t,u,v,x,B,F,N,S,W,ab,ad,ag,ai,al,ap,ar,ax,aB,aF,aR,aT,aV,a0,a2,a3,bb,bd,be,bg,bi,bl,bn,bo,bp],[]⟩ w:=by
 conv=>arg 2;whnf
 refine wp_region_noPanic ?_;have cf:ay (∀(br bt bx b0 b1 b2 b3 b4:Value)(a1:Option Addr)(k1:Nat)(w1:aw),w1.ownsRow w.heap.size 103 2 (.slice a1 l.length k1) l.length (ev l)->Below w.heap.size w w1->Q .normal ⟨#[am bs,s1,s2,f,s4,s5,br,bt,bx,b0,b1,b2,b3,b4,g,i,j,k,m,n,o,q,s,t,u,v,x,B,F,N,S,W,ab,ad,ag,ai,al,ap,ar,ax,aB,aF,aR,aT,aV,a0,a2,a3,bb,bd,be,bg,bi,bl,bn,bo,bp],[]⟩ (w1.setCell ⟨p,1,none⟩ (.slice a1 l.length k1))):=b5;have cg:ay (iz w c l b):=h;have l2:=aM w _ c0;have lp:=aM w _ c1;dsimp only at l2 lp;clear b5 h
 go_region_with (go_at_call 212;refine(rP _ c l b (cg.o.below (bZ.drew)) hl).mono ?_;rintro e w1 ⟨a1,k1,rfl,ch,d⟩;have ci:=(d.cell (p:=ao bs 0) l2).trans c0;have cj:=(d.cell (p:=ao p 1) lp).trans c1;have ck:=(d.frozen (p:=ao p 1) lp).trans ce)
 all_goals exact NoPanic.normal (cf.o _ _ _ _ _ _ _ _ a1 k1 w1 ch ((aE _ w).drew.trans d))
theorem EU {n:Type}(o:fG n)(ce:qq o)(D:Int->Prop)(f fk bd:fL)(is:n->Int->Bool)(kp:n->Int->Int×n)(nw:n->Int->Int)(u:lN o D f fk bd is kp nw)(F:Nat->Prop)(s:n)(w:aw)(cN:(o.wt s).length<=90000)
 (hD:∀j,j<(o.wt s).length->D ((o.wt (fA o is kp s j).1).getD j (0,0)).1/\D ((o.wt (fA o is kp s j).1).getD j (0,0)).2)(bl bs:Nat)(m:o.J F s w)(be:w.heap[bl]?=some (.cells #[f.v,fk.v,bd.v] 145 (0,0)))(aB:w.heap[bs]?=some (.cells #[am o.p] 52 (0,0)))(cf:¬F bl)(ch:¬F bs):
 Calls prog 217 #[am bs,am bl] w fun r w'=>∃ci,r=.returned (.bool (fA o is kp s (o.wt s).length).2)/\o.J ci (fA o is kp s (o.wt s).length).1 w'/\Fr F w w'/\∀k,ci k->F k\/w.heap.size<=k:=by
 have cj:ay (qq o):=ce;have ck:ay (kn o.todS D f.f f.b f.c is):=u.ha;have cO:ay (mA o D fk.f fk.b fk.c kp):=u.hk;have cl:ay (∀s x,(o.wt (kp s x).2).length=(o.wt s).length):=u.hl;have cP:ay (∀j,j<(o.wt s).length->D ((o.wt (fA o is kp s j).1).getD j (0,0)).1/\D ((o.wt (fA o is kp s j).1).getD j (0,0)).2):=hD;have cQ:ay (o.J F s w):=m;have cR:ay (w.heap[bl]?=some (.cells #[f.v,fk.v,bd.v] 145 (0,0))):=be;have cS:ay (w.heap[bs]?=some (.cells #[am o.p] 52 (0,0))):=aB;have dh:∀(args:Array Value)(w:aw),(callFunc f.f args).run prog w=.ok (.enter f.f args) w:=u.ea;have di:∀(args:Array Value)(w:aw),(callFunc fk.f args).run prog w=.ok (.enter fk.f args) w:=u.fg;have c0:w.cell? (ao bs 0)=some (am o.p):=aA aB
 have l1:bl<w.heap.size:=lt_of_some be;have l2:bs<w.heap.size:=lt_of_some aB;obtain⟨aF,aR,hp,al,bg,bi⟩:=o.side m;have c1:w.cell? (ao o.p 1)=some (.slice aF (o.wt s).length aR):=aA hp
 have cT:w.frozen? (ao o.p 1)=false:=aC hp
 have lp:o.p<w.heap.size:=lt_of_some hp;have cU:ay (iz w aF (o.wt s) aR):=al;clear u ce hD m be aB hp al bi;go_enter func217,ntmps217
 go_upto_region 1 with fail
 refine ET aa cU.o c0 c1 cT ?_;intro dj dk dl dm dn dp dq dr a1 k1 w1 bn aT;have cV:=aT.size;have cm:=cj.o.xY cQ.o aT bn;have cn:Fr F w (w1.setCell ⟨o.p,1,none⟩ (.slice a1 (o.wt s).length k1)):=(Fr.of (X:=F) aT).trans ((Fr.refl (fun k=>k=o.p) w1).set o.p 1 _ rfl) (fun i c=>aL (by rw[c];exact bg))
 have co:∀k,F k\/some k=(Value.slice a1 (o.wt s).length k1).ownBlock->F k\/w.heap.size<=k:=fun k h=>h.imp id (fun e=>(cg bn k e).1)
 clear bn;go_wp2_with fail
 go_loopw [3,4] (fun cW iv wr=>∃(j:Nat)(b:n)(b1:Bool)(l:Nat->Prop),j<=(o.wt s).length/\iv=ak j/\cW=.bool b1/\ay (fA o is kp s j=(b,b1))/\o.J l b wr/\Fr F w wr/\ay (∀k,l k->F k\/w.heap.size<=k)) (fun _ iv _=>(o.wt s).length-(intOf iv).toNat)
 case atStart=>exact⟨0,_,false,_,aX _,rfl,rfl,rfl,cm,cn,co⟩
 case round=>
  clear cm cn co cV aT;obtain⟨j,b,b1,l,ds,rfl,rfl,ap,m,v,q⟩:=hrel;have cp:(o.wt b).length=(o.wt s).length:=by have cq:=x5 o is kp cl.o s j;rw[ap.o] at cq;exact cq
  obtain⟨aF,aR,hp,al,bg,bi⟩:=o.side m;have dt:=v.size;have n1:¬l bl:=fun h=>(q.o bl h).elim cf (fun h=>by omega)
  have cr:¬l bs:=fun h=>(q.o bs h).elim ch (fun h=>by omega)
  have bo:=(v.block bl l1 cf).trans cR.o;have bp:=(v.block bs l2 ch).trans cS.o;have cX:wr.cell? (ao bs 0)=some (am o.p):=aA bp
  have cY:wr.cell? (ao o.p 1)=some (.slice aF (o.wt s).length aR):=by simp[World.cell?,hp,cp]
  by_cases br:j<(o.wt s).length
  ·obtain⟨du,dv,cZ,dw,hc⟩:=al.lp aa;obtain⟨cs,ct⟩:=hc j aa;obtain⟨aV,ar⟩:=cP.o j br;rw[ap.o] at aV ar;have bt:ay (fA o is kp s (j+1)=k3 o is kp (b,b1) j):=by show _=_;rw[x4,ap.o]
   obtain⟨g,hg⟩:∃g,((o.wt b).getD j (0,0)).1=g:=⟨_,rfl⟩
   obtain⟨z,hz⟩:∃z,((o.wt b).getD j (0,0)).2=z:=⟨_,rfl⟩
   rw[hg] at cs;rw[hz] at ct;have aV:D g:=by rw[<-hg];exact aV
   have ar:D z:=by rw[<-hz];exact ar
   have bx:ay (((o.wt b).getD j (0,0)).1=g):=hg;have b0:ay (((o.wt b).getD j (0,0)).2=z):=hz;subst cZ;have B:ay (o.J l b wr):=m;have b2:ay (Fr F w wr):=v;have c2:ay (wr.heap[bs]?=some (.cells #[am o.p] 52 (0,0))):=bp;have cu:wr.cell? (ao bl 0)=some (.func (.func f.f) f.b f.c):=aA bo
   have m1:wr.cell? (ao bl 1)=some (.func (.func fk.f) fk.b fk.c):=aA bo
   have b3:=aq wr (.cells #[.int .i64 g,.int .i64 z] 103)
   have cv:bl<wr.heap.size:=aa;have c3:bs<wr.heap.size:=aa;have dx:o.p<wr.heap.size:=lt_of_some hp;have j0:(0:Int)<=(j:Int):=aa;have dy:(j:Int)<((o.wt s).length:Int):=aa;clear hc hg hz m v bo bp hp al bg bi ap;go_wp2_with fail;refine(ck.o l b _ z ar (o.below B.o b3)).mono ?_;rintro r N ⟨rfl,S⟩
   have a0:wr.heap.size<N.heap.size:=by have:=S.size;simp at this;omega
   have W:Below wr.heap.size wr N:=b3.trans (S.mono ac)
   have cw:N.cell? (ao wr.heap.size 0)=some (ak g):=(S.cell ac).trans ac;have y1:N.cell? (ao wr.heap.size 1)=some (ak z):=(S.cell ac).trans ac;have cx:N.frozen? (ao wr.heap.size 1)=false:=(S.frozen ac).trans ac;have c4:N.cell? (ao bl 0)=some (.func (.func f.f) f.b f.c):=(W.cell cv).trans cu;cases hz1:is b z
   ·go_wp2_with fail;refine(ck.o l b _ g aV (o.below B.o W)).mono ?_;rintro r w3 ⟨rfl,ab⟩
    have cy:wr.heap.size<w3.heap.size:=by have:=ab.size;omega
    have t:Below wr.heap.size wr w3:=W.trans (ab.mono aa)
    have z0:=(ab.cell (p:=ao wr.heap.size 0) a0).trans cw;have cz:=(ab.cell (p:=ao wr.heap.size 1) a0).trans y1;have cA:=(ab.frozen (p:=ao wr.heap.size 1) a0).trans cx;have c5:w3.cell? (ao bl 1)=some (.func (.func fk.f) fk.b fk.c):=(t.cell cv).trans m1;clear cw y1 cx c4 ab S W cs ct cX cY;cases hg1:is b g
    ·have b4:ay (fA o is kp s (j+1)=(b,b1)):=bt.o.trans (x6 bx.o b0.o (aK hg1))
     go_wp2_with fail;go_roundw
     case rel=>exact⟨j+1,b,b1,l,aa,aj,rfl,b4,o.below B.o t,b2.o.trans (Fr.of (X:=F) t) (fun _ c=>aL c),q⟩
     case measure=>simp[intOf];omega
    ·have b7:ay (fA o is kp s (j+1)=(o.put (kp b z).2 ((o.wt (kp b z).2).set j (g,(kp b z).1)),true)):=bt.o.trans (ES bx.o b0.o hz1 hg1)
     have ad:ay ((o.wt (kp b z).2).length=(o.wt s).length):=(cl.o b z).trans cp;go_wp2_with fail;refine(cO.o l b _ z ar (by rw[ad.o];exact cN) (o.below B.o t)).mono ?_;rintro r d ⟨ag,rfl,b8,ax,a2⟩
     generalize (kp b z).1=y at b7⊢;generalize (kp b z).2=s2 at b7 ad b8;have b9:¬l wr.heap.size:=fun h=>by have:=o.lt B.o _ h;omega
     have ca:¬ag wr.heap.size:=fun h=>(a2 _ h).elim b9 (fun h=>by omega)
     have cB:¬ag bs:=fun h=>(a2 _ h).elim cr (fun h=>by omega)
     have c6:=ax.size;have a3:=ax.block _ cy b9;have cC:=((ax.block bs aa cr).trans (t.block bs c3)).trans c2.o;have v0:d.cell? (ao wr.heap.size 0)=some (ak g):=(aW (a:=⟨wr.heap.size,0,none⟩) a3).trans z0;have v1:d.cell? (ao wr.heap.size 1)=some (ak z):=(aW (a:=⟨wr.heap.size,1,none⟩) a3).trans cz;have c7:d.frozen? (ao wr.heap.size 1)=false:=(World.frozen?_of_block (a:=⟨wr.heap.size,1,none⟩) a3).trans cA;have cb:∀k:Nat,k≠wr.heap.size->(d.setCell ⟨wr.heap.size,1,none⟩ (.int .i64 y)).heap[k]?=d.heap[k]?:=fun k hk=>aP _ _ _ _ hk;have cD:(d.setCell ⟨wr.heap.size,1,none⟩ (.int .i64 y)).heap.size=d.heap.size:=by simp[World.setCell]
     have cc:o.J ag s2 (d.setCell ⟨wr.heap.size,1,none⟩ (.int .i64 y)):=o.keep b8 (by rw[cD];exact aD _) (fun k hk=>cb k (fun e=>ca (by rw[<-e];exact hk)))
     have t0:(d.setCell ⟨wr.heap.size,1,none⟩ (.int .i64 y)).cell? (ao wr.heap.size 0)=some (ak g):=(a5 d ⟨wr.heap.size,1,none⟩ ⟨wr.heap.size,0,none⟩ (ak y) ac).trans v0;have dz:(d.setCell ⟨wr.heap.size,1,none⟩ (.int .i64 y)).cell? (ao wr.heap.size 1)=some (ak y):=a8 _ _ _ v1;have t3:(d.setCell ⟨wr.heap.size,1,none⟩ (.int .i64 y)).cell? (ao bs 0)=some (am o.p):=(aW (a:=⟨bs,0,none⟩) (cb bs aa)).trans (by simp[World.cell?,cC])
     have cE:Fr F w (d.setCell ⟨wr.heap.size,1,none⟩ (.int .i64 y)):=((b2.o.trans (Fr.of (X:=F) t) (fun _ c=>aL c)).trans ax (fun i c=>q.o i c)).trans ((Fr.refl (fun k=>k=wr.heap.size) d).set _ 1 _ rfl) (fun i c=>aK aa)
     have cF:ay (∀k,ag k->F k\/w.heap.size<=k):=fun k h=>(a2 k h).elim (q.o k) (fun h=>aK aa)
     obtain⟨dA,cG,cd,cH,c8,c9⟩:=o.side cc;obtain⟨b5,ai,cI,bb,dB,dC,dD,cJ⟩:=cj.o.xZ cc cd j (by rw[ad.o];exact br) g y;obtain⟨b6,dE,cK,da,cL⟩:=cH.lp (by rw[ad.o];omega)
     obtain⟨db,dc⟩:=cL j (by rw[ad.o];exact br)
     rw[cI] at cK;cases cK;subst cI;have dF:(d.setCell ⟨wr.heap.size,1,none⟩ (.int .i64 y)).cell? (ao o.p 1)=some (.slice (some ⟨b5,ai,none⟩) (o.wt s).length cG):=by simp[World.cell?,cd,ad.o]
     have dG:b5≠wr.heap.size:=fun e=>ca (by rw[<-e];exact bb)
     have dH:b5≠bs:=fun e=>cB (by rw[<-e];exact bb)
     have dd:ay (ag b5):=bb;generalize ((o.wt s2).getD j (0,0)).1=dI at db;generalize ((o.wt s2).getD j (0,0)).2=dJ at dc;clear z0 cz cA c5 a2 b8 ax a3 cC cb cc cd cH c8 c9 cL t b3 a0 cy c6 ca cB cD da b9 bb cu m1;go_wp2_with fail;generalize d.setCell ⟨wr.heap.size,1,none⟩ (.int .i64 y)=cM at*;clear v0 v1 c7
     go_region_held3 (fun w'=>w'.cell? (ao bs 0)=some (am o.p)/\w'.cell? (ao o.p 1)=some (.slice (some ⟨b5,ai,none⟩) (o.wt s).length cG)/\w'.cell? (ao wr.heap.size 0)=some (ak g)/\w'.cell? (ao wr.heap.size 1)=some (ak y)) (go_keep) (fail)
     have de:=(cE.trans (((Fr.refl (fun k=>k=b5) cM).set b5 (ai+j*2) (ak g) rfl).set b5 (ai+j*2+1) (ak y) rfl) (fun i c=>by rw[c];exact cF.o _ dd.o)).drew;have df:=o.keep (w':=((cM.setCell ⟨b5,ai+j*2,none⟩ (.int .i64 g)).setCell ⟨b5,ai+j*2+1,none⟩ (.int .i64 y)).drew) cJ bY (fun _ _=>rfl)
     clear cE cJ;go_wp2_with fail;go_roundw
     case rel=>exact⟨j+1,o.put s2 ((o.wt s2).set j (g,y)),true,ag,aa,aj,rfl,b7,df,de,cF⟩
     case measure=>simp[intOf];omega
   ·have b4:ay (fA o is kp s (j+1)=(b,b1)):=bt.o.trans (x6 bx.o b0.o (aL hz1))
    go_wp2_with fail;go_roundw
    case rel=>exact⟨j+1,b,b1,l,aa,aj,rfl,b4,o.below B.o W,b2.o.trans (Fr.of (X:=F) W) (fun _ c=>aL c),q⟩
    case measure=>simp[intOf];omega
  ·obtain rfl:j=(o.wt s).length:=aa;have dg:=ap.o;go_wp2_with fail;go_ret;rw[dg];exact⟨l,rfl,m,v,q.o⟩
theorem EV:d7 217:=gW func217 ah rfl
theorem x7 {g:Type}(o:fG g)(B:qq o)(D:Int->Prop)(fa fk fn:fL)(is:g->Int->Bool)(kp:g->Int->Int×g)(nw:g->Int->Int)(N:lN o D fa fk fn is kp nw)(u:Option Addr)(nr v:Nat)(S:o.vr=.slice u nr v)(F:Nat->Prop)(s:g)(w:aw)(ar:(o.wt s).length<=90000)
 (hD:∀j,j<(o.wt s).length->D ((o.wt (fA o is kp s j).1).getD j (0,0)).1/\D ((o.wt (fA o is kp s j).1).getD j (0,0)).2)(l:o.J F s w):
 Calls prog 145 #[am o.p,.agg #[fa.v,fk.v,fn.v]] w fun e w'=>∃b,e=.returned (.bool (fA o is kp s (o.wt s).length).2)/\o.J b (fA o is kp s (o.wt s).length).1 w'/\Fr F w w'/\∀k,b k->F k\/w.heap.size<=k:=by
 obtain⟨W,ab,hp,_,ax,_⟩:=o.side l;rw[S] at hp;have c0:w.cell? (ao o.p 0)=some (.slice u nr v):=aA hp
 have c1:w.cell? (ao o.p 1)=some (.slice W (o.wt s).length ab):=aA hp
 have lp:o.p<w.heap.size:=lt_of_some hp;have ad:ay (o.J F s w):=l;have aB:ay (∀w1,Below w.heap.size w w1->w1.heap[w.heap.size+1]?=some (.cells #[fa.v,fk.v,fn.v] 145 (0,0))->w1.heap[w.heap.size]?=some (.cells #[am o.p] 52 (0,0))->Calls prog 217 #[am w.heap.size,am (w.heap.size+1)] w1 fun r w'=>∃b,r=.returned (.bool (fA o is kp s (o.wt s).length).2)/\o.J b (fA o is kp s (o.wt s).length).1 w'/\Fr F w1 w'/\∀k,b k->F k\/w1.heap.size<=k):=by
  intro w1 hb aF aR;have q:∀k,w.heap.size<=k->¬F k:=fun k hk h=>by have:=o.lt l k h;omega
  exact EU o B D fa fk fn is kp nw N F s w1 ar hD _ _ (o.below l hb) aF aR (q _ aa) (q _ aa)
 clear N l hp S ax B hD;go_enter func145,ntmps145;go_wp2_with fail;have f:∃W4,W4=(w.alloc (.cells #[.pointer (some ⟨o.p,0,none⟩)] 52)).alloc (.cells #[fa.v,fk.v,fn.v] 145):=⟨_,rfl⟩
 obtain⟨W4,f⟩:=f;have sz:W4.heap.size=w.heap.size+2:=by rw[f];simp
 have t:Below w.heap.size w W4:=by rw[f];exact((aE _ w).alloc bY _).alloc ac _
 have g0:W4.heap[w.heap.size]?=some (.cells #[am o.p] 52 (0,0)):=by rw[f,a4 _ _ _ ac];exact aN _ _
 have g1:W4.heap[w.heap.size+1]?=some (.cells #[fa.v,fk.v,fn.v] 145 (0,0)):=by rw[f];exact xW
 rw[<-f];have P:=xX 217 #[] #[am w.heap.size,am (w.heap.size+1)] EV W4 o.p u W nr v (o.wt s).length ab ((t.cell (p:=ao o.p 0) lp).trans c0) ((t.cell (p:=ao o.p 1) lp).trans c1)
  (fun ag d=>∃b,ag=(fA o is kp s (o.wt s).length).2/\o.J b (fA o is kp s (o.wt s).length).1 d/\Fr F w d/\∀k,b k->F k\/w.heap.size+5<=k)
  (by
    intro w1 hw1;have s1:w1.heap.size=w.heap.size+5:=by rw[hw1];simp;omega
    have b1:Below W4.heap.size W4 w1:=by rw[hw1];exact(((aE _ W4).alloc bY _).alloc ac _).alloc (by simp;omega) _
    have hk:w1.heap[W4.heap.size+1]?=some (.cells #[.bool false] 4 (0,0)):=by exact xV
    have b2:Below w.heap.size w w1:=t.trans (b1.mono aa)
    refine(aB.o w1 b2 ((b1.block _ aa).trans g1) ((b1.block _ aa).trans g0)).mono ?_;rintro e d ⟨x,rfl,q1,n,q3⟩
    rw[s1] at q3;refine⟨_,rfl,⟨x,rfl,q1,(Fr.of (X:=F) b2).trans n (fun _ c=>aL c),q3⟩,(n.block _ aa (fun h=>?_)).trans hk⟩
    have:=o.lt ad.o _ h;omega)
 refine P.mono ?_;clear P;rintro e w3 ⟨ag,d,rfl,⟨x,rfl,q1,n,q3⟩,hk,rfl⟩
 obtain⟨m,hm⟩:∃m,m=W4.heap.size+1:=⟨_,rfl⟩
 rw[<-hm];have aT:ay (m=w.heap.size+3):=by show m=_;omega
 clear hm hk t g0 g1 sz f;have hm:=aT.o;have ai:∀k,k≠m->(d.setCell ⟨m,0,none⟩ (.bool (fA o is kp s (o.wt s).length).2)).heap[k]?=d.heap[k]?:=fun k hk=>aP _ _ _ _ hk;have al:=o.keep (w':=d.setCell ⟨m,0,none⟩ (.bool (fA o is kp s (o.wt s).length).2)) q1 (by simp[World.setCell]) (fun k hk=>ai k (fun e=>by
  rcases q3 k hk with h|h
  ·have:=o.lt ad.o k h;omega
  ·omega))
 have ap:=n.trans ((Fr.refl (fun k=>k=m) d).set m 0 (.bool (fA o is kp s (o.wt s).length).2) rfl) (fun i c=>aK aa)
 have aV:ay (∃b,o.J b (fA o is kp s (o.wt s).length).1 (d.setCell ⟨m,0,none⟩ (.bool (fA o is kp s (o.wt s).length).2))/\Fr F w (d.setCell ⟨m,0,none⟩ (.bool (fA o is kp s (o.wt s).length).2))/\∀k,b k->F k\/w.heap.size<=k):=⟨x,al,ap,fun k h=>(q3 k h).imp id (fun h=>by omega)⟩
 clear al ap ai q1 n q3 hm;go_wp2_with fail;go_ret;obtain⟨b,a0,a1,a2⟩:=aV.o;exact⟨b,rfl,a0,a1,a2⟩
structure cf where
 N:Nat
 O:Nat
 y:Nat
 T:List Int
structure ck where
 g:Nat
 ws:List Int
 f:Int->Int
 nx:Int
 wk:List Int
 ep:List Int
 rs:List Int
def cf.ld (k:cf)(s:ck)(a:Int):Int:=Proofs.YtpkjkjhanlbcoaaGreat.ld k.N k.y s.g s.ws a
def cf.cL (k:cf)(x:Int):Bool:=c7 x&&k.T.contains (cj x)
def cf.ls (k:cf)(s:ck)(x:Int):Bool:=k.cL x&&(s.f (cj x)==-1)
def cf.nw (k:cf)(s:ck)(x:Int):Int:=if(k.cL x&&!(s.f (cj x)==-1))=true then ew 3 (s.f (cj x)) else x
def gw (f:Int->Int)(a v:Int):Int->Int:=fun b=>if b=a then v else f b
def cf.cp (k:cf)(s:ck)(a:Int):ck:={s with g:=js k.N k.O k.y s.g s.ws a,ws:=ju k.N k.O k.y s.g s.ws a,f:=gw s.f a (mf k.N k.O k.y s.g s.ws a)}
def cf.br (k:cf)(s:ck)(x:Int):Int×ck:=if k.ls s x=true then(k.nw (k.cp s (cj x)) x,k.cp s (cj x)) else(k.nw s x,s)
def cf.st (k:cf)(s:ck)(a x:Int):ck:={s with ws:=if dm k.N k.y s.g a=true then s.ws.set a.toNat x else s.ws}
def cf.kf (k:cf)(s:ck)(a:Int):ck:=k.st (k.br s (k.ld s a)).2 a (k.br s (k.ld s a)).1
def cf.f9 (k:cf)(s:ck)(a:Int):Nat->ck
 |0=>s
 |n+1=>k.kf (k.f9 s a n) (a+1+n)
def cf.lk (k:cf)(s:ck)(a:Int):ck:=
 if pk (k.ld s a)=1\/pk (k.ld s a)=2 then k.f9 s a (pf (k.ld s a)).toNat
 else if pk (k.ld s a)=3 then k.kf {s with wk:=s.wk++[a]} (a+2)
 else if pk (k.ld s a)=4 then {s with ep:=s.ep++[a]} else s
def cf.lb (k:cf):Nat->ck->ck
 |0,s=>s
 |n+1,s=>if hB k.N s.g s.nx=true then k.lb n {k.lk s s.nx with nx:=s.nx+(1+pf (k.ld s s.nx))} else s
def cf.cS (k:cf)(t:List Int×ck)(a:Int):List Int×ck:=if k.ls t.2 (k.ld t.2 (a+1))=true then(t.1++[a],t.2) else(t.1,k.kf (k.kf t.2 (a+1)) (a+2))
def cf.dT (k:cf)(s:ck)(l:List Int):List Int×ck:=l.foldl k.cS ([],s)
def cf.kv (k:cf)(s:ck):Bool×ck:=(decide ((k.dT s s.ep).1.length<s.ep.length),{(k.dT s s.ep).2 with ep:=(k.dT s s.ep).1})
def dF {b:Type}(is:b->Int->Bool)(kp:b->Int->Int×b)(t:(b×List b9)×Bool)(i:Nat):(b×List b9)×Bool:=
 if is t.1.1 (t.1.2.getD i (0,0)).2||!is t.1.1 (t.1.2.getD i (0,0)).1 then t
 else(((kp t.1.1 (t.1.2.getD i (0,0)).2).2,t.1.2.set i ((t.1.2.getD i (0,0)).1,(kp t.1.1 (t.1.2.getD i (0,0)).2).1)),true)
def gH {b:Type}(is:b->Int->Bool)(kp:b->Int->Int×b)(s:b×List b9)(n:Nat):(b×List b9)×Bool:=(List.range n).foldl (dF is kp) (s,false)
def cf.al (k:cf)(s:ck)(x:Int):Bool:=!k.ls s x
def cf.wa (k:cf)(s:ck×List b9):(ck×List b9)×Bool:=gH k.al k.br s s.2.length
def cf.mu (k:cf)(s:ck):Nat:=(k.N+k.O+13-s.nx).toNat+s.ep.length+(k.O-s.g)
def cf.cY (k:cf):Nat->ck×List b9->ck×List b9
 |0,s=>s
 |n+1,s=>
  if(k.kv (k.lb (k.O+1) s.1)).1=true then k.cY n ((k.kv (k.lb (k.O+1) s.1)).2,s.2)
  else if(k.wa ((k.kv (k.lb (k.O+1) s.1)).2,s.2)).2=true then k.cY n (k.wa ((k.kv (k.lb (k.O+1) s.1)).2,s.2)).1
  else(k.wa ((k.kv (k.lb (k.O+1) s.1)).2,s.2)).1
def cf.sp (k:cf)(s:ck×List b9):ck×List b9:=k.cY (k.mu s.1+1) s
def cf.ke (k:cf)(s:ck×List b9)(x:Int):Int×(ck×List b9):=((k.br s.1 x).1,k.sp ((k.br s.1 x).2,s.2))
def cf.cK (k:cf)(s:ck):Nat->ck
 |0=>s
 |n+1=>{(k.br (k.cK s n) ((k.cK s n).rs.getD n 0)).2 with rs:=(k.br (k.cK s n) ((k.cK s n).rs.getD n 0)).2.rs.set n (k.br (k.cK s n) ((k.cK s n).rs.getD n 0)).1}
def cf.f_ (k:cf)(e c:Int)(M:List Int)(s:ck)(a:Int):ck:=if a+pf (k.ld s a)<e then(if(fU k.N c a&&M.contains (cN k.N a))=true then k.lk s a else s) else s
def cf.lm (k:cf)(c:Int)(M:List Int)(s:ck)(l:List Int):ck:=l.foldl (k.f_ s.nx c M) s
def cf.eL (k:cf)(s:ck)(a:Int):ck:=if k.ls s (k.ld s (a+1))=true then k.st s (a+1) 3 else k.st s (a+1) (k.nw s (k.ld s (a+1)))
def cf.mw (k:cf)(s:ck)(l:List Int):ck:=l.foldl k.eL s
def cf.gy (k:cf)(s:ck)(a:Int):ck:=k.st (k.st s (a+1) 3) (a+2) 3
def cf.be (k:cf)(s:ck)(l:List Int):ck:=l.foldl k.gy s
def cf.sz (k:cf)(s:ck):Nat:=((k.T.filter (fun a=>s.f a==-1)).map (fun a=>1+(pf (k.ld s a)).toNat)).sum
structure CI (k:cf)(s:ck):Prop where
 hN:16<=k.N
 hN':k.N<=256
 hO:k.O<=1024
 hy:k.y<=k.N
 hg:s.g<=k.O
 len:s.ws.length=k.N+k.O
 th:∀a∈k.T,0<=a/\pc (k.ld s a)=0/\a+1+pf (k.ld s a)<=k.y
 nd:k.T.Nodup
 room:k.sz s<=k.O-s.g
 g7:(k.N:Int)<=s.nx
 gG:s.nx<=(k.N:Int)+k.O+13
 ip:∀a∈s.wk,(k.N:Int)<=a/\a<=2000
 hL:∀a∈s.ep,(k.N:Int)<=a/\a<=2000
 tl:k.T.length<=2000
structure ez (k:cf)(s:ck):Prop where
 wk:s.wk.length+(k.N+k.O+13-s.nx).toNat<=4000
 ep:s.ep.length+(k.N+k.O+13-s.nx).toNat<=4000
open Go.RowKit W Kp ch oV
section
variable {k:cf}{s:ck}
theorem CI.te (h:CI k s){a:Int}(ha:a∈k.T):0<=a/\a<k.y/\dm k.N k.y s.g a=true:=by
 obtain⟨b,c,d⟩:=h.th a ha;have e:=dp (k.ld s a)
 grind [il]
theorem cf.nI (hl:s.ws.length=k.N+k.O)(hy:k.y<=k.N)(hg:s.g<=k.O)(a x b:Int):k.ld (k.st s a x) b=if b=a/\dm k.N k.y s.g a=true then x else k.ld s b:=by
 unfold cf.ld cf.st;by_cases ha:dm k.N k.y s.g a=true
 ·have hb:=jd ha hy hg;rw[aJ ha];by_cases e:b=a
  ·grind [ee]
  ·rw[aH aa];unfold Proofs.YtpkjkjhanlbcoaaGreat.ld;by_cases hi:dm k.N k.y s.g b=true
   ·have c:=jd hi hy hg
    grind
   grind
 grind
theorem cf.nJ {a:Int}(hc:ih k.N k.O k.y s.g s.ws a=true):k.cp s a={s with g:=s.g+(1+(pf (k.ld s a)).toNat),ws:=splice s.ws (k.N+s.g) ((s.ws.drop a.toNat).take (1+(pf (k.ld s a)).toNat)),f:=gw s.f a ((k.N+s.g:Nat):Int)}:=by
 unfold cf.cp js ju mf cf.ld
 grind
theorem tf {b:Type}(l m:List b)(t:Nat)(h:t+m.length<=l.length):(splice l t m).length=l.length:=by
 unfold splice
 grind
theorem nK (N y g:Nat)(a:Int):dm N y g a=true↔(0<=a/\a<y)\/((N:Int)<=a/\a<(N:Int)+g):=by simp[dm,hB]
theorem cf.ti (hl:s.ws.length=k.N+k.O)(hy:k.y<=k.N)(hg:s.g<=k.O){a:Int}(a0:0<=a)(a1:a+1+pf (k.ld s a)<=k.y)(hc:ih k.N k.O k.y s.g s.ws a=true)(b:Int):
 k.ld (k.cp s a) b=if(k.N:Int)+s.g<=b/\b<(k.N:Int)+s.g+(1+pf (k.ld s a)) then k.ld s (a+(b-(k.N+s.g))) else k.ld s b:=by
 obtain⟨g,j,c⟩:=ot hc;have hp:=dp (k.ld s a)
 have c:1+pf (k.ld s a)<=(k.O:Int)-s.g:=c;rw[cf.nJ hc];obtain⟨n,d⟩:∃n,n=(pf (k.ld s a)).toNat:=(by grind)
 rw[<-d];have e:∀i:Nat,_=_:=fun i=>qp s.ws (k.N+s.g) a.toNat (1+n) i aa aa;by_cases hb:(k.N:Int)+s.g<=b/\b<(k.N:Int)+s.g+(1+pf (k.ld s a))
 ·rw[aJ hb];have f:dm k.N k.y (s.g+(1+n)) b=true:=(by grind [nK])
  show Proofs.YtpkjkjhanlbcoaaGreat.ld k.N k.y _ _ b=Proofs.YtpkjkjhanlbcoaaGreat.ld k.N k.y s.g s.ws _;rw[ee f,ee (by grind [nK]),e,aJ aa]
  congr 1
  omega
 ·rw[aH hb];show Proofs.YtpkjkjhanlbcoaaGreat.ld k.N k.y _ _ b=Proofs.YtpkjkjhanlbcoaaGreat.ld k.N k.y s.g s.ws b
  grind [nK,YtpkjkjhanlbcoaaGreat.ld]
theorem x8 (T:List Int)(f:Int->Int)(a v:Int)(c:v≠-1):T.filter (fun b=>gw f a v b==-1)=(T.filter (fun b=>f b==-1)).filter (fun b=>!(b==a)):=by
 rw[List.filter_filter]
 congr 1
 funext b
 unfold gw;by_cases e:b=a
 ·simp[e,c]
 ·simp[e]
theorem oW (g:Int->Nat):∀(l:List Int)(a:Int),l.Nodup->a∈l->((l.filter (fun b=>!(b==a))).map g).sum+g a=(l.map g).sum
 |[],a,_,h=>by grind
 |b::l,a,c,h=>by
  rw[List.nodup_cons] at c;by_cases e:b=a
  ·grind [List.filter_eq_self]
  ·have hm:a∈l:=by grind
   have d:=oW g l a c.2 hm
   grind
theorem x9:∀l:List Int,(l.map (fun _=>1)).sum=l.length
 |[]=>rfl
 |_::l=>by simp[x9 l];omega
theorem EW (l:List Int)(a:Int)(c:l.Nodup)(h:a∈l):(l.filter (fun b=>!(b==a))).length+1=l.length:=by
 have:=oW (fun _=>1) l a c h
 grind [x9]
theorem CI.ih (h:CI k s){a:Int}(ha:a∈k.T)(d:s.f a=-1):ih k.N k.O k.y s.g s.ws a=true:=by
 obtain⟨f,b,g⟩:=h.th a ha;have i:=dp (k.ld s a)
 have hm:a∈k.T.filter (fun a=>s.f a==-1):=(by grind)
 have hs:=oW (fun a=>1+(pf (k.ld s a)).toNat) _ a (h.nd.filter _) hm;have c:=h.room;have hg:=h.hg;unfold cf.sz at c;have e:hB 0 (k.y:Int) a=true:=by simp[hB];omega
 unfold Proofs.YtpkjkjhanlbcoaaGreat.ih gg;rw[aJ e];refine bq ⟨b,?_,?_⟩
 ·show 1+pf (k.ld s a)<=(k.y:Int)-a;omega
 ·show 1+pf (k.ld s a)<=(k.O:Int)-s.g;omega
theorem CI.st (h:CI k s){a:Int}(ha:(k.N:Int)<=a)(x:Int):CI k (k.st s a x):=by
 have hl:∀b∈k.T,k.ld (k.st s a x) b=k.ld s b:=fun b hb=>by
  have:=h.te hb
  grind [hy,cf.nI,len,hg]
 refine⟨h.hN,h.hN',h.hO,h.hy,h.hg,?_,fun b hb=>(hl b hb▸h.th b hb),h.nd,?_,h.g7,h.gG,h.ip,h.hL,h.tl⟩
 ·grind [len,cf.st]
 ·have e:k.sz (k.st s a x)=k.sz s:=by
   unfold cf.sz
   congr 1
   refine List.map_congr_left (fun b hb=>?_)
   grind
  rw[e];exact h.room
theorem CI.cp (h:CI k s){a:Int}(ha:a∈k.T)(c:s.f a=-1):CI k (k.cp s a)/\s.g<(k.cp s a).g:=by
 have hc:=h.ih ha c;obtain⟨d,e,f⟩:=h.th a ha;have hm:a∈k.T.filter (fun a=>s.f a==-1):=(by grind)
 have hs:=oW (fun a=>1+(pf (k.ld s a)).toNat) _ a (h.nd.filter _) hm;have g:=h.room;have hg:=h.hg;have hl:∀b∈k.T,k.ld (k.cp s a) b=k.ld s b:=fun b hb=>by
  have:=h.te hb
  grind [hy,cf.ti,len]
 have i:k.T.filter (fun b=>(k.cp s a).f b==-1)=(k.T.filter (fun b=>s.f b==-1)).filter (fun b=>!(b==a)):=(cf.nJ hc▸x8 _ _ _ _ aa)
 have j:(k.cp s a).g=s.g+(1+(pf (k.ld s a)).toNat):=by rw[cf.nJ hc]
 have l:k.sz (k.cp s a)+(1+(pf (k.ld s a)).toNat)=k.sz s:=by grind [List.map_congr_left,cf.sz]
 refine⟨⟨h.hN,h.hN',h.hO,h.hy,aa,?_,fun b hb=>(hl b hb▸h.th b hb),h.nd,aa,h.g7,h.gG,h.ip,h.hL,h.tl⟩,?_⟩
 all_goals grind [cf.nJ,len,tf]
structure dZ (k:cf)(s t:ck):Prop where
 nx:t.nx=s.nx
 wk:t.wk=s.wk
 ep:t.ep=s.ep
 rs:t.rs=s.rs
 g:s.g<=t.g
theorem dZ.refl (k:cf)(s:ck):dZ k s s:=⟨rfl,rfl,rfl,rfl,aD _⟩
theorem dZ.trans {a b c:ck}(h:dZ k a b)(j:dZ k b c):dZ k a c:=⟨j.nx.trans h.nx,j.wk.trans h.wk,j.ep.trans h.ep,j.rs.trans h.rs,aS h.g j.g⟩
theorem cf.mL {x:Int}(h:k.ls s x=true):c7 x=true/\cj x∈k.T/\s.f (cj x)=-1:=by grind [ls,cL]
theorem CI.br (h:CI k s)(x:Int):CI k (k.br s x).2/\dZ k s (k.br s x).2/\(k.ls s x=true->s.g<(k.br s x).2.g):=by
 unfold cf.br;by_cases c:k.ls s x=true
 ·obtain⟨c1,c2,c3⟩:=cf.mL c;obtain⟨b,d⟩:=h.cp c2 c3;rw[aJ c];exact⟨b,⟨rfl,rfl,rfl,rfl,by grind⟩,fun _=>d⟩
 grind [dZ.refl]
theorem CI.kf (h:CI k s){a:Int}(ha:(k.N:Int)<=a):CI k (k.kf s a)/\dZ k s (k.kf s a):=by obtain⟨c,b,_⟩:=h.br _;exact⟨c.st ha _,⟨b.nx,b.wk,b.ep,b.rs,b.g⟩⟩
theorem CI.f9 (h:CI k s){a:Int}(ha:(k.N:Int)<=a):∀n,CI k (k.f9 s a n)/\dZ k s (k.f9 s a n)
 |0=>⟨h,dZ.refl _ _⟩
 |n+1=>by obtain⟨b,c⟩:=CI.f9 h ha n;obtain⟨d,e⟩:=b.kf (a:=a+1+n) aa;exact⟨d,c.trans e⟩
theorem CI.x_ (h:CI k s){a:Int}(ha:(k.N:Int)<=a)(c:a<=2000):CI k {s with wk:=s.wk++[a]}:=
 ⟨h.hN,h.hN',h.hO,h.hy,h.hg,h.len,h.th,h.nd,h.room,h.g7,h.gG,fun b hb=>by
  rcases List.mem_append.1 hb with hb|hb
  ·exact h.ip b hb
  grind,h.hL,h.tl⟩
theorem CI.EX (h:CI k s){a:Int}(ha:(k.N:Int)<=a)(c:a<=2000):CI k {s with ep:=s.ep++[a]}:=
 ⟨h.hN,h.hN',h.hO,h.hy,h.hg,h.len,h.th,h.nd,h.room,h.g7,h.gG,h.ip,fun b hb=>by
  rcases List.mem_append.1 hb with hb|hb
  ·exact h.hL b hb
  grind,h.tl⟩
structure Cl (k:cf)(s t:ck):Prop where
 nx:t.nx=s.nx
 wk:t.wk.length<=s.wk.length+1
 ep:t.ep.length<=s.ep.length+1
 rs:t.rs=s.rs
 g:s.g<=t.g
theorem Cl.of {t:ck}(h:dZ k s t):Cl k s t:=⟨h.nx,by grind [dZ.wk],by grind [dZ.ep],h.rs,h.g⟩
theorem CI.lk (h:CI k s){a:Int}(ha:(k.N:Int)<=a)(c:a<=2000):CI k (k.lk s a)/\Cl k s (k.lk s a):=by
 unfold cf.lk;split
 ·grind [f9,Cl.of]
 ·split
  ·obtain⟨d,b⟩:=(h.x_ ha c).kf (a:=a+2) aa;exact⟨d,⟨b.nx,by rw[b.wk];simp,by rw[b.ep];simp,b.rs,b.g⟩⟩
  ·split
   ·exact⟨h.EX ha c,⟨rfl,ac,ac,rfl,aD _⟩⟩
   grind [Cl.of,dZ.refl]
theorem CI.kC (h:CI k s)(d:hB k.N s.g s.nx=true):CI k {k.lk s s.nx with nx:=s.nx+(1+pf (k.ld s s.nx))}/\k.mu {k.lk s s.nx with nx:=s.nx+(1+pf (k.ld s s.nx))}<=k.mu s/\s.nx<(k.N:Int)+k.O:=by
 have hb:=jc d;have hg:=h.hg;have e:=dp (k.ld s s.nx)
 have n1:=h.hO;have f:=h.hN';obtain⟨b,c⟩:=h.lk h.g7 aa;refine⟨⟨b.hN,(by assumption),(by assumption),b.hy,b.hg,b.len,b.th,b.nd,b.room,?_,?_,b.ip,b.hL,b.tl⟩,?_,aa⟩
 ·grind
 ·grind
 ·have g:=c.g;have i:=c.ep
  grind [cf.mu]
theorem ez.kC (h:CI k s)(c:hB k.N s.g s.nx=true)(hb:ez k s):ez k {k.lk s s.nx with nx:=s.nx+(1+pf (k.ld s s.nx))}:=by
 have d:=jc c;have hg:=h.hg;have e:=dp (k.ld s s.nx)
 have n1:=h.hO;have f:=h.hN';obtain⟨g,b⟩:=h.lk h.g7 aa;have i:=hb.wk;have j:=hb.ep;have l:=b.wk;have m:=b.ep;constructor
 all_goals grind
theorem CI.lb (h:CI k s)(hb:ez k s):∀n,CI k (k.lb n s)/\ez k (k.lb n s)/\k.mu (k.lb n s)<=k.mu s:=by
 intro n
 induction n generalizing s with
 |zero=>exact⟨h,hb,aD _⟩
 |succ n b=>
  grind [kC,ez.kC,cf.lb]
theorem CI.cS {t:List Int×ck}(h:CI k t.2){a:Int}(ha:(k.N:Int)<=a):CI k (k.cS t a).2/\dZ k t.2 (k.cS t a).2/\(k.cS t a).1.length<=t.1.length+1/\∀b∈(k.cS t a).1,b∈t.1\/b=a:=by
 unfold cf.cS;split
 ·simp_all [dZ.refl]
 grind [kf,dZ.trans]
theorem CI.dT (h:CI k s):∀l:List Int,(∀a∈l,(k.N:Int)<=a)->CI k (k.dT s l).2/\dZ k s (k.dT s l).2/\(k.dT s l).1.length<=l.length/\∀b∈(k.dT s l).1,b∈l:=by
 have key:∀(l:List Int)(t:List Int×ck),CI k t.2->(∀a∈l,(k.N:Int)<=a)->CI k (l.foldl k.cS t).2/\dZ k t.2 (l.foldl k.cS t).2/\(l.foldl k.cS t).1.length<=t.1.length+l.length/\∀b∈(l.foldl k.cS t).1,b∈t.1\/b∈l:=by
  intro l
  induction l with
  |nil=>grind [dZ.refl]
  |cons a l f=>
   grind [cS,dZ.trans]
 intro l hl;obtain⟨c,d,g,e⟩:=key l ([],s) h hl;exact⟨c,d,by show(l.foldl k.cS ([],s)).1.length<=l.length;grind,fun b hb=>by simpa using e b hb⟩
theorem CI.kv (h:CI k s)(hb:ez k s):CI k (k.kv s).2/\ez k (k.kv s).2/\k.mu (k.kv s).2<=k.mu s/\((k.kv s).1=true->k.mu (k.kv s).2<k.mu s):=by
 obtain⟨b,c,f,d⟩:=h.dT s.ep (fun a ha=>(h.hL a ha).1)
 have e:=c.nx;have g:=c.g;have b2:=hb.ep;refine⟨⟨b.hN,b.hN',b.hO,b.hy,b.hg,b.len,b.th,b.nd,b.room,b.g7,b.gG,b.ip,fun a ha=>h.hL a (d a ha),b.tl⟩,⟨?_,?_⟩,?_,fun hk=>?_⟩
 ·show(k.dT s s.ep).2.wk.length+(k.N+k.O+13-(k.dT s s.ep).2.nx).toNat<=4000;rw[e,c.wk];exact hb.wk
 all_goals grind [cf.mu,cf.kv]
theorem dZ.mu {t:ck}(h:dZ k s t):k.mu t<=k.mu s:=by unfold cf.mu;rw[h.nx,h.ep];have:=h.g;omega
theorem dZ.cb {t:ck}(h:dZ k s t)(hb:ez k s):ez k t:=⟨by rw[h.wk,h.nx];exact hb.wk,by rw[h.ep,h.nx];exact hb.ep⟩
theorem CI.gH {s:ck×List b9}(h:CI k s.1):∀n,CI k (gH k.al k.br s n).1.1/\dZ k s.1 (gH k.al k.br s n).1.1/\(gH k.al k.br s n).1.2.length=s.2.length/\((gH k.al k.br s n).2=true->s.1.g<(gH k.al k.br s n).1.1.g)
 |0=>(by grind [dZ.refl,YtpkjkjhanlbcoaaGreat.gH])
 |n+1=>by
  obtain⟨d,b,f,g⟩:=CI.gH h n;have e:Proofs.YtpkjkjhanlbcoaaGreat.gH k.al k.br s (n+1)=dF k.al k.br (Proofs.YtpkjkjhanlbcoaaGreat.gH k.al k.br s n) n:=by simp[Proofs.YtpkjkjhanlbcoaaGreat.gH,List.range_succ]
  rw[e];generalize Proofs.YtpkjkjhanlbcoaaGreat.gH k.al k.br s n=t at d b f g⊢;unfold dF;split
  ·grind
  ·rename_i c;obtain⟨i,j,l⟩:=d.br (t.1.2.getD n (0,0)).2;have hl:k.ls t.1.1 (t.1.2.getD n (0,0)).2=true:=by grind [cf.al]
   refine⟨i,b.trans j,by grind,fun _=>?_⟩
   exact Nat.lt_of_le_of_lt b.g (by grind)
theorem CI.wa {s:ck×List b9}(h:CI k s.1)(hb:ez k s.1):CI k (k.wa s).1.1/\ez k (k.wa s).1.1/\(k.wa s).1.2.length=s.2.length/\k.mu (k.wa s).1.1<=k.mu s.1/\((k.wa s).2=true->k.mu (k.wa s).1.1<k.mu s.1):=by
 obtain⟨b,c,d,f⟩:=h.gH _;refine⟨b,c.cb hb,d,c.mu,fun e=>?_⟩
 have g:=f e;have i:=b.hg;show k.mu (Proofs.YtpkjkjhanlbcoaaGreat.gH k.al k.br s s.2.length).1.1<_
 grind [dZ.nx,dZ.ep,cf.mu]
theorem CI.cK (h:CI k s):∀n,CI k (k.cK s n)/\(k.cK s n).nx=s.nx/\(k.cK s n).wk=s.wk/\(k.cK s n).ep=s.ep/\s.g<=(k.cK s n).g/\(k.cK s n).rs.length=s.rs.length
 |0=>⟨h,rfl,rfl,rfl,aD _,rfl⟩
 |n+1=>by
  obtain⟨d,e,f,g,i,j⟩:=CI.cK h n;obtain⟨b,c,_⟩:=d.br _;refine⟨⟨b.hN,b.hN',b.hO,b.hy,b.hg,b.len,b.th,b.nd,b.room,b.g7,b.gG,b.ip,b.hL,b.tl⟩,c.nx.trans e,c.wk.trans f,c.ep.trans g,aS i c.g,?_⟩
  show((k.br _ _).2.rs.set n _).length=_
  grind [dZ.rs]
theorem CI.eL (h:CI k s){a:Int}(ha:(k.N:Int)<=a):CI k (k.eL s a)/\dZ k s (k.eL s a):=by
 unfold cf.eL;split
 ·exact⟨h.st aa _,⟨rfl,rfl,rfl,rfl,aD _⟩⟩
 ·exact⟨h.st aa _,⟨rfl,rfl,rfl,rfl,aD _⟩⟩
theorem CI.gy (h:CI k s){a:Int}(ha:(k.N:Int)<=a):CI k (k.gy s a)/\dZ k s (k.gy s a):=
 ⟨(h.st aa _).st aa _,⟨rfl,rfl,rfl,rfl,aD _⟩⟩
theorem CI.fold (f:ck->Int->ck)(b:∀s a,CI k s->(k.N:Int)<=a->CI k (f s a)/\dZ k s (f s a)):∀(l:List Int)(s:ck),CI k s->(∀a∈l,(k.N:Int)<=a)->CI k (l.foldl f s)/\dZ k s (l.foldl f s)
 |[],s,h,_=>⟨h,dZ.refl _ _⟩
 |a::l,s,h,hl=>by
  obtain⟨c,d⟩:=b s a h (hl a ac)
  obtain⟨e,g⟩:=CI.fold f b l (f s a) c (by grind)
  grind [dZ.trans]
theorem CI.mw (h:CI k s){l:List Int}(hl:∀a∈l,(k.N:Int)<=a):CI k (k.mw s l)/\dZ k s (k.mw s l):=CI.fold k.eL (by grind [eL]) l s h hl
theorem CI.be (h:CI k s){l:List Int}(hl:∀a∈l,(k.N:Int)<=a):CI k (k.be s l)/\dZ k s (k.be s l):=CI.fold k.gy (by grind [gy]) l s h hl
end
end Go.Proofs.YtpkjkjhanlbcoaaGreat
