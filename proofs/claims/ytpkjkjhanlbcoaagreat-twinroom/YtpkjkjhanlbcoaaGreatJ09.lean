import Derived.Test.YtpkjkjhanlbcoaaGreatJ08
import Derived.Deep.LoopGhost
namespace Go.Proofs.YtpkjkjhanlbcoaaGreat
set_option maxRecDepth 100000
set_option maxHeartbeats 4000000
open Tryz
open Go.RowKit W Kp cf
theorem ts {P:Prop}(h:P:=by
 go_wp2_with fail;refine P.mono ?_;rintro e w1 ⟨rfl,hb1⟩
 go_wp2_with fail;go_ret;exact⟨rfl,hb1⟩):P:=h
theorem tt {P:Prop}(h:P:=by rw[hW1,a5 _ _ _ _ Z];exact bf _ _ _ y0):P:=h
theorem tu {P:Prop}(h:P:=by rw[aE,aL V];exact a6 _):P:=h
theorem yd {P:Prop}(h:P:=by rw[hW1];exact bf _ _ _ ((a5 w1 ⟨fb,0,none⟩ ⟨fb,1,none⟩ _ Z).trans y1)):P:=h
abbrev dK (k R A B I n:Int):Value:=.agg #[ah k,ah R,ah A,ah B,ah I,ah n]
abbrev cz (k R A B I n:Int):Obj:=.cells #[ah k,ah R,ah A,ah B,ah I,ah n] 44 (0,0)
theorem eu {w:ax}{b:Nat}{k R A B I n:Int}(h:w.heap[b]?=some (cz k R A B I n)):w.cell? (aq b 0)=some (ah k)/\w.cell? (aq b 1)=some (ah R)/\w.cell? (aq b 2)=some (ah A)/\w.cell? (aq b 3)=some (ah B)/\w.cell? (aq b 4)=some (ah I)/\w.cell? (aq b 5)=some (ah n):=by refine⟨?_,?_,?_,?_,?_,?_⟩<;>simp[World.cell?,h]
theorem tx {k R A B n:Int}(h:dJ k R A B n=0):¬((decide (c8 k=1\/c8 k=3\/c8 k=7)&&!d3 R)||(decide (c8 k=3\/c8 k=6\/c8 k=7)&&!d3 A)||(decide (c8 k=6\/c8 k=7)&&!d3 B))=true:=fun c=>by unfold dJ at h;split at h<;>omega
theorem tz {r:Int}(h:d3 r=true):0<=r/\r<12:=by unfold d3 at h;simpa using h
theorem ye {k R A B n:Int}(h:dJ k R A B n=0)(b:c8 k=1\/c8 k=3\/c8 k=7):0<=R/\R<12:=by
 refine tz ?_;cases c:d3 R
 ·exact absurd (by rw[c,bh b];rfl) (tx h)
 ·rfl
theorem ly {k R A B n:Int}(h:dJ k R A B n=0)(b:c8 k=3\/c8 k=6\/c8 k=7):0<=A/\A<12:=by
 refine tz ?_;cases c:d3 A
 ·exact absurd (by rw[c,bh b];simp) (tx h)
 ·rfl
theorem l5 {k R A B n:Int}(h:dJ k R A B n=0)(b:c8 k=6\/c8 k=7):0<=B/\B<12:=by
 refine tz ?_;cases c:d3 B
 ·exact absurd (by rw[c,bh b];simp) (tx h)
 ·rfl
def cw (a:Wc)(hp:Nat):dr cq where
 J F S w:=∃c,(fM a).J c S w/\w.heap[hp]?=some (.cells #[aj a.pw] 49 (0,0))/\¬c hp/\∀b,F b↔(c b\/b=hp)
 lt:=by
  rintro F S w ⟨c,f,g,i,d⟩ b hb;rcases(d b).1 hb with e|e
  ·exact(fM a).lt f b e
  ·rw[e];exact lt_of_some g
 keep:=by rintro F S w w' ⟨c,f,g,i,d⟩ hs hk;exact⟨c,(fM a).keep f hs (fun b e=>hk b ((d b).2 (aK e))),(hk _ ((d _).2 (aJ rfl))).trans g,i,d⟩
section
variable {a:Wc}{hp:Nat}{F:Nat->Prop}{S:cq}{w:ax}
theorem kk (h:(cw a hp).J F S w):∃d,(fM a).J d S w/\(∀b,d b->F b)/\∀e s1 w',(fM a).J e s1 w'->b8 d w e w'->∃i,(cw a hp).J i s1 w'/\b8 F w i w':=by
 obtain⟨d,l,j,k,f⟩:=h;refine⟨d,l,fun b c=>(f b).2 (aK c),fun e s1 w' m g=>?_⟩
 have lp:=lt_of_some j;refine⟨fun b=>e b\/b=hp,⟨e,m,(g.fr.block _ lp k).trans j,fun c=>?_,fun b=>Iff.rfl⟩,⟨g.fr.mono (fun b c=>(f b).2 (aK c)),fun b c=>?_⟩⟩
 ·rcases g.sub _ c with c|c
  ·exact k c
  ·omega
 ·rcases c with c|c
  ·exact(g.sub b c).imp (fun c=>(f b).2 (aK c)) id
  ·exact aK ((f b).2 (aJ c))
structure E9 (a:Wc)(hp:Nat)(s:eb)(w:ax):Prop where
 h0:w.cell? (aq hp 0)=some (aj a.pw)
 c0:w.cell? (aq a.pw 0)=some (aj a.p)
 c3:w.cell? (aq a.pw 3)=some (.slice (ak a.nb) 12 12)
 rt:∀i,i<12->w.cell? (aq a.nb i)=some (ah (s.rs.getD i 0))/\w.frozen? (aq a.nb i)=false
 rl:s.rs.length=12
 lp:hp<w.heap.size
 lw:a.pw<w.heap.size
 ln:a.nb<w.heap.size
theorem eh (h:(cw a hp).J F S w):E9 a hp S.s w:=by
 have b:w.heap[hp]?=some (.cells #[aj a.pw] 49 (0,0)):=by obtain⟨c,_,b,_⟩:=h;exact b
 obtain⟨c,d,_⟩:=kk h;obtain⟨e,g1,_⟩:=m5 d;obtain⟨c0,_,_,c3,lw,rl,ln,rt⟩:=jN g1;exact⟨by simp[World.cell?,b],c0,c3,rt,rl,lt_of_some b,lw,ln⟩
theorem lz (h:(cw a hp).J F S w):At w a.p a.q a.N a.O S.s.y S.s.g S.s.ws/\∀w' y g ws,At w' a.p a.q a.N a.O y g ws->c_ a.p a.q w w'->∃b,(cw a hp).J b ⟨{S.s with y:=y,g:=g,ws:=ws},S.r,S.q⟩ w'/\b8 F w b w':=by
 obtain⟨k,c,_,d⟩:=kk h;obtain⟨l,g1,g2⟩:=m5 c;obtain⟨k1,e⟩:=kJ g1;refine⟨k1,fun w' y g ws ha f=>?_⟩
 obtain⟨m1,i⟩:=e w' y g ws ha f;obtain⟨m,n1,j⟩:=g2 _ _ _ m1 i;exact d _ _ _ n1 j
theorem E_ (h:(cw a hp).J F S w)(i:Nat)(x:Int):∃b,(cw a hp).J b ⟨{S.s with rs:=S.s.rs.set i x},S.r,S.q⟩ (w.setCell ⟨a.nb,i,none⟩ (.int .i64 x))/\b8 F w b (w.setCell ⟨a.nb,i,none⟩ (.int .i64 x)):=by obtain⟨g,c,_,d⟩:=kk h;obtain⟨j,g1,g2⟩:=m5 c;obtain⟨m1,e⟩:=xV g1 i x;obtain⟨k,n1,f⟩:=g2 _ _ _ m1 e;exact d _ _ _ n1 f
end
theorem Fa {a:Wc}{hp:Nat}{F:Nat->Prop}{S:cq}{w:ax}(h:(cw a hp).J F S w):a.nb≠hp/\a.nb≠a.pw:=by obtain⟨g,b,i,c,_⟩:=h;obtain⟨j,ar,k,⟨l,ad,cap,⟨own,cO,hM,hO⟩,m,n,d,_⟩,r0,r1,f⟩:=b;exact⟨fun e=>c (by rw[<-e];exact(f _).2 (aK (d _ ((hO _).2 (by rw[hM.r1];decide))))),fun e=>by have b:=hM.r1;rw[e,hM.w1] at b;omega⟩
theorem Fc (n o:Nat)(w:ax)(h0:16<=n)(t:n<=256)(E:o<=1024):
 Calls prog 18 #[ah n,ah o] w fun e w'=>∃a hp F,e=.returned (.tuple #[aj hp,.agg #[ah 0,ah 0]])/\(cw a hp).J F (g_ n o).1 w'/\(a.N=n/\a.O=o)/\(∀b,F b->w.heap.size<=b)/\Below w.heap.size w w':=by
 have u:=au w (.cells #[.int .i64 0,.int .i64 0] 28)
 have P:=yb n o (w.alloc (.cells #[.int .i64 0,.int .i64 0] 28)) h0 t E;have x:=aO w (.cells #[.int .i64 0,.int .i64 0] 28)
 have G:w.heap.size<(w.alloc (.cells #[.int .i64 0,.int .i64 0] 28)).heap.size:=Z;have A:=hide u;clear u;go_enter func18,ntmps18;go_wp2_with fail;generalize w.alloc (.cells #[.int .i64 0,.int .i64 0] 28)=w0 at*;generalize H:w.heap.size=fb at*;refine P.mono ?_;clear P;rintro e w1 ⟨pw,p,q,pc,cO,s,nb,rfl,B,hs,hr,hg,i⟩
 obtain⟨l,C,g1⟩:=EP (EO B hs hr i V) aa hr hs;have f:=(i.block fb G).trans x;have y0:w1.cell? (aq fb 0)=some (ah 0):=aA f
 have y1:w1.cell? (aq fb 1)=some (ah 0):=aA f
 have z0:w1.frozen? (aq fb 0)=false:=aC f
 have M:w1.frozen? (aq fb 1)=false:=aC f
 have I:=lt_of_some f;have g:ay (_/\(∀b,l b->fb<b)/\_):=⟨C,fun b c=>by obtain⟨N,g2,g3,g4,g5,O,Q⟩:=hg;rcases g1 b c with e|e|e|e|e|e|e<;>(rw[e];omega),A.o.trans (i.mono V)⟩
 clear B hs hr hg i C g1 x A f;go_wp2_with fail;obtain⟨d,hW1⟩:∃d,d=(w1.setCell ⟨fb,0,none⟩ (.int .i64 0)).setCell ⟨fb,1,none⟩ (.int .i64 0):=⟨_,rfl⟩
 rw[<-hW1];have v0:d.cell? (aq fb 0)=some (ah 0):=by exact tt
 have v1:d.cell? (aq fb 1)=some (ah 0):=by exact yd
 have m:Fr (fun k=>k=fb) w1 d:=by rw[hW1];exact((Fr.refl (fun k=>k=fb) w1).set fb 0 _ rfl).set fb 1 _ rfl
 have J:d.heap.size=w1.heap.size:=by rw[hW1];simp
 clear hW1;have j2:=(fM ⟨pw,p,q,pc,s,nb,n,o⟩).keep g.o.1 m.size (fun b c=>m.block b ((fM ⟨pw,p,q,pc,s,nb,n,o⟩).lt g.o.1 b c) (fun e=>by have t:=g.o.2.1 b c;have e:=e;omega))
 have j:=(au d (.cells #[.int .i64 0,.int .i64 0] 28)).alloc Z (.cells #[.pointer (some ⟨pw,0,none⟩)] 49)
 have D:=aO (d.alloc (.cells #[.int .i64 0,.int .i64 0] 28)) (.cells #[.pointer (some ⟨pw,0,none⟩)] 49)
 have K:(d.alloc (.cells #[.int .i64 0,.int .i64 0] 28)).heap.size=w1.heap.size+1:=by simp[J]
 rw[K] at D;have L:=g.o.2.2.trans (m.below (Nat.le_of_lt I) (fun k e=>Nat.le_of_eq (Eq.symm e)))
 refine a4 (v:=.tuple #[aj (w1.heap.size+1),.agg #[ah 0,ah 0]]) (by simp only [results,results18];simp[go_sem,((j.cell (p:=aq fb 0) (by show fb<_;omega)).trans v0),((j.cell (p:=aq fb 1) (by show fb<_;omega)).trans v1)]) rfl ⟨⟨pw,p,q,pc,s,nb,n,o⟩,w1.heap.size+1,fun b=>l b\/b=w1.heap.size+1,rfl,⟨l,((fM ⟨pw,p,q,pc,s,nb,n,o⟩).below j2 j),D,fun c=>?_,fun b=>Iff.rfl⟩,⟨rfl,rfl⟩,fun b c=>?_,by rw[H];exact L.trans (j.mono V)⟩
 ·have:=(fM ⟨pw,p,q,pc,s,nb,n,o⟩).lt j2 _ c;omega
 ·rcases c with c|c
  ·have:=g.o.2.1 b c;omega
  ·omega
section
variable {a:Wc}{hp:Nat}{F:Nat->Prop}{S:cq}{w:ax}
theorem Fe (R A B I n:Int)(w:ax)(hp:Nat):Calls prog 57 #[aj hp,dK 1 R A B I n] w fun e w'=>e=.returned (.tuple #[ah (ew 1 n),ah (vc 1 n)])/\Below w.heap.size w w':=by
 have b:=au w (cz 1 R A B I n)
 go_enter func57,ntmps57;go_wp2_with fail;refine(o8 n _).mono ?_;rintro e w1 ⟨rfl,hb⟩
 go_wp2_with fail;go_ret2;exact⟨rfl,b.trans (hb.mono b.size)⟩
end
section
variable {a:Wc}{hp:Nat}{F:Nat->Prop}{S:cq}{w:ax}
theorem Ff (h:(cw a hp).J F S w)(m:Int)(hm:m<=(a.N:Int)-S.s.y):
 Calls prog 193 #[aj hp,ah m] w fun e w'=>e=.returned (ah 0)/\Below w.heap.size w w':=by
 obtain⟨h0,c0,_⟩:=eh h;have P:=oQ w (lz h).1;go_enter func193,ntmps193;exact ts
def iC (rs:List Int)(y:Nat)(ws:List Int)(rl:List Nat):Nat->List Int
 |0=>ws
 |j+1=>(iC rs y ws rl j).set (y+1+j) (rs.getD (rl.getD j 0) 0)
end
theorem yf {w:ax}{base n m:Nat}{e:TypeId}{ad:Option Addr}{cap:Nat}{b:List Value}(h:w.ownsRow base e m (.slice ad n cap) n b):ad=none->n=0/\cap=0:=fun d=>by
 subst d;rcases h.2 with⟨hv,hn⟩|⟨g,c,f,hv,_⟩
 ·simp at hv;exact⟨hn,hv.2⟩
 ·simp at hv
structure b9 where
 a:Wc
 s:eb
 Y:List Int
 G:List Int
structure cu where
 f:Int->Int
 td:List Int
 ep:List Int
def b9.T (k:b9):List Int:=k.G++k.Y
def b9.ld (k:b9)(x:Int):Int:=Proofs.YtpkjkjhanlbcoaaGreat.ld k.a.N k.s.y k.s.g k.s.ws x
def b9.jt (k:b9)(x:Int):Bool:=cY x&&k.T.contains (cg x)
def b9.cS (k:b9)(s:cu)(x:Int):Bool:=k.jt x&&(s.f (cg x)==-1)
def b9.nw (k:b9)(s:cu)(x:Int):Int:=if(k.jt x&&!(s.f (cg x)==-1))=true then ew 3 (s.f (cg x)) else x
def b9.ma (k:b9)(s:cu)(x:Int):cu:=if k.cS s x=true then {s with f:=gA s.f (cg x) (cg x),td:=s.td++[cg x]} else s
def b9.e8 (k:b9)(s:cu)(a:Int):Nat->cu
 |0=>s
 |n+1=>k.ma (k.e8 s a n) (k.ld (a+1+n))
def b9.lk (k:b9)(s:cu)(a:Int):cu:=
 if pk (k.ld a)=1\/pk (k.ld a)=2 then k.e8 s a (pf (k.ld a)).toNat
 else if pk (k.ld a)=3 then k.ma s (k.ld (a+2))
 else if pk (k.ld a)=4 then {s with ep:=s.ep++[a]} else s
def b9.l1 (k:b9)(s:cu):cu:=k.lk {s with td:=s.td.take (s.td.length-1)} (s.td.getD (s.td.length-1) 0)
def b9.lm (k:b9):Nat->cu->cu
 |0,s=>s
 |n+1,s=>if 0<s.td.length then k.lm n (k.l1 s) else s
def b9.cP (k:b9)(t:List Int×cu)(a:Int):List Int×cu:=if k.cS t.2 (k.ld (a+1))=true then(t.1++[a],t.2) else(t.1,k.ma t.2 (k.ld (a+2)))
def b9.dv (k:b9)(s:cu)(l:List Int):List Int×cu:=l.foldl k.cP ([],s)
def b9.kv (k:b9)(s:cu):Bool×cu:=(decide ((k.dv s s.ep).1.length<s.ep.length),{(k.dv s s.ep).2 with ep:=(k.dv s s.ep).1})
def b9.al (k:b9)(s:cu)(x:Int):Bool:=!k.cS s x
def b9.lost (k:b9)(s:cu):Nat:=(k.T.filter (fun a=>s.f a==-1)).length
structure cV (k:b9)(s:cu):Prop where
 nd:k.T.Nodup
 ps:∀a∈k.T,0<=a/\a<=2000
 td:∀a∈s.td,a∈k.T
 ep:∀a∈s.ep,a∈k.T
 tl:k.T.length<=4000
 sum:k.lost s+s.td.length+s.ep.length<=k.T.length
section
variable {k:b9}{s:cu}
theorem b9.qA {x:Int}(h:k.cS s x=true):cY x=true/\cg x∈k.T/\s.f (cg x)=-1:=by unfold b9.cS b9.jt at h;simp only [Bool.and_eq_true] at h;exact⟨h.1.1,List.contains_iff_mem.1 h.1.2,by simpa using h.2⟩
theorem b9.yh (hn:k.T.Nodup){x:Int}(h:k.cS s x=true)(h0:∀a∈k.T,0<=a):k.lost (k.ma s x)+1=k.lost s:=by
 obtain⟨_,b,c⟩:=b9.qA h;have e:(k.ma s x).f=gA s.f (cg x) (cg x):=by unfold b9.ma;rw[aI h]
 have hp:=h0 _ b;unfold b9.lost;rw[e,xp _ _ _ _ V];exact DB _ _ (hn.filter _) (List.mem_filter.2 ⟨b,by rw[c];rfl⟩)
theorem cV.ma (h:cV k s)(x:Int):cV k (k.ma s x)/\k.lost (k.ma s x)+(k.ma s x).td.length=k.lost s+s.td.length/\(k.ma s x).ep=s.ep:=by
 by_cases c:k.cS s x=true
 ·have i:=b9.yh h.nd c (fun a ha=>(h.ps a ha).1)
  obtain⟨_,g,_⟩:=b9.qA c;have f:(k.ma s x).td=s.td++[cg x]:=by unfold b9.ma;rw[aI c]
  have d:(k.ma s x).ep=s.ep:=by unfold b9.ma;rw[aI c]
  have hs:=h.sum;have j:(k.ma s x).td.length=s.td.length+1:=by rw[f];simp
  refine⟨⟨h.nd,h.ps,fun a ha=>?_,by rw[d];exact h.ep,h.tl,by rw[d];omega⟩,V,d⟩
  rw[f] at ha;rcases List.mem_append.1 ha with b|b
  ·exact h.td a b
  ·rw[bw] at b;rw[b];exact g
 ·have e:k.ma s x=s:=by unfold b9.ma;rw[aG c]
  rw[e];exact⟨h,rfl,rfl⟩
theorem cV.e8 (h:cV k s)(a:Int):∀n,cV k (k.e8 s a n)/\k.lost (k.e8 s a n)+(k.e8 s a n).td.length=k.lost s+s.td.length/\(k.e8 s a n).ep=s.ep
 |0=>⟨h,rfl,rfl⟩
 |n+1=>by obtain⟨b,c,d⟩:=cV.e8 h a n;obtain⟨e,j2,cA⟩:=b.ma _;exact⟨e,j2.trans c,cA.trans d⟩
theorem cV.lk (h:cV k s){a:Int}(ha:a∈k.T)(hr:k.lost s+s.td.length+s.ep.length+1<=k.T.length):cV k (k.lk s a)/\k.lost (k.lk s a)+(k.lk s a).td.length=k.lost s+s.td.length/\(k.lk s a).ep.length<=s.ep.length+1:=by
 unfold b9.lk;split
 ·obtain⟨d,e,f⟩:=h.e8 a _;exact⟨d,e,by rw[f];omega⟩
 ·split
  ·obtain⟨d,e,f⟩:=h.ma _;exact⟨d,e,by rw[f];omega⟩
  ·split
   ·refine⟨⟨h.nd,h.ps,h.td,fun b hb=>?_,h.tl,?_⟩,rfl,Z⟩
    ·rcases List.mem_append.1 hb with c|c
     ·exact h.ep b c
     ·rw[bw] at c;rw[c];exact ha
    ·show k.lost s+s.td.length+(s.ep++[a]).length<=_;rw[aZ];simp;omega
   ·exact⟨h,rfl,V⟩
theorem cV.l1 (h:cV k s)(hl:0<s.td.length):cV k (k.l1 s)/\k.lost (k.l1 s)+(k.l1 s).td.length+1=k.lost s+s.td.length:=by
 have hm:s.td.getD (s.td.length-1) 0∈s.td:=by exact tu
 have hs:=h.sum;have e:(s.td.take (s.td.length-1)).length=s.td.length-1:=by rw[bv];omega
 have h0:cV k {s with td:=s.td.take (s.td.length-1)}:=⟨h.nd,h.ps,fun a ha=>h.td a (bA ha),h.ep,h.tl,by show k.lost s+(s.td.take _).length+s.ep.length<=_;omega⟩
 have d:k.lost {s with td:=s.td.take (s.td.length-1)}=k.lost s:=rfl;obtain⟨b,c,_⟩:=h0.lk (h.td _ hm) (by show k.lost s+(s.td.take _).length+s.ep.length+1<=_;omega)
 refine⟨b,?_⟩
 unfold b9.l1;dsimp only at c;omega
theorem cV.lm:∀(n:Nat){s:cu},cV k s->cV k (k.lm n s)/\(k.lost s+s.td.length<n->(k.lm n s).td=[])/\k.lost (k.lm n s)+(k.lm n s).td.length<=k.lost s+s.td.length
 |0,s,h=>⟨h,fun e=>absurd e V,aD _⟩
 |n+1,s,h=>by
  unfold b9.lm;by_cases c:0<s.td.length
  ·rw[aI c];obtain⟨b,f⟩:=h.l1 c;obtain⟨d,j2,cA⟩:=cV.lm n b;exact⟨d,fun e=>j2 V,V⟩
  ·rw[aG c];refine⟨h,fun _=>?_,aD _⟩
   cases ht:s.td with
   |nil=>rfl
   |cons x l=>rw[ht] at c;simp at c
theorem cV.cP {t:List Int×cu}(h:cV k t.2){a:Int}(ha:a∈k.T)(ht:∀b∈t.1,b∈k.T):cV k (k.cP t a).2/\(k.cP t a).1.length<=t.1.length+1/\(∀b∈(k.cP t a).1,b∈k.T)/\k.lost (k.cP t a).2+(k.cP t a).2.td.length=k.lost t.2+t.2.td.length/\(k.cP t a).2.ep=t.2.ep:=by
 unfold b9.cP;split
 ·refine⟨h,Z,fun b hb=>?_,rfl,rfl⟩
  rcases List.mem_append.1 hb with c|c
  ·exact ht b c
  ·rw[bw] at c;rw[c];exact ha
 ·obtain⟨d,e,f⟩:=h.ma _;exact⟨d,Z,ht,e,f⟩
theorem cV.iD:∀(l:List Int){t:List Int×cu},cV k t.2->(∀a∈l,a∈k.T)->(∀b∈t.1,b∈k.T)->cV k (l.foldl k.cP t).2/\(l.foldl k.cP t).1.length<=t.1.length+l.length/\(∀b∈(l.foldl k.cP t).1,b∈k.T)/\k.lost (l.foldl k.cP t).2+(l.foldl k.cP t).2.td.length=k.lost t.2+t.2.td.length/\(l.foldl k.cP t).2.ep=t.2.ep
 |[],t,h,_,ht=>⟨h,Z,ht,rfl,rfl⟩
 |a::l,t,h,hl,ht=>by obtain⟨c,i,d,e,f⟩:=h.cP (hl a Z) ht;obtain⟨g,j2,cA,cE,dD⟩:=cV.iD l c (fun b hb=>hl b (aN _ hb)) d;rw[a8];exact⟨g,by simp only [List.length_cons];omega,cA,cE.trans e,dD.trans f⟩
theorem cV.kv (h:cV k s):cV k (k.kv s).2/\k.lost (k.kv s).2+(k.kv s).2.td.length=k.lost s+s.td.length/\(k.kv s).2.ep.length<=s.ep.length/\((k.kv s).1=true->(k.kv s).2.ep.length<s.ep.length):=by
 obtain⟨j,d,l,c,m⟩:=cV.iD s.ep (t:=([],s)) h h.ep (fun b hb=>by cases hb)
 have f:k.lost (k.kv s).2=k.lost (k.dv s s.ep).2:=rfl;have g:(k.kv s).2.td=(k.dv s s.ep).2.td:=rfl;have i:(k.kv s).2.ep=(k.dv s s.ep).1:=rfl;have d:(k.dv s s.ep).1.length<=0+s.ep.length:=d;have c:k.lost (k.dv s s.ep).2+(k.dv s s.ep).2.td.length=k.lost s+s.td.length:=c;have hs:=h.sum;refine⟨⟨h.nd,h.ps,j.td,l,h.tl,?_⟩,by rw[f,g];exact c,by rw[i];omega,fun e=>?_⟩
 ·rw[f,g,i];omega
 ·exact of_decide_eq_true e
end
structure e9 where
 pk:Nat
 ch:Nat
 bs:Nat
 yv:Value
 ov:Value
structure o9 (c:e9)(k:b9)(o_:Nat->Prop)(own:Nat->Nat)(s:cu)(vt cr:Value)(w:ax):Prop where
 wd:(dZ k.a).J o_ k.s w
 w1:∀b,o_ b↔own b=1
 cb:w.heap[c.pk]?=some (.cells #[aj k.a.pw,c.yv,c.ov,.map (some c.ch),aj c.bs,vt,cr] 140 (0,0))
 k1:own c.pk=5
 mp:Mp w c.ch k.T s.f
 m1:own c.ch=6
 tr:w.ownsRow 0 3 1 vt s.td.length (s.td.map (Value.int .i64))
 gU:∀b,some b=vt.ownBlock->own b=7
 er:w.ownsRow 0 3 1 cr s.ep.length (s.ep.map (Value.int .i64))
 eo:∀b,some b=cr.ownBlock->own b=8
 yr:w.ownsRow 0 3 1 c.yv k.Y.length (k.Y.map (Value.int .i64))
 ie:∀b,some b=c.yv.ownBlock->own b=9
 gr:w.ownsRow 0 3 1 c.ov k.G.length (k.G.map (Value.int .i64))
 go:∀b,some b=c.ov.ownBlock->own b=10
 lt:∀b,own b≠0->b<w.heap.size
section
variable {c:e9}{k:b9}{o_:Nat->Prop}{own:Nat->Nat}{s:cu}{vt cr:Value}{w w':ax}
theorem o9.but (h:o9 c k o_ own s vt cr w)(L:Nat->Prop)(hs:w.heap.size<=w'.heap.size)(hk:∀b,b<w.heap.size->own b≠0->¬L (own b)->w'.heap[b]?=w.heap[b]?)
 (hK:L 5->w'.heap[c.pk]?=some (.cells #[aj k.a.pw,c.yv,c.ov,.map (some c.ch),aj c.bs,vt,cr] 140 (0,0)))
 (hM:L 6->Mp w' c.ch k.T s.f)(f:L 7->w'.ownsRow 0 3 1 vt s.td.length (s.td.map (Value.int .i64)))(hE:L 8->w'.ownsRow 0 3 1 cr s.ep.length (s.ep.map (Value.int .i64)))(g:¬L 1)(i:¬L 9)(j:¬L 10):o9 c k o_ own s vt cr w' where
 wd:=(dZ k.a).keep h.wd hs (fun b d=>hk b ((dZ k.a).lt h.wd b d) (by rw[(h.w1 b).1 d];decide) (by rw[(h.w1 b).1 d];exact g))
 w1:=h.w1
 cb:=by exact xo
 k1:=h.k1
 mp:=by
  by_cases l:L 6
  ·exact hM l
  ·exact h.mp.same (hk _ h.mp.lt (by rw[h.m1];decide) (by rw[h.m1];exact l))
 m1:=h.m1
 tr:=by
  by_cases l:L 7
  ·exact f l
  ·exact cH h.tr (fun b e=>hk b (cn h.tr b e).2 (by rw[h.gU b e];decide) (by rw[h.gU b e];exact l))
 gU:=h.gU
 er:=by exact xn
 eo:=h.eo
 yr:=cH h.yr (fun b e=>hk b (cn h.yr b e).2 (by rw[h.ie b e];decide) (by rw[h.ie b e];exact i))
 ie:=h.ie
 gr:=cH h.gr (fun b e=>hk b (cn h.gr b e).2 (by rw[h.go b e];decide) (by rw[h.go b e];exact j))
 go:=h.go
 lt:=fun b hb=>aM (h.lt b hb) hs
end
def cT (c:e9)(k:b9)(vt f:Value):dr cu where
 J F s w:=∃d own,o9 c k d own s vt f w/\∀b,F b↔own b≠0
 lt:=by rintro F s w ⟨d,own,h,e⟩ b hb;exact h.lt b ((e b).1 hb)
 keep:=by rintro F s w w' ⟨d,own,h,e⟩ hs hk;exact⟨d,own,h.but (fun _=>False) hs (fun b _ h0 _=>hk b ((e b).2 h0)) False.elim False.elim False.elim False.elim id id id,e⟩
def eI (c:e9)(k:b9):dr cu where
 J F s w:=∃vt b,(cT c k vt b).J F s w
 lt:=by
  rintro F s w ⟨vt,b,h⟩
  exact(cT c k vt b).lt h
 keep:=by rintro F s w w' ⟨vt,b,h⟩ hs hk;exact⟨vt,b,(cT c k vt b).keep h hs hk⟩
section
variable {c:e9}{k:b9}{F:Nat->Prop}{s:cu}{vt cr:Value}{w:ax}
theorem ey (h:(cT c k vt cr).J F s w):w.cell? (aq c.pk 0)=some (aj k.a.pw)/\w.cell? (aq c.pk 1)=some c.yv/\w.cell? (aq c.pk 2)=some c.ov/\w.cell? (aq c.pk 3)=some (.map (some c.ch))/\w.cell? (aq c.pk 4)=some (aj c.bs)/\w.cell? (aq c.pk 5)=some vt/\w.cell? (aq c.pk 6)=some cr/\(∀i,w.frozen? (aq c.pk i)=false)/\c.pk<w.heap.size:=by
 obtain⟨d,own,h,_⟩:=h;have b:=h.cb;refine⟨?_,?_,?_,?_,?_,?_,?_,fun i=>?_,lt_of_some b⟩
 all_goals first|simp[World.cell?,b]|simp[World.frozen?,b]
theorem gC (h:(cT c k vt cr).J F s w):At w k.a.p k.a.q k.a.N k.a.O k.s.y k.s.g k.s.ws/\w.cell? (aq k.a.pw 0)=some (aj k.a.p)/\w.cell? (aq k.a.pw 3)=some (.slice (ak k.a.nb) 12 12)/\∀i,i<12->w.cell? (aq k.a.nb i)=some (ah (k.s.rs.getD i 0)):=by obtain⟨b,own,h,_⟩:=h;obtain⟨c0,_,_,c3,_,_,_,rt⟩:=jN h.wd;exact⟨(kJ h.wd).1,c0,c3,fun i hi=>(rt i hi).1⟩
theorem pa (h:(cT c k vt cr).J F s w):Mp w c.ch k.T s.f/\∀w' f,Mp w' c.ch k.T f->Fr (fun b=>b=c.ch) w w'->(cT c k vt cr).J F {s with f:=f} w'/\b8 F w F w':=by
 obtain⟨i,own,h,j⟩:=h;refine⟨h.mp,fun w' f hm fr=>⟨⟨i,own,?_,j⟩,⟨fr.mono (fun b e=>(j b).2 (by rw[e,h.m1];decide)),fun _ d=>aK d⟩⟩⟩
 have g:o9 c k i own {s with f:=f} vt cr w':=by
  have hk:∀b,b<w.heap.size->own b≠6->_=_:=fun b hb hn=>fr.block b hb (fun e=>hn (by rw[e];exact h.m1))
  exact {
   wd:=(dZ k.a).keep h.wd fr.size (fun b d=>hk b ((dZ k.a).lt h.wd b d) (by rw[(h.w1 b).1 d];decide)),w1:=h.w1
   cb:=(hk _ (lt_of_some h.cb) (by rw[h.k1];decide)).trans h.cb,k1:=h.k1,mp:=hm,m1:=h.m1
   tr:=cH h.tr (fun b e=>hk b (cn h.tr b e).2 (by rw[h.gU b e];decide)),gU:=h.gU
   er:=cH h.er (fun b e=>hk b (cn h.er b e).2 (by rw[h.eo b e];decide)),eo:=h.eo
   yr:=cH h.yr (fun b e=>hk b (cn h.yr b e).2 (by rw[h.ie b e];decide)),ie:=h.ie
   gr:=cH h.gr (fun b e=>hk b (cn h.gr b e).2 (by rw[h.go b e];decide)),go:=h.go
   lt:=fun b hb=>aM (h.lt b hb) fr.size}
 exact g
end
section
variable {c:e9}{k:b9}{F:Nat->Prop}{s:cu}{vt cr:Value}{w:ax}
theorem Fg {v0:Value}(h:(cT c k v0 cr).J F s w){v1:Value}{l:List Int}{w1:ax}(g:Fr (fun b=>some b=v0.ownBlock) w w1)(ho:w1.ownsRow 0 3 1 v1 l.length (l.map (Value.int .i64)))(hn:∀b,some b=v1.ownBlock->some b=v0.ownBlock\/¬F b):
 (cT c k v1 cr).J (fun b=>F b\/some b=v1.ownBlock) {s with td:=l} (w1.setCell ⟨c.pk,5,none⟩ v1)/\Fr F w (w1.setCell ⟨c.pk,5,none⟩ v1):=by
 obtain⟨n,own,h,i⟩:=h;have sz:(w1.setCell ⟨c.pk,5,none⟩ v1).heap.size=w1.heap.size:=by simp[World.setCell]
 have hb1:∀b,b<w.heap.size->own b≠7->_=_:=fun b hb hn=>g.block b hb (fun e=>hn (h.gU b e))
 have hb:∀b,b<w.heap.size->own b≠7->own b≠5->(w1.setCell ⟨c.pk,5,none⟩ v1).heap[b]?=w.heap[b]?:=fun b hb m o=>(aU _ _ _ _ (fun e=>o (by have e:=e;rw[e];exact h.k1))).trans (hb1 b hb m)
 have hnw:∀b,some b=v1.ownBlock->_:=fun b e=>(hn b e).elim (fun e=>aK (h.gU b e)) (fun hl=>aJ (Classical.byContradiction (fun c=>hl ((i b).2 c))))
 have f:∀b j,own b=j->j≠7->j≠0->(if some b=v1.ownBlock then 7 else own b)=j:=fun b j e m h0=>by exact qe
 have p:=fun b e=>(cn ho b e).2;refine⟨⟨n,fun b=>if some b=v1.ownBlock then 7 else own b,?_,fun b=>?_⟩,?_⟩
 ·exact {
   wd:=(dZ k.a).keep h.wd (by rw[sz];exact g.size) (fun b d=>hb b ((dZ k.a).lt h.wd b d) (by rw[(h.w1 b).1 d];decide) (by rw[(h.w1 b).1 d];decide))
   w1:=fun b=>⟨fun d=>f _ _ ((h.w1 b).1 d) aa aa,fun d=>by
    by_cases e:some b=v1.ownBlock
    ·rw[aI e] at d;omega
    ·rw[aG e] at d;exact(h.w1 b).2 d⟩
   k1:=f _ _ h.k1 aa aa,m1:=f _ _ h.m1 aa aa
   cb:=by exact qd
   mp:=h.mp.same (hb _ h.mp.lt (by rw[h.m1];decide) (by rw[h.m1];decide))
   tr:=cH ho (fun b e=>aU _ _ _ _ (fun q=>by
    have:=hnw b e;rw[q,h.k1] at this
    omega))
   gU:=fun b e=>by rw[aI e]
   er:=cH h.er (fun b e=>hb b (cn h.er b e).2 (by rw[h.eo b e];decide) (by rw[h.eo b e];decide))
   eo:=fun b e=>f _ _ (h.eo b e) aa aa
   yr:=cH h.yr (fun b e=>hb b (cn h.yr b e).2 (by rw[h.ie b e];decide) (by rw[h.ie b e];decide))
   ie:=fun b e=>f _ _ (h.ie b e) aa aa
   gr:=cH h.gr (fun b e=>hb b (cn h.gr b e).2 (by rw[h.go b e];decide) (by rw[h.go b e];decide))
   go:=fun b e=>f _ _ (h.go b e) aa aa
   lt:=fun b hb=>by
    rw[sz];by_cases e:some b=v1.ownBlock
    ·exact p b e
    ·rw[aG e] at hb;exact aM (h.lt b hb) g.size}
 ·by_cases e:some b=v1.ownBlock
  ·simp[e]
  ·simp[e,i b]
 ·refine(g.mono (fun b e=>(i b).2 (by rw[h.gU b e];decide))).trans ((Fr.refl (fun b=>b=c.pk) w1).set _ 5 _ rfl) (fun b e=>aK ((i b).2 (by rw[e,h.k1];decide)))
theorem yi {v0:Value}(h:(cT c k v0 cr).J F s w){v1:Value}{l:List Int}{w1:ax}(f:Fr (fun b=>some b=v0.ownBlock) w w1)(ho:w1.ownsRow 0 3 1 v1 l.length (l.map (Value.int .i64)))(hn:∀b,some b=v1.ownBlock->some b=v0.ownBlock\/w.heap.size<=b):
 ∃d,(cT c k v1 cr).J d {s with td:=l} (w1.setCell ⟨c.pk,5,none⟩ v1)/\b8 F w d (w1.setCell ⟨c.pk,5,none⟩ v1):=by
 obtain⟨g,i⟩:=Fg h f ho (fun b e=>(hn b e).imp id (fun m hb=>by have:=(cT c k v0 cr).lt h b hb;omega))
 obtain⟨n,own,hm,j⟩:=h;exact⟨_,g,i,fun b hb=>hb.elim aK (fun e=>(hn b e).imp (fun e=>(j b).2 (by rw[hm.gU b e];decide)) id)⟩
theorem yj {v0:Value}(h:(cT c k vt v0).J F s w){v1:Value}{l:List Int}{w1:ax}(g:Fr (fun b=>some b=v0.ownBlock) w w1)(ho:w1.ownsRow 0 3 1 v1 l.length (l.map (Value.int .i64)))(hn:∀b,some b=v1.ownBlock->some b=v0.ownBlock\/¬F b):
 (cT c k vt v1).J (fun b=>F b\/some b=v1.ownBlock) {s with ep:=l} (w1.setCell ⟨c.pk,6,none⟩ v1)/\Fr F w (w1.setCell ⟨c.pk,6,none⟩ v1):=by
 obtain⟨n,own,h,i⟩:=h;have sz:(w1.setCell ⟨c.pk,6,none⟩ v1).heap.size=w1.heap.size:=by simp[World.setCell]
 have hb1:∀b,b<w.heap.size->own b≠8->_=_:=fun b hb hn=>g.block b hb (fun e=>hn (h.eo b e))
 have hb:∀b,b<w.heap.size->own b≠8->own b≠5->(w1.setCell ⟨c.pk,6,none⟩ v1).heap[b]?=w.heap[b]?:=fun b hb m o=>(aU _ _ _ _ (fun e=>o (by have e:=e;rw[e];exact h.k1))).trans (hb1 b hb m)
 have hnw:∀b,some b=v1.ownBlock->_:=fun b e=>(hn b e).elim (fun e=>aK (h.eo b e)) (fun hl=>aJ (Classical.byContradiction (fun c=>hl ((i b).2 c))))
 have f:∀b j,own b=j->j≠8->j≠0->(if some b=v1.ownBlock then 8 else own b)=j:=fun b j e m h0=>by exact qe
 have p:=fun b e=>(cn ho b e).2;refine⟨⟨n,fun b=>if some b=v1.ownBlock then 8 else own b,?_,fun b=>?_⟩,?_⟩
 ·exact {
   wd:=(dZ k.a).keep h.wd (by rw[sz];exact g.size) (fun b d=>hb b ((dZ k.a).lt h.wd b d) (by rw[(h.w1 b).1 d];decide) (by rw[(h.w1 b).1 d];decide))
   w1:=fun b=>⟨fun d=>f _ _ ((h.w1 b).1 d) aa aa,fun d=>by
    by_cases e:some b=v1.ownBlock
    ·rw[aI e] at d;omega
    ·rw[aG e] at d;exact(h.w1 b).2 d⟩
   k1:=f _ _ h.k1 aa aa,m1:=f _ _ h.m1 aa aa
   cb:=by exact qd
   mp:=h.mp.same (hb _ h.mp.lt (by rw[h.m1];decide) (by rw[h.m1];decide))
   er:=cH ho (fun b e=>aU _ _ _ _ (fun q=>by
    have:=hnw b e;rw[q,h.k1] at this
    omega))
   eo:=fun b e=>by rw[aI e]
   tr:=cH h.tr (fun b e=>hb b (cn h.tr b e).2 (by rw[h.gU b e];decide) (by rw[h.gU b e];decide))
   gU:=fun b e=>f _ _ (h.gU b e) aa aa
   yr:=cH h.yr (fun b e=>hb b (cn h.yr b e).2 (by rw[h.ie b e];decide) (by rw[h.ie b e];decide))
   ie:=fun b e=>f _ _ (h.ie b e) aa aa
   gr:=cH h.gr (fun b e=>hb b (cn h.gr b e).2 (by rw[h.go b e];decide) (by rw[h.go b e];decide))
   go:=fun b e=>f _ _ (h.go b e) aa aa
   lt:=fun b hb=>by
    rw[sz];by_cases e:some b=v1.ownBlock
    ·exact p b e
    ·rw[aG e] at hb;exact aM (h.lt b hb) g.size}
 ·by_cases e:some b=v1.ownBlock
  ·simp[e]
  ·simp[e,i b]
 ·refine(g.mono (fun b e=>(i b).2 (by rw[h.eo b e];decide))).trans ((Fr.refl (fun b=>b=c.pk) w1).set _ 6 _ rfl) (fun b e=>aK ((i b).2 (by rw[e,h.k1];decide)))
theorem Fh {v0:Value}(h:(cT c k vt v0).J F s w){v1:Value}{l:List Int}{w1:ax}(f:Fr (fun b=>some b=v0.ownBlock) w w1)(ho:w1.ownsRow 0 3 1 v1 l.length (l.map (Value.int .i64)))(hn:∀b,some b=v1.ownBlock->some b=v0.ownBlock\/w.heap.size<=b):
 ∃d,(cT c k vt v1).J d {s with ep:=l} (w1.setCell ⟨c.pk,6,none⟩ v1)/\b8 F w d (w1.setCell ⟨c.pk,6,none⟩ v1):=by
 obtain⟨g,i⟩:=yj h f ho (fun b e=>(hn b e).imp id (fun m hb=>by have:=(cT c k vt v0).lt h b hb;omega))
 obtain⟨n,own,hm,j⟩:=h;exact⟨_,g,i,fun b hb=>hb.elim aK (fun e=>(hn b e).imp (fun e=>(j b).2 (by rw[hm.eo b e];decide)) id)⟩
theorem m6 (h:(cT c k vt cr).J F s w):w.ownsRow 0 3 1 vt s.td.length (s.td.map (Value.int .i64))/\w.ownsRow 0 3 1 cr s.ep.length (s.ep.map (Value.int .i64))/\some c.pk≠vt.ownBlock/\some c.pk≠cr.ownBlock/\c.pk≠c.ch:=by
 obtain⟨d,own,h,_⟩:=h;refine⟨h.tr,h.er,fun e=>?_,fun e=>?_,fun e=>?_⟩
 ·have b:=h.gU _ e;rw[h.k1] at b;omega
 ·have b:=h.eo _ e;rw[h.k1] at b;omega
 ·have b:=h.k1;rw[e,h.m1] at b;omega
end
section
variable {c:e9}{k:b9}{vt cr:Value}{F:Nat->Prop}{s:cu}{w:ax}
theorem yk (h:(cT c k vt cr).J F s w)(x:Int):
 Calls prog 219 #[aj c.pk,ah x] w fun e w'=>∃v,e=.returned (.tuple #[ah v,.bool (k.jt x)])/\(k.jt x=true->v=s.f (cg x))/\Below w.heap.size w w':=by
 have HJ:=hide h;have P:=nM x w;cases ha:cY x
 ·rw[ha] at P;have b:k.jt x=false:=by unfold b9.jt;rw[ha];rfl
  rw[b];go_enter func219,ntmps219;exact xC
 ·have b:k.jt x=k.T.contains (cg x):=by unfold b9.jt;rw[ha];rfl
  have d:=sV ha;rw[b];rw[ha] at P;generalize cg x=a at P d⊢;have xw:=jd d.1 d.2;obtain⟨bt,hbt⟩:∃bt,bt=k.T.contains a:=⟨_,rfl⟩
  rw[<-hbt];go_enter func219,ntmps219;go_wp2_with fail;refine P.mono ?_;clear P;rintro e w1 ⟨rfl,hb1⟩
  have n5:=(cT c k vt cr).below HJ.o hb1;obtain⟨_,_,_,c1,_⟩:=ey n5;obtain⟨⟨D,o1,o2,o3⟩,_⟩:=pa n5;exact xv
theorem pd (h:(cT c k vt cr).J F s w)(x:Int):
 Calls prog 154 #[aj c.pk,ah x] w fun e w'=>e=.returned (.bool (k.cS s x))/\Below w.heap.size w w':=by
 have P:=yk h x;cases hy:k.jt x
 ·have b:k.cS s x=false:=by unfold b9.cS;rw[hy];rfl
  rw[b];rw[hy] at P;go_enter func154,ntmps154;go_wp2_with fail;refine P.mono ?_;rintro e w1 ⟨v,rfl,_,hb1⟩
  go_wp2;go_ret;exact⟨rfl,hb1⟩
 ·have b:k.cS s x=(s.f (cg x)==-1):=by unfold b9.cS;rw[hy];rfl
  rw[b];rw[hy] at P;go_enter func154,ntmps154;exact qj
theorem yl (h:(cT c k vt cr).J F s w)(x:Int):
 Calls prog 156 #[aj c.pk,ah x] w fun e w'=>e=.returned (ah (k.nw s x))/\Below w.heap.size w w':=by
 have P:=yk h x;cases hy:k.jt x
 ·have b:k.nw s x=x:=by unfold b9.nw;rw[hy];simp
  rw[b];rw[hy] at P;go_enter func156,ntmps156;go_wp2_with fail;refine P.mono ?_;rintro e w1 ⟨v,rfl,_,hb1⟩
  go_wp2_with fail;go_ret;exact⟨rfl,hb1⟩
 ·rw[hy] at P;by_cases d:s.f (cg x)=-1
  ·have b:k.nw s x=x:=by unfold b9.nw;rw[hy,d];simp
   rw[b];rw[d] at P;go_enter func156,ntmps156;exact qj
  ·have b:k.nw s x=ew 3 (s.f (cg x)):=by unfold b9.nw;rw[hy,aI (by simp[d])]
   rw[b];generalize s.f (cg x)=a at P d⊢;go_enter func156,ntmps156;exact xA
end
def jg (c:e9)(k:b9)(b:Value):dr cu where
 J F s w:=∃vt,(cT c k vt b).J F s w
 lt:=by
  rintro F s w ⟨vt,h⟩
  exact(cT c k vt b).lt h
 keep:=by rintro F s w w' ⟨vt,h⟩ hs hk;exact⟨vt,(cT c k vt b).keep h hs hk⟩
section
variable {c:e9}{k:b9}{cr:Value}{F:Nat->Prop}{s:cu}{w:ax}
theorem ym (h:(jg c k cr).J F s w)(m:cV k s)(x:Int):
 Calls prog 142 #[aj c.pk,ah x] w fun e w'=>∃g,e=.returned (.tuple #[])/\(jg c k cr).J g (k.ma s x) w'/\b8 F w g w':=by
 obtain⟨vt,h⟩:=h;have P:=pd h x;have u:=hide h;clear h;cases hl:k.cS s x
 ·have L:k.ma s x=s:=by unfold b9.ma;rw[hl];rfl
  rw[L];rw[hl] at P;go_enter func142,ntmps142;go_wp2_with fail;refine P.mono ?_;rintro e w1 ⟨rfl,d⟩
  have v:ay ((jg c k cr).J F s w1/\b8 F w F w1):=⟨⟨vt,(cT c k vt cr).below u.o d⟩,b8.of d⟩
  go_wp2_with fail;go_end0;exact⟨F,rfl,v.o.1,v.o.2⟩
 ·obtain⟨M,hi,N,O,Q⟩:=info_parts kF;obtain⟨l1,l2,A⟩:=b9.qA hl;have E:ay (k.ma s x={s with f:=gA s.f (cg x) (cg x),td:=s.td++[cg x]}):=by show _=_;unfold b9.ma;rw[aI hl]
  have n:=nM x;rw[l1] at n;have B:=m.ps _ l2;have a1:=m.tl;have a2:=m.sum;rw[hl] at P;generalize k.ma s x=s2 at E⊢;generalize cg x=a at E n l2 A B⊢;clear hl l1 A;go_enter func142,ntmps142;go_wp2_with fail;refine P.mono ?_;rintro e w1 ⟨rfl,d⟩
  go_wp2_with fail;refine(n w1).mono ?_;rintro e R ⟨rfl,S⟩
  have hb:=d.trans (S.mono d.size)
  have C:=(cT c k vt cr).below u.o hb;obtain⟨_,_,_,c3,_,c5,_,bb,lk⟩:=ey C;obtain⟨⟨D,o1,U,W⟩,hM⟩:=pa C;obtain⟨o,bd,X,Y⟩:=o1.update (t:=127) (e:=3) iN underlying127 (by unfold maxLen;omega) (jd B.1 V) (m0 a (WalkArith.wf_i64 ⟨V,V⟩))
  obtain⟨p,ab⟩:=hM o _ (Mp.put o1 U W l2 X) ((Fr.refl _ R).grown Y (fun b e=>aK (by cases e;rfl)))
  obtain⟨_,_,_,_,_,ag,_,ai,al⟩:=ey p;obtain⟨q,_,am,_⟩:=m6 p;dsimp only at q;obtain⟨ad,cap,an⟩:=eE q;subst an;have ao:=ai 5;have G:=dq p ((b8.of hb).trans ab)
  go_wp2_with (at_builtin;refine wpList_append_own_at _ rfl _ _ 74 rfl 0 3 M (ah 0) 1 8 underlying74 hi N O Q rfl aa (.slice ad s.td.length cap) s.td.length (s.td.map (Value.int .i64)) rfl (gd q _) ⟨o.heap.size,0,none⟩ 1 1 [ah a] rfl rfl ?_ ?_ ?_ ?_ ?_ ?_;(intro j ap i;match j,i with|0,i=>(simp at i;subst i;simp[Addr.add]));(intro ap H;simp at H;subst H;rfl);(unfold maxLen;omega);(first|omega|simp);(first|omega|(simp;done)|(simp;omega));intro be bg I J _ ar;obtain⟨b4,aB,aF⟩:=eU I (Nat.succ_pos _);subst aF;have K:=(J.block c.pk (by simp;omega) am).trans (aS _ _ _ al);have g4:=(aP (a:=⟨c.pk,5,none⟩) K).trans ag;have bi:=(World.frozen?_of_block (a:=⟨c.pk,5,none⟩) K).trans ao)
  go_end0;obtain⟨g,aR,a0⟩:=yi G.o.1 (((Fr.refl _ o).alloc _).grown J (fun b e=>aK e.symm)) (v1:=.slice (ak b4) (s.td.length+1) aB) (l:=s.td++[a]) (by simpa using I) (fun b e=>by simp[Value.ownBlock] at e;subst e;exact(ar.imp id (fun e=>by simpa[Value.ownBlock] using e)).imp id (fun e=>by omega))
  exact⟨g,rfl,⟨_,by rw[E.o];exact aR⟩,G.o.2.trans a0⟩
theorem pi (h:(eI c k).J F s w)(d:cV k s)(x:Int):
 Calls prog 142 #[aj c.pk,ah x] w fun e w'=>∃b,e=.returned (.tuple #[])/\(eI c k).J b (k.ma s x) w'/\b8 F w b w':=by
 obtain⟨vt,cr,h⟩:=h;refine(ym ⟨vt,h⟩ d x).mono ?_;rintro e w' ⟨b,rfl,⟨cM,j⟩,t⟩
 exact⟨b,rfl,⟨cM,cr,j⟩,t⟩
end
section
variable {c:e9}{k:b9}{F:Nat->Prop}{s:cu}{w:ax}
theorem Fi (h:(eI c k).J F s w)(p:cV k s)(a:Int)(a0:0<=a)(a1:a<=2000)(hk:pk (k.ld a)=1\/pk (k.ld a)=2):
 Calls prog 216 #[aj c.pk,ah a] w fun e w'=>∃b,e=.returned (.tuple #[])/\(eI c k).J b (k.lk s a) w'/\b8 F w b w':=by
 have t:k.lk s a=k.e8 s a (pf (k.ld a)).toNat:=by unfold b9.lk;rw[aI hk]
 rw[t];have u:=hide h;obtain⟨vt,v,h⟩:=h;obtain⟨f,c0,_⟩:=gC h;obtain⟨A,_⟩:=ey h;have L:=gf a w f;have B:ld k.a.N k.s.y k.s.g k.s.ws a=k.ld a:=rfl;rw[B] at L;have hp:=dj (k.ld a)
 obtain⟨n,hn⟩:∃n:Nat,pf (k.ld a)=n:=⟨(pf (k.ld a)).toNat,V⟩
 rw[hn] at L hp⊢;have en:(n:Int).toNat=n:=Int.toNat_natCast n;rw[en];have C:ay (cV k s):=p;generalize pc (k.ld a)=q at L;have key:∀kd:Int,(kd=1\/kd=2)->pk (k.ld a)=kd->Calls prog 216 #[aj c.pk,ah a] w fun e w'=>∃b,e=.returned (.tuple #[])/\(eI c k).J b (k.e8 s a n) w'/\b8 F w b w':=by
  intro kd D E;rw[E] at L;rcases D with rfl|rfl
  all_goals
   go_enter func216,ntmps216;go_wp2_with fail;refine L.mono ?_;rintro e w1 ⟨rfl,g⟩
   have G:ay ((eI c k).J F (k.e8 s a 0) w1/\b8 F w F w1):=⟨(eI c k).below u.o g,b8.of g⟩
   go_wp2_with fail
   go_loopw [26] (fun iv wr=>∃(i:Nat)(b:Nat->Prop),i<=n/\iv=ah i/\ay ((eI c k).J b (k.e8 s a i) wr/\b8 F w b wr)) (fun iv _=>n-(intOf iv).toNat)
   exact⟨0,F,aX _,rfl,G⟩
   ·
     obtain⟨i,b,hi,rfl,d⟩:=hrel;by_cases N:i<n
     ·obtain⟨vt,v,j⟩:=d.o.1;obtain⟨f,c0,_⟩:=gC j;obtain⟨A,_⟩:=ey j;have P:=jI (a+1+i) wr f;have ex:ld k.a.N k.s.y k.s.g k.s.ws (a+1+i)=k.ld (a+1+i):=rfl;rw[ex] at P;have l:ay (k.e8 s a (i+1)=k.ma (k.e8 s a i) (k.ld (a+1+i))):=rfl;have H:=(C.o.e8 a i).1;generalize k.ld (a+1+i)=x at P l;go_wp2_with fail;refine P.mono ?_;rintro e O ⟨rfl,m⟩
      have o:=pi ((eI c k).below d.o.1 m) H x;rw[<-l.o] at o;have I:=hide (d.o.2.below m)
      go_wp2_with fail;refine o.mono ?_;rintro e Q ⟨J,rfl,cE,K⟩
      have M:=dq cE (I.o.trans K)
      go_wp2_with fail;go_roundw;exact⟨i+1,J,V,af,M⟩
      simp[intOf];omega
     ·obtain rfl:i=n:=V;go_wp2_with fail;go_end0;exact⟨b,rfl,d.o.1,d.o.2⟩
 exact key _ hk rfl
theorem Fj (h:(eI c k).J F s w)(p:cV k s)(a:Int)(a0:0<=a)(a1:a<=2000)(hk:pk (k.ld a)=3):
 Calls prog 216 #[aj c.pk,ah a] w fun e w'=>∃d,e=.returned (.tuple #[])/\(eI c k).J d (k.lk s a) w'/\b8 F w d w':=by
 have t:k.lk s a=k.ma s (k.ld (a+2)):=by unfold b9.lk;rw[aG V,aI hk]
 rw[t];obtain⟨x,f⟩:∃x,k.ld (a+2)=x:=⟨_,rfl⟩
 rw[f];have u:ay (k.ld (a+2)=x):=f;have v:ay ((eI c k).J F s w):=h;obtain⟨vt,A,h⟩:=h;obtain⟨b,c0,_⟩:=gC h;obtain⟨B,_⟩:=ey h;have L:=gf a w b;have C:ld k.a.N k.s.y k.s.g k.s.ws a=k.ld a:=rfl;rw[C,hk] at L;generalize pf (k.ld a)=n at L;generalize pc (k.ld a)=q at L;go_enter func216,ntmps216;go_wp2_with fail;refine L.mono ?_;rintro e w1 ⟨rfl,g⟩
 have i:=(eI c k).below v.o g;have j:ay ((eI c k).J F s w1/\b8 F w F w1):=⟨i,b8.of g⟩
 obtain⟨vt,A,l⟩:=i;obtain⟨b,c0,_⟩:=gC l;obtain⟨B,_⟩:=ey l;have P:=jI (a+2) w1 b;have ex:ld k.a.N k.s.y k.s.g k.s.ws (a+2)=k.ld (a+2):=rfl;rw[ex,u.o] at P;go_wp2_with fail;refine P.mono ?_;rintro e I ⟨rfl,m⟩
 have D:=pi ((eI c k).below j.o.1 m) p x;have E:=hide (j.o.2.below m)
 go_wp2_with fail;refine D.mono ?_;rintro e J ⟨G,rfl,cE,H⟩
 have o:=dq cE (E.o.trans H)
 go_wp2_with fail;go_end0;exact⟨G,rfl,o.o.1,o.o.2⟩
theorem Fk (h:(eI c k).J F s w)(a:Int)(X:s.ep.length<=10000)(hk:pk (k.ld a)=4):
 Calls prog 216 #[aj c.pk,ah a] w fun e w'=>∃d,e=.returned (.tuple #[])/\(eI c k).J d (k.lk s a) w'/\b8 F w d w':=by
 have v:k.lk s a={s with ep:=s.ep++[a]}:=by unfold b9.lk;rw[aG V,aG V,aI hk]
 rw[v];obtain⟨x,hi,A,B,C⟩:=info_parts kF;have D:ay ((eI c k).J F s w):=h;obtain⟨vt,E,h⟩:=h;obtain⟨G,c0,_⟩:=gC h;obtain⟨Y,_⟩:=ey h;have L:=gf a w G;have H:ld k.a.N k.s.y k.s.g k.s.ws a=k.ld a:=rfl;rw[H,hk] at L;generalize pf (k.ld a)=n at L;generalize pc (k.ld a)=q at L;go_enter func216,ntmps216;go_wp2_with fail;refine L.mono ?_;rintro e w1 ⟨rfl,i⟩
 obtain⟨vt,E,g⟩:=(eI c k).below D.o i;obtain⟨_,_,_,_,_,_,I,J,lk⟩:=ey g;obtain⟨_,er,_,K,_⟩:=m6 g;obtain⟨ad,cap,M⟩:=eE er;subst M;have N:=J 6;have m:ay ((cT c k vt (.slice ad s.ep.length cap)).J F s w1/\b8 F w F w1):=⟨g,b8.of i⟩
 go_wp2_with (at_builtin;refine wpList_append_own_at _ rfl _ _ 74 rfl 0 3 x (ah 0) 1 8 underlying74 hi A B C rfl aa (.slice ad s.ep.length cap) s.ep.length (s.ep.map (Value.int .i64)) rfl (gd er _) ⟨w1.heap.size,0,none⟩ 1 1 [ah a] rfl rfl ?_ ?_ ?_ ?_ ?_ ?_;(intro j O f;match j,f with|0,f=>(simp at f;subst f;simp[Addr.add]));(intro O o;simp at o;subst o;rfl);(unfold maxLen;omega);(first|omega|simp);(first|omega|(simp;done)|(simp;omega));intro ab ag p t _ P;obtain⟨b4,Q,R⟩:=eU p (Nat.succ_pos _);subst R;have u:=(t.block c.pk (by simp;omega) K).trans (aS _ _ _ lk);have g4:=(aP (a:=⟨c.pk,6,none⟩) u).trans I;have ai:=(World.frozen?_of_block (a:=⟨c.pk,6,none⟩) u).trans N)
 go_end0;obtain⟨d,S,U⟩:=Fh m.o.1 (((Fr.refl _ w1).alloc _).grown t (fun b e=>aK e.symm)) (v1:=.slice (ak b4) (s.ep.length+1) Q) (l:=s.ep++[a]) (by simpa using p) (fun b e=>by
  have W:=P.imp id (fun e=>by simpa[Value.ownBlock] using e)
  simp[Value.ownBlock] at e;subst e;exact W.imp id (fun e=>by omega))
 exact⟨d,rfl,⟨_,_,S⟩,m.o.2.trans U⟩
theorem Fl (h:(eI c k).J F s w)(a:Int)(k1:pk (k.ld a)≠1)(n:pk (k.ld a)≠2)(g:pk (k.ld a)≠3)(i:pk (k.ld a)≠4):
 Calls prog 216 #[aj c.pk,ah a] w fun e w'=>∃b,e=.returned (.tuple #[])/\(eI c k).J b (k.lk s a) w'/\b8 F w b w':=by
 have j:k.lk s a=s:=by unfold b9.lk;rw[aG V,aG g,aG i]
 rw[j];have l:ay ((eI c k).J F s w):=h;obtain⟨vt,o,h⟩:=h;obtain⟨m,c0,_⟩:=gC h;obtain⟨p,_⟩:=ey h;have L:=gf a w m;have q:ld k.a.N k.s.y k.s.g k.s.ws a=k.ld a:=rfl;go_enter func216,ntmps216;go_wp2_with fail;refine L.mono ?_;rintro e w1 ⟨rfl,d⟩
 have f:ay ((eI c k).J F s w1/\b8 F w F w1):=⟨(eI c k).below l.o d,b8.of d⟩
 go_wp2_with fail;go_end0;exact⟨F,rfl,f.o.1,f.o.2⟩
theorem Fp (h:(eI c k).J F s w)(b:cV k s)(a:Int)(a0:0<=a)(a1:a<=2000)(i:s.ep.length<=10000):
 Calls prog 216 #[aj c.pk,ah a] w fun e w'=>∃d,e=.returned (.tuple #[])/\(eI c k).J d (k.lk s a) w'/\b8 F w d w':=by
 by_cases k1:pk (k.ld a)=1\/pk (k.ld a)=2
 ·exact Fi h b a a0 a1 k1
 by_cases f:pk (k.ld a)=3
 ·exact Fj h b a a0 a1 f
 by_cases g:pk (k.ld a)=4
 ·exact Fk h a i g
 exact Fl h a (fun e=>k1 (aK e)) (fun e=>k1 (aJ e)) f g
end
section
variable {c:e9}{k:b9}{F:Nat->Prop}{s:cu}{w:ax}
theorem Fq (h:(eI c k).J F s w)(L:cV k s):
 Calls prog 143 #[aj c.pk] w fun e w'=>∃u,e=.returned (.tuple #[])/\(eI c k).J u (k.lm (k.lost s+s.td.length+1) s) w'/\b8 F w u w':=by
 have v:=dq h L;obtain⟨g,A⟩:∃g,k.lm (k.lost s+s.td.length+1) s=g:=⟨_,rfl⟩
 rw[A];have M:=hide A;obtain⟨vt,N,h⟩:=h;obtain⟨_,_,_,_,_,B,_⟩:=ey h;obtain⟨tr,_⟩:=m6 h;obtain⟨ad,cap,q⟩:=eE tr;subst q;go_enter func143,ntmps143;go_wp2_with fail
 go_loopg [2] (k.lost s+s.td.length) (fun m nv wr=>∃(s1:cu)(i:Nat->Prop),nv=ah s1.td.length/\ay ((eI c k).J i s1 wr/\cV k s1/\b8 F w i wr)/\ay (k.lost s1+s1.td.length<=m/\k.lm (m+1) s1=g))
 exact⟨s,F,rfl,⟨v.o.1,v.o.2,b8.refl _ _⟩,⟨aD _,M.o⟩⟩
 ·
   obtain⟨s1,i,rfl,d,j⟩:=hrel;by_cases f:0<s1.td.length
   ·obtain⟨vt,N,o⟩:=d.o.1;obtain⟨_,_,_,_,_,B,_,C,lk⟩:=ey o;obtain⟨tr,_,ao,_⟩:=m6 o;obtain⟨b,cap,q⟩:=eU tr f;subst q;have O:=sP tr;have ap:maxLen<=9223372036854775807:=by unfold maxLen;omega
    have Q:wr.cell? (aq b (s1.td.length-1))=some (ah (s1.td.getD (s1.td.length-1) 0)):=by obtain⟨ar,aB,e,_,hc⟩:=gI tr f;cases e;have:=hc (s1.td.length-1) V;rwa [Nat.zero_add] at this
    have aF:=C 5;have hm:s1.td.getD (s1.td.length-1) 0∈s1.td:=by exact tu
    have D:=d.o.2.1.ps _ (d.o.2.1.td _ hm)
    have R:=d.o.2.1.sum;have aR:=d.o.2.1.tl;obtain⟨aV,E,G⟩:=yi o (Fr.refl _ wr) (v1:=.slice (ak b) (s1.td.length-1) cap) (l:=s1.td.take (s1.td.length-1)) (by have:=sO tr (s1.td.length-1) V;rw[List.map_take,show(s1.td.take (s1.td.length-1)).length=s1.td.length-1 by rw[bv];omega];exact this) (fun b e=>aK e)
    have H:cV k {s1 with td:=s1.td.take (s1.td.length-1)}:=⟨d.o.2.1.nd,d.o.2.1.ps,fun x S=>d.o.2.1.td x (bA S),d.o.2.1.ep,d.o.2.1.tl,by show k.lost s1+(s1.td.take (s1.td.length-1)).length+s1.ep.length<=_;rw[bv];omega⟩
    have t:=Fp ⟨_,_,E⟩ H (s1.td.getD (s1.td.length-1) 0) D.1 D.2 (by show s1.ep.length<=10000;omega)
    have U:ay (k.lk {s1 with td:=s1.td.take (s1.td.length-1)} (s1.td.getD (s1.td.length-1) 0)=k.l1 s1):=rfl;rw[U.o] at t;have I:=hide (d.o.2.1.l1 f)
    have W:ay (k.lm (gk+1) s1=k.lm gk (k.l1 s1)):=by show _=_;rw[b9.lm,aI f]
    have J:=hide (d.o.2.2.trans G)
    obtain⟨n,hn⟩:∃n,s1.td.length=n+1:=⟨s1.td.length-1,V⟩
    rw[hn] at B O⊢;rw[hn,Nat.add_sub_cancel] at Q t J;generalize s1.td.getD n 0=x at*;generalize k.l1 s1=p at*;have a0:n<=4000:=V;clear o E G H tr hm R C d;go_wp2_with fail;refine t.mono ?_;rintro e a1 ⟨X,rfl,cE,Y⟩
    have ab:=g7 cE I.o.1 (J.o.trans Y)
    obtain⟨a2,bb,K⟩:=cE;obtain⟨_,_,_,_,_,bd,_⟩:=ey K;obtain⟨ag,_⟩:=m6 K;obtain⟨be,bg,ai⟩:=eE ag;subst ai;have hg:1<=gk:=by have:=j.o.1;omega
    have al:ay (k.lost p+p.td.length<=gk-1/\k.lm (gk-1+1) p=g):=⟨by have:=j.o.1;have:=I.o.2;omega,by rw[Nat.sub_add_cancel hg,<-W.o];exact j.o.2⟩
    go_wp2_with fail
    go_roundg (gk-1)
    case measure=>omega
    exact⟨p,X,rfl,ab,al⟩
   ·have am:s1.td=[]:=by
     cases ht:s1.td with
     |nil=>rfl
     |cons x l=>rw[ht] at f;simp at f
    have an:g=s1:=by rw[<-j.o.2];unfold b9.lm;rw[aG f]
    subst an;rw[am];go_wp2_with fail;go_end0;exact⟨i,rfl,d.o.1,d.o.2.2⟩
end
section
variable {c:e9}{k:b9}{F:Nat->Prop}{s:cu}{w:ax}
theorem Fs (h:(eI c k).J F s w)(v:cV k s):
 Calls prog 144 #[aj c.pk] w fun e w'=>∃a2,e=.returned (.bool (k.kv s).1)/\(eI c k).J a2 (k.kv s).2 w'/\b8 F w a2 w':=by
 obtain⟨b2,hi,b3,b5,b6⟩:=info_parts kF;obtain⟨vt,cl,h⟩:=h;obtain⟨_,_,_,_,_,_,b7,_⟩:=ey h;obtain⟨_,er,_⟩:=m6 h;obtain⟨ad,cap,ca⟩:=eE er;subst ca;have X:ay (cV k s):=v;have bb:ay ((jg c k (.slice ad s.ep.length cap)).J F s w):=⟨vt,h⟩
 have cm:s.ep.length<=4000:=by have:=v.sum;have:=v.tl;omega
 have cb:ay (∀a∈s.ep,0<=a/\a<=2000):=fun a ha=>v.ps a (v.ep a ha)
 have bd:ay (k.kv s=(decide ((k.dv s s.ep).1.length<s.ep.length),{(k.dv s s.ep).2 with ep:=(k.dv s s.ep).1})):=rfl;clear v h er;go_enter func144,ntmps144;go_wp2_with fail
 go_loopw [3,12] (fun vr iv wr=>∃(j:Nat)(R:List Int)(s1:cu)(ar:Option Addr)(f:Nat)(d:Nat->Prop),j<=s.ep.length/\iv=ah j/\ay (k.dv s (s.ep.take j)=(R,s1))/\vr=.slice ar R.length f/\wr.ownsRow w.heap.size 3 1 (.slice ar R.length f) R.length (R.map (Value.int .i64))/\(jg c k (.slice ad s.ep.length cap)).J d s1 wr/\b8 F w d wr/\ay (∀b,some b=(Value.slice ar R.length f).ownBlock->¬d b)/\ay (cV k s1/\s1.ep=s.ep)) (fun _ iv _=>s.ep.length-(intOf iv).toNat)
 case atStart=>exact⟨0,[],s,none,0,F,aX _,rfl,rfl,rfl,bc _ _ _ _,bb.o,b8.refl _ _,fun b e=>by simp[Value.ownBlock] at e,⟨X.o,rfl⟩⟩
 case round=>
  obtain⟨j,R,s1,ar,f,d,B,rfl,C,rfl,p,be,q,A,D⟩:=hrel;clear bb b7;have co:R.length<=10000:=by have E:=(cV.iD (s.ep.take j) (t:=([],s)) X.o (fun a ha=>X.o.ep a (bA ha)) (fun b hb=>by cases hb)).2.1;have bg:=C.o;unfold b9.dv at bg;rw[bg] at E;simp at E;omega
  by_cases K:j<s.ep.length
  ·obtain⟨bi,g⟩:=be;obtain⟨_,Y,_⟩:=m6 g;rw[D.o.2] at Y;obtain⟨i,m,cc,cp,hc⟩:=gI Y V;have ab:=hc j K;subst cc;have bl:s.ep.getD j 0∈s.ep:=by rw[aE,aL K];exact a6 K
   have cd:=cb.o _ bl;have ag:ay (k.dv s (s.ep.take (j+1))=k.cP (R,s1) (s.ep.getD j 0)):=by
    show _=_;rw[gy s.ep j K 0];unfold b9.dv;rw[List.foldl_append];have:=C.o;unfold b9.dv at this
    rw[this];rfl
   generalize s.ep.getD j 0=a at ab cd ag;obtain⟨M,_⟩:=ey g;obtain⟨G,N,_⟩:=gC g;have L:=jI (a+1) wr G;have H:ld k.a.N k.s.y k.s.g k.s.ws (a+1)=k.ld (a+1):=rfl;rw[H] at L;have u:ay ((jg c k (.slice (some ⟨i,m,none⟩) s.ep.length cap)).J d s1 wr/\b8 F w d wr):=⟨⟨bi,g⟩,q⟩
   have cq:=q.fr.size;have bn:ay (∀b,some b=(Value.slice ar R.length f).ownBlock->b<wr.heap.size):=fun b e=>(cn p b e).2;have j0:(0:Int)<=(j:Int):=V;have cr:(j:Int)<(s.ep.length:Int):=V;clear hc bl g q G H Y;cases hls:k.cS s1 (k.ld (a+1))
   ·have O:ay (k.dv s (s.ep.take (j+1))=(R,k.ma s1 (k.ld (a+2)))):=by show _=_;rw[ag.o];unfold b9.cP;rw[hls];rfl
    generalize k.ld (a+1)=x at L hls;go_wp2_with fail;refine L.mono ?_;clear L;rintro e w1 ⟨rfl,n⟩
    obtain⟨ce,o⟩:=(jg c k (.slice (some ⟨i,m,none⟩) s.ep.length cap)).below u.o.1 n;have P:=pd o x;rw[hls] at P;clear ab M N o;go_wp2_with fail;refine P.mono ?_;clear P;rintro e I ⟨rfl,J⟩
    have hb:=n.trans (J.mono n.size)
    obtain⟨cf,Q⟩:=(jg c k (.slice (some ⟨i,m,none⟩) s.ep.length cap)).below u.o.1 hb;obtain⟨M,_⟩:=ey Q;obtain⟨G,N,_⟩:=gC Q;have S:=jI (a+2) I G;have H:ld k.a.N k.s.y k.s.g k.s.ws (a+2)=k.ld (a+2):=rfl;rw[H] at S;have cg:ay (k.ld (a+2)=k.ld (a+2)):=rfl;generalize k.ld (a+2)=y at S O;have ai:ay ((jg c k (.slice (some ⟨i,m,none⟩) s.ep.length cap)).J d s1 I/\Below wr.heap.size wr I):=⟨⟨cf,Q⟩,hb⟩
    clear n J Q G H hb cg;go_wp2_with fail;refine S.mono ?_;clear S;rintro e ch ⟨rfl,al⟩
    have bo:=ym ((jg c k (.slice (some ⟨i,m,none⟩) s.ep.length cap)).below ai.o.1 al) D.o.1 y;have bp:ay (b8 d wr d ch):=(b8.of ai.o.2).below al;clear al M N ai;go_wp2_with fail;refine bo.mono ?_;clear bo;rintro e am ⟨br,rfl,an,U⟩
    have W:=bp.o.trans U;have ao:=D.o.1.ma y;have ap:=g7 (u.o.2.trans W) ao.1 (ao.2.2.trans D.o.2)
    have aB:=hY p W.fr (fun b e=>A.o b e)
    have aF:ay (∀b,some b=(Value.slice ar R.length f).ownBlock->¬br b):=fun b e bs=>(W.sub b bs).elim (A.o b e) (fun bs=>by have:=bn.o b e;omega)
    clear U W ao p bp A;go_wp2_with fail;go_roundw;exact⟨j+1,R,_,ar,f,br,V,af,O,rfl,aB,an,ap.o.1,aF,⟨ap.o.2.1,ap.o.2.2⟩⟩
    simp[intOf];omega
   ·have O:ay (k.dv s (s.ep.take (j+1))=(R++[a],s1)):=by show _=_;rw[ag.o];unfold b9.cP;rw[aI hls]
    generalize k.ld (a+1)=x at L hls;go_wp2_with fail;refine L.mono ?_;clear L;rintro e w1 ⟨rfl,n⟩
    obtain⟨ce,o⟩:=(jg c k (.slice (some ⟨i,m,none⟩) s.ep.length cap)).below u.o.1 n;have P:=pd o x;rw[hls] at P;clear ab M N o;go_wp2_with fail;refine P.mono ?_;clear P;rintro e I ⟨rfl,J⟩
    have hb:=n.trans (J.mono n.size)
    have aR:=cH p (fun b e=>hb.block b (bn.o b e))
    have cs:=hb.size;clear n J;go_wp2_with (at_builtin;refine wpList_append_own_at _ rfl _ _ 74 rfl w.heap.size 3 b2 (ah 0) 1 8 underlying74 hi b3 b5 b6 rfl aa (.slice ar R.length f) R.length (R.map (Value.int .i64)) rfl (gd aR _) ⟨I.heap.size,0,none⟩ 1 1 [ah a] rfl rfl ?_ ?_ ?_ ?_ ?_ ?_;(intro j ci B;match j,B with|0,B=>(simp at B;subst B;simp[Addr.add]));(intro ci bt;simp at bt;subst bt;rfl);(unfold maxLen;omega);omega;(simp;omega);intro ct am aV a0 _ bx;obtain⟨b4,a1,cj⟩:=eU aV (Nat.succ_pos _);subst cj)
    have aB:am.ownsRow w.heap.size 3 1 (.slice (ak b4) (R++[a]).length a1) (R++[a]).length ((R++[a]).map (Value.int .i64)):=by simpa using aV
    have o:=(jg c k (.slice (some ⟨i,m,none⟩) s.ep.length cap)).below u.o.1 hb;have an:=pZ (jg c k (.slice (some ⟨i,m,none⟩) s.ep.length cap)) o a0 (fun b e=>A.o b e)
    have U:b8 F w d am:=⟨((u.o.2.below hb).fr.alloc _).grown a0 (fun b e=>aJ (cn aR b e.symm).1),u.o.2.sub⟩
    have aF:ay (∀b,some b=(Value.slice (ak b4) (R++[a]).length a1).ownBlock->¬d b):=fun b e bY=>by
     have ck:=bx.imp id (fun e=>by simpa[Value.ownBlock] using e)
     simp[Value.ownBlock] at e;subst e;rcases ck with e|e
     ·exact A.o _ e bY
     ·have:=(jg c k (.slice (some ⟨i,m,none⟩) s.ep.length cap)).lt o _ bY;omega
    clear o aV a0 bx aR p hb;go_wp2_with fail;go_roundw;exact⟨j+1,R++[a],s1,ak b4,a1,d,V,af,O,Z,aB,an,U,aF,D⟩
    simp[intOf];omega
  ·obtain rfl:j=s.ep.length:=V;rw[bm] at C;obtain⟨bi,g⟩:=be;obtain⟨_,_,_,_,_,_,cv,bZ,lk⟩:=ey g;have cw:=bZ 6;obtain⟨b0,b1⟩:=yj g (v1:=.slice ar R.length f) (l:=R) (Fr.refl _ wr) (eV p (fun _ _=>aX _)) (fun b e=>aJ (A.o b e))
   have sU:=dq b0 (q.fr.trans b1 q.sub)
   have xy:ay (∀b,some b=(Value.slice ar R.length f).ownBlock->w.heap.size<=b):=fun b e=>(cn p b e).1;have xx:=hide q.sub;have E2:ay ((k.kv s).1=decide (R.length<s.ep.length)/\(k.kv s).2={s1 with ep:=R}):=by have E:=bd.o;rw[C.o] at E;rw[E];exact⟨rfl,rfl⟩
   clear b0 b1 g q p C bd bZ;by_cases hll:R.length<s.ep.length
   ·go_wp2_with fail;exact qh
   ·go_wp2_with fail;exact qh
end
def dP (c:e9)(k:b9):dr cu:=xK (eI c k) (fun s=>cV k s)
abbrev dl (c:e9):Obj:=.cells #[aj c.pk] 137 (0,0)
abbrev kl (c:e9):fQ:=⟨142,#[aj c.pk],#[]⟩
abbrev l6 (c:e9):fQ:=⟨80,#[aj c.pk],#[]⟩
abbrev jy (fv:fQ):Obj:=.cells #[fv.v] 147 (0,0)
abbrev iV (bx:Nat):fQ:=⟨153,#[],#[aj bx]⟩
abbrev ig (b:Nat):fQ:=⟨155,#[],#[aj b]⟩
abbrev jh (c:e9):fQ:=⟨156,#[aj c.pk],#[]⟩
theorem tA:dN 153:=gb func153 ae rfl
theorem tC:dN 155:=gb func155 ae rfl
theorem tD:dN 156:=gb func156 ae rfl
section
variable {c:e9}{k:b9}{F:Nat->Prop}{s:cu}{w:ax}
theorem tE (fv:fQ)(w:ax)(p:Nat):
 Calls prog 79 #[aj p,fv.v] w fun e w'=>e=.returned (.agg #[(iV w.heap.size).v,(ig (w.heap.size+1)).v,.func (.func 156) #[aj p] #[]])/\w'.heap[w.heap.size]?=some (.cells #[aj p] 137 (0,0))/\w'.heap[w.heap.size+1]?=some (jy fv)/\Below w.heap.size w w':=by
 obtain⟨f,b,c⟩:=fv;go_enter func79,ntmps79;go_wp2_with fail;refine a4 (v:=.agg #[(iV w.heap.size).v,(ig (w.heap.size+1)).v,.func (.func 156) #[aj p] #[]]) (by simp[results,results79,go_sem]) rfl ⟨rfl,?_,?_,(((aH _ w).alloc bW _).alloc Z _).alloc (by simp;omega) _⟩
 ·rw[aS _ _ _ (by simp;omega),aS _ _ _ Z];exact aO _ _
 ·rw[aS _ _ _ Z];have:=aO (w.alloc (.cells #[.pointer (some ⟨p,0,none⟩)] 137)) (.cells #[.func (.func f) b c] 147)
  simpa using this
theorem tH:k9 (dP c k) (fun _=>True) (jh c).f (jh c).b (jh c).c k.nw:=by
 rintro F s w x _ ⟨⟨vt,b,h⟩,_⟩
 exact yl h x
def b9.mp (k:b9)(s:cu)(x:Int):Int×cu:=(x,k.ma s x)
theorem yp (f:Nat):nT (da (dP c k) f (jy (kl c))) (fun _=>True) (ig f).f (ig f).b (ig f).c k.mp:=by
 rintro F s w x _ ⟨u,⟨h,j⟩,l,hn,o⟩
 have P:=pi h j x;have c0:w.cell? (aq f 0)=some (kl c).v:=aA l
 have t:=hide (j.ma x).1;have g:=g7 l hn o;clear h j l hn o;show Calls prog 155 #[ah x,aj f] w _;go_enter func155,ntmps155;go_wp2_with fail;refine P.mono ?_;clear P;rintro e w1 ⟨m,rfl,p,i⟩
 have q:=(i.fr.block f (lt_of_some g.o.1) g.o.2.1).trans g.o.1;have n:ay ((da (dP c k) f (jy (kl c))).J (fun b=>m b\/b=f) (k.ma s x) w1/\Fr F w w1/\∀b,(m b\/b=f)->F b\/w.heap.size<=b):=by
  refine⟨⟨m,⟨p,t.o⟩,q,fun d=>(i.sub _ d).elim g.o.2.1 (fun d=>by have:=lt_of_some g.o.1;omega),fun b=>Iff.rfl⟩,i.fr.mono (fun b d=>(g.o.2.2 b).2 (aK d)),fun b d=>?_⟩
  rcases d with d|d
  ·exact(i.sub b d).imp (fun d=>(g.o.2.2 b).2 (aK d)) id
  ·exact aK ((g.o.2.2 b).2 (aJ d))
 clear p i q;go_wp2_with fail;go_ret;exact⟨_,rfl,n.o.1,n.o.2.1,n.o.2.2⟩
end
def b9.eJ (k:b9)(s:cu):cu:=k.lm (k.lost s+s.td.length+1) s
def b9.wa (k:b9)(t:cu×List b7):(cu×List b7)×Bool:=gJ k.al k.mp t t.2.length
def b9.ph (k:b9)(s:cu):Nat:=k.lost s+s.td.length+s.ep.length
def b9.mu (k:b9)(s:cu):Nat:=k.lost s+k.ph s
def b9.cW (k:b9):Nat->cu×List b7->cu×List b7
 |0,t=>t
 |n+1,t=>
  if(k.kv (k.eJ t.1)).1=true then k.cW n ((k.kv (k.eJ t.1)).2,t.2)
  else if(k.wa ((k.kv (k.eJ t.1)).2,t.2)).2=true then k.cW n (k.wa ((k.kv (k.eJ t.1)).2,t.2)).1
  else(k.wa ((k.kv (k.eJ t.1)).2,t.2)).1
def b9.sp (k:b9)(t:cu×List b7):cu×List b7:=k.cW (k.mu t.1+1) t
def b9.ke (k:b9)(t:cu×List b7)(x:Int):Int×(cu×List b7):=(x,k.sp (k.ma t.1 x,t.2))
structure dt (k:b9)(s t:cu):Prop where
 eX:cV k t
 lo:k.lost t<=k.lost s
 ph:k.ph t<=k.ph s
section
variable {k:b9}{s t u:cu}
theorem dt.refl (h:cV k s):dt k s s:=⟨h,aD _,aD _⟩
theorem dt.trans (h:dt k s t)(j:dt k t u):dt k s u:=⟨j.eX,aT j.lo h.lo,aT j.ph h.ph⟩
theorem dt.mu (h:dt k s t):k.mu t<=k.mu s:=by have b:=h.lo;have c:=h.ph;unfold b9.mu;omega
theorem yq (h:cV k s)(x:Int):k.cS s x=true->k.lost (k.ma s x)<k.lost s:=fun c=>by
 have:=b9.yh h.nd c (fun a ha=>(h.ps a ha).1)
 omega
theorem dt.ma (h:cV k s)(x:Int):dt k s (k.ma s x):=by
 obtain⟨b,f,d⟩:=h.ma x;refine⟨b,?_,?_⟩
 ·by_cases c:k.cS s x=true
  ·exact Nat.le_of_lt (yq h x c)
  ·have e:k.ma s x=s:=by unfold b9.ma;rw[aG c]
   rw[e];exact aD _
 ·unfold b9.ph;rw[d];omega
theorem dt.e8 (h:cV k s)(a:Int):∀n,dt k s (k.e8 s a n)
 |0=>dt.refl h
 |n+1=>(dt.e8 h a n).trans (dt.ma (dt.e8 h a n).eX _)
theorem Ft (h:cV k s)(a:Int):k.lost (k.lk s a)<=k.lost s:=by
 unfold b9.lk;split
 ·exact(dt.e8 h a _).lo
 ·split
  ·exact(dt.ma h _).lo
  ·split
   ·exact aD _
   ·exact aD _
theorem dt.l1 (h:cV k s)(hl:0<s.td.length):dt k s (k.l1 s):=by
 obtain⟨c,d⟩:=h.l1 hl;have hm:s.td.getD (s.td.length-1) 0∈s.td:=by exact tu
 have hs:=h.sum;have e:(s.td.take (s.td.length-1)).length=s.td.length-1:=by rw[bv];omega
 have h0:cV k {s with td:=s.td.take (s.td.length-1)}:=⟨h.nd,h.ps,fun a ha=>h.td a (bA ha),h.ep,h.tl,by show k.lost s+(s.td.take _).length+s.ep.length<=_;omega⟩
 have b:=(h0.lk (h.td _ hm) (by show k.lost s+(s.td.take _).length+s.ep.length+1<=_;omega)).2.2;have b:(k.l1 s).ep.length<=s.ep.length+1:=b;refine⟨c,(Ft h0 _),?_⟩
 unfold b9.ph;omega
theorem dt.lm:∀(n:Nat){s:cu},cV k s->dt k s (k.lm n s)
 |0,s,h=>dt.refl h
 |n+1,s,h=>by
  unfold b9.lm;by_cases c:0<s.td.length
  ·rw[aI c];exact(dt.l1 h c).trans (dt.lm n (dt.l1 h c).eX)
  ·rw[aG c];exact dt.refl h
theorem dt.eJ (h:cV k s):dt k s (k.eJ s):=dt.lm _ h
theorem Fu (h:cV k s):(k.eJ s).td=[]:=(cV.lm _ h).2.1 V
theorem dt.iD:∀(l:List Int){t:List Int×cu},cV k t.2->dt k t.2 (l.foldl k.cP t).2
 |[],t,h=>dt.refl h
 |a::l,t,h=>by
  have b:dt k t.2 (k.cP t a).2:=by
   unfold b9.cP;split
   ·exact dt.refl h
   ·exact dt.ma h _
  exact b.trans (dt.iD l b.eX)
theorem dt.kv (h:cV k s):dt k s (k.kv s).2/\((k.kv s).1=true->k.mu (k.kv s).2<k.mu s):=by
 obtain⟨b,f,g,c⟩:=h.kv;have d:k.lost (k.kv s).2<=k.lost s:=(dt.iD s.ep h).lo;refine⟨⟨b,d,by unfold b9.ph;omega⟩,fun e=>?_⟩
 have:=c e;unfold b9.mu b9.ph;omega
theorem ys:∀(l:List Nat)(t:(cu×List b7)×Bool),cV k t.1.1->dt k t.1.1 (l.foldl (dC k.al k.mp) t).1.1/\(l.foldl (dC k.al k.mp) t).1.2.length=t.1.2.length/\((l.foldl (dC k.al k.mp) t).2=true->t.2=true\/k.lost (l.foldl (dC k.al k.mp) t).1.1<k.lost t.1.1)
 |[],t,h=>⟨dt.refl h,rfl,fun e=>aK e⟩
 |i::l,t,h=>by
  have key:dt k t.1.1 (dC k.al k.mp t i).1.1/\(dC k.al k.mp t i).1.2.length=t.1.2.length/\((dC k.al k.mp t i).2=true->t.2=true\/k.lost (dC k.al k.mp t i).1.1<k.lost t.1.1):=by
   unfold dC;split
   ·exact⟨dt.refl h,rfl,fun e=>aK e⟩
   ·rename_i c;refine⟨dt.ma h _,Z,fun _=>aJ (yq h _ ?_)⟩
    rw[Bool.or_eq_true] at c;cases hj:k.cS t.1.1 _
    ·exact absurd (aK (by unfold b9.al;rw[hj];rfl)) c
    ·rfl
  obtain⟨k1,f,g⟩:=key;obtain⟨d,j2,cA⟩:=ys l _ k1.eX;refine⟨k1.trans d,j2.trans f,fun e=>?_⟩
  rcases cA e with b|b
  ·rcases g b with b|b
   ·exact aK b
   ·exact aJ (Nat.lt_of_le_of_lt d.lo b)
  ·exact aJ (aM b k1.lo)
theorem dt.wa {t:cu×List b7}(h:cV k t.1):dt k t.1 (k.wa t).1.1/\(k.wa t).1.2.length=t.2.length/\((k.wa t).2=true->k.mu (k.wa t).1.1<k.mu t.1):=by
 obtain⟨b,c,d⟩:=ys _ (t,false) h;have b:dt k t.1 (k.wa t).1.1:=b;refine⟨b,c,fun e=>?_⟩
 have f:k.lost (k.wa t).1.1<k.lost t.1:=(d e).resolve_left Z;have g:=b.ph;unfold b9.mu;omega
end
end Go.Proofs.YtpkjkjhanlbcoaaGreat
