import Derived.Test.YtpkjkjhanlbcoaaGreatJ12
import Derived.Deep.LoopGhost
namespace Go.Proofs.YtpkjkjhanlbcoaaGreat
set_option maxRecDepth 100000
set_option maxHeartbeats 4000000
open Tryz
open Go.RowKit W Kp cf
theorem te {P:Prop}(h:P:=by rw[aE,aL V];exact a6 _):P:=h
structure b9 where
 a:Wc
 s:d9
 Y:List Int
 G:List Int
structure cu where
 f:Int->Int
 td:List Int
 ep:List Int
def b9.T (k:b9):List Int:=k.G++k.Y
def b9.ld (k:b9)(x:Int):Int:=Proofs.YtpkjkjhanlbcoaaGreat.ld k.a.N k.s.y k.s.g k.s.ws x
def b9.jt (k:b9)(x:Int):Bool:=cY x&&k.T.contains (cg x)
def b9.cS (k:b9)(s:cu)(x:Int):Bool:=k.jt x&&(s.f (cg x)==-1)
def b9.nw (k:b9)(s:cu)(x:Int):Int:=if(k.jt x&&!(s.f (cg x)==-1))=true then ew 3 (s.f (cg x)) else x
def b9.ma (k:b9)(s:cu)(x:Int):cu:=if k.cS s x=true then {s with f:=gz s.f (cg x) (cg x),td:=s.td++[cg x]} else s
def b9.e7 (k:b9)(s:cu)(a:Int):Nat->cu
 |0=>s
 |n+1=>k.ma (k.e7 s a n) (k.ld (a+1+n))
def b9.lk (k:b9)(s:cu)(a:Int):cu:=
 if pk (k.ld a)=1\/pk (k.ld a)=2 then k.e7 s a (pf (k.ld a)).toNat
 else if pk (k.ld a)=3 then k.ma s (k.ld (a+2))
 else if pk (k.ld a)=4 then {s with ep:=s.ep++[a]} else s
def b9.l1 (k:b9)(s:cu):cu:=k.lk {s with td:=s.td.take (s.td.length-1)} (s.td.getD (s.td.length-1) 0)
def b9.lm (k:b9):Nat->cu->cu
 |0,s=>s
 |n+1,s=>if 0<s.td.length then k.lm n (k.l1 s) else s
def b9.cP (k:b9)(t:List Int×cu)(a:Int):List Int×cu:=if k.cS t.2 (k.ld (a+1))=true then(t.1++[a],t.2) else(t.1,k.ma t.2 (k.ld (a+2)))
def b9.du (k:b9)(s:cu)(l:List Int):List Int×cu:=l.foldl k.cP ([],s)
def b9.kv (k:b9)(s:cu):Bool×cu:=(decide ((k.du s s.ep).1.length<s.ep.length),{(k.du s s.ep).2 with ep:=(k.du s s.ep).1})
def b9.al (k:b9)(s:cu)(x:Int):Bool:=!k.cS s x
def b9.lost (k:b9)(s:cu):Nat:=(k.T.filter (fun a=>s.f a==-1)).length
structure cV (k:b9)(s:cu):Prop where
 nd:k.T.Nodup
 ps:∀a∈k.T,0<=a/\a<=2000
 td:∀a∈s.td,a∈k.T
 ep:∀a∈s.ep,a∈k.T
 tl:k.T.length<=4000
 sum:k.lost s+s.td.length+s.ep.length<=k.T.length
section
variable {k:b9}{s:cu}
theorem b9.qw {x:Int}(h:k.cS s x=true):cY x=true/\cg x∈k.T/\s.f (cg x)=-1:=by unfold b9.cS b9.jt at h;simp only [Bool.and_eq_true] at h;exact⟨h.1.1,List.contains_iff_mem.1 h.1.2,by simpa using h.2⟩
theorem b9.x6 (hn:k.T.Nodup){x:Int}(h:k.cS s x=true)(h0:∀a∈k.T,0<=a):k.lost (k.ma s x)+1=k.lost s:=by
 obtain⟨_,b,c⟩:=b9.qw h;have e:(k.ma s x).f=gz s.f (cg x) (cg x):=by unfold b9.ma;rw[aI h]
 have hp:=h0 _ b;unfold b9.lost;rw[e,xe _ _ _ _ V];exact Dl _ _ (hn.filter _) (List.mem_filter.2 ⟨b,by rw[c];rfl⟩)
theorem cV.ma (h:cV k s)(x:Int):cV k (k.ma s x)/\k.lost (k.ma s x)+(k.ma s x).td.length=k.lost s+s.td.length/\(k.ma s x).ep=s.ep:=by
 by_cases c:k.cS s x=true
 ·have i:=b9.x6 h.nd c (fun a ha=>(h.ps a ha).1)
  obtain⟨_,g,_⟩:=b9.qw c;have f:(k.ma s x).td=s.td++[cg x]:=by unfold b9.ma;rw[aI c]
  have d:(k.ma s x).ep=s.ep:=by unfold b9.ma;rw[aI c]
  have hs:=h.sum;have j:(k.ma s x).td.length=s.td.length+1:=by rw[f];simp
  refine⟨⟨h.nd,h.ps,fun a ha=>?_,by rw[d];exact h.ep,h.tl,by rw[d];omega⟩,V,d⟩
  rw[f] at ha;rcases List.mem_append.1 ha with b|b
  ·exact h.td a b
  ·rw[bv] at b;rw[b];exact g
 ·have e:k.ma s x=s:=by unfold b9.ma;rw[aG c]
  rw[e];exact⟨h,rfl,rfl⟩
theorem cV.e7 (h:cV k s)(a:Int):∀n,cV k (k.e7 s a n)/\k.lost (k.e7 s a n)+(k.e7 s a n).td.length=k.lost s+s.td.length/\(k.e7 s a n).ep=s.ep
 |0=>⟨h,rfl,rfl⟩
 |n+1=>by obtain⟨b,c,d⟩:=cV.e7 h a n;obtain⟨e,j2,cA⟩:=b.ma _;exact⟨e,j2.trans c,cA.trans d⟩
theorem cV.lk (h:cV k s){a:Int}(ha:a∈k.T)(hr:k.lost s+s.td.length+s.ep.length+1<=k.T.length):cV k (k.lk s a)/\k.lost (k.lk s a)+(k.lk s a).td.length=k.lost s+s.td.length/\(k.lk s a).ep.length<=s.ep.length+1:=by
 unfold b9.lk;split
 ·obtain⟨d,e,f⟩:=h.e7 a _;exact⟨d,e,by rw[f];omega⟩
 ·split
  ·obtain⟨d,e,f⟩:=h.ma _;exact⟨d,e,by rw[f];omega⟩
  ·split
   ·refine⟨⟨h.nd,h.ps,h.td,fun b hb=>?_,h.tl,?_⟩,rfl,Z⟩
    ·rcases List.mem_append.1 hb with c|c
     ·exact h.ep b c
     ·rw[bv] at c;rw[c];exact ha
    ·show k.lost s+s.td.length+(s.ep++[a]).length<=_;rw[aX];simp;omega
   ·exact⟨h,rfl,V⟩
theorem cV.l1 (h:cV k s)(hl:0<s.td.length):cV k (k.l1 s)/\k.lost (k.l1 s)+(k.l1 s).td.length+1=k.lost s+s.td.length:=by
 have hm:s.td.getD (s.td.length-1) 0∈s.td:=by exact te
 have hs:=h.sum;have e:(s.td.take (s.td.length-1)).length=s.td.length-1:=by rw[bw];omega
 have h0:cV k {s with td:=s.td.take (s.td.length-1)}:=⟨h.nd,h.ps,fun a ha=>h.td a (List.mem_of_mem_take ha),h.ep,h.tl,by show k.lost s+(s.td.take _).length+s.ep.length<=_;omega⟩
 have d:k.lost {s with td:=s.td.take (s.td.length-1)}=k.lost s:=rfl;obtain⟨b,c,_⟩:=h0.lk (h.td _ hm) (by show k.lost s+(s.td.take _).length+s.ep.length+1<=_;omega)
 refine⟨b,?_⟩
 unfold b9.l1;dsimp only at c;omega
theorem cV.lm:∀(n:Nat){s:cu},cV k s->cV k (k.lm n s)/\(k.lost s+s.td.length<n->(k.lm n s).td=[])/\k.lost (k.lm n s)+(k.lm n s).td.length<=k.lost s+s.td.length
 |0,s,h=>⟨h,fun e=>absurd e V,aD _⟩
 |n+1,s,h=>by
  unfold b9.lm;by_cases c:0<s.td.length
  ·rw[aI c];obtain⟨b,f⟩:=h.l1 c;obtain⟨d,j2,cA⟩:=cV.lm n b;exact⟨d,fun e=>j2 V,V⟩
  ·rw[aG c];refine⟨h,fun _=>?_,aD _⟩
   cases ht:s.td with
   |nil=>rfl
   |cons x l=>rw[ht] at c;simp at c
theorem cV.cP {t:List Int×cu}(h:cV k t.2){a:Int}(ha:a∈k.T)(ht:∀b∈t.1,b∈k.T):cV k (k.cP t a).2/\(k.cP t a).1.length<=t.1.length+1/\(∀b∈(k.cP t a).1,b∈k.T)/\k.lost (k.cP t a).2+(k.cP t a).2.td.length=k.lost t.2+t.2.td.length/\(k.cP t a).2.ep=t.2.ep:=by
 unfold b9.cP;split
 ·refine⟨h,Z,fun b hb=>?_,rfl,rfl⟩
  rcases List.mem_append.1 hb with c|c
  ·exact ht b c
  ·rw[bv] at c;rw[c];exact ha
 ·obtain⟨d,e,f⟩:=h.ma _;exact⟨d,Z,ht,e,f⟩
theorem cV.iC:∀(l:List Int){t:List Int×cu},cV k t.2->(∀a∈l,a∈k.T)->(∀b∈t.1,b∈k.T)->cV k (l.foldl k.cP t).2/\(l.foldl k.cP t).1.length<=t.1.length+l.length/\(∀b∈(l.foldl k.cP t).1,b∈k.T)/\k.lost (l.foldl k.cP t).2+(l.foldl k.cP t).2.td.length=k.lost t.2+t.2.td.length/\(l.foldl k.cP t).2.ep=t.2.ep
 |[],t,h,_,ht=>⟨h,Z,ht,rfl,rfl⟩
 |a::l,t,h,hl,ht=>by obtain⟨c,i,d,e,f⟩:=h.cP (hl a Z) ht;obtain⟨g,j2,cA,cE,dC⟩:=cV.iC l c (fun b hb=>hl b (aO _ hb)) d;rw[a8];exact⟨g,by simp only [List.length_cons];omega,cA,cE.trans e,dC.trans f⟩
theorem cV.kv (h:cV k s):cV k (k.kv s).2/\k.lost (k.kv s).2+(k.kv s).2.td.length=k.lost s+s.td.length/\(k.kv s).2.ep.length<=s.ep.length/\((k.kv s).1=true->(k.kv s).2.ep.length<s.ep.length):=by
 obtain⟨j,d,l,c,m⟩:=cV.iC s.ep (t:=([],s)) h h.ep (fun b hb=>by cases hb)
 have f:k.lost (k.kv s).2=k.lost (k.du s s.ep).2:=rfl;have g:(k.kv s).2.td=(k.du s s.ep).2.td:=rfl;have i:(k.kv s).2.ep=(k.du s s.ep).1:=rfl;have d:(k.du s s.ep).1.length<=0+s.ep.length:=d;have c:k.lost (k.du s s.ep).2+(k.du s s.ep).2.td.length=k.lost s+s.td.length:=c;have hs:=h.sum;refine⟨⟨h.nd,h.ps,j.td,l,h.tl,?_⟩,by rw[f,g];exact c,by rw[i];omega,fun e=>?_⟩
 ·rw[f,g,i];omega
 ·exact of_decide_eq_true e
end
structure e8 where
 pk:Nat
 ch:Nat
 bs:Nat
 yv:Value
 ov:Value
structure o7 (c:e8)(k:b9)(o8:Nat->Prop)(own:Nat->Nat)(s:cu)(vt cr:Value)(w:ax):Prop where
 wd:(dX k.a).J o8 k.s w
 w1:∀b,o8 b↔own b=1
 cb:w.heap[c.pk]?=some (.cells #[aj k.a.pw,c.yv,c.ov,.map (some c.ch),aj c.bs,vt,cr] 140 (0,0))
 k1:own c.pk=5
 mp:Mp w c.ch k.T s.f
 m1:own c.ch=6
 tr:w.ownsRow 0 3 1 vt s.td.length (s.td.map (Value.int .i64))
 gS:∀b,some b=vt.ownBlock->own b=7
 er:w.ownsRow 0 3 1 cr s.ep.length (s.ep.map (Value.int .i64))
 eo:∀b,some b=cr.ownBlock->own b=8
 yr:w.ownsRow 0 3 1 c.yv k.Y.length (k.Y.map (Value.int .i64))
 ia:∀b,some b=c.yv.ownBlock->own b=9
 gr:w.ownsRow 0 3 1 c.ov k.G.length (k.G.map (Value.int .i64))
 go:∀b,some b=c.ov.ownBlock->own b=10
 lt:∀b,own b≠0->b<w.heap.size
section
variable {c:e8}{k:b9}{o8:Nat->Prop}{own:Nat->Nat}{s:cu}{vt cr:Value}{w w':ax}
theorem o7.but (h:o7 c k o8 own s vt cr w)(L:Nat->Prop)(hs:w.heap.size<=w'.heap.size)(hk:∀b,b<w.heap.size->own b≠0->¬L (own b)->w'.heap[b]?=w.heap[b]?)
 (hK:L 5->w'.heap[c.pk]?=some (.cells #[aj k.a.pw,c.yv,c.ov,.map (some c.ch),aj c.bs,vt,cr] 140 (0,0)))
 (hM:L 6->Mp w' c.ch k.T s.f)(f:L 7->w'.ownsRow 0 3 1 vt s.td.length (s.td.map (Value.int .i64)))(hE:L 8->w'.ownsRow 0 3 1 cr s.ep.length (s.ep.map (Value.int .i64)))(g:¬L 1)(i:¬L 9)(j:¬L 10):o7 c k o8 own s vt cr w' where
 wd:=(dX k.a).keep h.wd hs (fun b d=>hk b ((dX k.a).lt h.wd b d) (by rw[(h.w1 b).1 d];decide) (by rw[(h.w1 b).1 d];exact g))
 w1:=h.w1
 cb:=by exact xj
 k1:=h.k1
 mp:=by
  by_cases l:L 6
  ·exact hM l
  ·exact h.mp.same (hk _ h.mp.lt (by rw[h.m1];decide) (by rw[h.m1];exact l))
 m1:=h.m1
 tr:=by
  by_cases l:L 7
  ·exact f l
  ·exact cH h.tr (fun b e=>hk b (cn h.tr b e).2 (by rw[h.gS b e];decide) (by rw[h.gS b e];exact l))
 gS:=h.gS
 er:=by exact xi
 eo:=h.eo
 yr:=cH h.yr (fun b e=>hk b (cn h.yr b e).2 (by rw[h.ia b e];decide) (by rw[h.ia b e];exact i))
 ia:=h.ia
 gr:=cH h.gr (fun b e=>hk b (cn h.gr b e).2 (by rw[h.go b e];decide) (by rw[h.go b e];exact j))
 go:=h.go
 lt:=fun b hb=>aM (h.lt b hb) hs
end
def cT (c:e8)(k:b9)(vt f:Value):dr cu where
 J F s w:=∃d own,o7 c k d own s vt f w/\∀b,F b↔own b≠0
 lt:=by rintro F s w ⟨d,own,h,e⟩ b hb;exact h.lt b ((e b).1 hb)
 keep:=by rintro F s w w' ⟨d,own,h,e⟩ hs hk;exact⟨d,own,h.but (fun _=>False) hs (fun b _ h0 _=>hk b ((e b).2 h0)) False.elim False.elim False.elim False.elim id id id,e⟩
def eI (c:e8)(k:b9):dr cu where
 J F s w:=∃vt b,(cT c k vt b).J F s w
 lt:=by
  rintro F s w ⟨vt,b,h⟩
  exact(cT c k vt b).lt h
 keep:=by rintro F s w w' ⟨vt,b,h⟩ hs hk;exact⟨vt,b,(cT c k vt b).keep h hs hk⟩
section
variable {c:e8}{k:b9}{F:Nat->Prop}{s:cu}{vt cr:Value}{w:ax}
theorem ey (h:(cT c k vt cr).J F s w):w.cell? (aq c.pk 0)=some (aj k.a.pw)/\w.cell? (aq c.pk 1)=some c.yv/\w.cell? (aq c.pk 2)=some c.ov/\w.cell? (aq c.pk 3)=some (.map (some c.ch))/\w.cell? (aq c.pk 4)=some (aj c.bs)/\w.cell? (aq c.pk 5)=some vt/\w.cell? (aq c.pk 6)=some cr/\(∀i,w.frozen? (aq c.pk i)=false)/\c.pk<w.heap.size:=by
 obtain⟨d,own,h,_⟩:=h;have b:=h.cb;refine⟨?_,?_,?_,?_,?_,?_,?_,fun i=>?_,lt_of_some b⟩
 all_goals first|simp[World.cell?,b]|simp[World.frozen?,b]
theorem gB (h:(cT c k vt cr).J F s w):At w k.a.p k.a.q k.a.N k.a.O k.s.y k.s.g k.s.ws/\w.cell? (aq k.a.pw 0)=some (aj k.a.p)/\w.cell? (aq k.a.pw 3)=some (.slice (ak k.a.nb) 12 12)/\∀i,i<12->w.cell? (aq k.a.nb i)=some (ah (k.s.rs.getD i 0)):=by obtain⟨b,own,h,_⟩:=h;obtain⟨c0,_,_,c3,_,_,_,rt⟩:=jO h.wd;exact⟨(kI h.wd).1,c0,c3,fun i hi=>(rt i hi).1⟩
theorem o9 (h:(cT c k vt cr).J F s w):Mp w c.ch k.T s.f/\∀w' f,Mp w' c.ch k.T f->Fr (fun b=>b=c.ch) w w'->(cT c k vt cr).J F {s with f:=f} w'/\b8 F w F w':=by
 obtain⟨i,own,h,j⟩:=h;refine⟨h.mp,fun w' f hm fr=>⟨⟨i,own,?_,j⟩,⟨fr.mono (fun b e=>(j b).2 (by rw[e,h.m1];decide)),fun _ d=>aK d⟩⟩⟩
 have g:o7 c k i own {s with f:=f} vt cr w':=by
  have hk:∀b,b<w.heap.size->own b≠6->_=_:=fun b hb hn=>fr.block b hb (fun e=>hn (by rw[e];exact h.m1))
  exact {
   wd:=(dX k.a).keep h.wd fr.size (fun b d=>hk b ((dX k.a).lt h.wd b d) (by rw[(h.w1 b).1 d];decide)),w1:=h.w1
   cb:=(hk _ (lt_of_some h.cb) (by rw[h.k1];decide)).trans h.cb,k1:=h.k1,mp:=hm,m1:=h.m1
   tr:=cH h.tr (fun b e=>hk b (cn h.tr b e).2 (by rw[h.gS b e];decide)),gS:=h.gS
   er:=cH h.er (fun b e=>hk b (cn h.er b e).2 (by rw[h.eo b e];decide)),eo:=h.eo
   yr:=cH h.yr (fun b e=>hk b (cn h.yr b e).2 (by rw[h.ia b e];decide)),ia:=h.ia
   gr:=cH h.gr (fun b e=>hk b (cn h.gr b e).2 (by rw[h.go b e];decide)),go:=h.go
   lt:=fun b hb=>aM (h.lt b hb) fr.size}
 exact g
end
section
variable {c:e8}{k:b9}{F:Nat->Prop}{s:cu}{vt cr:Value}{w:ax}
theorem EY {v0:Value}(h:(cT c k v0 cr).J F s w){v1:Value}{l:List Int}{w1:ax}(g:Fr (fun b=>some b=v0.ownBlock) w w1)(ho:w1.ownsRow 0 3 1 v1 l.length (l.map (Value.int .i64)))(hn:∀b,some b=v1.ownBlock->some b=v0.ownBlock\/¬F b):
 (cT c k v1 cr).J (fun b=>F b\/some b=v1.ownBlock) {s with td:=l} (w1.setCell ⟨c.pk,5,none⟩ v1)/\Fr F w (w1.setCell ⟨c.pk,5,none⟩ v1):=by
 obtain⟨n,own,h,i⟩:=h;have sz:(w1.setCell ⟨c.pk,5,none⟩ v1).heap.size=w1.heap.size:=by simp[World.setCell]
 have hb1:∀b,b<w.heap.size->own b≠7->_=_:=fun b hb hn=>g.block b hb (fun e=>hn (h.gS b e))
 have hb:∀b,b<w.heap.size->own b≠7->own b≠5->(w1.setCell ⟨c.pk,5,none⟩ v1).heap[b]?=w.heap[b]?:=fun b hb m o=>(aU _ _ _ _ (fun e=>o (by have e:=e;rw[e];exact h.k1))).trans (hb1 b hb m)
 have hnw:∀b,some b=v1.ownBlock->_:=fun b e=>(hn b e).elim (fun e=>aK (h.gS b e)) (fun hl=>aJ (Classical.byContradiction (fun c=>hl ((i b).2 c))))
 have f:∀b j,own b=j->j≠7->j≠0->(if some b=v1.ownBlock then 7 else own b)=j:=fun b j e m h0=>by exact qe
 have p:=fun b e=>(cn ho b e).2;refine⟨⟨n,fun b=>if some b=v1.ownBlock then 7 else own b,?_,fun b=>?_⟩,?_⟩
 ·exact {
   wd:=(dX k.a).keep h.wd (by rw[sz];exact g.size) (fun b d=>hb b ((dX k.a).lt h.wd b d) (by rw[(h.w1 b).1 d];decide) (by rw[(h.w1 b).1 d];decide))
   w1:=fun b=>⟨fun d=>f _ _ ((h.w1 b).1 d) aa aa,fun d=>by
    by_cases e:some b=v1.ownBlock
    ·rw[aI e] at d;omega
    ·rw[aG e] at d;exact(h.w1 b).2 d⟩
   k1:=f _ _ h.k1 aa aa,m1:=f _ _ h.m1 aa aa
   cb:=by exact qd
   mp:=h.mp.same (hb _ h.mp.lt (by rw[h.m1];decide) (by rw[h.m1];decide))
   tr:=cH ho (fun b e=>aU _ _ _ _ (fun q=>by
    have:=hnw b e;rw[q,h.k1] at this
    omega))
   gS:=fun b e=>by rw[aI e]
   er:=cH h.er (fun b e=>hb b (cn h.er b e).2 (by rw[h.eo b e];decide) (by rw[h.eo b e];decide))
   eo:=fun b e=>f _ _ (h.eo b e) aa aa
   yr:=cH h.yr (fun b e=>hb b (cn h.yr b e).2 (by rw[h.ia b e];decide) (by rw[h.ia b e];decide))
   ia:=fun b e=>f _ _ (h.ia b e) aa aa
   gr:=cH h.gr (fun b e=>hb b (cn h.gr b e).2 (by rw[h.go b e];decide) (by rw[h.go b e];decide))
   go:=fun b e=>f _ _ (h.go b e) aa aa
   lt:=fun b hb=>by
    rw[sz];by_cases e:some b=v1.ownBlock
    ·exact p b e
    ·rw[aG e] at hb;exact aM (h.lt b hb) g.size}
 ·by_cases e:some b=v1.ownBlock
  ·simp[e]
  ·simp[e,i b]
 ·refine(g.mono (fun b e=>(i b).2 (by rw[h.gS b e];decide))).trans ((Fr.refl (fun b=>b=c.pk) w1).set _ 5 _ rfl) (fun b e=>aK ((i b).2 (by rw[e,h.k1];decide)))
theorem x7 {v0:Value}(h:(cT c k v0 cr).J F s w){v1:Value}{l:List Int}{w1:ax}(f:Fr (fun b=>some b=v0.ownBlock) w w1)(ho:w1.ownsRow 0 3 1 v1 l.length (l.map (Value.int .i64)))(hn:∀b,some b=v1.ownBlock->some b=v0.ownBlock\/w.heap.size<=b):
 ∃d,(cT c k v1 cr).J d {s with td:=l} (w1.setCell ⟨c.pk,5,none⟩ v1)/\b8 F w d (w1.setCell ⟨c.pk,5,none⟩ v1):=by
 obtain⟨g,i⟩:=EY h f ho (fun b e=>(hn b e).imp id (fun m hb=>by have:=(cT c k v0 cr).lt h b hb;omega))
 obtain⟨n,own,hm,j⟩:=h;exact⟨_,g,i,fun b hb=>hb.elim aK (fun e=>(hn b e).imp (fun e=>(j b).2 (by rw[hm.gS b e];decide)) id)⟩
theorem x8 {v0:Value}(h:(cT c k vt v0).J F s w){v1:Value}{l:List Int}{w1:ax}(g:Fr (fun b=>some b=v0.ownBlock) w w1)(ho:w1.ownsRow 0 3 1 v1 l.length (l.map (Value.int .i64)))(hn:∀b,some b=v1.ownBlock->some b=v0.ownBlock\/¬F b):
 (cT c k vt v1).J (fun b=>F b\/some b=v1.ownBlock) {s with ep:=l} (w1.setCell ⟨c.pk,6,none⟩ v1)/\Fr F w (w1.setCell ⟨c.pk,6,none⟩ v1):=by
 obtain⟨n,own,h,i⟩:=h;have sz:(w1.setCell ⟨c.pk,6,none⟩ v1).heap.size=w1.heap.size:=by simp[World.setCell]
 have hb1:∀b,b<w.heap.size->own b≠8->_=_:=fun b hb hn=>g.block b hb (fun e=>hn (h.eo b e))
 have hb:∀b,b<w.heap.size->own b≠8->own b≠5->(w1.setCell ⟨c.pk,6,none⟩ v1).heap[b]?=w.heap[b]?:=fun b hb m o=>(aU _ _ _ _ (fun e=>o (by have e:=e;rw[e];exact h.k1))).trans (hb1 b hb m)
 have hnw:∀b,some b=v1.ownBlock->_:=fun b e=>(hn b e).elim (fun e=>aK (h.eo b e)) (fun hl=>aJ (Classical.byContradiction (fun c=>hl ((i b).2 c))))
 have f:∀b j,own b=j->j≠8->j≠0->(if some b=v1.ownBlock then 8 else own b)=j:=fun b j e m h0=>by exact qe
 have p:=fun b e=>(cn ho b e).2;refine⟨⟨n,fun b=>if some b=v1.ownBlock then 8 else own b,?_,fun b=>?_⟩,?_⟩
 ·exact {
   wd:=(dX k.a).keep h.wd (by rw[sz];exact g.size) (fun b d=>hb b ((dX k.a).lt h.wd b d) (by rw[(h.w1 b).1 d];decide) (by rw[(h.w1 b).1 d];decide))
   w1:=fun b=>⟨fun d=>f _ _ ((h.w1 b).1 d) aa aa,fun d=>by
    by_cases e:some b=v1.ownBlock
    ·rw[aI e] at d;omega
    ·rw[aG e] at d;exact(h.w1 b).2 d⟩
   k1:=f _ _ h.k1 aa aa,m1:=f _ _ h.m1 aa aa
   cb:=by exact qd
   mp:=h.mp.same (hb _ h.mp.lt (by rw[h.m1];decide) (by rw[h.m1];decide))
   er:=cH ho (fun b e=>aU _ _ _ _ (fun q=>by
    have:=hnw b e;rw[q,h.k1] at this
    omega))
   eo:=fun b e=>by rw[aI e]
   tr:=cH h.tr (fun b e=>hb b (cn h.tr b e).2 (by rw[h.gS b e];decide) (by rw[h.gS b e];decide))
   gS:=fun b e=>f _ _ (h.gS b e) aa aa
   yr:=cH h.yr (fun b e=>hb b (cn h.yr b e).2 (by rw[h.ia b e];decide) (by rw[h.ia b e];decide))
   ia:=fun b e=>f _ _ (h.ia b e) aa aa
   gr:=cH h.gr (fun b e=>hb b (cn h.gr b e).2 (by rw[h.go b e];decide) (by rw[h.go b e];decide))
   go:=fun b e=>f _ _ (h.go b e) aa aa
   lt:=fun b hb=>by
    rw[sz];by_cases e:some b=v1.ownBlock
    ·exact p b e
    ·rw[aG e] at hb;exact aM (h.lt b hb) g.size}
 ·by_cases e:some b=v1.ownBlock
  ·simp[e]
  ·simp[e,i b]
 ·refine(g.mono (fun b e=>(i b).2 (by rw[h.eo b e];decide))).trans ((Fr.refl (fun b=>b=c.pk) w1).set _ 6 _ rfl) (fun b e=>aK ((i b).2 (by rw[e,h.k1];decide)))
theorem EZ {v0:Value}(h:(cT c k vt v0).J F s w){v1:Value}{l:List Int}{w1:ax}(f:Fr (fun b=>some b=v0.ownBlock) w w1)(ho:w1.ownsRow 0 3 1 v1 l.length (l.map (Value.int .i64)))(hn:∀b,some b=v1.ownBlock->some b=v0.ownBlock\/w.heap.size<=b):
 ∃d,(cT c k vt v1).J d {s with ep:=l} (w1.setCell ⟨c.pk,6,none⟩ v1)/\b8 F w d (w1.setCell ⟨c.pk,6,none⟩ v1):=by
 obtain⟨g,i⟩:=x8 h f ho (fun b e=>(hn b e).imp id (fun m hb=>by have:=(cT c k vt v0).lt h b hb;omega))
 obtain⟨n,own,hm,j⟩:=h;exact⟨_,g,i,fun b hb=>hb.elim aK (fun e=>(hn b e).imp (fun e=>(j b).2 (by rw[hm.eo b e];decide)) id)⟩
theorem m3 (h:(cT c k vt cr).J F s w):w.ownsRow 0 3 1 vt s.td.length (s.td.map (Value.int .i64))/\w.ownsRow 0 3 1 cr s.ep.length (s.ep.map (Value.int .i64))/\some c.pk≠vt.ownBlock/\some c.pk≠cr.ownBlock/\c.pk≠c.ch:=by
 obtain⟨d,own,h,_⟩:=h;refine⟨h.tr,h.er,fun e=>?_,fun e=>?_,fun e=>?_⟩
 ·have b:=h.gS _ e;rw[h.k1] at b;omega
 ·have b:=h.eo _ e;rw[h.k1] at b;omega
 ·have b:=h.k1;rw[e,h.m1] at b;omega
end
section
variable {c:e8}{k:b9}{vt cr:Value}{F:Nat->Prop}{s:cu}{w:ax}
theorem x9 (h:(cT c k vt cr).J F s w)(x:Int):
 Calls prog 219 #[aj c.pk,ah x] w fun e w'=>∃v,e=.returned (.tuple #[ah v,.bool (k.jt x)])/\(k.jt x=true->v=s.f (cg x))/\aw w w':=by
 have HJ:=hide h;have P:=nM x w;cases ha:cY x
 ·rw[ha] at P;have b:k.jt x=false:=by unfold b9.jt;rw[ha];rfl
  rw[b];go_enter func219,ntmps219;exact xv
 ·have b:k.jt x=k.T.contains (cg x):=by unfold b9.jt;rw[ha];rfl
  have d:=sK ha;rw[b];rw[ha] at P;generalize cg x=a at P d⊢;have xr:=je d.1 d.2;obtain⟨bt,hbt⟩:∃bt,bt=k.T.contains a:=⟨_,rfl⟩
  rw[<-hbt];go_enter func219,ntmps219;go_wp2_with fail;refine P.mono ?_;clear P;rintro e w1 ⟨rfl,hb1⟩
  have n7:=(cT c k vt cr).below HJ.out hb1;obtain⟨_,_,_,c1,_⟩:=ey n7;obtain⟨⟨D,o1,o2,o3⟩,_⟩:=o9 n7;exact xq
theorem o_ (h:(cT c k vt cr).J F s w)(x:Int):
 Calls prog 154 #[aj c.pk,ah x] w fun e w'=>e=.returned (.bool (k.cS s x))/\aw w w':=by
 have P:=x9 h x;cases hy:k.jt x
 ·have b:k.cS s x=false:=by unfold b9.cS;rw[hy];rfl
  rw[b];rw[hy] at P;go_enter func154,ntmps154;go_wp2_with fail;refine P.mono ?_;rintro e w1 ⟨v,rfl,_,hb1⟩
  go_wp2;go_ret;exact⟨rfl,hb1⟩
 ·have b:k.cS s x=(s.f (cg x)==-1):=by unfold b9.cS;rw[hy];rfl
  rw[b];rw[hy] at P;go_enter func154,ntmps154;exact qh
theorem x_ (h:(cT c k vt cr).J F s w)(x:Int):
 Calls prog 156 #[aj c.pk,ah x] w fun e w'=>e=.returned (ah (k.nw s x))/\aw w w':=by
 have P:=x9 h x;cases hy:k.jt x
 ·have b:k.nw s x=x:=by unfold b9.nw;rw[hy];simp
  rw[b];rw[hy] at P;go_enter func156,ntmps156;go_wp2_with fail;refine P.mono ?_;rintro e w1 ⟨v,rfl,_,hb1⟩
  go_wp2_with fail;go_ret;exact⟨rfl,hb1⟩
 ·rw[hy] at P;by_cases d:s.f (cg x)=-1
  ·have b:k.nw s x=x:=by unfold b9.nw;rw[hy,d];simp
   rw[b];rw[d] at P;go_enter func156,ntmps156;exact qh
  ·have b:k.nw s x=ew 3 (s.f (cg x)):=by unfold b9.nw;rw[hy,aI (by simp[d])]
   rw[b];generalize s.f (cg x)=a at P d⊢;go_enter func156,ntmps156;exact xu
end
def jh (c:e8)(k:b9)(b:Value):dr cu where
 J F s w:=∃vt,(cT c k vt b).J F s w
 lt:=by
  rintro F s w ⟨vt,h⟩
  exact(cT c k vt b).lt h
 keep:=by rintro F s w w' ⟨vt,h⟩ hs hk;exact⟨vt,(cT c k vt b).keep h hs hk⟩
section
variable {c:e8}{k:b9}{cr:Value}{F:Nat->Prop}{s:cu}{w:ax}
theorem ya (h:(jh c k cr).J F s w)(m:cV k s)(x:Int):
 Calls prog 142 #[aj c.pk,ah x] w fun e w'=>∃g,e=.returned (.tuple #[])/\(jh c k cr).J g (k.ma s x) w'/\b8 F w g w':=by
 obtain⟨vt,h⟩:=h;have P:=o_ h x;have u:=hide h;clear h;cases hl:k.cS s x
 ·have L:k.ma s x=s:=by unfold b9.ma;rw[hl];rfl
  rw[L];rw[hl] at P;go_enter func142,ntmps142;go_wp2_with fail;refine P.mono ?_;rintro e w1 ⟨rfl,d⟩
  have v:ay ((jh c k cr).J F s w1/\b8 F w F w1):=⟨⟨vt,(cT c k vt cr).below u.out d⟩,b8.of d⟩
  go_wp2_with fail;go_end0;exact⟨F,rfl,v.out.1,v.out.2⟩
 ·obtain⟨M,hi,N,O,Q⟩:=info_parts kE;obtain⟨l1,l2,A⟩:=b9.qw hl;have E:ay (k.ma s x={s with f:=gz s.f (cg x) (cg x),td:=s.td++[cg x]}):=by show _=_;unfold b9.ma;rw[aI hl]
  have n:=nM x;rw[l1] at n;have B:=m.ps _ l2;have a1:=m.tl;have a2:=m.sum;rw[hl] at P;generalize k.ma s x=s2 at E⊢;generalize cg x=a at E n l2 A B⊢;clear hl l1 A;go_enter func142,ntmps142;go_wp2_with fail;refine P.mono ?_;rintro e w1 ⟨rfl,d⟩
  go_wp2_with fail;refine(n w1).mono ?_;rintro e R ⟨rfl,S⟩
  have hb:=d.trans (S.mono d.size)
  have C:=(cT c k vt cr).below u.out hb;obtain⟨_,_,_,c3,_,c5,_,bb,lk⟩:=ey C;obtain⟨⟨D,o1,U,W⟩,hM⟩:=o9 C;obtain⟨o,bd,X,Y⟩:=o1.update (t:=127) (e:=3) iN Tryz.underlying127 (by unfold maxLen;omega) (je B.1 V) (mX a (WalkArith.wf_i64 ⟨V,V⟩))
  obtain⟨p,ab⟩:=hM o _ (Mp.put o1 U W l2 X) ((Fr.refl _ R).grown Y (fun b e=>aK (by cases e;rfl)))
  obtain⟨_,_,_,_,_,ag,_,ai,al⟩:=ey p;obtain⟨q,_,am,_⟩:=m3 p;dsimp only at q;obtain⟨ad,cap,an⟩:=eE q;subst an;have ao:=ai 5;have G:=dq p ((b8.of hb).trans ab)
  go_wp2_with (at_builtin;refine wpList_append_own_at _ rfl _ _ 74 rfl 0 3 M (ah 0) 1 8 Tryz.underlying74 hi N O Q rfl aa (.slice ad s.td.length cap) s.td.length (s.td.map (Value.int .i64)) rfl (ga q _) ⟨o.heap.size,0,none⟩ 1 1 [ah a] rfl rfl ?_ ?_ ?_ ?_ ?_ ?_;(intro j ap i;match j,i with|0,i=>(simp at i;subst i;simp[Addr.add]));(intro ap H;simp at H;subst H;rfl);(unfold maxLen;omega);(first|omega|simp);(first|omega|(simp;done)|(simp;omega));intro be bg I J _ ar;obtain⟨b4,aB,aF⟩:=eU I (Nat.succ_pos _);subst aF;have K:=(J.block c.pk (by simp;omega) am).trans (aS _ _ _ al);have g4:=(aP (a:=⟨c.pk,5,none⟩) K).trans ag;have bi:=(World.frozen?_of_block (a:=⟨c.pk,5,none⟩) K).trans ao)
  go_end0;obtain⟨g,aR,a0⟩:=x7 G.out.1 (((Fr.refl _ o).alloc _).grown J (fun b e=>aK e.symm)) (v1:=.slice (ak b4) (s.td.length+1) aB) (l:=s.td++[a]) (by simpa using I) (fun b e=>by simp[Value.ownBlock] at e;subst e;exact(ar.imp id (fun e=>by simpa[Value.ownBlock] using e)).imp id (fun e=>by omega))
  exact⟨g,rfl,⟨_,by rw[E.out];exact aR⟩,G.out.2.trans a0⟩
theorem pa (h:(eI c k).J F s w)(d:cV k s)(x:Int):
 Calls prog 142 #[aj c.pk,ah x] w fun e w'=>∃b,e=.returned (.tuple #[])/\(eI c k).J b (k.ma s x) w'/\b8 F w b w':=by
 obtain⟨vt,cr,h⟩:=h;refine(ya ⟨vt,h⟩ d x).mono ?_;rintro e w' ⟨b,rfl,⟨cM,j⟩,t⟩
 exact⟨b,rfl,⟨cM,cr,j⟩,t⟩
end
section
variable {c:e8}{k:b9}{F:Nat->Prop}{s:cu}{w:ax}
theorem E0 (h:(eI c k).J F s w)(p:cV k s)(a:Int)(a0:0<=a)(a1:a<=2000)(hk:pk (k.ld a)=1\/pk (k.ld a)=2):
 Calls prog 216 #[aj c.pk,ah a] w fun e w'=>∃b,e=.returned (.tuple #[])/\(eI c k).J b (k.lk s a) w'/\b8 F w b w':=by
 have t:k.lk s a=k.e7 s a (pf (k.ld a)).toNat:=by unfold b9.lk;rw[aI hk]
 rw[t];have u:=hide h;obtain⟨vt,v,h⟩:=h;obtain⟨f,c0,_⟩:=gB h;obtain⟨A,_⟩:=ey h;have L:=gd a w f;have B:ld k.a.N k.s.y k.s.g k.s.ws a=k.ld a:=rfl;rw[B] at L;have hp:=dj (k.ld a)
 obtain⟨n,hn⟩:∃n:Nat,pf (k.ld a)=n:=⟨(pf (k.ld a)).toNat,V⟩
 rw[hn] at L hp⊢;have en:(n:Int).toNat=n:=Int.toNat_natCast n;rw[en];have C:ay (cV k s):=p;generalize pc (k.ld a)=q at L;have key:∀kd:Int,(kd=1\/kd=2)->pk (k.ld a)=kd->Calls prog 216 #[aj c.pk,ah a] w fun e w'=>∃b,e=.returned (.tuple #[])/\(eI c k).J b (k.e7 s a n) w'/\b8 F w b w':=by
  intro kd D E;rw[E] at L;rcases D with rfl|rfl
  all_goals
   go_enter func216,ntmps216;go_wp2_with fail;refine L.mono ?_;rintro e w1 ⟨rfl,g⟩
   have G:ay ((eI c k).J F (k.e7 s a 0) w1/\b8 F w F w1):=⟨(eI c k).below u.out g,b8.of g⟩
   go_wp2_with fail
   go_loopw [26] (fun iv wr=>∃(i:Nat)(b:Nat->Prop),i<=n/\iv=ah i/\ay ((eI c k).J b (k.e7 s a i) wr/\b8 F w b wr)) (fun iv _=>n-(intOf iv).toNat)
   exact⟨0,F,aZ _,rfl,G⟩
   ·
     obtain⟨i,b,hi,rfl,d⟩:=hrel;by_cases N:i<n
     ·obtain⟨vt,v,j⟩:=d.out.1;obtain⟨f,c0,_⟩:=gB j;obtain⟨A,_⟩:=ey j;have P:=jJ (a+1+i) wr f;have ex:ld k.a.N k.s.y k.s.g k.s.ws (a+1+i)=k.ld (a+1+i):=rfl;rw[ex] at P;have l:ay (k.e7 s a (i+1)=k.ma (k.e7 s a i) (k.ld (a+1+i))):=rfl;have H:=(C.out.e7 a i).1;generalize k.ld (a+1+i)=x at P l;go_wp2_with fail;refine P.mono ?_;rintro e O ⟨rfl,m⟩
      have o:=pa ((eI c k).below d.out.1 m) H x;rw[<-l.out] at o;have I:=hide (d.out.2.below m)
      go_wp2_with fail;refine o.mono ?_;rintro e Q ⟨J,rfl,cE,K⟩
      have M:=dq cE (I.out.trans K)
      go_wp2_with fail;go_roundw;exact⟨i+1,J,V,af,M⟩
      simp[intOf];omega
     ·obtain rfl:i=n:=V;go_wp2_with fail;go_end0;exact⟨b,rfl,d.out.1,d.out.2⟩
 exact key _ hk rfl
theorem E5 (h:(eI c k).J F s w)(p:cV k s)(a:Int)(a0:0<=a)(a1:a<=2000)(hk:pk (k.ld a)=3):
 Calls prog 216 #[aj c.pk,ah a] w fun e w'=>∃d,e=.returned (.tuple #[])/\(eI c k).J d (k.lk s a) w'/\b8 F w d w':=by
 have t:k.lk s a=k.ma s (k.ld (a+2)):=by unfold b9.lk;rw[aG V,aI hk]
 rw[t];obtain⟨x,f⟩:∃x,k.ld (a+2)=x:=⟨_,rfl⟩
 rw[f];have u:ay (k.ld (a+2)=x):=f;have v:ay ((eI c k).J F s w):=h;obtain⟨vt,A,h⟩:=h;obtain⟨b,c0,_⟩:=gB h;obtain⟨B,_⟩:=ey h;have L:=gd a w b;have C:ld k.a.N k.s.y k.s.g k.s.ws a=k.ld a:=rfl;rw[C,hk] at L;generalize pf (k.ld a)=n at L;generalize pc (k.ld a)=q at L;go_enter func216,ntmps216;go_wp2_with fail;refine L.mono ?_;rintro e w1 ⟨rfl,g⟩
 have i:=(eI c k).below v.out g;have j:ay ((eI c k).J F s w1/\b8 F w F w1):=⟨i,b8.of g⟩
 obtain⟨vt,A,l⟩:=i;obtain⟨b,c0,_⟩:=gB l;obtain⟨B,_⟩:=ey l;have P:=jJ (a+2) w1 b;have ex:ld k.a.N k.s.y k.s.g k.s.ws (a+2)=k.ld (a+2):=rfl;rw[ex,u.out] at P;go_wp2_with fail;refine P.mono ?_;rintro e I ⟨rfl,m⟩
 have D:=pa ((eI c k).below j.out.1 m) p x;have E:=hide (j.out.2.below m)
 go_wp2_with fail;refine D.mono ?_;rintro e J ⟨G,rfl,cE,H⟩
 have o:=dq cE (E.out.trans H)
 go_wp2_with fail;go_end0;exact⟨G,rfl,o.out.1,o.out.2⟩
theorem E6 (h:(eI c k).J F s w)(a:Int)(X:s.ep.length<=10000)(hk:pk (k.ld a)=4):
 Calls prog 216 #[aj c.pk,ah a] w fun e w'=>∃d,e=.returned (.tuple #[])/\(eI c k).J d (k.lk s a) w'/\b8 F w d w':=by
 have v:k.lk s a={s with ep:=s.ep++[a]}:=by unfold b9.lk;rw[aG V,aG V,aI hk]
 rw[v];obtain⟨x,hi,A,B,C⟩:=info_parts kE;have D:ay ((eI c k).J F s w):=h;obtain⟨vt,E,h⟩:=h;obtain⟨G,c0,_⟩:=gB h;obtain⟨Y,_⟩:=ey h;have L:=gd a w G;have H:ld k.a.N k.s.y k.s.g k.s.ws a=k.ld a:=rfl;rw[H,hk] at L;generalize pf (k.ld a)=n at L;generalize pc (k.ld a)=q at L;go_enter func216,ntmps216;go_wp2_with fail;refine L.mono ?_;rintro e w1 ⟨rfl,i⟩
 obtain⟨vt,E,g⟩:=(eI c k).below D.out i;obtain⟨_,_,_,_,_,_,I,J,lk⟩:=ey g;obtain⟨_,er,_,K,_⟩:=m3 g;obtain⟨ad,cap,M⟩:=eE er;subst M;have N:=J 6;have m:ay ((cT c k vt (.slice ad s.ep.length cap)).J F s w1/\b8 F w F w1):=⟨g,b8.of i⟩
 go_wp2_with (at_builtin;refine wpList_append_own_at _ rfl _ _ 74 rfl 0 3 x (ah 0) 1 8 Tryz.underlying74 hi A B C rfl aa (.slice ad s.ep.length cap) s.ep.length (s.ep.map (Value.int .i64)) rfl (ga er _) ⟨w1.heap.size,0,none⟩ 1 1 [ah a] rfl rfl ?_ ?_ ?_ ?_ ?_ ?_;(intro j O f;match j,f with|0,f=>(simp at f;subst f;simp[Addr.add]));(intro O o;simp at o;subst o;rfl);(unfold maxLen;omega);(first|omega|simp);(first|omega|(simp;done)|(simp;omega));intro ab ag p t _ P;obtain⟨b4,Q,R⟩:=eU p (Nat.succ_pos _);subst R;have u:=(t.block c.pk (by simp;omega) K).trans (aS _ _ _ lk);have g4:=(aP (a:=⟨c.pk,6,none⟩) u).trans I;have ai:=(World.frozen?_of_block (a:=⟨c.pk,6,none⟩) u).trans N)
 go_end0;obtain⟨d,S,U⟩:=EZ m.out.1 (((Fr.refl _ w1).alloc _).grown t (fun b e=>aK e.symm)) (v1:=.slice (ak b4) (s.ep.length+1) Q) (l:=s.ep++[a]) (by simpa using p) (fun b e=>by
  have W:=P.imp id (fun e=>by simpa[Value.ownBlock] using e)
  simp[Value.ownBlock] at e;subst e;exact W.imp id (fun e=>by omega))
 exact⟨d,rfl,⟨_,_,S⟩,m.out.2.trans U⟩
theorem E7 (h:(eI c k).J F s w)(a:Int)(k1:pk (k.ld a)≠1)(n:pk (k.ld a)≠2)(g:pk (k.ld a)≠3)(i:pk (k.ld a)≠4):
 Calls prog 216 #[aj c.pk,ah a] w fun e w'=>∃b,e=.returned (.tuple #[])/\(eI c k).J b (k.lk s a) w'/\b8 F w b w':=by
 have j:k.lk s a=s:=by unfold b9.lk;rw[aG V,aG g,aG i]
 rw[j];have l:ay ((eI c k).J F s w):=h;obtain⟨vt,o,h⟩:=h;obtain⟨m,c0,_⟩:=gB h;obtain⟨p,_⟩:=ey h;have L:=gd a w m;have q:ld k.a.N k.s.y k.s.g k.s.ws a=k.ld a:=rfl;go_enter func216,ntmps216;go_wp2_with fail;refine L.mono ?_;rintro e w1 ⟨rfl,d⟩
 have f:ay ((eI c k).J F s w1/\b8 F w F w1):=⟨(eI c k).below l.out d,b8.of d⟩
 go_wp2_with fail;go_end0;exact⟨F,rfl,f.out.1,f.out.2⟩
theorem E8 (h:(eI c k).J F s w)(b:cV k s)(a:Int)(a0:0<=a)(a1:a<=2000)(i:s.ep.length<=10000):
 Calls prog 216 #[aj c.pk,ah a] w fun e w'=>∃d,e=.returned (.tuple #[])/\(eI c k).J d (k.lk s a) w'/\b8 F w d w':=by
 by_cases k1:pk (k.ld a)=1\/pk (k.ld a)=2
 ·exact E0 h b a a0 a1 k1
 by_cases f:pk (k.ld a)=3
 ·exact E5 h b a a0 a1 f
 by_cases g:pk (k.ld a)=4
 ·exact E6 h a i g
 exact E7 h a (fun e=>k1 (aK e)) (fun e=>k1 (aJ e)) f g
end
section
variable {c:e8}{k:b9}{F:Nat->Prop}{s:cu}{w:ax}
theorem E9 (h:(eI c k).J F s w)(L:cV k s):
 Calls prog 143 #[aj c.pk] w fun e w'=>∃u,e=.returned (.tuple #[])/\(eI c k).J u (k.lm (k.lost s+s.td.length+1) s) w'/\b8 F w u w':=by
 have v:=dq h L;obtain⟨g,A⟩:∃g,k.lm (k.lost s+s.td.length+1) s=g:=⟨_,rfl⟩
 rw[A];have M:=hide A;obtain⟨vt,N,h⟩:=h;obtain⟨_,_,_,_,_,B,_⟩:=ey h;obtain⟨tr,_⟩:=m3 h;obtain⟨ad,cap,q⟩:=eE tr;subst q;go_enter func143,ntmps143;go_wp2_with fail
 go_loopg [2] (k.lost s+s.td.length) (fun m nv wr=>∃(s1:cu)(i:Nat->Prop),nv=ah s1.td.length/\ay ((eI c k).J i s1 wr/\cV k s1/\b8 F w i wr)/\ay (k.lost s1+s1.td.length<=m/\k.lm (m+1) s1=g))
 exact⟨s,F,rfl,⟨v.out.1,v.out.2,b8.refl _ _⟩,⟨aD _,M.out⟩⟩
 ·
   obtain⟨s1,i,rfl,d,j⟩:=hrel;by_cases f:0<s1.td.length
   ·obtain⟨vt,N,o⟩:=d.out.1;obtain⟨_,_,_,_,_,B,_,C,lk⟩:=ey o;obtain⟨tr,_,ao,_⟩:=m3 o;obtain⟨b,cap,q⟩:=eU tr f;subst q;have O:=sH tr;have ap:maxLen<=9223372036854775807:=by unfold maxLen;omega
    have Q:wr.cell? (aq b (s1.td.length-1))=some (ah (s1.td.getD (s1.td.length-1) 0)):=by obtain⟨ar,aB,e,_,hc⟩:=gH tr f;cases e;have:=hc (s1.td.length-1) V;rwa [Nat.zero_add] at this
    have aF:=C 5;have hm:s1.td.getD (s1.td.length-1) 0∈s1.td:=by exact te
    have D:=d.out.2.1.ps _ (d.out.2.1.td _ hm)
    have R:=d.out.2.1.sum;have aR:=d.out.2.1.tl;obtain⟨aV,E,G⟩:=x7 o (Fr.refl _ wr) (v1:=.slice (ak b) (s1.td.length-1) cap) (l:=s1.td.take (s1.td.length-1)) (by have:=sG tr (s1.td.length-1) V;rw[List.map_take,show(s1.td.take (s1.td.length-1)).length=s1.td.length-1 by rw[bw];omega];exact this) (fun b e=>aK e)
    have H:cV k {s1 with td:=s1.td.take (s1.td.length-1)}:=⟨d.out.2.1.nd,d.out.2.1.ps,fun x S=>d.out.2.1.td x (List.mem_of_mem_take S),d.out.2.1.ep,d.out.2.1.tl,by show k.lost s1+(s1.td.take (s1.td.length-1)).length+s1.ep.length<=_;rw[bw];omega⟩
    have t:=E8 ⟨_,_,E⟩ H (s1.td.getD (s1.td.length-1) 0) D.1 D.2 (by show s1.ep.length<=10000;omega)
    have U:ay (k.lk {s1 with td:=s1.td.take (s1.td.length-1)} (s1.td.getD (s1.td.length-1) 0)=k.l1 s1):=rfl;rw[U.out] at t;have I:=hide (d.out.2.1.l1 f)
    have W:ay (k.lm (gk+1) s1=k.lm gk (k.l1 s1)):=by show _=_;rw[b9.lm,aI f]
    have J:=hide (d.out.2.2.trans G)
    obtain⟨n,hn⟩:∃n,s1.td.length=n+1:=⟨s1.td.length-1,V⟩
    rw[hn] at B O⊢;rw[hn,Nat.add_sub_cancel] at Q t J;generalize s1.td.getD n 0=x at*;generalize k.l1 s1=p at*;have a0:n<=4000:=V;clear o E G H tr hm R C d;go_wp2_with fail;refine t.mono ?_;rintro e a1 ⟨X,rfl,cE,Y⟩
    have ab:=g6 cE I.out.1 (J.out.trans Y)
    obtain⟨a2,bb,K⟩:=cE;obtain⟨_,_,_,_,_,bd,_⟩:=ey K;obtain⟨ag,_⟩:=m3 K;obtain⟨be,bg,ai⟩:=eE ag;subst ai;have hg:1<=gk:=by have:=j.out.1;omega
    have al:ay (k.lost p+p.td.length<=gk-1/\k.lm (gk-1+1) p=g):=⟨by have:=j.out.1;have:=I.out.2;omega,by rw[Nat.sub_add_cancel hg,<-W.out];exact j.out.2⟩
    go_wp2_with fail
    go_roundg (gk-1)
    case measure=>omega
    exact⟨p,X,rfl,ab,al⟩
   ·have am:s1.td=[]:=by
     cases ht:s1.td with
     |nil=>rfl
     |cons x l=>rw[ht] at f;simp at f
    have an:g=s1:=by rw[<-j.out.2];unfold b9.lm;rw[aG f]
    subst an;rw[am];go_wp2_with fail;go_end0;exact⟨i,rfl,d.out.1,d.out.2.2⟩
end
end Go.Proofs.YtpkjkjhanlbcoaaGreat
