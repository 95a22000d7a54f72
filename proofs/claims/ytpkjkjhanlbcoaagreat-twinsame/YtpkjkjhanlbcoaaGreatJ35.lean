import Derived.Test.YtpkjkjhanlbcoaaGreatJ34
namespace Go.Proofs.YtpkjkjhanlbcoaaGreat
set_option maxRecDepth 100000
set_option maxHeartbeats 4000000
open Tryz
open Go.RowKit W Kp cf
theorem Ae {P:Prop}(h:P:=by have l1:=hR2.nl.lt;have l2:=hR2.lt;exact⟨hR2.same ((hb3.block _ (by simp;omega)).trans (aS _ _ _ l1)) ((hb3.block _ (by simp;omega)).trans (aS _ _ _ l2)),b3.trans (hb3.mono b3.size),hlt⟩):P:=h
theorem Af {P:Prop}(h:P:=by obtain⟨F',j,t⟩:=If g1 (g4.trans hrb) hF (fr.mono (fun b e=>by rw[e,h.g3.so];decide)) g2;exact⟨F',rfl,j,t,fr.block bY rh (fun c=>by have:=h.bo;rw[c,h.g3.so] at this;omega)⟩):P:=h
structure f7 (T:List cD)(wt:List b7)(is:List Bool)(s:dw):Prop where
 mi:eQ T wt is s []
 hl:∀x,(s.hd x).length<=s.m
 mm:s.m+(s.td.length+cnt s.A)<=T.length
structure Ag (T:List cD)(wt:List b7)(is:List Bool)(s s':dw):Prop where
 dp:f7 T wt is s'
 td:s'.td=[]
 up:∀k,ct s.A k->ct s'.A k
section
variable {T:List cD}{wt:List b7}{is:List Bool}{s:dw}
theorem Ah (hl:∀x,(s.hd x).length<=s.m)(i:Int):(∀x,((gm T wt s i).hd x).length<=(gm T wt s i).m)/\(gm T wt s i).m<=s.m+1:=by
 have hm:∀l,(∀x,((dm s l).hd x).length<=(dm s l).m)/\(dm s l).m<=s.m+1:=fun l=>by obtain⟨a,b,_⟩:=ja s l;rw[a,b];exact⟨hl,V⟩
 unfold gm;split
 ·exact hm _
 split
 ·exact hm [_]
 split
 ·unfold kR;split
  ·exact hm [_]
  ·dsimp only;refine⟨fun x=>?_,aD _⟩
   have:=hl x;split
   ·simp;omega
   ·omega
 split
 ·exact hm _
 ·exact hm []
theorem Ig (hl:∀x,(s.hd x).length<=s.m)(i:Int):∀x,((gE T wt s i).hd x).length<=(gE T wt s i).m:=by unfold gE;obtain⟨a,b,_⟩:=ja _ _;rw[a,b];exact(Ah hl i).1
theorem eQ.hv {E:List Int}(h:eQ T wt is s E)(f:e4 T wt)(x:Int)(v:Int×Int)(hv:v∈s.hd x)(d:v.1=3):0<=v.2/\cv T v.2.toNat:=by obtain⟨j,a,b,c,e⟩:=h.hd _ _ hv;rw[e] at d⊢;exact lE f (h.al j a) b 1 aa d
theorem Ih {i:Nat}(h:eQ T wt is s [(i:Int)])(c:e4 T wt)(hi:cv T i):∀x,∀v∈(gm T wt s i).hd x,v.1=3->0<=v.2/\cv T v.2.toNat:=by
 have hm:∀l,∀x,∀v∈(dm s l).hd x,v.1=3->0<=v.2/\cv T v.2.toNat:=fun l x v hv b=>by rw[(ja s l).1] at hv;exact h.hv c x v hv b
 unfold gm;split
 ·exact hm _
 split
 ·exact hm [_]
 split
 ·rename_i d;unfold kR;split
  ·exact hm [_]
  ·intro x v hv b;dsimp only at hv;split at hv
   ·rcases List.mem_append.1 hv with hv|hv
    ·exact h.hv c x v hv b
    ·simp only [List.mem_singleton] at hv;rw[hv] at b⊢;exact lE c hi d 1 aa b
   ·exact h.hv c x v hv b
 split
 ·exact hm _
 ·exact hm []
theorem Ii (i:Int):(gm T wt s i).A.length=s.A.length:=by
 have hm:∀l,_=_:=fun l=>(ja s l).2.2;unfold gm;split
 ·exact hm _
 split
 ·exact hm [_]
 split
 ·unfold kR;split
  ·exact hm [_]
  ·rfl
 split
 ·exact hm _
 ·rfl
end
section
variable {c:Cp}{own own':Nat->Nat}{vt cM:Value}{n1 n2 n1' d6:Nat}{hm hm':Int->Option Addr×Nat}{st:dw}{w w':ax}{is:List Bool}
theorem cU.todo (h:cU c own vt n1 n2 hm st w){cM:Value}{t:List Int}(hr:w.ownsRow 0 2 1 cM t.length (t.map (Value.int .i64)))(ho:∀k,some k=cM.ownBlock->own k=3)(hl:t.length<=st.td.length):cU c own cM n1 n2 hm {st with td:=t} (w.setCell ⟨c.cp,2,none⟩ cM)/\et own w own (w.setCell ⟨c.cp,2,none⟩ cM):=by
 have fr:Fr (fun b=>own b=1) w (w.setCell ⟨c.cp,2,none⟩ cM):=(Fr.refl _ w).set c.cp 2 cM h.co;have hk:∀b,own b≠1->b<w.heap.size->_=_:=fun b hb hl=>fr.block b hl hb;have g:=h.sz;refine⟨{
  ol:=fun k f=>(fr.block k V (fun cc=>?_)).trans (h.ol k f),sz:=aT h.sz fr.size,cb:=?_,co:=h.co,am:=h.am.same (hk _ (by rw[h.ao];decide) h.am.lt),ao:=h.ao,an:=h.an,tr:=cH hr (fun k e=>hk k (by rw[ho k e];decide) (cn hr k e).2),tw:=ho,tn:=by have:=h.tn;dsimp only;omega
  hq:=h.hq.same (hk _ (by rw[h.ho];decide) h.hq.lt),ho:=h.ho,hn:=h.hn,hr:=fun x d=>⟨(h.hr x d).1,cH (h.hr x d).2 (fun k e=>hk k (by rw[h.hro x d k e];omega) (cn (h.hr x d).2 k e).2)⟩,hro:=h.hro,lt:=fun b hb=>⟨(h.lt b hb).1,aM (h.lt b hb).2 fr.size⟩},fr.mono (fun b hb=>by omega),fun b hb=>aK hb⟩
 ·have:=(h.lt k V).1;omega
 ·simp only [World.setCell,Array.getElem?_modify,if_true,h.cb,Option.map_some];rfl
theorem Ai (hg:hL c)(h:cU c own vt n1 n2 hm st w)(ho:f7 c.s.T c.s.wt is st):
 Calls prog 246 #[aj c.cp] w fun e w'=>∃own' cM n1' d6 hm' d,e=.returned (.tuple #[])/\cU c own' cM n1' d6 hm' d w'/\et own w own' w'/\Ag c.s.T c.s.wt is st d:=by
 have f:=hide hg;have B:=dq h ho;obtain⟨_,_,c2,_,_,_⟩:=h.cells;obtain⟨ad,cap,ev⟩:=eE h.tr;rw[ev] at c2;go_enter func246,ntmps246;go_wp2_with fail
 go_loopg [2] (st.td.length+cnt st.A) (fun m nv wr=>∃(own':Nat->Nat)(cM:Value)(n1' d6:Nat)(hm':Int->Option Addr×Nat)(d:dw),nv=ah d.td.length/\ay (cU c own' cM n1' d6 hm' d wr/\et own w own' wr/\f7 c.s.T c.s.wt is d/\(∀k,ct st.A k->ct d.A k)/\d.td.length+cnt d.A<=m))
 exact⟨own,vt,n1,n2,hm,st,rfl,B.out.1,et.of bX,B.out.2,fun _ h=>h,aD _⟩
 case round=>
  obtain⟨own',cM,n1',d6,hm',s1,rfl,C⟩:=hrel;obtain⟨g,t,dp,up,K⟩:=C.out;by_cases D:0<s1.td.length
  ·obtain⟨_,_,L,_,M,lk⟩:=g.cells;have tr:=g.tr;obtain⟨b,cap,N⟩:=eU tr D;subst N;have O:=sH tr;obtain⟨n,hn⟩:∃n,s1.td.length=n+1:=⟨s1.td.length-1,V⟩
   have P:wr.cell? (aq b n)=some (ah (s1.td.getD n 0)):=by obtain⟨aV,a0,e,_,hc⟩:=gH tr D;cases e;have:=hc n V;rwa [Nat.zero_add] at this
   have E:(s1.td.take n).length=n:=by rw[bw];omega
   have F:s1.td=s1.td.take n++[s1.td.getD n 0]:=by
    rw[aE,aL V];have:=List.take_add_one (l:=s1.td) (i:=n)
    rw[aL V,List.take_of_length_le V] at this
    exact this
   have o:=dp.mi.td (s1.td.getD n 0) (aJ (getD_in V))
   have A:=dp.mi.pop f.out.iv F;obtain⟨i,hi⟩:=Int.eq_ofNat_of_zero_le o.1;have G:cv c.s.T i:=dp.mi.al i (by have:=o.2;rwa [hi] at this)
   obtain⟨g2,Q⟩:=g.todo (cM:=.slice (ak b) n cap) (t:=s1.td.take n) (by rw[E,List.map_take];exact sG tr n V) (fun k e=>g.tw k e) V;have R:=dp.mm;have a1:=f.out.t;have S:iZ c {s1 with td:=s1.td.take n}:=⟨dp.mi.len,fun x v hv U=>dp.mi.hv f.out.iv x v hv U,fun x=>by have:=dp.hl x;dsimp only;omega,by dsimp only;omega⟩
   rw[hi] at o A F;have H:ct s1.A i:=by simpa using o.2
   have hb:=Ah (T:=c.s.T) (wt:=c.s.wt) (s:={s1 with td:=s1.td.take n}) dp.hl i;have W:iZ c (gm c.s.T c.s.wt {s1 with td:=s1.td.take n} i):=⟨(Ii _).trans dp.mi.len,Ih A f.out.iv G,fun x=>by have I:=hb.1 x;have p:=hb.2;dsimp only at p;omega,by have p:=hb.2;dsimp only at p;omega⟩
   have X:=Ie f.out g2 S i W V (by simpa using H) (by simpa using G)
   have q:=hide (A.look f.out.iv H)
   have Y:ay (∀x,((gE c.s.T c.s.wt {s1 with td:=s1.td.take n} i).hd x).length<=(gE c.s.T c.s.wt {s1 with td:=s1.td.take n} i).m):=Ig (s:={s1 with td:=s1.td.take n}) dp.hl i;have ab:=hide (t.trans Q)
   have ag:=dq hn E;have u:=g6 up R K;rw[hi] at P;rw[hn] at L O⊢;have a2:=M 2;generalize gE c.s.T c.s.wt {s1 with td:=s1.td.take n} i=j at*;go_wp2_with fail;refine X.mono ?_;rintro e bb ⟨ai,al,am,an,ao,rfl,g4,ap⟩
   obtain⟨_,_,ar,_⟩:=g4.cells;obtain⟨bd,be,aB⟩:=eE g4.tr;rw[aB] at ar;have aF:=q.out.td;have bg:=ag.out;dsimp only at aF;have bi:1<=gk:=by have:=u.out.2.2;omega
   have aR:ay (_/\_/\f7 c.s.T c.s.wt is j/\(∀k,ct st.A k->ct j.A k)/\j.td.length+cnt j.A<=gk-1):=⟨g4,ab.out.trans ap,⟨q.out.mi,Y.out,by have I:=q.out.mm;have p:=u.out.2.1;dsimp only at I;omega⟩,fun k hk=>q.out.up k (u.out.1 k hk),by have:=u.out.2.2;omega⟩
   go_wp2_with fail
   go_roundg (gk-1)
   case measure=>omega
   exact⟨ai,al,am,an,ao,j,rfl,aR⟩
  ·have J:s1.td=[]:=List.eq_nil_of_length_eq_zero V;rw[J];go_wp2_with fail;go_end0;obtain⟨g,t,dp,up,_⟩:=C.out;exact⟨own',cM,n1',d6,hm',s1,rfl,g,t,dp,J,up⟩
end
theorem Ij {q:List b7}{g:Int}{i:Nat}(hi:i<q.length)(e:(q.getD i (0,0)).1=g)(hn:∀e∈q.take i,¬e.1=g):dO g q=i:=by
 unfold dO;rw[List.findIdx_eq hi];refine⟨?_,fun j b=>?_⟩
 ·rw[aE,aL hi] at e;simpa using e
 ·have:=hn (q[j]'V) (by rw[List.mem_take_iff_getElem];exact⟨j,V,rfl⟩)
  simpa using this
section
variable {bY rb:Nat}{b_ bZ:Int}{l:gF}{F:Nat->Prop}{s:ck}{w w':ax}
theorem dS.side (h:dS bY b_ bZ l s w){r q:List b7}{a0 a1:Option Addr}{k0 k1:Nat}(f:fu w' l.bp a0 k0 a1 k1 r q)(fr:Fr (fun k=>k=l.bp) w w')
 (n0:∀k,some k=(Value.slice a0 r.length k0).ownBlock->l.own k=5\/w.heap.size<=k)(n1:∀k,some k=(Value.slice a1 q.length k1).ownBlock->l.own k=6\/w.heap.size<=k)
 (g:∀k,w.heap.size<=k->some k=(Value.slice a0 r.length k0).ownBlock->some k≠(Value.slice a1 q.length k1).ownBlock):
 ∃d,dS bY b_ bZ d {s with rg:=r,wt:=q} w'/\(∀b,d.own b≠0->l.own b≠0\/w.heap.size<=b)/\d.fm=l.fm/\d.rb=l.rb:=by
 refine⟨{l with own:=fun b=>if w.heap.size<=b then(if some b=(Value.slice a0 r.length k0).ownBlock then 5 else if some b=(Value.slice a1 q.length k1).ownBlock then 6 else 0) else l.own b,a0:=a0,k0:=k0,a1:=a1,k1:=k1},?_,?_,rfl,rfl⟩
 ·have ho:∀b,l.own b≠0->¬w.heap.size<=b:=fun b hb=>by have:=h.lt b hb;omega
  have he:∀b,l.own b≠0->(if w.heap.size<=b then(if some b=(Value.slice a0 r.length k0).ownBlock then 5 else if some b=(Value.slice a1 q.length k1).ownBlock then 6 else 0) else l.own b)=l.own b:=fun b hb=>aG (ho b hb)
  have hk:∀b,l.own b≠0->l.own b≠3->_=_:=fun b hb j=>fr.block b (h.lt b hb) (fun c=>j (by rw[c];exact h.g3.so))
  refine {blk:=(hk bY (by rw[h.bo];decide) (by rw[h.bo];decide)).trans h.blk,bo:=?_,g2:=?_,g3:=?_,g4:=?_,lt:=?_}
  ·exact(he bY (by rw[h.bo];decide)).trans h.bo
  ·exact {
    mp:=h.g2.mp.same (hk _ (by rw[h.g2.dp];decide) (by rw[h.g2.dp];decide)),mn:=h.g2.mn,dp:=(he _ (by rw[h.g2.dp];decide)).trans h.g2.dp
    fl:=fun i hi=>cH (h.g2.fl i hi) (fun k e=>hk k (by rw[h.g2.eR i hi k e];omega) (by rw[h.g2.eR i hi k e];omega))
    eR:=fun i hi k e=>(he k (by rw[h.g2.eR i hi k e];omega)).trans (h.g2.eR i hi k e),fe:=h.g2.fe,al:=h.g2.al}
  ·refine {sd:=f,so:=(he _ (by rw[h.g3.so];decide)).trans h.g3.so,ro:=fun k e=>?_,mf:=fun k e=>?_}
   ·rcases n0 k e with c|c
    ·exact(he k (by rw[c];decide)).trans c
    ·show(if _ then _ else _)=_;rw[aI c,aI e]
   ·rcases n1 k e with c|c
    ·exact(he k (by rw[c];decide)).trans c
    ·show(if _ then _ else _)=_;rw[aI c,aG (fun m=>g k c m e),aI e]
  ·exact {rt:=(hk _ (by rw[h.g4.ro];decide) (by rw[h.g4.ro];decide)).trans h.g4.rt,rl:=h.g4.rl,ro:=(he _ (by rw[h.g4.ro];decide)).trans h.g4.ro}
  ·intro b hb;dsimp only at hb;by_cases c:w.heap.size<=b
   ·rw[aI c] at hb;by_cases c1:some b=(Value.slice a0 r.length k0).ownBlock
    ·exact(cn f.r0 b c1).2
    ·rw[aG c1] at hb;by_cases c2:some b=(Value.slice a1 q.length k1).ownBlock
     ·exact(cn f.q0 b c2).2
     ·rw[aG c2] at hb;exact absurd rfl hb
   ·rw[aG c] at hb;exact aM (h.lt b hb) fr.size
 ·intro b hb;dsimp only at hb;by_cases c:w.heap.size<=b
  ·exact aJ c
  ·rw[aG c] at hb;exact aK hb
theorem If {c:gF}{d:ck}(h:dS bY b_ bZ c d w')(g:c.rb=rb)(e:∀b,F b↔l.own b≠0)(fr:Fr (fun b=>l.own b≠0) w w')(ho:∀b,c.own b≠0->l.own b≠0\/w.heap.size<=b):∃f,(cx bY b_ bZ rb).J f d w'/\b8 F w f w':=
 ⟨fun b=>c.own b≠0,⟨c,h,g,fun _=>Iff.rfl⟩,fr.mono (fun b hb=>(e b).2 hb),fun b hb=>(ho b hb).imp (e b).2 id⟩
theorem Ik (h:(cx bY b_ bZ rb).J F s w)(g z:Int)(h0:s.rg.length<=90000)(f:s.wt.length<=90000):∃bp,w.cell? (aq bY 5)=some (aj bp)/\
 Calls prog 49 #[aj bp,.agg #[ah g,ah z]] w fun e w'=>∃F',e=.returned (.bool (!jP (s.rg.length+s.wt.length)))/\(cx bY b_ bZ rb).J F' (if 24<=s.rg.length+s.wt.length then s else {s with rg:=s.rg++[(g,z)]}) w'/\b8 F w F' w'/\w'.heap[bY]?=w.heap[bY]?:=by
 obtain⟨l,h,hrb,hF⟩:=h;obtain⟨_,_,_,_,_,c5,_,_,rh⟩:=h.cells;refine⟨l.bp,c5,(xU w l.bp l.a0 l.a1 l.k0 l.k1 s.rg s.wt g z h.g3.sd h0 f).mono ?_⟩
 rintro e w' ⟨rfl,⟨d,hb⟩|⟨d,b1,c1,i,hn,fr⟩⟩
 ·rw[aI d];exact⟨F,rfl,⟨l,h.below hb,hrb,hF⟩,b8.of hb,hb.block bY rh⟩
 ·rw[aG d];obtain⟨n,g1,g2,_,g4⟩:=h.side i fr (fun k e=>aJ (by cases e;exact hn)) (fun k e=>aK (h.g3.mf k e)) (fun k hk e m=>by have:=(cn h.g3.sd.q0 k m).2;omega)
  exact Af
theorem Il (h:(cx bY b_ bZ rb).J F s w)(g:Int)(d:s.wt.length<=90000):∃bp,w.cell? (aq bY 5)=some (aj bp)/\
 Calls prog 194 #[aj bp,ah g] w fun e w'=>∃F',e=.returned (.tuple #[ah (if dO g s.wt<s.wt.length then(s.wt.getD (dO g s.wt) (0,0)).2 else 0),.bool (decide (dO g s.wt<s.wt.length))])/\
  (cx bY b_ bZ rb).J F' (if dO g s.wt<s.wt.length then {s with wt:=s.wt.take (dO g s.wt)++s.wt.drop (dO g s.wt+1)} else s) w'/\b8 F w F' w'/\w'.heap[bY]?=w.heap[bY]?:=by
 obtain⟨l,h,hrb,hF⟩:=h;obtain⟨_,_,_,_,_,c5,_,_,rh⟩:=h.cells;refine⟨l.bp,c5,(zz w l.bp l.a0 l.a1 l.k0 l.k1 s.rg s.wt g h.g3.sd d).mono ?_⟩
 rintro e w' (⟨rfl,hn,hb⟩|⟨i,b1,c1,rfl,hi,f,hn,m,hz,fr⟩)
 ·have hp:¬dO g s.wt<s.wt.length:=by
   unfold dO;rw[List.findIdx_lt_length];rintro⟨x,n,o⟩
   exact hn x n (by simpa using o)
  rw[aG hp,aG hp,bq hp];exact⟨F,rfl,⟨l,h.below hb,hrb,hF⟩,b8.of hb,hb.block bY rh⟩
 ·rw[(Ij hi f hn),aI hi,aI hi,bh hi];obtain⟨p,g1,g2,_,g4⟩:=h.side m fr (fun k e=>aK (h.g3.ro k e)) (fun k e=>aJ (by
   cases b1 with
   |none=>cases e
   |some z=>cases e;exact hz z rfl)) (fun k hk e q=>by
   have:=(cn h.g3.sd.r0 k e).2;omega)
  exact Af
end
section
variable {bY rb:Nat}{b_ bZ:Int}{l:gF}{F:Nat->Prop}{s:ck}{w w':ax}
theorem dr.set2 {d:Type}(o:dr d){t:d}{b:Nat}(h:o.J F t w)(hn:¬F b)(v1 v2:Value):o.J F t ((w.setCell ⟨b,0,none⟩ v1).setCell ⟨b,1,none⟩ v2):=
 o.fr h (((Fr.refl (fun k=>k=b) w).set b _ _ rfl).set b _ _ rfl) (fun k hk c=>hn (by rw[<-c];exact hk))
theorem b8.set2 {d:Nat->Prop}{b:Nat}(t:b8 F w d w')(hb:w.heap.size<=b)(v1 v2:Value):b8 F w d ((w'.setCell ⟨b,0,none⟩ v1).setCell ⟨b,1,none⟩ v2):=
 ⟨t.fr.trans (((Fr.refl (fun k=>k=b) w').set b _ _ rfl).set b _ _ rfl) (fun k c=>aJ (by rw[c];exact hb)),t.sub⟩
theorem Im (h:(cx bY b_ bZ rb).J F s w)(t p:Int×Int)(ht:t.1=3->0<=t.2/\cv s.T t.2.toNat)(hd:p.1=3->0<=p.2/\cv s.T p.2.toNat)(A:s.T.length<=10000)(h0:s.rg.length<=90000)(G:s.wt.length<=90000):
 Calls prog 132 #[aj bY,.agg #[ah t.1,ah t.2],.agg #[ah p.1,ah p.2]] w fun e w'=>∃f,e=.returned (ah (s.reg t p).1)/\(cx bY b_ bZ rb).J f (s.reg t p).2 w'/\b8 F w f w':=by
 obtain⟨H,b⟩:=t;obtain⟨g,d⟩:=p;have b1:aw w ((w.alloc (.cells #[.int .i64 H,.int .i64 b] 97)).alloc (.cells #[.int .i64 g,.int .i64 d] 97)):=(bX.alloc bW _).alloc Z _;have B:ay ((cx bY b_ bZ rb).J F s w):=h;have u:ay (∀w1,aw w w1->Calls prog 200 #[aj bY,.agg #[ah g,ah d]] w1 fun e w'=>e=.returned (.bool (iF s.T (g,d)))/\aw w1 w'):=fun w1 hb=>by obtain⟨l,h,S,U⟩:=B.out;exact z5 (h.below hb) (g,d) hd A
 have m:ay (∀w1,aw w w1->∃bp,w1.cell? (aq bY 5)=some (aj bp)/\Calls prog 49 #[aj bp,.agg #[ah d,ah b]] w1 fun e w'=>∃f,e=.returned (.bool (!jP (s.rg.length+s.wt.length)))/\
  (cx bY b_ bZ rb).J f (if 24<=s.rg.length+s.wt.length then s else {s with rg:=s.rg++[(d,b)]}) w'/\b8 F w f w'/\∀a:Addr,a.block=bY\/(w.heap.size<=a.block/\a.block<w1.heap.size)->w'.cell? a=w1.cell? a):=fun w1 hb=>by
  obtain⟨bp,c5,P⟩:=Ik ((cx bY b_ bZ rb).below B.out hb) d b h0 G;refine⟨bp,c5,P.mono ?_⟩
  rintro e w' ⟨f,rfl,j,t,hg⟩
  refine⟨f,rfl,j,(b8.of hb).trans t,fun a ha=>aP ?_⟩
  rcases ha with e|⟨a1,a2⟩
  ·rw[e];exact hg
  ·exact t.fr.block _ a2 (fun c=>by have:=(cx bY b_ bZ rb).lt B.out _ c;omega)
 unfold ck.reg;by_cases K:H=3
 ·subst K;have P:Calls prog 199 #[aj bY,.agg #[ah 3,ah b]] ((w.alloc (.cells #[.int .i64 3,.int .i64 b] 97)).alloc (.cells #[.int .i64 g,.int .i64 d] 97)) fun e w'=>∃k ad n c,e=.returned (.tuple #[.agg #[ah k,.slice ad n c],.bool true])/\aw w (w'.alloc (.cells #[.int .i64 k,.slice ad n c] 220))/\
   (w'.alloc (.cells #[.int .i64 k,.slice ad n c] 220)).heap[w.heap.size]?=some (.cells #[ah 3,ah b] 97 (0,0))/\(w'.alloc (.cells #[.int .i64 k,.slice ad n c] 220)).heap[w.heap.size+1]?=some (.cells #[ah g,ah d] 97 (0,0)):=by
   obtain⟨l,h,S,U⟩:=h;refine(q8 (h.below b1) b (ht rfl) A).mono ?_;rintro e w' ⟨rfl,hb⟩
   have M:=b1.trans (hb.mono b1.size)
   have v:=(hb.block w.heap.size (by simp;omega)).trans ((aS _ _ _ Z).trans (aN w (.cells #[.int .i64 3,.int .i64 b] 97)))
   have o:=(hb.block (w.heap.size+1) Z).trans (iR w (.cells #[.int .i64 3,.int .i64 b] 97) (.cells #[.int .i64 g,.int .i64 d] 97))
   exact⟨_,_,_,_,rfl,M.alloc M.size _,(aS _ _ _ (lt_of_some v)).trans v,(aS _ _ _ (lt_of_some o)).trans o⟩
  cases hg:iF s.T (g,d)
  ·rw[aG (fun c=>by cases c.2)];rw[hg] at u;clear h ht hd A h0 G m hg;go_enter func132,ntmps132;go_wp2_with fail;refine P.mono ?_;clear P;rintro e w1 ⟨k,ad,n,c,rfl,hb,v,o⟩
   have C:=u.out _ hb;obtain⟨q0,q1,_,_⟩:=di o;have q:ay (_):=hb;clear hb u v o b1;go_wp2_with fail;refine C.mono ?_;clear C;rintro e I ⟨rfl,i⟩
   have i:=q.out.trans (i.mono q.out.size)
   have D:ay ((cx bY b_ bZ rb).J F s I/\b8 F w F I):=⟨(cx bY b_ bZ rb).below B.out i,b8.of i⟩
   clear i q0 q1;go_wp2_with fail;go_ret;exact⟨F,rfl,D.out.1,D.out.2⟩
  ·rw[aI ⟨rfl,rfl⟩];rw[hg] at u;have key:∀(fb:Bool)(cd:Int)(s2:ck),(cd=if fb=true then 3 else 0)->ay (∀w1,aw w w1->∃bp,w1.cell? (aq bY 5)=some (aj bp)/\Calls prog 49 #[aj bp,.agg #[ah d,ah b]] w1 fun e w'=>∃f,e=.returned (.bool (!fb))/\(cx bY b_ bZ rb).J f s2 w'/\b8 F w f w'/\∀a:Addr,a.block=bY\/(w.heap.size<=a.block/\a.block<w1.heap.size)->w'.cell? a=w1.cell? a)->
    Calls prog 132 #[aj bY,.agg #[ah 3,ah b],.agg #[ah g,ah d]] w fun e w'=>∃f,e=.returned (ah cd)/\(cx bY b_ bZ rb).J f s2 w'/\b8 F w f w':=by
    intro fb cd s2 W m;clear h ht hd A h0 G hg;cases fb<;>subst W
    all_goals
     go_enter func132,ntmps132;go_wp2_with fail;refine P.mono ?_;clear P;rintro e w1 ⟨k,ad,n,c,rfl,hb,v,o⟩
     have C:=u.out _ hb;obtain⟨q0,q1,_,_⟩:=di o;have q:ay (_):=hb;have E:ay (_/\_):=⟨v,o⟩
     clear hb u v o b1;go_wp2_with fail;refine C.mono ?_;clear C;rintro e I ⟨rfl,i⟩
     have N:=q.out.trans (i.mono q.out.size)
     obtain⟨bp,c5,O⟩:=m.out _ N.drew;obtain⟨_,y1,_,l1⟩:=di ((i.block _ (lt_of_some E.out.1)).trans E.out.1)
     obtain⟨_,Q,_,l2⟩:=di ((i.block _ (lt_of_some E.out.2)).trans E.out.2)
     have c5:I.cell? (aq bY 5)=some (aj bp):=c5;clear i N q0 q1 E m;go_wp2_with fail
     go_region_held3 (fun w'=>w'.cell? (aq bY 5)=some (aj bp)/\w'.cell? (aq w.heap.size 1)=some (ah b)/\w'.cell? (aq (w.heap.size+1) 1)=some (ah d)) (go_keep)
      (first|(go_at_call 49;refine O.mono ?_;clear O;rintro e R ⟨L,rfl,cA,t3,J⟩;have D:ay ((cx bY b_ bZ rb).J L s2 R/\b8 F w L R):=⟨cA,t3⟩;have X:=(J ⟨bY,5,none⟩ (aK rfl)).trans c5;have Y:=(J ⟨w.heap.size,1,none⟩ (aJ ⟨aD _,l1⟩)).trans y1;have ab:=(J ⟨w.heap.size+1,1,none⟩ (aJ ⟨Nat.le_succ _,l2⟩)).trans Q;clear cA t3 c5 y1 Q J))
     all_goals
      go_wp2_with fail;go_ret;exact⟨rfl,L,D.out.1,D.out.2⟩
   by_cases x:24<=s.rg.length+s.wt.length
   ·rw[aI x];simp only [if_pos x,qt x] at m;exact key true 3 s rfl m
   ·rw[aG x];simp only [if_neg x,qu x] at m;exact key false 0 _ rfl m
 ·rw[aG (fun c=>K c.1)];have P:=uj (bY:=bY) (w:=(w.alloc (.cells #[.int .i64 H,.int .i64 b] 97)).alloc (.cells #[.int .i64 g,.int .i64 d] 97)) (H,b) K;clear h ht hd A h0 G u m;go_enter func132,ntmps132;go_wp2_with fail;refine P.mono ?_;clear P;rintro e w1 ⟨rfl,hb⟩
  have q:ay (aw w w1):=b1.trans (hb.mono b1.size)
  clear hb b1;go_wp2_with fail;go_ret;have hb:=q.out.alloc q.out.size (.cells #[.int .i64 0,.slice none 0 0] 220)
  exact⟨F,rfl,(cx bY b_ bZ rb).below B.out hb,b8.of hb⟩
theorem In (h:(cx bY b_ bZ rb).J F s w)(v:Int×Int)(hv:v.1=3->0<=v.2/\cv s.T v.2.toNat)(A:s.T.length<=10000)(B:s.wt.length<=90000):
 Calls prog 207 #[aj bY,.agg #[ah v.1,ah v.2]] w fun e w'=>∃d,e=.returned (.tuple #[.agg #[ah (s.pop v).1.1,ah (s.pop v).1.2],ah (s.pop v).2.1])/\(cx bY b_ bZ rb).J d (s.pop v).2.2 w'/\b8 F w d w':=by
 obtain⟨k,x⟩:=v;have b1:aw w ((w.alloc (.cells #[.int .i64 k,.int .i64 x] 97)).alloc (.cells #[.int .i64 0,.int .i64 0] 97)):=(bX.alloc bW _).alloc Z _;have C:ay ((cx bY b_ bZ rb).J F s w):=h;have P:Calls prog 200 #[aj bY,.agg #[ah k,ah x]] ((w.alloc (.cells #[.int .i64 k,.int .i64 x] 97)).alloc (.cells #[.int .i64 0,.int .i64 0] 97)) fun e w'=>e=.returned (.bool (iF s.T (k,x)))/\aw w w'/\
  w'.heap[w.heap.size]?=some (.cells #[ah k,ah x] 97 (0,0))/\w'.heap[w.heap.size+1]?=some (.cells #[ah 0,ah 0] 97 (0,0)):=by
  obtain⟨l,h,U,W⟩:=h;refine(z5 (h.below b1) (k,x) hv A).mono ?_;rintro e w' ⟨rfl,hb⟩
  exact⟨rfl,b1.trans (hb.mono b1.size),(hb.block w.heap.size (by simp;omega)).trans ((aS _ _ _ Z).trans (aN w _)),(hb.block (w.heap.size+1) Z).trans (iR w _ _)⟩
 have f:ay (∀w1,aw w w1->∃bp,w1.cell? (aq bY 5)=some (aj bp)/\Calls prog 194 #[aj bp,ah x] w1 fun e w'=>∃d,e=.returned (.tuple #[ah (if dO x s.wt<s.wt.length then(s.wt.getD (dO x s.wt) (0,0)).2 else 0),.bool (decide (dO x s.wt<s.wt.length))])/\
  (cx bY b_ bZ rb).J d (if dO x s.wt<s.wt.length then {s with wt:=s.wt.take (dO x s.wt)++s.wt.drop (dO x s.wt+1)} else s) w'/\b8 F w1 d w'/\∀b,b=bY\/(w.heap.size<=b/\b<w1.heap.size)->w'.heap[b]?=w1.heap[b]?):=fun w1 hb=>by
  obtain⟨bp,c5,P⟩:=Il ((cx bY b_ bZ rb).below C.out hb) x B;refine⟨bp,c5,P.mono ?_⟩
  rintro e w' ⟨d,rfl,j,t,hg⟩
  refine⟨d,rfl,j,t,fun a ha=>?_⟩
  rcases ha with e|⟨a1,a2⟩
  ·rw[e];exact hg
  ·exact t.fr.block _ a2 (fun c=>by have:=(cx bY b_ bZ rb).lt C.out _ c;omega)
 unfold ck.pop;cases hg:iF s.T (k,x)
 ·rw[aG aa];rw[hg] at P;clear h hv A B f hg b1;go_enter func207,ntmps207;go_wp2_with fail;refine P.mono ?_;clear P;rintro e w1 ⟨rfl,hb,o,n⟩
  obtain⟨D,E,G,lw⟩:=di n;have m:ay (_=_):=n;have H:ay (_):=hb;clear hb o n;go_wp2_with fail;obtain⟨r0,r1,_,_⟩:=di (gy (v1:=ah 0) (v2:=ah 0) m.out)
  have hb:aw w ((w1.setCell ⟨w.heap.size+1,0,none⟩ (.int .i64 0)).setCell ⟨w.heap.size+1,1,none⟩ (.int .i64 0)):=(H.out.setCell Z _).setCell Z _;exact a3 (v:=.tuple #[.agg #[ah 0,ah 0],ah 2]) (by simp[results,results207,go_sem,r0,r1]) rfl ⟨F,rfl,(cx bY b_ bZ rb).below C.out hb,b8.of hb⟩
 ·rw[aI rfl];rw[hg] at P;have key:∀(fb:Bool)(z:Int)(s2:ck),(∀w1,aw w w1->∃bp,w1.cell? (aq bY 5)=some (aj bp)/\Calls prog 194 #[aj bp,ah x] w1 fun e w'=>∃d,e=.returned (.tuple #[ah z,.bool fb])/\
   (cx bY b_ bZ rb).J d s2 w'/\b8 F w1 d w'/\∀b,b=bY\/(w.heap.size<=b/\b<w1.heap.size)->w'.heap[b]?=w1.heap[b]?)->
   Calls prog 207 #[aj bY,.agg #[ah k,ah x]] w fun e w'=>∃d,e=.returned (.tuple #[.agg #[ah (if fb=true then 3 else 0),ah (if fb=true then z else 0)],ah (if fb=true then 0 else 4)])/\(cx bY b_ bZ rb).J d s2 w'/\b8 F w d w':=by
   intro fb z s2 f;have f:ay (∀w1,aw w w1->∃bp,w1.cell? (aq bY 5)=some (aj bp)/\Calls prog 194 #[aj bp,ah x] w1 fun e w'=>∃d,e=.returned (.tuple #[ah z,.bool fb])/\
    (cx bY b_ bZ rb).J d s2 w'/\b8 F w1 d w'/\∀b,b=bY\/(w.heap.size<=b/\b<w1.heap.size)->w'.heap[b]?=w1.heap[b]?):=f
   have N:ay (∀b,F b->b<w.heap.size):=fun b hb=>(cx bY b_ bZ rb).lt h b hb;clear h hv A B hg b1;rename_i O Q;clear O Q;cases fb
   all_goals
    go_enter func207,ntmps207;go_wp2_with fail;refine P.mono ?_;clear P;rintro e w1 ⟨rfl,hb,o,n⟩
    obtain⟨_,y1,_,l1⟩:=di o;obtain⟨bp,c5,J⟩:=f.out _ hb.drew;have c5:w1.cell? (aq bY 5)=some (aj bp):=c5;have H:ay (_):=hb;have p:ay (_=_):=n;clear hb o n f;go_wp2_with fail
    go_region_held3 (fun w'=>w'.cell? (aq bY 5)=some (aj bp)/\w'.cell? (aq w.heap.size 1)=some (ah x)) (go_keep)
     (first|(go_at_call 194;refine J.mono ?_;clear J;rintro e K ⟨i,rfl,cA,t3,q⟩;have L:¬i (w.heap.size+1):=(fun c=>(t3.sub _ c).elim (fun c=>by have:=N.out _ c;omega) (fun c=>by have:=lt_of_some p.out;have c:w1.heap.size<=_:=c;omega));have g:ay ((cx bY b_ bZ rb).J i s2 K/\b8 F w i K/\¬i (w.heap.size+1)):=⟨cA,(b8.of H.out.drew).trans t3,L⟩;have R:=(aP (a:=⟨bY,5,none⟩) (q bY (aK rfl))).trans c5;have S:=(aP (a:=⟨w.heap.size,1,none⟩) (q w.heap.size (aJ ⟨aD _,l1⟩))).trans y1;have I:=(q (w.heap.size+1) (aJ ⟨Nat.le_succ _,lt_of_some p.out⟩)).trans p.out;obtain⟨D,E,G,lw⟩:=di I;have m:ay (_=_):=I;clear cA t3 c5 y1 q I L))
    all_goals
     clear R S p;go_wp2_with fail
     first
      |(
       obtain⟨r0,r1,_,_⟩:=di (gy (v1:=ah 0) (v2:=ah 0) m.out)
       exact a3 (v:=.tuple #[.agg #[ah 0,ah 0],ah 4]) (by simp[results,results207,go_sem,r0,r1]) rfl ⟨rfl,i,dr.set2 _ g.out.1 g.out.2.2 _ _,g.out.2.1.set2 (Nat.le_succ _) _ _⟩)
      |(
       refine(ow _ _).mono ?_;rintro e M ⟨rfl,u⟩
       have m:ay (_=_):=(u.block _ lw).trans m.out;have g:ay ((cx bY b_ bZ rb).J i s2 M/\b8 F w i M/\¬i (w.heap.size+1)):=⟨(cx bY b_ bZ rb).below g.out.1 u,g.out.2.1.below u,g.out.2.2⟩
       clear u D E G lw;obtain⟨D,E,G,lw⟩:=di m.out;go_wp2_with fail;obtain⟨r0,r1,_,_⟩:=di (gy (v1:=ah 3) (v2:=ah z) m.out)
       exact a3 (v:=.tuple #[.agg #[ah 3,ah z],ah 0]) (by simp[results,results207,go_sem,r0,r1]) rfl ⟨rfl,i,dr.set2 _ g.out.1 g.out.2.2 _ _,g.out.2.1.set2 (Nat.le_succ _) _ _⟩)
  have f:=f.out;by_cases hi:dO x s.wt<s.wt.length
  ·rw[aI hi];simp only [if_pos hi,decide_eq_true hi] at f;exact key true _ _ f
  ·rw[aG hi];simp only [if_neg hi,decide_eq_false hi] at f;exact key false _ _ f
theorem Io (h:(cx bY b_ bZ rb).J F s w)(v y:Int×Int)(i:Int)(hv:v.1=3->0<=v.2/\cv s.T v.2.toNat)(m:s.T.length<=10000)(A:∀i,(s.T.getD i t0).2.1.length<=12):
 Calls prog 133 #[aj bY,.agg #[ah v.1,ah v.2],ah i,.agg #[ah y.1,ah y.2]] w fun e w'=>∃f,e=.returned (ah (s.set v i y).1)/\(cx bY b_ bZ rb).J f (s.set v i y).2 w'/\b8 F w f w':=by
 obtain⟨l,h,u,o⟩:=h;have no:∀c:Int,c≠0->s.fc v i=c->(∀w',aw w w'->Calls prog 201 #[aj bY,.agg #[ah v.1,ah v.2],ah i] w' fun e B=>e=.returned (.tuple #[.agg #[ah 0,ah 0],ah c])/\aw w' B)->
  Calls prog 133 #[aj bY,.agg #[ah v.1,ah v.2],ah i,.agg #[ah y.1,ah y.2]] w fun e w'=>∃f,e=.returned (ah (s.set v i y).1)/\(cx bY b_ bZ rb).J f (s.set v i y).2 w'/\b8 F w f w':=fun c hc p P=>by
  refine(HV v y i c hc P).mono ?_;rintro e w' ⟨rfl,hb⟩
  unfold ck.set;rw[p,aG hc];exact⟨F,rfl,⟨l,h.below hb,u,o⟩,b8.of hb⟩
 by_cases q:v.1=3/\(s.T.getD v.2.toNat t0).1≠5
 ·obtain⟨d,j⟩:=q;have hd:jE s.T v=true:=jF.2 ⟨d,j⟩
  have t:=hv d;clear hv;obtain⟨k,x⟩:=v;dsimp only at d j t no⊢;subst d;by_cases hi:i<0\/((s.T.getD x.toNat t0).2.1.length:Int)<=i
  ·exact no 1 aa (by unfold ck.fc;rw[aI hd,aI hi]) (fun w' hb=>z8 (h.below hb) x i t m j hi)
  ·have p:s.fc (3,x) i=0:=by unfold ck.fc;rw[aI hd,aG hi]
   obtain⟨n,rfl⟩:=Int.eq_ofNat_of_zero_le (a:=i) V;have hn:n<(s.T.getD x.toNat t0).2.1.length:=V;refine(HU h x n y t m j hn (aM hn (A _))).mono ?_;rintro e w' ⟨rfl,g,fr⟩
   unfold ck.set;rw[p,aI rfl];exact⟨F,rfl,⟨l,g,u,o⟩,fr.mono (fun b hb=>(o b).2 hb),fun b hb=>aK hb⟩
 ·exact no 2 aa (by unfold ck.fc;rw[aG (fun c=>q (jF.1 c))]) (fun w' hb=>z7 (h.below hb) v i hv m (fun d=>Classical.byContradiction (fun c=>q ⟨d,c⟩)))
end
def eK (f:Nat->Int):Nat->Int
 |0=>0
 |n+1=>eK f n+f n
theorem ns {f g:Nat->Int}:∀n,(∀i,i<n->f i=g i)->eK f n=eK g n
 |0,_=>rfl
 |n+1,h=>by rw[eK,eK,ns n (fun i hi=>h i V),h n V]
theorem ut:∀n,eK (fun _=>0) n=0
 |0=>rfl
 |n+1=>by rw[eK,ut n];rfl
theorem Aj {f g:Nat->Int}{k:Nat}(b:∀i,i≠k->f i=g i):∀n,k<n->eK g n=eK f n+(g k-f k)
 |0,h=>by omega
 |n+1,h=>by
  rw[eK,eK];by_cases e:k=n
  ·subst e;rw[ns k (fun i hi=>b i V)];omega
  ·rw[Aj b n V,b n V];omega
theorem Ak {f:Nat->Int}(h:∀i,0<=f i/\f i<=13):∀n,0<=eK f n/\eK f n<=13*n
 |0=>⟨Int.le_refl _,Int.le_refl _⟩
 |n+1=>by have b:=Ak h n;have c:=h n;rw[eK];omega
def jc (T:List cD)(i:Nat):Int:=if(T.getD i t0).2.2.2=true then 0 else if(T.getD i t0).2.2.1=true then 0 else 1+(T.getD i t0).2.1.length
def jd (T:List cD)(i:Nat):Int:=if(T.getD i t0).2.2.2=true then 0 else if(T.getD i t0).2.2.1=true then 1+(T.getD i t0).2.1.length else 0
theorem Ip (T:List cD):d_ T=(eK (jc T) T.length,eK (jd T) T.length):=by
 have key:∀n,n<=T.length->d_ (T.take n)=(eK (jc T) n,eK (jd T) n):=fun n=>by
  induction n with
  |zero=>intro _;rfl
  |succ n b=>
   intro hn;have e:T.take (n+1)=T.take n++[T.getD n t0]:=by rw[List.take_add_one,aE,aL V];rfl
   rw[e,xR,b V,eK,eK];unfold i5 jc jd;split
   ·simp
   ·split
    ·simp
    ·simp
 have:=key T.length bW
 rwa [List.take_of_length_le bW] at this
theorem Al (T:List cD)(L:List Bool):∀n,iE T L n=eK (fun i=>if L.getD i false=true then 1+(T.getD i t0).2.1.length else 0) n
 |0=>rfl
 |n+1=>by rw[eK,<-Al T L n,iE];split<;>simp
def gu (left:Int->Bool)(f:Nat->Int)(i:Nat):Int:=if left i=true then 0 else f i
theorem uu (left:Int->Bool)(f:Nat->Int)(k n:Nat)(hk:k<n)(hl:left k=true):eK (gu (fun y=>left y&&!(y==(k:Int))) f) n=eK (gu left f) n+f k:=by
 have h:=Aj (f:=gu left f) (g:=gu (fun y=>left y&&!(y==(k:Int))) f) (fun i hi=>by
  unfold gu;have:((i:Int)==(k:Int))=false:=by simp;omega
  simp[this]) n hk
 rw[h];unfold gu;rw[aI hl,aG Z];omega
theorem ri {f:Nat->Int}(left:Int->Bool)(h:∀i,0<=f i/\f i<=13)(n:Nat):0<=eK (gu left f) n/\eK (gu left f) n<=13*n:=Ak (fun i=>by
 unfold gu;split
 ·omega
 ·exact h i) n
theorem uv (k:Int)(ad:Option Addr)(n cp:Nat)(hn:n<=100000)(w:ax):Calls prog 210 #[.agg #[ah k,.slice ad n cp]] w fun e w'=>e=.returned (ah (1+n))/\aw w w':=by exact kZ
theorem Am {w:ax}{bY fe:Nat}(c4:w.cell? (aq bY 4)=some (ah fe))(x:Int):Calls prog 203 #[aj bY,ah x] w fun e w'=>e=.returned (.bool (decide (x<fe)))/\w'=w:=by go_wp2;go_ret;exact⟨rfl,rfl⟩
section
variable {bY:Nat}{b_ bZ:Int}{l:gF}{s:ck}{w:ax}
theorem uw (h:dS bY b_ bZ l s w)(E:∀i,(s.T.getD i t0).2.1.length<=12)(ao:s.T.length<=10000):
 Calls prog 137 #[aj bY] w fun e w'=>e=.returned (.tuple #[ah (d_ s.T).1,ah (d_ s.T).2])/\aw w w':=by
 rw[Ip];obtain⟨_,_,c2,_,c4,_,_,_,X⟩:=h.cells;obtain⟨w1,cnt,F,m,gr,sz⟩:=h.g2.mp.range (t:=184) (e:=220) Tryz.underlying184;have ab:∀i,0<=jc s.T i/\jc s.T i<=13:=fun i=>by
  have:=E i;unfold jc;split
  ·omega
  ·split
   ·omega
   ·omega
 have ag:∀i,0<=jd s.T i/\jd s.T i<=13:=fun i=>by
  have:=E i;unfold jd;split
  ·omega
  ·split
   ·omega
   ·omega
 have A:=g6 ab ag E;have z:∀f:Nat->Int,(∀i,(s.T.getD i t0).2.2.2=true->f i=0)->eK (gu (fun x=>(hJ s.T l.fm x).isSome) f) s.T.length=0:=fun f ai=>by
  rw[<-ut s.T.length];refine ns _ (fun i hi=>?_)
  unfold gu;by_cases ha:cv s.T i
  ·exact aI (by dsimp only;rw[jb ⟨V,by simpa using ha⟩];rfl)
  ·refine(aG (by dsimp only;rw[lH (fun c=>ha (by simpa using c.2))];simp)).trans (ai i ?_)
   cases e:(s.T.getD i t0).2.2.2
   ·exact absurd ⟨hi,e⟩ ha
   ·rfl
 have G:=z (jc s.T) (fun i e=>by unfold jc;rw[aI e])
 have H:=z (jd s.T) (fun i e=>by unfold jd;rw[aI e])
 have M:=jr (bX.grown gr bW (fun j I=>by cases I)) m G H;have al:=hide h;go_enter func137,ntmps137;go_wp2
 go_loopw [4,5] (fun y o wr=>∃(left:Int->Bool)(c:Nat),y=ah (eK (gu left (jc s.T)) s.T.length)/\o=ah (eK (gu left (jd s.T)) s.T.length)/\gf wr l.mb w.heap.size l.n (hJ s.T l.fm) left c/\aw w wr) (fun _ _ wr=>wr.rangeLeft l.mb w.heap.size)
 ·obtain⟨b,r,G,H⟩:=M.out;exact⟨_,cnt,by rw[G],by rw[H],r,b⟩
 ·
   clear M F;obtain⟨left,c,rfl,rfl,m,hb⟩:=hrel;have mb:=ri left A.out.1 s.T.length;have nb:=ri left A.out.2.1 s.T.length;rcases m.next 0 with⟨h0,hl,F⟩|⟨x,v,B,C,N,D,F,hR2,hlt,am,ap,ar⟩
   ·have q:eK (gu left (jc s.T)) s.T.length=eK (jc s.T) s.T.length:=ns _ (fun i _=>by unfold gu;rw[hl,aG aa])
    have an:eK (gu left (jd s.T)) s.T.length=eK (jd s.T) s.T.length:=ns _ (fun i _=>by unfold gu;rw[hl,aG aa])
    rw[q,an];have d:=hide hb;clear hb m hl;go_wp2;go_ret2;exact⟨rfl,d.out⟩
   ·have J:0<=x/\cv s.T x.toNat:=by
     by_cases c:0<=x/\cv s.T x.toNat
     ·exact c
     ·rw[lH c] at D;cases D
    obtain⟨i,rfl⟩:=Int.eq_ofNat_of_zero_le J.1;have u:cv s.T i:=by simpa using J.2
    rw[jb J] at D;have hv:=(Option.some.inj D).symm;dsimp only [fW,eD] at hv;rw[Int.toNat_natCast] at hv;subst hv;have s1:=uu left (jc s.T) i s.T.length u.1 N;have s2:=uu left (jd s.T) i s.T.length u.1 N;have aB:=ri (fun y=>left y&&!(y==(i:Int))) A.out.1 s.T.length;have aF:=A.out.2.2 i;have Q:=al.out.g2.fe i u;have b2:=hb.grown am hb.size (fun j I=>by cases I;exact aD _)
    have b3:=b2.alloc b2.size (.cells #[.int .i64 (s.T.getD i t0).1,.slice (l.fm i).1 (s.T.getD i t0).2.1.length (l.fm i).2] 220)
    have P:=Am ((b3.cell (p:=aq bY 4) X).trans c4) i;have R:ay (∀g,Below (B.alloc (.cells #[.int .i64 (s.T.getD i t0).1,.slice (l.fm i).1 (s.T.getD i t0).2.1.length (l.fm i).2] 220)).heap.size (B.alloc (.cells #[.int .i64 (s.T.getD i t0).1,.slice (l.fm i).1 (s.T.getD i t0).2.1.length (l.fm i).2] 220)) g->gf g l.mb w.heap.size l.n (hJ s.T l.fm) (fun y=>left y&&!(y==(i:Int))) C/\aw w g/\C<c):=fun g hb3=>by exact Ae
    have S:=hide m.left_eq;have W:ay (∀w,Calls prog 210 #[.agg #[ah (s.T.getD i t0).1,.slice (l.fm i).1 (s.T.getD i t0).2.1.length (l.fm i).2]] w fun e w'=>e=.returned (ah (1+(s.T.getD i t0).2.1.length))/\aw w w'):=fun w=>uv _ _ _ _ V w;have y1:jc s.T i=if i<l.fe then 0 else 1+((s.T.getD i t0).2.1.length:Int):=by unfold jc;rw[u.2,Q];simp
    have o1:jd s.T i=if i<l.fe then 1+((s.T.getD i t0).2.1.length:Int) else 0:=by unfold jd;rw[u.2,Q];simp
    rw[y1] at s1;rw[o1] at s2;have k:=dq s1 s2;generalize eK (gu left (jc s.T)) s.T.length=Y at*;generalize eK (gu left (jd s.T)) s.T.length=O at*;generalize (s.T.getD i t0).2.1.length=n at*;generalize (s.T.getD i t0).1=kd at*;generalize (l.fm i).1=ad at*;generalize (l.fm i).2=cp at*;by_cases ho:i<l.fe
    ·have q:decide ((i:Int)<(l.fe:Int))=true:=by simp;exact ho
     rw[q] at P;rw[aI ho,aI ho] at k;go_wp2_with fail;refine P.mono ?_;clear P;rintro e g ⟨rfl,rfl⟩
     have U:=W.out (B.alloc (.cells #[.int .i64 kd,.slice ad n cp] 220))
     go_wp2_with fail;refine U.mono ?_;clear U;rintro e K ⟨rfl,L⟩
     have d:=hide (R.out K L)
     go_wp2;go_roundw;exact⟨_,C,by rw[k.out.1];simp,by rw[k.out.2],d.out.1,d.out.2.1⟩
     rw[d.out.1.left_eq,S.out];exact d.out.2.2
    ·have q:decide ((i:Int)<(l.fe:Int))=false:=by simp;omega
     rw[q] at P;rw[aG ho,aG ho] at k;go_wp2_with fail;refine P.mono ?_;rintro e g ⟨rfl,rfl⟩
     go_wp2_with fail;refine(W.out (B.alloc (.cells #[.int .i64 kd,.slice ad n cp] 220))).mono ?_;rintro e K ⟨rfl,L⟩
     have d:=hide (R.out K L)
     go_wp2;go_roundw;exact⟨_,C,by rw[k.out.1],by rw[k.out.2];simp,d.out.1,d.out.2.1⟩
     rw[d.out.1.left_eq,S.out];exact d.out.2.2
end
end Go.Proofs.YtpkjkjhanlbcoaaGreat
