import Derived.Test.YtpkjkjhanlbcoaaGreatJ18
namespace Go.Proofs.YtpkjkjhanlbcoaaGreat
set_option maxRecDepth 100000
set_option maxHeartbeats 4000000
open Tryz
open Go.RowKit W Kp cf
theorem Aj {P:Prop}(h:P:=by have l1:=hR2.nl.lt;have l2:=hR2.lt;exact⟨hR2.same ((hb3.block _ (by simp;omega)).trans (aS _ _ _ l1)) ((hb3.block _ (by simp;omega)).trans (aS _ _ _ l2)),b3.trans (hb3.mono b3.size),hlt⟩):P:=h
theorem Ak {P:Prop}(h:P:=by obtain⟨F',j,t⟩:=Il g1 (g4.trans hrb) hF (fr.mono (fun b e=>by rw[e,h.g3.so];decide)) g2;exact⟨F',rfl,j,t,fr.block bY ru (fun c=>by have:=h.bo;rw[c,h.g3.so] at this;omega)⟩):P:=h
structure f7 (T:List cD)(wt:List b7)(is:List Bool)(s:dw):Prop where
 mi:eQ T wt is s []
 hl:∀x,(s.hd x).length<=s.m
 mm:s.m+(s.td.length+cnt s.A)<=T.length
structure Al (T:List cD)(wt:List b7)(is:List Bool)(s s':dw):Prop where
 dp:f7 T wt is s'
 td:s'.td=[]
 up:∀k,ct s.A k->ct s'.A k
section
variable {T:List cD}{wt:List b7}{is:List Bool}{s:dw}
theorem Am (hl:∀x,(s.hd x).length<=s.m)(i:Int):(∀x,((gm T wt s i).hd x).length<=(gm T wt s i).m)/\(gm T wt s i).m<=s.m+1:=by
 have hm:∀l,(∀x,((dm s l).hd x).length<=(dm s l).m)/\(dm s l).m<=s.m+1:=fun l=>by obtain⟨a,b,_⟩:=i9 s l;rw[a,b];exact⟨hl,V⟩
 unfold gm;split
 ·exact hm _
 split
 ·exact hm [_]
 split
 ·unfold kQ;split
  ·exact hm [_]
  ·dsimp only;refine⟨fun x=>?_,aD _⟩
   have:=hl x;split
   ·simp;omega
   ·omega
 split
 ·exact hm _
 ·exact hm []
theorem Im (hl:∀x,(s.hd x).length<=s.m)(i:Int):∀x,((gE T wt s i).hd x).length<=(gE T wt s i).m:=by unfold gE;obtain⟨a,b,_⟩:=i9 _ _;rw[a,b];exact(Am hl i).1
theorem eQ.hv {E:List Int}(h:eQ T wt is s E)(f:e4 T wt)(x:Int)(v:Int×Int)(hv:v∈s.hd x)(d:v.1=3):0<=v.2/\cv T v.2.toNat:=by obtain⟨j,a,b,c,e⟩:=h.hd _ _ hv;rw[e] at d⊢;exact lD f (h.al j a) b 1 aa d
theorem In {i:Nat}(h:eQ T wt is s [(i:Int)])(c:e4 T wt)(hi:cv T i):∀x,∀v∈(gm T wt s i).hd x,v.1=3->0<=v.2/\cv T v.2.toNat:=by
 have hm:∀l,∀x,∀v∈(dm s l).hd x,v.1=3->0<=v.2/\cv T v.2.toNat:=fun l x v hv b=>by rw[(i9 s l).1] at hv;exact h.hv c x v hv b
 unfold gm;split
 ·exact hm _
 split
 ·exact hm [_]
 split
 ·rename_i d;unfold kQ;split
  ·exact hm [_]
  ·intro x v hv b;dsimp only at hv;split at hv
   ·rcases List.mem_append.1 hv with hv|hv
    ·exact h.hv c x v hv b
    ·simp only [List.mem_singleton] at hv;rw[hv] at b⊢;exact lD c hi d 1 aa b
   ·exact h.hv c x v hv b
 split
 ·exact hm _
 ·exact hm []
theorem Io (i:Int):(gm T wt s i).A.length=s.A.length:=by
 have hm:∀l,_=_:=fun l=>(i9 s l).2.2;unfold gm;split
 ·exact hm _
 split
 ·exact hm [_]
 split
 ·unfold kQ;split
  ·exact hm [_]
  ·rfl
 split
 ·exact hm _
 ·rfl
end
section
variable {c:Cp}{own own':Nat->Nat}{vt cM:Value}{n1 n2 n1' d6:Nat}{hm hm':Int->Option Addr×Nat}{st:dw}{w w':ax}{is:List Bool}
theorem cU.todo (h:cU c own vt n1 n2 hm st w){cM:Value}{t:List Int}(hr:w.ownsRow 0 2 1 cM t.length (t.map (Value.int .i64)))(ho:∀k,some k=cM.ownBlock->own k=3)(hl:t.length<=st.td.length):cU c own cM n1 n2 hm {st with td:=t} (w.setCell ⟨c.cp,2,none⟩ cM)/\et own w own (w.setCell ⟨c.cp,2,none⟩ cM):=by
 have fr:Fr (fun b=>own b=1) w (w.setCell ⟨c.cp,2,none⟩ cM):=(Fr.refl _ w).set c.cp 2 cM h.co;have hk:∀b,own b≠1->b<w.heap.size->_=_:=fun b hb hl=>fr.block b hl hb;have g:=h.sz;refine⟨{
  ol:=fun k f=>(fr.block k V (fun cc=>?_)).trans (h.ol k f),sz:=aT h.sz fr.size,cb:=?_,co:=h.co,am:=h.am.same (hk _ (by rw[h.ao];decide) h.am.lt),ao:=h.ao,an:=h.an,tr:=cH hr (fun k e=>hk k (by rw[ho k e];decide) (cn hr k e).2),tw:=ho,tn:=by have:=h.tn;dsimp only;omega
  hq:=h.hq.same (hk _ (by rw[h.ho];decide) h.hq.lt),ho:=h.ho,hn:=h.hn,hr:=fun x d=>⟨(h.hr x d).1,cH (h.hr x d).2 (fun k e=>hk k (by rw[h.hro x d k e];omega) (cn (h.hr x d).2 k e).2)⟩,hro:=h.hro,lt:=fun b hb=>⟨(h.lt b hb).1,aM (h.lt b hb).2 fr.size⟩},fr.mono (fun b hb=>by omega),fun b hb=>aK hb⟩
 ·have:=(h.lt k V).1;omega
 ·simp only [World.setCell,Array.getElem?_modify,if_true,h.cb,Option.map_some];rfl
theorem An (hg:hJ c)(h:cU c own vt n1 n2 hm st w)(ho:f7 c.s.T c.s.wt is st):
 Calls prog 246 #[aj c.cp] w fun e w'=>∃own' cM n1' d6 hm' d,e=.returned (.tuple #[])/\cU c own' cM n1' d6 hm' d w'/\et own w own' w'/\Al c.s.T c.s.wt is st d:=by
 have f:=hide hg;have B:=dq h ho;obtain⟨_,_,c2,_,_,_⟩:=h.cells;obtain⟨ad,cap,ev⟩:=eE h.tr;rw[ev] at c2;go_enter func246,ntmps246;go_wp2_with fail
 go_loopg [2] (st.td.length+cnt st.A) (fun m nv wr=>∃(own':Nat->Nat)(cM:Value)(n1' d6:Nat)(hm':Int->Option Addr×Nat)(d:dw),nv=ah d.td.length/\ay (cU c own' cM n1' d6 hm' d wr/\et own w own' wr/\f7 c.s.T c.s.wt is d/\(∀k,ct st.A k->ct d.A k)/\d.td.length+cnt d.A<=m))
 exact⟨own,vt,n1,n2,hm,st,rfl,B.o.1,et.of bX,B.o.2,fun _ h=>h,aD _⟩
 case round=>
  obtain⟨own',cM,n1',d6,hm',s1,rfl,C⟩:=hrel;obtain⟨g,t,dp,up,K⟩:=C.o;by_cases D:0<s1.td.length
  ·obtain⟨_,_,L,_,M,lk⟩:=g.cells;have tr:=g.tr;obtain⟨b,cap,N⟩:=eT tr D;subst N;have O:=sN tr;obtain⟨n,hn⟩:∃n,s1.td.length=n+1:=⟨s1.td.length-1,V⟩
   have P:wr.cell? (aq b n)=some (ah (s1.td.getD n 0)):=by obtain⟨aV,a0,e,_,hc⟩:=gH tr D;cases e;have:=hc n V;rwa [Nat.zero_add] at this
   have E:(s1.td.take n).length=n:=by rw[bw];omega
   have F:s1.td=s1.td.take n++[s1.td.getD n 0]:=by
    rw[aE,aL V];have:=List.take_add_one (l:=s1.td) (i:=n)
    rw[aL V,List.take_of_length_le V] at this
    exact this
   have o:=dp.mi.td (s1.td.getD n 0) (aJ (getD_in V))
   have A:=dp.mi.pop f.o.iv F;obtain⟨i,hi⟩:=Int.eq_ofNat_of_zero_le o.1;have G:cv c.s.T i:=dp.mi.al i (by have:=o.2;rwa [hi] at this)
   obtain⟨g2,Q⟩:=g.todo (cM:=.slice (ak b) n cap) (t:=s1.td.take n) (by rw[E,List.map_take];exact sM tr n V) (fun k e=>g.tw k e) V;have R:=dp.mm;have a1:=f.o.t;have S:iX c {s1 with td:=s1.td.take n}:=⟨dp.mi.len,fun x v hv U=>dp.mi.hv f.o.iv x v hv U,fun x=>by have:=dp.hl x;dsimp only;omega,by dsimp only;omega⟩
   rw[hi] at o A F;have H:ct s1.A i:=by simpa using o.2
   have hb:=Am (T:=c.s.T) (wt:=c.s.wt) (s:={s1 with td:=s1.td.take n}) dp.hl i;have W:iX c (gm c.s.T c.s.wt {s1 with td:=s1.td.take n} i):=⟨(Io _).trans dp.mi.len,In A f.o.iv G,fun x=>by have I:=hb.1 x;have p:=hb.2;dsimp only at p;omega,by have p:=hb.2;dsimp only at p;omega⟩
   have X:=Ik f.o g2 S i W V (by simpa using H) (by simpa using G)
   have q:=hide (A.look f.o.iv H)
   have Y:ay (∀x,((gE c.s.T c.s.wt {s1 with td:=s1.td.take n} i).hd x).length<=(gE c.s.T c.s.wt {s1 with td:=s1.td.take n} i).m):=Im (s:={s1 with td:=s1.td.take n}) dp.hl i;have ab:=hide (t.trans Q)
   have ag:=dq hn E;have u:=g6 up R K;rw[hi] at P;rw[hn] at L O⊢;have a2:=M 2;generalize gE c.s.T c.s.wt {s1 with td:=s1.td.take n} i=j at*;go_wp2_with fail;refine X.mono ?_;rintro e bb ⟨ai,al,am,an,ao,rfl,g4,ap⟩
   obtain⟨_,_,ar,_⟩:=g4.cells;obtain⟨bd,be,aB⟩:=eE g4.tr;rw[aB] at ar;have aF:=q.o.td;have bg:=ag.o;dsimp only at aF;have bi:1<=gk:=by have:=u.o.2.2;omega
   have aR:ay (_/\_/\f7 c.s.T c.s.wt is j/\(∀k,ct st.A k->ct j.A k)/\j.td.length+cnt j.A<=gk-1):=⟨g4,ab.o.trans ap,⟨q.o.mi,Y.o,by have I:=q.o.mm;have p:=u.o.2.1;dsimp only at I;omega⟩,fun k hk=>q.o.up k (u.o.1 k hk),by have:=u.o.2.2;omega⟩
   go_wp2_with fail
   go_roundg (gk-1)
   case measure=>omega
   exact⟨ai,al,am,an,ao,j,rfl,aR⟩
  ·have J:s1.td=[]:=List.eq_nil_of_length_eq_zero V;rw[J];go_wp2_with fail;go_end0;obtain⟨g,t,dp,up,_⟩:=C.o;exact⟨own',cM,n1',d6,hm',s1,rfl,g,t,dp,J,up⟩
end
theorem Ip {q:List b7}{g:Int}{i:Nat}(hi:i<q.length)(e:(q.getD i (0,0)).1=g)(hn:∀e∈q.take i,¬e.1=g):dO g q=i:=by
 unfold dO;rw[List.findIdx_eq hi];refine⟨?_,fun j b=>?_⟩
 ·rw[aE,aL hi] at e;simpa using e
 ·have:=hn (q[j]'V) (by rw[List.mem_take_iff_getElem];exact⟨j,V,rfl⟩)
  simpa using this
section
variable {bY rb:Nat}{b_ bZ:Int}{l:gF}{F:Nat->Prop}{s:ck}{w w':ax}
theorem dS.side (h:dS bY b_ bZ l s w){r q:List b7}{a0 a1:Option Addr}{k0 k1:Nat}(f:fu w' l.bp a0 k0 a1 k1 r q)(fr:Fr (fun k=>k=l.bp) w w')
 (n0:∀k,some k=(Value.slice a0 r.length k0).ownBlock->l.own k=5\/w.heap.size<=k)(n1:∀k,some k=(Value.slice a1 q.length k1).ownBlock->l.own k=6\/w.heap.size<=k)
 (g:∀k,w.heap.size<=k->some k=(Value.slice a0 r.length k0).ownBlock->some k≠(Value.slice a1 q.length k1).ownBlock):
 ∃d,dS bY b_ bZ d {s with rg:=r,wt:=q} w'/\(∀b,d.own b≠0->l.own b≠0\/w.heap.size<=b)/\d.fm=l.fm/\d.rb=l.rb:=by
 refine⟨{l with own:=fun b=>if w.heap.size<=b then(if some b=(Value.slice a0 r.length k0).ownBlock then 5 else if some b=(Value.slice a1 q.length k1).ownBlock then 6 else 0) else l.own b,a0:=a0,k0:=k0,a1:=a1,k1:=k1},?_,?_,rfl,rfl⟩
 ·have ho:∀b,l.own b≠0->¬w.heap.size<=b:=fun b hb=>by have:=h.lt b hb;omega
  have he:∀b,l.own b≠0->(if w.heap.size<=b then(if some b=(Value.slice a0 r.length k0).ownBlock then 5 else if some b=(Value.slice a1 q.length k1).ownBlock then 6 else 0) else l.own b)=l.own b:=fun b hb=>aG (ho b hb)
  have hk:∀b,l.own b≠0->l.own b≠3->_=_:=fun b hb j=>fr.block b (h.lt b hb) (fun c=>j (by rw[c];exact h.g3.so))
  refine {blk:=(hk bY (by rw[h.bo];decide) (by rw[h.bo];decide)).trans h.blk,bo:=?_,g2:=?_,g3:=?_,g4:=?_,lt:=?_}
  ·exact(he bY (by rw[h.bo];decide)).trans h.bo
  ·exact {
    mp:=h.g2.mp.same (hk _ (by rw[h.g2.dp];decide) (by rw[h.g2.dp];decide)),mn:=h.g2.mn,dp:=(he _ (by rw[h.g2.dp];decide)).trans h.g2.dp
    fl:=fun i hi=>cH (h.g2.fl i hi) (fun k e=>hk k (by rw[h.g2.eR i hi k e];omega) (by rw[h.g2.eR i hi k e];omega))
    eR:=fun i hi k e=>(he k (by rw[h.g2.eR i hi k e];omega)).trans (h.g2.eR i hi k e),fe:=h.g2.fe,al:=h.g2.al}
  ·refine {sd:=f,so:=(he _ (by rw[h.g3.so];decide)).trans h.g3.so,ro:=fun k e=>?_,me:=fun k e=>?_}
   ·rcases n0 k e with c|c
    ·exact(he k (by rw[c];decide)).trans c
    ·show(if _ then _ else _)=_;rw[aI c,aI e]
   ·rcases n1 k e with c|c
    ·exact(he k (by rw[c];decide)).trans c
    ·show(if _ then _ else _)=_;rw[aI c,aG (fun m=>g k c m e),aI e]
  ·exact {rt:=(hk _ (by rw[h.g4.ro];decide) (by rw[h.g4.ro];decide)).trans h.g4.rt,rl:=h.g4.rl,ro:=(he _ (by rw[h.g4.ro];decide)).trans h.g4.ro}
  ·intro b hb;dsimp only at hb;by_cases c:w.heap.size<=b
   ·rw[aI c] at hb;by_cases c1:some b=(Value.slice a0 r.length k0).ownBlock
    ·exact(cn f.r0 b c1).2
    ·rw[aG c1] at hb;by_cases c2:some b=(Value.slice a1 q.length k1).ownBlock
     ·exact(cn f.q0 b c2).2
     ·rw[aG c2] at hb;exact absurd rfl hb
   ·rw[aG c] at hb;exact aM (h.lt b hb) fr.size
 ·intro b hb;dsimp only at hb;by_cases c:w.heap.size<=b
  ·exact aJ c
  ·rw[aG c] at hb;exact aK hb
theorem Il {c:gF}{d:ck}(h:dS bY b_ bZ c d w')(g:c.rb=rb)(e:∀b,F b↔l.own b≠0)(fr:Fr (fun b=>l.own b≠0) w w')(ho:∀b,c.own b≠0->l.own b≠0\/w.heap.size<=b):∃f,(cx bY b_ bZ rb).J f d w'/\b8 F w f w':=
 ⟨fun b=>c.own b≠0,⟨c,h,g,fun _=>Iff.rfl⟩,fr.mono (fun b hb=>(e b).2 hb),fun b hb=>(ho b hb).imp (e b).2 id⟩
theorem Iq (h:(cx bY b_ bZ rb).J F s w)(g z:Int)(h0:s.rg.length<=90000)(f:s.wt.length<=90000):∃bp,w.cell? (aq bY 5)=some (aj bp)/\
 Calls prog 49 #[aj bp,.agg #[ah g,ah z]] w fun e w'=>∃F',e=.returned (.bool (!jO (s.rg.length+s.wt.length)))/\(cx bY b_ bZ rb).J F' (if 24<=s.rg.length+s.wt.length then s else {s with rg:=s.rg++[(g,z)]}) w'/\b8 F w F' w'/\w'.heap[bY]?=w.heap[bY]?:=by
 obtain⟨l,h,hrb,hF⟩:=h;obtain⟨_,_,_,_,_,c5,_,_,ru⟩:=h.cells;refine⟨l.bp,c5,(x3 w l.bp l.a0 l.a1 l.k0 l.k1 s.rg s.wt g z h.g3.sd h0 f).mono ?_⟩
 rintro e w' ⟨rfl,⟨d,hb⟩|⟨d,b1,c1,i,hn,fr⟩⟩
 ·rw[aI d];exact⟨F,rfl,⟨l,h.below hb,hrb,hF⟩,b8.of hb,hb.block bY ru⟩
 ·rw[aG d];obtain⟨n,g1,g2,_,g4⟩:=h.side i fr (fun k e=>aJ (by cases e;exact hn)) (fun k e=>aK (h.g3.me k e)) (fun k hk e m=>by have:=(cn h.g3.sd.q0 k m).2;omega)
  exact Ak
theorem Ir (h:(cx bY b_ bZ rb).J F s w)(g:Int)(d:s.wt.length<=90000):∃bp,w.cell? (aq bY 5)=some (aj bp)/\
 Calls prog 194 #[aj bp,ah g] w fun e w'=>∃F',e=.returned (.tuple #[ah (if dO g s.wt<s.wt.length then(s.wt.getD (dO g s.wt) (0,0)).2 else 0),.bool (decide (dO g s.wt<s.wt.length))])/\
  (cx bY b_ bZ rb).J F' (if dO g s.wt<s.wt.length then {s with wt:=s.wt.take (dO g s.wt)++s.wt.drop (dO g s.wt+1)} else s) w'/\b8 F w F' w'/\w'.heap[bY]?=w.heap[bY]?:=by
 obtain⟨l,h,hrb,hF⟩:=h;obtain⟨_,_,_,_,_,c5,_,_,ru⟩:=h.cells;refine⟨l.bp,c5,(zG w l.bp l.a0 l.a1 l.k0 l.k1 s.rg s.wt g h.g3.sd d).mono ?_⟩
 rintro e w' (⟨rfl,hn,hb⟩|⟨i,b1,c1,rfl,hi,f,hn,m,hz,fr⟩)
 ·have hp:¬dO g s.wt<s.wt.length:=by
   unfold dO;rw[List.findIdx_lt_length];rintro⟨x,n,o⟩
   exact hn x n (by simpa using o)
  rw[aG hp,aG hp,bq hp];exact⟨F,rfl,⟨l,h.below hb,hrb,hF⟩,b8.of hb,hb.block bY ru⟩
 ·rw[(Ip hi f hn),aI hi,aI hi,bh hi];obtain⟨p,g1,g2,_,g4⟩:=h.side m fr (fun k e=>aK (h.g3.ro k e)) (fun k e=>aJ (by
   cases b1 with
   |none=>cases e
   |some z=>cases e;exact hz z rfl)) (fun k hk e q=>by
   have:=(cn h.g3.sd.r0 k e).2;omega)
  exact Ak
end
section
variable {bY rb:Nat}{b_ bZ:Int}{l:gF}{F:Nat->Prop}{s:ck}{w w':ax}
theorem dr.set2 {d:Type}(o:dr d){t:d}{b:Nat}(h:o.J F t w)(hn:¬F b)(v1 v2:Value):o.J F t ((w.setCell ⟨b,0,none⟩ v1).setCell ⟨b,1,none⟩ v2):=
 o.fr h (((Fr.refl (fun k=>k=b) w).set b _ _ rfl).set b _ _ rfl) (fun k hk c=>hn (by rw[<-c];exact hk))
theorem b8.set2 {d:Nat->Prop}{b:Nat}(t:b8 F w d w')(hb:w.heap.size<=b)(v1 v2:Value):b8 F w d ((w'.setCell ⟨b,0,none⟩ v1).setCell ⟨b,1,none⟩ v2):=
 ⟨t.fr.trans (((Fr.refl (fun k=>k=b) w').set b _ _ rfl).set b _ _ rfl) (fun k c=>aJ (by rw[c];exact hb)),t.sub⟩
theorem Is (h:(cx bY b_ bZ rb).J F s w)(t p:Int×Int)(ht:t.1=3->0<=t.2/\cv s.T t.2.toNat)(hd:p.1=3->0<=p.2/\cv s.T p.2.toNat)(A:s.T.length<=10000)(h0:s.rg.length<=90000)(G:s.wt.length<=90000):
 Calls prog 132 #[aj bY,.agg #[ah t.1,ah t.2],.agg #[ah p.1,ah p.2]] w fun e w'=>∃f,e=.returned (ah (s.reg t p).1)/\(cx bY b_ bZ rb).J f (s.reg t p).2 w'/\b8 F w f w':=by
 obtain⟨H,b⟩:=t;obtain⟨g,d⟩:=p;have b1:Below w.heap.size w ((w.alloc (.cells #[.int .i64 H,.int .i64 b] 97)).alloc (.cells #[.int .i64 g,.int .i64 d] 97)):=(bX.alloc bW _).alloc Z _;have B:ay ((cx bY b_ bZ rb).J F s w):=h;have u:ay (∀w1,Below w.heap.size w w1->Calls prog 200 #[aj bY,.agg #[ah g,ah d]] w1 fun e w'=>e=.returned (.bool (iE s.T (g,d)))/\Below w1.heap.size w1 w'):=fun w1 hb=>by obtain⟨l,h,S,U⟩:=B.o;exact z_ (h.below hb) (g,d) hd A
 have m:ay (∀w1,Below w.heap.size w w1->∃bp,w1.cell? (aq bY 5)=some (aj bp)/\Calls prog 49 #[aj bp,.agg #[ah d,ah b]] w1 fun e w'=>∃f,e=.returned (.bool (!jO (s.rg.length+s.wt.length)))/\
  (cx bY b_ bZ rb).J f (if 24<=s.rg.length+s.wt.length then s else {s with rg:=s.rg++[(d,b)]}) w'/\b8 F w f w'/\∀a:Addr,a.block=bY\/(w.heap.size<=a.block/\a.block<w1.heap.size)->w'.cell? a=w1.cell? a):=fun w1 hb=>by
  obtain⟨bp,c5,P⟩:=Iq ((cx bY b_ bZ rb).below B.o hb) d b h0 G;refine⟨bp,c5,P.mono ?_⟩
  rintro e w' ⟨f,rfl,j,t,hg⟩
  refine⟨f,rfl,j,(b8.of hb).trans t,fun a ha=>aP ?_⟩
  rcases ha with e|⟨a1,a2⟩
  ·rw[e];exact hg
  ·exact t.fr.block _ a2 (fun c=>by have:=(cx bY b_ bZ rb).lt B.o _ c;omega)
 unfold ck.reg;by_cases K:H=3
 ·subst K;have P:Calls prog 199 #[aj bY,.agg #[ah 3,ah b]] ((w.alloc (.cells #[.int .i64 3,.int .i64 b] 97)).alloc (.cells #[.int .i64 g,.int .i64 d] 97)) fun e w'=>∃k ad n c,e=.returned (.tuple #[.agg #[ah k,.slice ad n c],.bool true])/\Below w.heap.size w (w'.alloc (.cells #[.int .i64 k,.slice ad n c] 220))/\
   (w'.alloc (.cells #[.int .i64 k,.slice ad n c] 220)).heap[w.heap.size]?=some (.cells #[ah 3,ah b] 97 (0,0))/\(w'.alloc (.cells #[.int .i64 k,.slice ad n c] 220)).heap[w.heap.size+1]?=some (.cells #[ah g,ah d] 97 (0,0)):=by
   obtain⟨l,h,S,U⟩:=h;refine(rf (h.below b1) b (ht rfl) A).mono ?_;rintro e w' ⟨rfl,hb⟩
   have M:=b1.trans (hb.mono b1.size)
   have v:=(hb.block w.heap.size (by simp;omega)).trans ((aS _ _ _ Z).trans (aN w (.cells #[.int .i64 3,.int .i64 b] 97)))
   have o:=(hb.block (w.heap.size+1) Z).trans (iP w (.cells #[.int .i64 3,.int .i64 b] 97) (.cells #[.int .i64 g,.int .i64 d] 97))
   exact⟨_,_,_,_,rfl,M.alloc M.size _,(aS _ _ _ (lt_of_some v)).trans v,(aS _ _ _ (lt_of_some o)).trans o⟩
  cases hg:iE s.T (g,d)
  ·rw[aG (fun c=>by cases c.2)];rw[hg] at u;clear h ht hd A h0 G m hg;go_enter func132,ntmps132;go_wp2_with fail;refine P.mono ?_;clear P;rintro e w1 ⟨k,ad,n,c,rfl,hb,v,o⟩
   have C:=u.o _ hb;obtain⟨q0,q1,_,_⟩:=di o;have q:ay (_):=hb;clear hb u v o b1;go_wp2_with fail;refine C.mono ?_;clear C;rintro e I ⟨rfl,i⟩
   have i:=q.o.trans (i.mono q.o.size)
   have D:ay ((cx bY b_ bZ rb).J F s I/\b8 F w F I):=⟨(cx bY b_ bZ rb).below B.o i,b8.of i⟩
   clear i q0 q1;go_wp2_with fail;go_ret;exact⟨F,rfl,D.o.1,D.o.2⟩
  ·rw[aI ⟨rfl,rfl⟩];rw[hg] at u;have key:∀(fb:Bool)(cd:Int)(s2:ck),(cd=if fb=true then 3 else 0)->ay (∀w1,Below w.heap.size w w1->∃bp,w1.cell? (aq bY 5)=some (aj bp)/\Calls prog 49 #[aj bp,.agg #[ah d,ah b]] w1 fun e w'=>∃f,e=.returned (.bool (!fb))/\(cx bY b_ bZ rb).J f s2 w'/\b8 F w f w'/\∀a:Addr,a.block=bY\/(w.heap.size<=a.block/\a.block<w1.heap.size)->w'.cell? a=w1.cell? a)->
    Calls prog 132 #[aj bY,.agg #[ah 3,ah b],.agg #[ah g,ah d]] w fun e w'=>∃f,e=.returned (ah cd)/\(cx bY b_ bZ rb).J f s2 w'/\b8 F w f w':=by
    intro fb cd s2 W m;clear h ht hd A h0 G hg;cases fb<;>subst W
    all_goals
     go_enter func132,ntmps132;go_wp2_with fail;refine P.mono ?_;clear P;rintro e w1 ⟨k,ad,n,c,rfl,hb,v,o⟩
     have C:=u.o _ hb;obtain⟨q0,q1,_,_⟩:=di o;have q:ay (_):=hb;have E:ay (_/\_):=⟨v,o⟩
     clear hb u v o b1;go_wp2_with fail;refine C.mono ?_;clear C;rintro e I ⟨rfl,i⟩
     have N:=q.o.trans (i.mono q.o.size)
     obtain⟨bp,c5,O⟩:=m.o _ N.drew;obtain⟨_,y1,_,l1⟩:=di ((i.block _ (lt_of_some E.o.1)).trans E.o.1)
     obtain⟨_,Q,_,l2⟩:=di ((i.block _ (lt_of_some E.o.2)).trans E.o.2)
     have c5:I.cell? (aq bY 5)=some (aj bp):=c5;clear i N q0 q1 E m;go_wp2_with fail
     go_region_held3 (fun w'=>w'.cell? (aq bY 5)=some (aj bp)/\w'.cell? (aq w.heap.size 1)=some (ah b)/\w'.cell? (aq (w.heap.size+1) 1)=some (ah d)) (go_keep)
      (first|(go_at_call 49;refine O.mono ?_;clear O;rintro e R ⟨L,rfl,cA,t3,J⟩;have D:ay ((cx bY b_ bZ rb).J L s2 R/\b8 F w L R):=⟨cA,t3⟩;have X:=(J ⟨bY,5,none⟩ (aK rfl)).trans c5;have Y:=(J ⟨w.heap.size,1,none⟩ (aJ ⟨aD _,l1⟩)).trans y1;have ab:=(J ⟨w.heap.size+1,1,none⟩ (aJ ⟨Nat.le_succ _,l2⟩)).trans Q;clear cA t3 c5 y1 Q J))
     all_goals
      go_wp2_with fail;go_ret;exact⟨rfl,L,D.o.1,D.o.2⟩
   by_cases x:24<=s.rg.length+s.wt.length
   ·rw[aI x];simp only [if_pos x,qx x] at m;exact key true 3 s rfl m
   ·rw[aG x];simp only [if_neg x,qy x] at m;exact key false 0 _ rfl m
 ·rw[aG (fun c=>K c.1)];have P:=uq (bY:=bY) (w:=(w.alloc (.cells #[.int .i64 H,.int .i64 b] 97)).alloc (.cells #[.int .i64 g,.int .i64 d] 97)) (H,b) K;clear h ht hd A h0 G u m;go_enter func132,ntmps132;go_wp2_with fail;refine P.mono ?_;clear P;rintro e w1 ⟨rfl,hb⟩
  have q:ay (Below w.heap.size w w1):=b1.trans (hb.mono b1.size)
  clear hb b1;go_wp2_with fail;go_ret;have hb:=q.o.alloc q.o.size (.cells #[.int .i64 0,.slice none 0 0] 220)
  exact⟨F,rfl,(cx bY b_ bZ rb).below B.o hb,b8.of hb⟩
theorem It (h:(cx bY b_ bZ rb).J F s w)(v:Int×Int)(hv:v.1=3->0<=v.2/\cv s.T v.2.toNat)(A:s.T.length<=10000)(B:s.wt.length<=90000):
 Calls prog 207 #[aj bY,.agg #[ah v.1,ah v.2]] w fun e w'=>∃d,e=.returned (.tuple #[.agg #[ah (s.pop v).1.1,ah (s.pop v).1.2],ah (s.pop v).2.1])/\(cx bY b_ bZ rb).J d (s.pop v).2.2 w'/\b8 F w d w':=by
 obtain⟨k,x⟩:=v;have b1:Below w.heap.size w ((w.alloc (.cells #[.int .i64 k,.int .i64 x] 97)).alloc (.cells #[.int .i64 0,.int .i64 0] 97)):=(bX.alloc bW _).alloc Z _;have C:ay ((cx bY b_ bZ rb).J F s w):=h;have P:Calls prog 200 #[aj bY,.agg #[ah k,ah x]] ((w.alloc (.cells #[.int .i64 k,.int .i64 x] 97)).alloc (.cells #[.int .i64 0,.int .i64 0] 97)) fun e w'=>e=.returned (.bool (iE s.T (k,x)))/\Below w.heap.size w w'/\
  w'.heap[w.heap.size]?=some (.cells #[ah k,ah x] 97 (0,0))/\w'.heap[w.heap.size+1]?=some (.cells #[ah 0,ah 0] 97 (0,0)):=by
  obtain⟨l,h,U,W⟩:=h;refine(z_ (h.below b1) (k,x) hv A).mono ?_;rintro e w' ⟨rfl,hb⟩
  exact⟨rfl,b1.trans (hb.mono b1.size),(hb.block w.heap.size (by simp;omega)).trans ((aS _ _ _ Z).trans (aN w _)),(hb.block (w.heap.size+1) Z).trans (iP w _ _)⟩
 have f:ay (∀w1,Below w.heap.size w w1->∃bp,w1.cell? (aq bY 5)=some (aj bp)/\Calls prog 194 #[aj bp,ah x] w1 fun e w'=>∃d,e=.returned (.tuple #[ah (if dO x s.wt<s.wt.length then(s.wt.getD (dO x s.wt) (0,0)).2 else 0),.bool (decide (dO x s.wt<s.wt.length))])/\
  (cx bY b_ bZ rb).J d (if dO x s.wt<s.wt.length then {s with wt:=s.wt.take (dO x s.wt)++s.wt.drop (dO x s.wt+1)} else s) w'/\b8 F w1 d w'/\∀b,b=bY\/(w.heap.size<=b/\b<w1.heap.size)->w'.heap[b]?=w1.heap[b]?):=fun w1 hb=>by
  obtain⟨bp,c5,P⟩:=Ir ((cx bY b_ bZ rb).below C.o hb) x B;refine⟨bp,c5,P.mono ?_⟩
  rintro e w' ⟨d,rfl,j,t,hg⟩
  refine⟨d,rfl,j,t,fun a ha=>?_⟩
  rcases ha with e|⟨a1,a2⟩
  ·rw[e];exact hg
  ·exact t.fr.block _ a2 (fun c=>by have:=(cx bY b_ bZ rb).lt C.o _ c;omega)
 unfold ck.pop;cases hg:iE s.T (k,x)
 ·rw[aG aa];rw[hg] at P;clear h hv A B f hg b1;go_enter func207,ntmps207;go_wp2_with fail;refine P.mono ?_;clear P;rintro e w1 ⟨rfl,hb,o,n⟩
  obtain⟨D,E,G,lw⟩:=di n;have m:ay (_=_):=n;have H:ay (_):=hb;clear hb o n;go_wp2_with fail;obtain⟨r0,r1,_,_⟩:=di (gy (v1:=ah 0) (v2:=ah 0) m.o)
  have hb:Below w.heap.size w ((w1.setCell ⟨w.heap.size+1,0,none⟩ (.int .i64 0)).setCell ⟨w.heap.size+1,1,none⟩ (.int .i64 0)):=(H.o.setCell Z _).setCell Z _;exact a3 (v:=.tuple #[.agg #[ah 0,ah 0],ah 2]) (by simp[results,results207,go_sem,r0,r1]) rfl ⟨F,rfl,(cx bY b_ bZ rb).below C.o hb,b8.of hb⟩
 ·rw[aI rfl];rw[hg] at P;have key:∀(fb:Bool)(z:Int)(s2:ck),(∀w1,Below w.heap.size w w1->∃bp,w1.cell? (aq bY 5)=some (aj bp)/\Calls prog 194 #[aj bp,ah x] w1 fun e w'=>∃d,e=.returned (.tuple #[ah z,.bool fb])/\
   (cx bY b_ bZ rb).J d s2 w'/\b8 F w1 d w'/\∀b,b=bY\/(w.heap.size<=b/\b<w1.heap.size)->w'.heap[b]?=w1.heap[b]?)->
   Calls prog 207 #[aj bY,.agg #[ah k,ah x]] w fun e w'=>∃d,e=.returned (.tuple #[.agg #[ah (if fb=true then 3 else 0),ah (if fb=true then z else 0)],ah (if fb=true then 0 else 4)])/\(cx bY b_ bZ rb).J d s2 w'/\b8 F w d w':=by
   intro fb z s2 f;have f:ay (∀w1,Below w.heap.size w w1->∃bp,w1.cell? (aq bY 5)=some (aj bp)/\Calls prog 194 #[aj bp,ah x] w1 fun e w'=>∃d,e=.returned (.tuple #[ah z,.bool fb])/\
    (cx bY b_ bZ rb).J d s2 w'/\b8 F w1 d w'/\∀b,b=bY\/(w.heap.size<=b/\b<w1.heap.size)->w'.heap[b]?=w1.heap[b]?):=f
   have N:ay (∀b,F b->b<w.heap.size):=fun b hb=>(cx bY b_ bZ rb).lt h b hb;clear h hv A B hg b1;rename_i O Q;clear O Q;cases fb
   all_goals
    go_enter func207,ntmps207;go_wp2_with fail;refine P.mono ?_;clear P;rintro e w1 ⟨rfl,hb,o,n⟩
    obtain⟨_,y1,_,l1⟩:=di o;obtain⟨bp,c5,J⟩:=f.o _ hb.drew;have c5:w1.cell? (aq bY 5)=some (aj bp):=c5;have H:ay (_):=hb;have p:ay (_=_):=n;clear hb o n f;go_wp2_with fail
    go_region_held3 (fun w'=>w'.cell? (aq bY 5)=some (aj bp)/\w'.cell? (aq w.heap.size 1)=some (ah x)) (go_keep)
     (first|(go_at_call 194;refine J.mono ?_;clear J;rintro e K ⟨i,rfl,cA,t3,q⟩;have L:¬i (w.heap.size+1):=(fun c=>(t3.sub _ c).elim (fun c=>by have:=N.o _ c;omega) (fun c=>by have:=lt_of_some p.o;have c:w1.heap.size<=_:=c;omega));have g:ay ((cx bY b_ bZ rb).J i s2 K/\b8 F w i K/\¬i (w.heap.size+1)):=⟨cA,(b8.of H.o.drew).trans t3,L⟩;have R:=(aP (a:=⟨bY,5,none⟩) (q bY (aK rfl))).trans c5;have S:=(aP (a:=⟨w.heap.size,1,none⟩) (q w.heap.size (aJ ⟨aD _,l1⟩))).trans y1;have I:=(q (w.heap.size+1) (aJ ⟨Nat.le_succ _,lt_of_some p.o⟩)).trans p.o;obtain⟨D,E,G,lw⟩:=di I;have m:ay (_=_):=I;clear cA t3 c5 y1 q I L))
    all_goals
     clear R S p;go_wp2_with fail
     first
      |(
       obtain⟨r0,r1,_,_⟩:=di (gy (v1:=ah 0) (v2:=ah 0) m.o)
       exact a3 (v:=.tuple #[.agg #[ah 0,ah 0],ah 4]) (by simp[results,results207,go_sem,r0,r1]) rfl ⟨rfl,i,dr.set2 _ g.o.1 g.o.2.2 _ _,g.o.2.1.set2 (Nat.le_succ _) _ _⟩)
      |(
       refine(ow _ _).mono ?_;rintro e M ⟨rfl,u⟩
       have m:ay (_=_):=(u.block _ lw).trans m.o;have g:ay ((cx bY b_ bZ rb).J i s2 M/\b8 F w i M/\¬i (w.heap.size+1)):=⟨(cx bY b_ bZ rb).below g.o.1 u,g.o.2.1.below u,g.o.2.2⟩
       clear u D E G lw;obtain⟨D,E,G,lw⟩:=di m.o;go_wp2_with fail;obtain⟨r0,r1,_,_⟩:=di (gy (v1:=ah 3) (v2:=ah z) m.o)
       exact a3 (v:=.tuple #[.agg #[ah 3,ah z],ah 0]) (by simp[results,results207,go_sem,r0,r1]) rfl ⟨rfl,i,dr.set2 _ g.o.1 g.o.2.2 _ _,g.o.2.1.set2 (Nat.le_succ _) _ _⟩)
  have f:=f.o;by_cases hi:dO x s.wt<s.wt.length
  ·rw[aI hi];simp only [if_pos hi,decide_eq_true hi] at f;exact key true _ _ f
  ·rw[aG hi];simp only [if_neg hi,decide_eq_false hi] at f;exact key false _ _ f
theorem Iu (h:(cx bY b_ bZ rb).J F s w)(v y:Int×Int)(i:Int)(hv:v.1=3->0<=v.2/\cv s.T v.2.toNat)(m:s.T.length<=10000)(A:∀i,(s.T.getD i t0).2.1.length<=12):
 Calls prog 133 #[aj bY,.agg #[ah v.1,ah v.2],ah i,.agg #[ah y.1,ah y.2]] w fun e w'=>∃f,e=.returned (ah (s.set v i y).1)/\(cx bY b_ bZ rb).J f (s.set v i y).2 w'/\b8 F w f w':=by
 obtain⟨l,h,u,o⟩:=h;have no:∀c:Int,c≠0->s.fc v i=c->(∀w',Below w.heap.size w w'->Calls prog 201 #[aj bY,.agg #[ah v.1,ah v.2],ah i] w' fun e B=>e=.returned (.tuple #[.agg #[ah 0,ah 0],ah c])/\Below w'.heap.size w' B)->
  Calls prog 133 #[aj bY,.agg #[ah v.1,ah v.2],ah i,.agg #[ah y.1,ah y.2]] w fun e w'=>∃f,e=.returned (ah (s.set v i y).1)/\(cx bY b_ bZ rb).J f (s.set v i y).2 w'/\b8 F w f w':=fun c hc p P=>by
  refine(H2 v y i c hc P).mono ?_;rintro e w' ⟨rfl,hb⟩
  unfold ck.set;rw[p,aG hc];exact⟨F,rfl,⟨l,h.below hb,u,o⟩,b8.of hb⟩
 by_cases q:v.1=3/\(s.T.getD v.2.toNat t0).1≠5
 ·obtain⟨d,j⟩:=q;have hd:jC s.T v=true:=jD.2 ⟨d,j⟩
  have t:=hv d;clear hv;obtain⟨k,x⟩:=v;dsimp only at d j t no⊢;subst d;by_cases hi:i<0\/((s.T.getD x.toNat t0).2.1.length:Int)<=i
  ·exact no 1 aa (by unfold ck.fc;rw[aI hd,aI hi]) (fun w' hb=>Ac (h.below hb) x i t m j hi)
  ·have p:s.fc (3,x) i=0:=by unfold ck.fc;rw[aI hd,aG hi]
   obtain⟨n,rfl⟩:=Int.eq_ofNat_of_zero_le (a:=i) V;have hn:n<(s.T.getD x.toNat t0).2.1.length:=V;refine(H0 h x n y t m j hn (aM hn (A _))).mono ?_;rintro e w' ⟨rfl,g,fr⟩
   unfold ck.set;rw[p,aI rfl];exact⟨F,rfl,⟨l,g,u,o⟩,fr.mono (fun b hb=>(o b).2 hb),fun b hb=>aK hb⟩
 ·exact no 2 aa (by unfold ck.fc;rw[aG (fun c=>q (jD.1 c))]) (fun w' hb=>Ab (h.below hb) v i hv m (fun d=>Classical.byContradiction (fun c=>q ⟨d,c⟩)))
end
def eK (f:Nat->Int):Nat->Int
 |0=>0
 |n+1=>eK f n+f n
theorem ns {f g:Nat->Int}:∀n,(∀i,i<n->f i=g i)->eK f n=eK g n
 |0,_=>rfl
 |n+1,h=>by rw[eK,eK,ns n (fun i hi=>h i V),h n V]
theorem uz:∀n,eK (fun _=>0) n=0
 |0=>rfl
 |n+1=>by rw[eK,uz n];rfl
theorem Ao {f g:Nat->Int}{k:Nat}(b:∀i,i≠k->f i=g i):∀n,k<n->eK g n=eK f n+(g k-f k)
 |0,h=>by omega
 |n+1,h=>by
  rw[eK,eK];by_cases e:k=n
  ·subst e;rw[ns k (fun i hi=>b i V)];omega
  ·rw[Ao b n V,b n V];omega
theorem Ap {f:Nat->Int}(h:∀i,0<=f i/\f i<=13):∀n,0<=eK f n/\eK f n<=13*n
 |0=>⟨Int.le_refl _,Int.le_refl _⟩
 |n+1=>by have b:=Ap h n;have c:=h n;rw[eK];omega
def ja (T:List cD)(i:Nat):Int:=if(T.getD i t0).2.2.2=true then 0 else if(T.getD i t0).2.2.1=true then 0 else 1+(T.getD i t0).2.1.length
def jb (T:List cD)(i:Nat):Int:=if(T.getD i t0).2.2.2=true then 0 else if(T.getD i t0).2.2.1=true then 1+(T.getD i t0).2.1.length else 0
theorem Iv (T:List cD):d_ T=(eK (ja T) T.length,eK (jb T) T.length):=by
 have key:∀n,n<=T.length->d_ (T.take n)=(eK (ja T) n,eK (jb T) n):=fun n=>by
  induction n with
  |zero=>intro _;rfl
  |succ n b=>
   intro hn;have e:T.take (n+1)=T.take n++[T.getD n t0]:=by rw[List.take_add_one,aE,aL V];rfl
   rw[e,xX,b V,eK,eK];unfold i3 ja jb;split
   ·simp
   ·split
    ·simp
    ·simp
 have:=key T.length bW
 rwa [List.take_of_length_le bW] at this
theorem Aq (T:List cD)(L:List Bool):∀n,iD T L n=eK (fun i=>if L.getD i false=true then 1+(T.getD i t0).2.1.length else 0) n
 |0=>rfl
 |n+1=>by rw[eK,<-Aq T L n,iD];split<;>simp
def gu (left:Int->Bool)(f:Nat->Int)(i:Nat):Int:=if left i=true then 0 else f i
theorem uA (left:Int->Bool)(f:Nat->Int)(k n:Nat)(hk:k<n)(hl:left k=true):eK (gu (fun y=>left y&&!(y==(k:Int))) f) n=eK (gu left f) n+f k:=by
 have h:=Ao (f:=gu left f) (g:=gu (fun y=>left y&&!(y==(k:Int))) f) (fun i hi=>by
  unfold gu;have:((i:Int)==(k:Int))=false:=by simp;omega
  simp[this]) n hk
 rw[h];unfold gu;rw[aI hl,aG Z];omega
theorem rx {f:Nat->Int}(left:Int->Bool)(h:∀i,0<=f i/\f i<=13)(n:Nat):0<=eK (gu left f) n/\eK (gu left f) n<=13*n:=Ap (fun i=>by
 unfold gu;split
 ·omega
 ·exact h i) n
theorem uB (k:Int)(ad:Option Addr)(n cp:Nat)(hn:n<=100000)(w:ax):Calls prog 210 #[.agg #[ah k,.slice ad n cp]] w fun e w'=>e=.returned (ah (1+n))/\Below w.heap.size w w':=by exact kY
theorem Ar {w:ax}{bY fe:Nat}(c4:w.cell? (aq bY 4)=some (ah fe))(x:Int):Calls prog 203 #[aj bY,ah x] w fun e w'=>e=.returned (.bool (decide (x<fe)))/\w'=w:=by go_wp2;go_ret;exact⟨rfl,rfl⟩
section
variable {bY:Nat}{b_ bZ:Int}{l:gF}{s:ck}{w:ax}
theorem uC (h:dS bY b_ bZ l s w)(E:∀i,(s.T.getD i t0).2.1.length<=12)(ao:s.T.length<=10000):
 Calls prog 137 #[aj bY] w fun e w'=>e=.returned (.tuple #[ah (d_ s.T).1,ah (d_ s.T).2])/\Below w.heap.size w w':=by
 rw[Iv];obtain⟨_,_,c2,_,c4,_,_,_,X⟩:=h.cells;obtain⟨w1,cnt,F,m,gr,sz⟩:=h.g2.mp.range (t:=184) (e:=220) underlying184;have ab:∀i,0<=ja s.T i/\ja s.T i<=13:=fun i=>by
  have:=E i;unfold ja;split
  ·omega
  ·split
   ·omega
   ·omega
 have ag:∀i,0<=jb s.T i/\jb s.T i<=13:=fun i=>by
  have:=E i;unfold jb;split
  ·omega
  ·split
   ·omega
   ·omega
 have A:=g6 ab ag E;have z:∀f:Nat->Int,(∀i,(s.T.getD i t0).2.2.2=true->f i=0)->eK (gu (fun x=>(hI s.T l.fm x).isSome) f) s.T.length=0:=fun f ai=>by
  rw[<-uz s.T.length];refine ns _ (fun i hi=>?_)
  unfold gu;by_cases ha:cv s.T i
  ·exact aI (by dsimp only;rw[i_ ⟨V,by simpa using ha⟩];rfl)
  ·refine(aG (by dsimp only;rw[lE (fun c=>ha (by simpa using c.2))];simp)).trans (ai i ?_)
   cases e:(s.T.getD i t0).2.2.2
   ·exact absurd ⟨hi,e⟩ ha
   ·rfl
 have G:=z (ja s.T) (fun i e=>by unfold ja;rw[aI e])
 have H:=z (jb s.T) (fun i e=>by unfold jb;rw[aI e])
 have M:=jp (bX.grown gr bW (fun j I=>by cases I)) m G H;have al:=hide h;go_enter func137,ntmps137;go_wp2
 go_loopw [4,5] (fun y o wr=>∃(left:Int->Bool)(c:Nat),y=ah (eK (gu left (ja s.T)) s.T.length)/\o=ah (eK (gu left (jb s.T)) s.T.length)/\gf wr l.mb w.heap.size l.n (hI s.T l.fm) left c/\Below w.heap.size w wr) (fun _ _ wr=>wr.rangeLeft l.mb w.heap.size)
 ·obtain⟨b,r,G,H⟩:=M.o;exact⟨_,cnt,by rw[G],by rw[H],r,b⟩
 ·
   clear M F;obtain⟨left,c,rfl,rfl,m,hb⟩:=hrel;have mb:=rx left A.o.1 s.T.length;have nb:=rx left A.o.2.1 s.T.length;rcases m.next 0 with⟨h0,hl,F⟩|⟨x,v,B,C,N,D,F,hR2,hlt,am,ap,ar⟩
   ·have q:eK (gu left (ja s.T)) s.T.length=eK (ja s.T) s.T.length:=ns _ (fun i _=>by unfold gu;rw[hl,aG aa])
    have an:eK (gu left (jb s.T)) s.T.length=eK (jb s.T) s.T.length:=ns _ (fun i _=>by unfold gu;rw[hl,aG aa])
    rw[q,an];have d:=hide hb;clear hb m hl;go_wp2;go_ret2;exact⟨rfl,d.o⟩
   ·have J:0<=x/\cv s.T x.toNat:=by
     by_cases c:0<=x/\cv s.T x.toNat
     ·exact c
     ·rw[lE c] at D;cases D
    obtain⟨i,rfl⟩:=Int.eq_ofNat_of_zero_le J.1;have u:cv s.T i:=by simpa using J.2
    rw[i_ J] at D;have hv:=(Option.some.inj D).symm;dsimp only [fW,eD] at hv;rw[Int.toNat_natCast] at hv;subst hv;have s1:=uA left (ja s.T) i s.T.length u.1 N;have s2:=uA left (jb s.T) i s.T.length u.1 N;have aB:=rx (fun y=>left y&&!(y==(i:Int))) A.o.1 s.T.length;have aF:=A.o.2.2 i;have Q:=al.o.g2.fe i u;have b2:=hb.grown am hb.size (fun j I=>by cases I;exact aD _)
    have b3:=b2.alloc b2.size (.cells #[.int .i64 (s.T.getD i t0).1,.slice (l.fm i).1 (s.T.getD i t0).2.1.length (l.fm i).2] 220)
    have P:=Ar ((b3.cell (p:=aq bY 4) X).trans c4) i;have R:ay (∀g,Below (B.alloc (.cells #[.int .i64 (s.T.getD i t0).1,.slice (l.fm i).1 (s.T.getD i t0).2.1.length (l.fm i).2] 220)).heap.size (B.alloc (.cells #[.int .i64 (s.T.getD i t0).1,.slice (l.fm i).1 (s.T.getD i t0).2.1.length (l.fm i).2] 220)) g->gf g l.mb w.heap.size l.n (hI s.T l.fm) (fun y=>left y&&!(y==(i:Int))) C/\Below w.heap.size w g/\C<c):=fun g hb3=>by exact Aj
    have S:=hide m.left_eq;have W:ay (∀w,Calls prog 210 #[.agg #[ah (s.T.getD i t0).1,.slice (l.fm i).1 (s.T.getD i t0).2.1.length (l.fm i).2]] w fun e w'=>e=.returned (ah (1+(s.T.getD i t0).2.1.length))/\Below w.heap.size w w'):=fun w=>uB _ _ _ _ V w;have y1:ja s.T i=if i<l.fe then 0 else 1+((s.T.getD i t0).2.1.length:Int):=by unfold ja;rw[u.2,Q];simp
    have o1:jb s.T i=if i<l.fe then 1+((s.T.getD i t0).2.1.length:Int) else 0:=by unfold jb;rw[u.2,Q];simp
    rw[y1] at s1;rw[o1] at s2;have k:=dq s1 s2;generalize eK (gu left (ja s.T)) s.T.length=Y at*;generalize eK (gu left (jb s.T)) s.T.length=O at*;generalize (s.T.getD i t0).2.1.length=n at*;generalize (s.T.getD i t0).1=kd at*;generalize (l.fm i).1=ad at*;generalize (l.fm i).2=cp at*;by_cases ho:i<l.fe
    ·have q:decide ((i:Int)<(l.fe:Int))=true:=by simp;exact ho
     rw[q] at P;rw[aI ho,aI ho] at k;go_wp2_with fail;refine P.mono ?_;clear P;rintro e g ⟨rfl,rfl⟩
     have U:=W.o (B.alloc (.cells #[.int .i64 kd,.slice ad n cp] 220))
     go_wp2_with fail;refine U.mono ?_;clear U;rintro e K ⟨rfl,L⟩
     have d:=hide (R.o K L)
     go_wp2;go_roundw;exact⟨_,C,by rw[k.o.1];simp,by rw[k.o.2],d.o.1,d.o.2.1⟩
     rw[d.o.1.left_eq,S.o];exact d.o.2.2
    ·have q:decide ((i:Int)<(l.fe:Int))=false:=by simp;omega
     rw[q] at P;rw[aG ho,aG ho] at k;go_wp2_with fail;refine P.mono ?_;rintro e g ⟨rfl,rfl⟩
     go_wp2_with fail;refine(W.o (B.alloc (.cells #[.int .i64 kd,.slice ad n cp] 220))).mono ?_;rintro e K ⟨rfl,L⟩
     have d:=hide (R.o K L)
     go_wp2;go_roundw;exact⟨_,C,by rw[k.o.1],by rw[k.o.2];simp,d.o.1,d.o.2.1⟩
     rw[d.o.1.left_eq,S.o];exact d.o.2.2
end
section
variable {c:Cp}{own own':Nat->Nat}{vt cM:Value}{n1 n2 n1' d6:Nat}{hm hm':Int->Option Addr×Nat}{st:dw}{w w':ax}{is:List Bool}
def ky (T:List cD)(A:List Bool)(i:Nat):Int:=if A.getD i false=true then 1+(T.getD i t0).2.1.length else 0
theorem Iw (hg:hJ c)(h:cU c own vt n1 n2 hm st w)(B:st.A.length=c.s.T.length):
 Calls prog 235 #[aj c.cp] w fun e w'=>e=.returned (ah (iD c.s.T st.A c.s.T.length))/\Below w.heap.size w w':=by
 rw[Aq];have C:(fun i=>if st.A.getD i false=true then 1+((c.s.T.getD i t0).2.1.length:Int) else 0)=ky c.s.T st.A:=rfl;rw[C];obtain⟨_,c1,_,_,_,O⟩:=h.cells;have Q:=hg.t;obtain⟨w1,cnt,o,d,gr,sz⟩:=h.am.range (t:=184) (e:=220) underlying184;have ab:∀i,0<=ky c.s.T st.A i/\ky c.s.T st.A i<=13:=fun i=>by
  have:=hg.iv.tl i;unfold ky;split
  ·omega
  ·omega
 have z:eK (gu (fun x=>(eS c.s.T c.l.fm st.A x).isSome) (ky c.s.T st.A)) c.s.T.length=0:=by
  rw[<-uz c.s.T.length];refine ns _ (fun i hi=>?_)
  have ea:(eS c.s.T c.l.fm st.A (i:Int)).isSome=st.A.getD i false:=by rw[ut V,cL,Int.toNat_natCast]
  unfold gu ky;cases hb:st.A.getD i false
  ·exact(aG (by dsimp only;rw[ea,hb];decide)).trans (aG aa)
  ·exact aI (by dsimp only;rw[ea,hb])
 have p:=g6 ab hg.iv.tl B;have D:=g6 (bX.grown gr bW (fun j q=>by cases q)) d z;clear h hg B d gr ab z C;go_enter func235,ntmps235;go_wp2
 go_loopw [3] (fun y wr=>∃(left:Int->Bool)(k:Nat),y=ah (eK (gu left (ky c.s.T st.A)) c.s.T.length)/\gf wr c.ab w.heap.size n1 (eS c.s.T c.l.fm st.A) left k/\Below w.heap.size w wr) (fun _ wr=>wr.rangeLeft c.ab w.heap.size)
 ·obtain⟨b,r,J⟩:=D.o;exact⟨_,cnt,by rw[J],r,b⟩
 ·
   clear D o;obtain⟨left,k,rfl,d,hb⟩:=hrel;have mb:=rx left p.o.1 c.s.T.length;rcases d.next 0 with⟨h0,hl,o⟩|⟨x,v,s,u,E,f,o,hR2,hlt,F,R,S⟩
   ·rw[(ns _ (fun i _=>by unfold gu;rw[hl,aG aa]))];have g:=hide hb;clear hb d hl;go_wp2;go_ret;exact⟨rfl,g.o⟩
   ·have l:0<=x/\st.A.getD x.toNat false=true:=by
     unfold eS at f;split at f
     ·assumption
     ·cases f
    obtain⟨i,rfl⟩:=Int.eq_ofNat_of_zero_le l.1;have A:st.A.getD i false=true:=by simpa using l.2
    have K:i<c.s.T.length:=by rw[<-p.o.2.2];exact ct.lt A
    have hv:v=fW c.s.T c.l.fm i:=by unfold eS at f;rw[aI l] at f;exact(Option.some.inj f).symm
    dsimp only [fW,eD] at hv;subst hv;have s1:=uA left (ky c.s.T st.A) i c.s.T.length K E;have U:=p.o.2.1 i;have b2:=hb.grown F hb.size (fun j q=>by cases q;exact aD _)
    have b3:=b2.alloc b2.size (.cells #[.int .i64 (c.s.T.getD i t0).1,.slice (c.l.fm i).1 (c.s.T.getD i t0).2.1.length (c.l.fm i).2] 220)
    have G:ay (∀m,Below (s.alloc (.cells #[.int .i64 (c.s.T.getD i t0).1,.slice (c.l.fm i).1 (c.s.T.getD i t0).2.1.length (c.l.fm i).2] 220)).heap.size (s.alloc (.cells #[.int .i64 (c.s.T.getD i t0).1,.slice (c.l.fm i).1 (c.s.T.getD i t0).2.1.length (c.l.fm i).2] 220)) m->gf m c.ab w.heap.size n1 (eS c.s.T c.l.fm st.A) (fun y=>left y&&!(y==(i:Int))) u/\Below w.heap.size w m/\u<k):=fun m hb3=>by exact Aj
    have L:=hide d.left_eq;have H:=uB (c.s.T.getD i t0).1 (c.l.fm i).1 (c.s.T.getD i t0).2.1.length (c.l.fm i).2 V (s.alloc (.cells #[.int .i64 (c.s.T.getD i t0).1,.slice (c.l.fm i).1 (c.s.T.getD i t0).2.1.length (c.l.fm i).2] 220))
    rw[show ky c.s.T st.A i=1+((c.s.T.getD i t0).2.1.length:Int) from by unfold ky;rw[aI A]] at s1;have M:=hide s1;clear d hb E f hR2 F l b2 b3 A s1;generalize eK (gu left (ky c.s.T st.A)) c.s.T.length=Y at*;generalize (c.s.T.getD i t0).2.1.length=n at*;generalize (c.s.T.getD i t0).1=kd at*;generalize (c.l.fm i).1=ad at*;generalize (c.l.fm i).2=cp at*;go_wp2_with fail;refine H.mono ?_;clear H;rintro e N ⟨rfl,I⟩
    have g:=hide (G.o N I)
    clear I G;go_wp2;go_roundw;exact⟨_,u,by rw[M.o],g.o.1,g.o.2.1⟩
    rw[g.o.1.left_eq,L.o];exact g.o.2.2
theorem f7.mark {T:List cD}{wt:List b7}{s:dw}(h:f7 T wt is s)(c:e4 T wt)(v:Int×Int)(hv:v.1=3->0<=v.2/\cv T v.2.toNat)(d:v.1=3->ct is v.2.toNat):f7 T wt is (dZ s v):=
 ⟨h.mi.mark c v hv (fun b X _ hb=>hb _ (d b)),by rw[(nk s v).1,(nk s v).2];exact h.hl,by rw[z7 s v (fun b=>by rw[h.mi.len];exact(hv b).2.1),(nk s v).2];exact h.mm⟩
theorem f7.marks {T:List cD}{wt:List b7}(d:e4 T wt):∀(l:List (Int×Int))(s:dw),f7 T wt is s->(∀v∈l,v.1=3->0<=v.2/\cv T v.2.toNat)->(∀v∈l,v.1=3->ct is v.2.toNat)->f7 T wt is (dm s l)
 |[],_,h,_,_=>h
 |v::l,s,h,hv,e=>f7.marks d l (dZ s v) (h.mark d v (hv v Z) (e v Z)) (fun b c=>hv b (aO _ c)) (fun b c=>e b (aO _ c))
end
structure rz (c:Cp)(f:Nat)(b d:Array Value)(sb:Int->Bool):Prop where
 Ix:dN f
 ca:∀(x:Int)(w:ax),(∀k,k<c.w0.heap.size->w.heap[k]?=c.w0.heap[k]?)->Calls prog f (b.push (ah x)++d) w fun e w'=>e=.returned (.bool (sb x))/\Below w.heap.size w w'
structure As (c:Cp)(sb:Int->Bool)(is:List Bool):Prop where
 st:∀i:Nat,cv c.s.T i->sb i=true->ct is i
 rt:∀v∈c.s.rs,v.1=3->ct is v.2.toNat
 up:∀i:Nat,ct is i->(cv c.s.T i/\sb i=true)\/∃v∈c.s.rs,v.1=3/\v.2.toNat=i
 rv:∀v∈c.s.rs,v.1=3->0<=v.2/\cv c.s.T v.2.toNat
section
variable {c:Cp}{own own':Nat->Nat}{vt cM:Value}{n1 n2 n1' d6:Nat}{hm hm':Int->Option Addr×Nat}{st:dw}{w w':ax}{is:List Bool}{sb:Int->Bool}
theorem Iy {w:ax}{b:Nat}{l:List _}(h:w.heap[b]?=some (.cells (ev l).toArray 97 (0,0))):dv w (ak b) l:=fun _=>by
 refine⟨b,0,rfl,lt_of_some h,fun i hi=>?_⟩
 obtain⟨c,d⟩:=nM l i hi;constructor
 ·simp[World.cell?,h];simpa using c
 ·simp[World.cell?,h];simpa using d
theorem Iz (hg:hJ c)(h:cU c own vt n1 n2 hm st w)(dp:f7 c.s.T c.s.wt is st){f:Nat}{b C:Array Value}(hs:rz c f b C sb)(hi:As c sb is):
 Calls prog 233 #[aj c.cp,.func (.func f) b C] w fun e w'=>∃own' cM n1' d6 hm' d,e=.returned (.tuple #[])/\cU c own' cM n1' d6 hm' d w'/\et own w own' w'/\f7 c.s.T c.s.wt is d/\d.td=[]/\∀k,ct is k->ct d.A k:=by
 have bb:=hs.Ix;unfold dN at bb;obtain⟨c0,_,_,_,_,bt⟩:=h.cells;have gv:=h.gv hg.g;obtain⟨_,_,g2,_,_,_,_,_,bx⟩:=gv.cells;obtain⟨w1,bd,an,F,gr,sz⟩:=gv.g2.mp.range (t:=184) (e:=220) underlying184;have ao:=bX.grown gr bW (fun j G=>by cases G)
 have ap:=g6 hg hs hi;have Q:=jp F ao (h.below ao) dp;have K:ay (c.l.mb<c.w0.heap.size/\own w.heap.size=0/\c.w0.heap.size<=w.heap.size):=⟨hg.g.g2.mp.lt,by
  cases e:own w.heap.size
  ·rfl
  ·exact absurd (h.lt w.heap.size (by rw[e];omega)).2 V,h.sz⟩
 go_enter func233,ntmps233;go_wp2_with fail
 go_loopw [4] (fun _ wr=>∃(left:Int->Bool)(k:Nat)(own':Nat->Nat)(cM:Value)(n1':Nat)(d:dw),ay (gf wr c.l.mb w.heap.size c.l.n (hI c.s.T c.l.fm) left k/\cU c own' cM n1' n2 hm d wr/\et own w own' wr/\own' w.heap.size=0/\f7 c.s.T c.s.wt is d/\∀i:Nat,cv c.s.T i->left i=false->sb i=true->ct d.A i)) (fun _ wr=>wr.rangeLeft c.l.mb w.heap.size)
 ·obtain⟨r,_,g,dp⟩:=Q.o;exact⟨_,bd,own,vt,n1,st,r,g,et.of Q.o.2.1,K.o.2.1,dp,fun i hi h0 _=>by rw[i_ ⟨V,by simpa using hi⟩] at h0;cases h0⟩
 ·
   obtain⟨left,k,own',cM,n1',d,ar⟩:=hrel;obtain⟨F,g,t,ho,dp,hd⟩:=ar.o;obtain⟨hg,hs,hi⟩:=ap.o;rcases F.next 0 with⟨h0,hl,an⟩|⟨x,v,m,L,bY,M,an,p,be,bg,bZ,b0⟩
   ·
     have gv:=g.gv hg.g;obtain⟨b1,_,_,_,_,_⟩:=g.cells;obtain⟨_,_,_,_,_,_,b2,_,_⟩:=gv.cells;have rl:=gv.g4.rl;have P:=mv hg.g hg.t dp.mi.len g (ak c.l.rb) 12 c.s.rs ⟨Iy gv.g4.rt,fun _ z e C=>by
      cases e;have R:=hg.g.lt c.l.rb (by rw[hg.g.g4.ro];decide)
      have S:=(g.lt c.l.rb (by dsimp only at C;omega)).1;omega⟩ hi.rv V
     rw[rl] at P;have bi:ay (∀o u A m,cU c o u A n2 hm (dm d c.s.rs) m->fA own' wr o m->Calls prog 246 #[aj c.cp] m fun e w'=>∃own' cM n1' d6 hm' d,e=.returned (.tuple #[])/\cU c own' cM n1' d6 hm' d w'/\et own w own' w'/\f7 c.s.T c.s.wt is d/\d.td=[]/\∀k,ct is k->ct d.A k):=fun o u A m g2 U=>by
      refine(An hg g2 (dp.marks (s:=d) hg.iv c.s.rs hi.rv hi.rt)).mono ?_;rintro e w' ⟨W,X,Y,ab,ad,ag,rfl,g3,t3,sp⟩
      refine⟨W,X,Y,ab,ad,ag,rfl,g3,(t.trans U.tk).trans t3,sp.dp,sp.td,fun i hk=>sp.up i ?_⟩
      rcases hi.up i hk with⟨R,S⟩|⟨v,hv,ai,e⟩
      ·exact ku _ _ (hd i R (hl _) S)
      ·rw[<-e];exact ul d c.s.rs (fun v hv ai=>by rw[dp.mi.len];exact(hi.rv v hv ai).2.1) v hv ai
     clear F g t dp hd hg hs hi gv hl ar ap K Q rl ho;go_wp2_with fail;refine P.mono ?_;rintro e m ⟨o,u,A,rfl,g2,U⟩
     have P:=bi.o o u A m g2 U;go_wp2_with fail;refine P.mono ?_;rintro e l ⟨W,X,Y,ab,ad,ag,rfl,q⟩
     have D:=hide q;go_wp2_with fail;go_end0;exact⟨W,X,Y,ab,ad,ag,rfl,D.o⟩
   ·have H:0<=x/\cv c.s.T x.toNat:=by
     by_cases e:0<=x/\cv c.s.T x.toNat
     ·exact e
     ·rw[lE e] at M;cases M
    obtain⟨i,rfl⟩:=Int.eq_ofNat_of_zero_le H.1;have aB:cv c.s.T i:=by simpa using H.2
    have hz:=K.o.2.2;have al:Fr (fun b=>b=w.heap.size) wr m:=(Fr.refl _ wr).grown bg (fun j e=>aK (by cases e;rfl))
    have I:cU c own' cM n1' n2 hm d m:=g.keep al.size (fun b hb=>al.block b (hb.elim (fun e=>aM e g.sz) (fun e=>(g.lt b e).2)) (fun e=>by
     subst e;rcases hb with e|e
     ·omega
     ·exact e ho))
    have aF:et own w own' m:=⟨t.fr.trans al (fun b e=>aJ (by rw[e];exact aD _)),t.nw⟩
    have P:=hs.ca i m (fun k hk=>I.ol k hk)
    have N:=dq F.left_eq be;have aR:ay (∀l,Below m.heap.size m l->sb i=false->gf l c.l.mb w.heap.size c.l.n (hI c.s.T c.l.fm) (fun y=>left y&&!(y==(i:Int))) L/\cU c own' cM n1' n2 hm d l/\et own w own' l/\own' w.heap.size=0/\f7 c.s.T c.s.wt is d/\∀j:Nat,cv c.s.T j->(left j&&!((j:Int)==(i:Int)))=false->sb j=true->ct d.A j):=fun l n B=>by
     refine⟨p.same (n.block _ p.nl.lt) (n.block _ p.lt),I.below n,aF.trans (et.of n),ho,dp,fun j G h0 J=>?_⟩
     by_cases e:j=i
     ·subst e;rw[B] at J;cases J
     ·refine hd j G ?_ J;rwa [show((j:Int)==(i:Int))=false from by simp;omega,Bool.not_false,Bool.and_true] at h0
    have bl:ay (∀l,Below m.heap.size m l->sb i=true->Calls prog 245 #[aj c.cp,.slice (ak l.heap.size) 1 1] (l.alloc (.cells #[.int .i64 3,.int .i64 i] 97)) fun e w'=>∃o u A,e=.returned (.tuple #[])/\
     gf w' c.l.mb w.heap.size c.l.n (hI c.s.T c.l.fm) (fun y=>left y&&!(y==(i:Int))) L/\cU c o u A n2 hm (dZ d (3,i)) w'/\et own w o w'/\o w.heap.size=0/\f7 c.s.T c.s.wt is (dZ d (3,i))/\∀j:Nat,cv c.s.T j->(left j&&!((j:Int)==(i:Int)))=false->sb j=true->ct (dZ d (3,i)).A j):=fun l n B=>by
     have E:=n.alloc n.size (.cells #[.int .i64 3,.int .i64 i] 97)
     refine(mv hg.g hg.t dp.mi.len (I.below E) (ak l.heap.size) 1 [(3,(i:Int))] (jF.one (I.below n) (3,(i:Int))) (fun b3 aV _=>by simp at aV;rw[aV];exact H) Z).mono ?_;rintro e w' ⟨o,u,A,rfl,g5,O⟩
     have am:=E.size;refine⟨o,u,A,rfl,p.same ((O.fr.block _ (aM p.nl.lt am) (fun C=>?_)).trans (E.block _ p.nl.lt)) ((O.fr.block _ (aM p.lt am) (fun C=>?_)).trans (E.block _ p.lt)),g5,(aF.trans (et.of E)).trans O.tk,?_,dp.mark hg.iv (3,(i:Int)) (fun _=>H) (fun _=>by simpa using hi.st i aB B),fun j G h0 J=>?_⟩
     ·have R:=(I.lt c.l.mb V).1;have S:=K.o.1;omega
     ·rw[ho] at C;omega
     ·rw[O.old _ (aM p.lt am)];exact ho
     ·by_cases e:j=i
      ·subst e;exact uk d (3,(j:Int)) rfl (by rw[dp.mi.len];simpa using aB.1)
      ·refine ni _ _ (hd j G ?_ J)
       rwa [show((j:Int)==(i:Int))=false from by simp;omega,Bool.not_false,Bool.and_true] at h0
    obtain⟨a0,a1,a2,vc,bn⟩:∃a0 a1 a2 vc,v=.agg #[ah a0,.slice a1 a2 vc]:=by rw[i_ H] at M;exact⟨_,_,_,_,(Option.some.inj M).symm⟩
    subst bn;cases B:sb i
    ·rw[B] at P;have b4:=aR;go_wp2_with fail;refine P.mono ?_;rintro e l ⟨rfl,n⟩
     have D:=hide (aR.o l n B)
     go_wp2_with fail;go_roundw;exact⟨_,L,own',cM,n1',d,D⟩
     rw[D.o.1.left_eq,N.o.1];exact N.o.2
    ·rw[B] at P;go_wp2_with fail;refine P.mono ?_;rintro e l ⟨rfl,n⟩
     go_wp2_with fail;refine(ow i l).mono ?_;rintro e bo ⟨rfl,E⟩
     go_wp2_with fail;refine(bl.o bo (n.trans (E.mono n.size)) B).mono ?_;rintro e b5 ⟨bp,br,bs,rfl,q⟩
     have D:=hide q;go_wp2_with fail;go_roundw;exact⟨_,L,bp,br,bs,_,D⟩
     rw[D.o.1.left_eq,N.o.1];exact N.o.2
end
def jk (c:Cp)(bx:Nat):dr (List Bool) where
 J F A w:=∃b st,(rj c).J b st w/\st.A=A/\st.td=[]/\f7 c.s.T c.s.wt A st/\w.heap[bx]?=some (.cells #[aj c.cp] 249 (0,0))/\¬b bx/\∀k,F k↔b k\/k=bx
 lt:=by
  rintro F A w ⟨b,st,h,_,_,_,hb,_,d⟩ k hk;rcases(d k).1 hk with e|e
  ·exact(rj c).lt h k e
  ·rw[e];exact lt_of_some hb
 keep:=by rintro F A w w' ⟨b,st,h,f,g,dp,hb,hn,d⟩ hs hk;exact⟨b,st,(rj c).keep h hs (fun k i=>hk k ((d k).2 (aK i))),f,g,dp,(hk bx ((d bx).2 (aJ rfl))).trans hb,hn,d⟩
def my (c:Cp)(x:Int):Prop:=0<=x/\cv c.s.T x.toNat
theorem IA:dN 247:=f_ func247 ae rfl
theorem IB:dN 248:=f_ func248 ae rfl
theorem IC:dN 249:=f_ func249 ae rfl
section
variable {c:Cp}{own own':Nat->Nat}{vt cM:Value}{n1 n2 n1' d6:Nat}{hm hm':Int->Option Addr×Nat}{st:dw}{w w':ax}{is:List Bool}{bx:Nat}{g:List Bool->List Bool}
theorem ID (hg:hJ c):j8 (jk c bx) (my c) 247 #[aj c.cp] #[] cL:=by
 rintro F A w x ⟨b,d⟩ ⟨e,st,⟨own,vt,n1,n2,hm,h,_⟩,rfl,_⟩
 exact H4 h x b (by have:=d.1;have:=hg.t;omega)
theorem IE:k4 (jk c bx) (my c) 249 #[] #[] (fun _ x=>x):=by rintro F A w x _ _;go_wp2;go_ret;exact⟨rfl,aH _ _⟩
theorem IF (l:dR c.s.T c.s.wt g){A:List Bool}{st b:dw}(d:f7 c.s.T c.s.wt A st)(f:st.A=A){x:Int}(i:my c x)(sp:Al c.s.T c.s.wt (A.set x.toNat true) (dZ st (3,x)) b):b.A=fw g A x/\f7 c.s.T c.s.wt (fw g A x) b:=by
 have hl:A.length=c.s.T.length:=by rw[<-f];exact d.mi.len
 have hi:∀k,ct (A.set x.toNat true) k↔x.toNat=k\/ct A k:=fun k=>by
  unfold ct;rw[i7 _ _ _ (by rw[hl];exact i.2.1)];split
  ·exact⟨fun _=>aK ‹_›,fun _=>rfl⟩
  ·exact⟨aJ,fun c=>c.resolve_left ‹_›⟩
 have hd:=sp.dp.mi.done sp.td (by rw[a4];exact hl) (fun k hk=>sp.up k (by
  rcases(hi k).1 hk with e|e
  ·rw[<-e];exact uk st (3,x) rfl (by rw[d.mi.len];exact i.2.1)
  ·exact ni _ _ (by rw[f];exact e)))
 have m:=l (A.set x.toNat true) (by rw[a4];exact hl) (fun k hk=>by
  rcases(hi k).1 hk with e|e
  ·rw[<-e];exact i.2
  ·exact d.mi.al k (by rw[f];exact e))
 have j:b.A=fw g A x:=hd.uniq m;exact⟨j,⟨sp.dp.mi.base (fun k hk=>by rw[<-j];exact hk),sp.dp.hl,sp.dp.mm⟩⟩
theorem IG (hg:hJ c)(E:dR c.s.T c.s.wt g):nT (jk c bx) (my c) 248 #[] #[aj bx] (fun A x=>(x,fw g A x)):=by
 rintro F A w x i ⟨G,st,⟨own,vt,n1,n2,hm,h,l⟩,m,W,dp,hb,hn,n⟩
 show Calls prog 248 #[ah x,aj bx] w _;have H:own bx=0:=by
  cases e:own bx
  ·rfl
  ·exact absurd ((l bx).2 (aJ (by rw[e];omega))) hn
 have lb:=lt_of_some hb;have X:_:=fun d=>hn ((l bx).2 (aK d))
 have u:w.cell? (aq bx 0)=some (aj c.cp):=aA hb
 have I:f7 c.s.T c.s.wt (A.set x.toNat true) (dZ st (3,x)):=by
  have hl:A.length=c.s.T.length:=by rw[<-m];exact dp.mi.len
  refine f7.mark ⟨dp.mi.base (fun k hk=>z6 (by rw[<-m];exact hk)),dp.hl,dp.mm⟩ hg.iv (3,x) (fun _=>i) (fun _=>?_)
  unfold ct;rw[i7 _ _ _ (by rw[hl];exact i.2.1),aI rfl]
 have J:ay (∀w1,Below w.heap.size w w1->Calls prog 245 #[aj c.cp,.slice (ak w1.heap.size) 1 1] (w1.alloc (.cells #[.int .i64 3,.int .i64 x] 97)) fun e w'=>e=.returned (.tuple #[])/\w'.cell? (aq bx 0)=some (aj c.cp)/\
  ay (Calls prog 246 #[aj c.cp] w' fun e o=>e=.returned (.tuple #[])/\∃j,(jk c bx).J j (fw g A x) o/\Fr F w o/\∀k,j k->F k\/w.heap.size<=k)):=fun w1 f=>by
  have v:=f.alloc f.size (.cells #[.int .i64 3,.int .i64 x] 97)
  refine(mv hg.g hg.t dp.mi.len (h.below v) (ak w1.heap.size) 1 [(3,x)] (jF.one (h.below f) (3,x)) (fun Y B _=>by simp at B;rw[B];exact i) Z).mono ?_;rintro e w' ⟨ab,ad,ag,rfl,g5,K⟩
  have C:=(fA.of v (fun b hb=>(h.lt b hb).2)).trans K;have L:=C.fr.block bx lb (fun d=>by omega)
  refine⟨rfl,(aP (a:=⟨bx,0,none⟩) L).trans u,?_⟩
  refine(An hg g5 I).mono ?_;rintro e o ⟨ai,al,am,an,ao,M,rfl,g3,t3,sp⟩
  obtain⟨q1,s⟩:=IF E dp m i sp;have tk:=C.tk.trans t3;obtain⟨D,N,t⟩:=H9 (F:=G) g3 l tk.fr tk.nw;have O:=tk.fr.block bx lb (fun d=>d H)
  have Q:_:=fun d=>(t.sub bx d).elim hn (fun d=>by omega)
  exact⟨rfl,fun k=>D k\/k=bx,⟨D,M,N,q1,sp.td,s,O.trans hb,Q,fun _=>Iff.rfl⟩,t.fr.mono (fun k d=>(n k).2 (aK d)),fun k d=>d.elim (fun d=>(t.sub k d).imp (fun d=>(n k).2 (aK d)) id) (fun d=>aK ((n k).2 (aJ d)))⟩
 go_enter func248,ntmps248;go_wp2_with fail
 go_region_held3 (fun w'=>w'.cell? (aq bx 0)=some (aj c.cp)) (go_keep)
  (first
    |(go_at_call 239;refine(ow x _).mono ?_;rintro e w1 ⟨rfl,f⟩;have b1:=(f.cell (p:=aq bx 0) lb).trans u;have R:=hide ((aH _ w).drew.trans (f.mono bW)))
    |(go_at_call 245;refine(J.o w1 R.o).mono ?_;rintro e ap ⟨rfl,b2,S⟩))
 all_goals
  have P:=S.o;go_wp2_with fail;refine P.mono ?_;rintro e ar ⟨rfl,q⟩
  have U:=hide q;go_wp2_with fail;go_ret;obtain⟨j,q1,s,q3⟩:=U.o;exact⟨j,rfl,q1,s,q3⟩
end
structure nt {σ:Type}(lk:σ->b7->Bool×σ)(g:List Bool->List Bool)(pe:b7->b7)(R:List b7)(ρ:σ->List Bool->List b7->Prop):Prop where
 no:∀t L C e,ρ t L C->e∈R->cL L e.1=false->lk t (pe e)=(false,t)
 yes:∀t L C e,ρ t L C->e∈R->cL L e.1=true->(lk t (pe e)).1=true/\ρ (lk t (pe e)).2 (fw g L e.2) (C++[e])
section
variable {σ:Type}{lk:σ->b7->Bool×σ}{g:List Bool->List Bool}{pe:b7->b7}{R:List b7}{ρ:σ->List Bool->List b7->Prop}
theorem nt.pass (h:nt lk g pe R ρ):∀(l:List b7)(t:σ)(L:List Bool)(C D A:List b7),(∀e∈l,e∈R)->ρ t L C->
 ρ ((l.map pe).foldl (eh lk) (A,D.map pe,t)).2.2 (cf.pass cL (fw g) l L C D).1 (cf.pass cL (fw g) l L C D).2.1/\((l.map pe).foldl (eh lk) (A,D.map pe,t)).2.1=(cf.pass cL (fw g) l L C D).2.2.map pe/\
 ((l.map pe).foldl (eh lk) (A,D.map pe,t)).1.length+C.length=A.length+(cf.pass cL (fw g) l L C D).2.1.length
 |[],t,L,C,D,A,_,hr=>⟨hr,rfl,rfl⟩
 |e::l,t,L,C,D,A,hl,hr=>by
  have he:=hl e Z;rw[List.map_cons,a8];cases c:cL L e.1
  ·have b:eh lk (A,D.map pe,t) (pe e)=(A,(D++[e]).map pe,t):=by unfold eh;rw[h.no t L C e hr he c,List.map_append];rfl
   rw[b,cf.pass,c,aG Z];exact h.pass l t L C (D++[e]) A (fun x d=>hl x (aO _ d)) hr
  ·obtain⟨y1,f⟩:=h.yes t L C e hr he c;have b:eh lk (A,D.map pe,t) (pe e)=(A++[pe e],D.map pe,(lk t (pe e)).2):=by unfold eh;rw[aI y1]
   rw[b,cf.pass,c,aI rfl];obtain⟨i,j,k⟩:=h.pass l _ _ _ D _ (fun x d=>hl x (aO _ d)) f;refine⟨i,j,?_⟩
   simp only [List.length_append,List.length_cons,List.length_nil] at k;omega
theorem uD {σ:Type}(is:σ->Int->Bool)(kp:σ->Int->σ)(e:b7):∀(l:List b7)(s:σ)(C D:List b7),e∈(cf.pass is kp l s C D).2.2->e∈D\/e∈l
 |[],_,_,_,h=>aK h
 |x::l,s,C,D,h=>by
  rw[cf.pass] at h;split at h
  ·exact(uD is kp e l _ _ _ h).imp id (aO _)
  ·rcases uD is kp e l _ _ _ h with b|b
   ·rcases List.mem_append.1 b with b|b
    ·exact aK b
    ·exact aJ (by rw[List.mem_singleton.1 b];simp)
   ·exact aJ (aO _ b)
theorem Au {σ:Type}(is:σ->Int->Bool)(kp:σ->Int->σ)(l:List b7)(s:σ)(C:List b7)(e:b7)(h:e∈(cf.pass is kp l s C []).2.2):e∈l:=
 (uD is kp e l s C [] h).resolve_left Z
theorem nt.turns (h:nt lk g pe R ρ):∀(n:Nat)(D:List b7)(t:σ)(L:List Bool)(C:List b7),(∀e∈D,e∈R)->ρ t L C->
 ρ (eB lk n t (D.map pe)).1 (cf.turns cL (fw g) n D L C).1 (cf.turns cL (fw g) n D L C).2.1/\(eB lk n t (D.map pe)).2=(cf.turns cL (fw g) n D L C).2.2.map pe
 |0,D,t,L,C,_,hr=>⟨hr,rfl⟩
 |n+1,D,t,L,C,f,hr=>by
  obtain⟨b,d,i⟩:=h.pass D t L C [] [] f hr;have b:=b;have d:(pts lk t (D.map pe)).2.1=(cf.pass cL (fw g) D L C []).2.2.map pe:=d;have i:(pts lk t (D.map pe)).1.length+C.length=0+(cf.pass cL (fw g) D L C []).2.1.length:=i;by_cases c:(pts lk t (D.map pe)).1.length=0
  ·rw[lQ _ _ _ _ c,BU V];exact⟨b,d⟩
  ·rw[lR _ _ _ _ c,BS V,d];exact h.turns n _ _ _ _ (fun e he=>f e (Au _ _ D L C e he)) b
end
theorem rA {d:Type}(lk:d->b7->Bool×d):∀(n k:Nat)(t:d)(b:List b7),b.length<n->b.length<k->eB lk n t b=eB lk k t b
 |0,_,_,_,h,_=>absurd h V
 |_+1,0,_,_,_,h=>absurd h V
 |n+1,k+1,t,b,e,f=>by
  have hl:=oL lk t b;by_cases c:(pts lk t b).1.length=0
  ·rw[lQ _ _ _ _ c,lQ _ _ _ _ c]
  ·rw[lR _ _ _ _ c,lR _ _ _ _ c];exact rA lk n k _ _ V V
theorem lH {b d:Type}(f:b->d)(p:d->Bool)(q:b->Bool):∀l:List b,(∀x∈l,p (f x)=q x)->(l.map f).filter p=(l.filter q).map f
 |[],_=>rfl
 |x::l,h=>by
  have e:=lH f p q l (fun y hy=>h y (aO _ hy))
  have g:=h x Z;rw[List.map_cons];cases c:q x
  ·rw[List.filter_cons_of_neg (by rw[g,c];simp),List.filter_cons_of_neg (by rw[c];simp),e]
  ·rw[List.filter_cons_of_pos (by rw[g,c]),List.filter_cons_of_pos c,List.map_cons,e]
section
variable {c:Cp}{bx p:Nat}{vr:Value}{g:List Bool->List Bool}{A:List Bool}{q r:List b7}
abbrev nu (s:List Bool×List b7)(x:Int):Bool:=cL s.1 x
abbrev ny (g:List Bool->List Bool)(s:List Bool×List b7)(x:Int):Int×(List Bool×List b7):=(x,(fw g s.1 x,s.2))
abbrev uE (_:List Bool×List b7)(x:Int):Int:=x
def fO (g:List Bool->List Bool)(A:List Bool)(r:List b7):List Bool×List b7×List b7:=turns cL (fw g) (r.length+1) (r.filter (fun e=>!cL A e.2)) A []
theorem IH (q:List b7):nt (cm (c7 (jk c bx) p vr) nu (ny g)) g id r (fun t L C=>t=(L,q++C)) where
 no:=by rintro t L C e rfl _ h;exact mR h
 yes:=by
  rintro t L C e rfl _ h;have b:=mS (o:=c7 (jk c bx) p vr) (is:=nu) (kp:=ny g) (s:=(L,q++C)) h;refine⟨by rw[id,b],?_⟩
  rw[id,b];show(fw g L e.2,(q++C)++[(e.1,e.2)])=_;rw[ba]
theorem rB:ft (c7 (jk c bx) p vr) nu (ny g) (A,q) r=((fO g A r).1,q++(fO g A r).2.1):=by have h:=((IH (c:=c) (bx:=bx) (p:=p) (vr:=vr) (g:=g) q).turns (r.length+1) (r.filter (fun e=>!cL A e.2)) (A,q) A [] (fun e he=>(List.mem_filter.1 he).1) (by rw[List.append_nil])).1;rw[List.map_id] at h;refine Eq.trans ?_ h;show(eB _ ((r.filter (fun e=>!cL A e.2)).length+1) (A,q) (r.filter (fun e=>!cL A e.2))).1=_;have hl:=bm (fun e:b7=>!cL A e.2) r;rw[rA (cm (c7 (jk c bx) p vr) nu (ny g)) _ (r.length+1) _ _ (Nat.lt_succ_self _) V]
theorem II:eO (c7 (jk c bx) p vr) nu (ny g) uE (A,q) r=r.filter (fun e=>cL A e.2&&cL (fO g A r).1 e.1):=by
 unfold eO;rw[rB,List.filter_filter,List.map_id'']
 ·congr 1
  funext e
  rw[Bool.and_comm]
 ·exact fun _=>rfl
theorem IJ:eP (c7 (jk c bx) p vr) nu (ny g) uE (A,q) r=(q++(fO g A r).2.1).filter (fun e=>cL (fO g A r).1 e.1):=by unfold eP;rw[rB];rw[List.map_id'' (fun _=>rfl)];rfl
theorem IK (e:b7)(h:e∈(fO g A r).2.1):e∈r:=by have b:=vC (is:=cL) (kp:=fw g) e (r.length+1) (r.filter (fun e=>!cL A e.2)) A [];have c:=List.count_pos_iff.2 h;unfold fO at c;rw[List.count_nil] at b;have d:0<(r.filter (fun e=>!cL A e.2)).count e:=V;exact(List.mem_filter.1 (List.count_pos_iff.1 d)).1
end
section
variable {c:Cp}{own own':Nat->Nat}{vt cM:Value}{n1 n2 n1' d6:Nat}{hm hm':Int->Option Addr×Nat}{st:dw}{w w':ax}{is:List Bool}{g:List Bool->List Bool}
theorem IL (hg:hJ c)(J:dR c.s.T c.s.wt g)(hv:fH c.s)(h:cU c own vt n1 n2 hm st w)(dp:f7 c.s.T c.s.wt st.A st)(K:st.td=[]):
 Calls prog 234 #[aj c.cp] w fun e w'=>∃own' cM n1' d6 hm' f p a1 k1 a2 i,e=.returned (aj p)/\cU c own' cM n1' d6 hm' f w'/\f.A=(fO g st.A c.s.rg).1/\f.td=[]/\f7 c.s.T c.s.wt f.A f/\et own w own' w'/\
  fu w' p a1 k1 a2 i (c.s.rg.filter (fun e=>cL st.A e.2&&cL (fO g st.A c.s.rg).1 e.1)) ((c.s.wt++(fO g st.A c.s.rg).2.1).filter (fun e=>cL (fO g st.A c.s.rg).1 e.1))/\
  (w.heap.size<=p/\own' p=0)/\(∀k,some k=(Value.slice a1 (c.s.rg.filter (fun e=>cL st.A e.2&&cL (fO g st.A c.s.rg).1 e.1)).length k1).ownBlock->w.heap.size<=k/\own' k=0/\some k≠(Value.slice a2 ((c.s.wt++(fO g st.A c.s.rg).2.1).filter (fun e=>cL (fO g st.A c.s.rg).1 e.1)).length i).ownBlock)/\
  (∀k,some k=(Value.slice a2 ((c.s.wt++(fO g st.A c.s.rg).2.1).filter (fun e=>cL (fO g st.A c.s.rg).1 e.1)).length i).ownBlock->w.heap.size<=k/\own' k=0):=by
 have b1:=au w (.cells #[.pointer (some ⟨c.cp,0,none⟩)] 249)
 obtain⟨c0,_,_,_,_,aV⟩:=h.cells;have gv:=h.gv hg.g;obtain⟨_,_,_,_,_,g5,_,_,a0⟩:=gv.cells;have P:=yN _ c.l.bp c.l.a0 c.l.a1 c.l.k0 c.l.k1 c.s.rg c.s.wt ((h.below b1).gv hg.g).g3.sd (aT hv.gl aa) (aT hv.wl aa)
 have L:own w.heap.size=0:=by
  cases e:own w.heap.size
  ·rfl
  ·exact absurd (h.lt w.heap.size (by rw[e];omega)).2 V
 have D:ay (∀w1 p u k0 b1 k1,Below w.heap.size w w1->w1.heap[w.heap.size]?=some (.cells #[aj c.cp] 249 (0,0))->w.heap.size+1<=p->fu w1 p u k0 b1 k1 c.s.rg c.s.wt->(∀z,u=some z->w.heap.size+1<=z.block)->(∀z,b1=some z->w.heap.size+1<=z.block)->(∀k,some k=(Value.slice u c.s.rg.length k0).ownBlock->some k≠(Value.slice b1 c.s.wt.length k1).ownBlock)->
  Calls prog 78 #[aj p,.agg #[.func (.func 247) #[aj c.cp] #[],.func (.func 248) #[] #[aj w.heap.size],.func (.func 249) #[] #[]]] w1 fun e w'=>∃own' cM n1' d6 hm' f a1 k1 a2 i,e=.returned (.tuple #[])/\cU c own' cM n1' d6 hm' f w'/\f.A=(fO g st.A c.s.rg).1/\f.td=[]/\f7 c.s.T c.s.wt f.A f/\et own w own' w'/\
   fu w' p a1 k1 a2 i (c.s.rg.filter (fun e=>cL st.A e.2&&cL (fO g st.A c.s.rg).1 e.1)) ((c.s.wt++(fO g st.A c.s.rg).2.1).filter (fun e=>cL (fO g st.A c.s.rg).1 e.1))/\
   (w.heap.size<=p/\own' p=0)/\(∀k,some k=(Value.slice a1 (c.s.rg.filter (fun e=>cL st.A e.2&&cL (fO g st.A c.s.rg).1 e.1)).length k1).ownBlock->w.heap.size<=k/\own' k=0/\some k≠(Value.slice a2 ((c.s.wt++(fO g st.A c.s.rg).2.1).filter (fun e=>cL (fO g st.A c.s.rg).1 e.1)).length i).ownBlock)/\
   (∀k,some k=(Value.slice a2 ((c.s.wt++(fO g st.A c.s.rg).2.1).filter (fun e=>cL (fO g st.A c.s.rg).1 e.1)).length i).ownBlock->w.heap.size<=k/\own' k=0)):=by
  intro w1 p s k0 n k1 hb o hp l bb M bd;have v:∀k,((k<c.w0.heap.size\/own k≠0)\/k=w.heap.size)->k<w.heap.size+1:=fun k hk=>by
   have hz:=h.sz;rcases hk with(d|d)|d
   ·omega
   ·have:=(h.lt k d).2;omega
   ·omega
  have nq:∀k,some k=(Value.slice n c.s.wt.length k1).ownBlock->w.heap.size+1<=k:=fun k e=>by
   cases n with
   |none=>cases e
   |some z=>cases e;exact M z rfl
  have N:(jk c w.heap.size).J (fun k=>(k<c.w0.heap.size\/own k≠0)\/k=w.heap.size) st.A w1:=⟨fun k=>k<c.w0.heap.size\/own k≠0,st,⟨own,vt,n1,n2,hm,h.below hb,fun _=>Iff.rfl⟩,rfl,K,dp,o,fun d=>by
   have hz:=h.sz;rcases d with d|d
   ·omega
   ·exact d L,fun _=>Iff.rfl⟩
  have O:(c7 (jk c w.heap.size) p (.slice s c.s.rg.length k0)).J (fun k=>((k<c.w0.heap.size\/own k≠0)\/k=w.heap.size)\/k=p\/some k=(Value.slice n c.s.wt.length k1).ownBlock) (st.A,c.s.wt) w1:=⟨_,n,k1,N,l.blk,l.q0,fun k d=>aK d,aJ (aK rfl),fun d=>by have:=v p d;omega,fun k e=>⟨aJ (aJ e),fun d=>by have m:=v k d;have Q:=nq k e;omega⟩,fun k d=>by
   have hz:=hb.size;have be:=lt_of_some o;rcases d with d|d|d
   ·have:=v k d;omega
   ·rw[d];exact lt_of_some l.blk
   ·exact(cn l.q0 k d).2⟩
  have E:∀e∈c.s.rg,my c e.1/\my c e.2:=fun e he=>⟨(hv.gv e he).1,(hv.gv e he).2⟩
  have P:=qa (c7 (jk c w.heap.size) p (.slice s c.s.rg.length k0)) (my c) ⟨247,#[aj c.cp],#[]⟩ ⟨248,#[],#[aj w.heap.size]⟩ ⟨249,#[],#[]⟩ nu (ny g) uE
   (qb (jk c w.heap.size) p _ (my c) _ _ _ cL (fun A x=>(x,fw g A x)) (fun _ x=>x) IA IB IC (ID hg) (IG hg J) IE) c.s.rg s k0 rfl (aT hv.gl aa) E _ (st.A,c.s.wt) w1 (by
     rw[rB];intro e he;rcases List.mem_append.1 he with he|he
     ·exact⟨hv.wg e he,hg.iv.wv e he⟩
     ·exact E e (IK e he)) (by have m:=hv.gl;have Q:=hv.wl;show c.s.wt.length+_<=_;omega) O (g7 l.r0)
  rw[II,IJ,rB] at P;refine P.mono ?_;rintro e w' ⟨a1,R,a2,S,F,bg,rfl,⟨U,bi,bl,⟨bn,f,⟨own',cM,n1',d6,hm',W,X⟩,G,Y,ab,bo,bp,ad⟩,_,_,ag,_,np,_,_⟩,same,ai,al,H,I,fr,am,an,ao,ap⟩
  have t:∀b,b<c.w0.heap.size\/own' b≠0->F b/\b≠p:=fun b j=>by
   have m:U b:=(ad b).2 (aK ((X b).2 j))
   exact⟨ag b m,fun e=>np (by rw[<-e];exact m)⟩
  have B:cU c own' cM n1' d6 hm' f w':=W.keep ai (fun b j=>same b (t b j).1 (t b j).2)
  have z0:∀b,¬F b->own' b=0:=fun b j=>by
   cases e:own' b
   ·rfl
   ·exact absurd (t b (aJ (by rw[e];omega))).1 j
  have ar:own' p=0:=by
   cases e:own' p
   ·rfl
   ·exact absurd rfl (t p (aJ (by rw[e];omega))).2
  have aB:=hb.size;have tk:et own w own' w':=by
   refine⟨⟨fr.os.trans hb.os,fr.tape.trans hb.tape,fr.output.trans hb.output,aT aB fr.size,fun k hk hn=>?_⟩,fun b j=>?_⟩
   ·by_cases C:k<c.w0.heap.size
    ·exact(B.ol k C).trans (h.ol k C).symm
    ·refine(fr.block k V (fun d=>?_)).trans (hb.block k hk)
     rcases d with((d|d)|d)|d|d
     ·exact C d
     ·exact hn d
     ·omega
     ·omega
     ·have:=nq k d;omega
   ·rcases am b (t b (aJ j)).1 with d|d
    ·rcases d with((d|d)|d)|d|d
     ·have:=(B.lt b j).1;omega
     ·exact aK d
     ·exact aJ V
     ·exact aJ V
     ·have:=nq b d;exact aJ V
    ·exact aJ V
  refine⟨own',cM,n1',d6,hm',f,a1,R,a2,S,rfl,B,G,Y,by rw[G];exact ab,tk,⟨al,eU H (fun _ _=>aY _),eU I (fun _ _=>aY _)⟩,⟨V,ar⟩,fun k e=>⟨?_,z0 k (an k e),ap k e⟩,fun k e=>⟨?_,z0 k (ao k e)⟩⟩
  ·have:=(cn H k e).1;omega
  ·have:=(cn I k e).1;omega
 generalize (c.s.rg.filter (fun e=>cL st.A e.2&&cL (fO g st.A c.s.rg).1 e.1))=br at*;generalize ((c.s.wt++(fO g st.A c.s.rg).2.1).filter (fun e=>cL (fO g st.A c.s.rg).1 e.1))=bs at*;go_enter func234,ntmps234;go_wp2_with fail;refine P.mono ?_;rintro e w1 ⟨p,s,k0,n,k1,rfl,hp,l,h0,m,hn,hb⟩
 have o:=(hb.block w.heap.size Z).trans (aN w (.cells #[.pointer (some ⟨c.cp,0,none⟩)] 249))
 have hz:(w.alloc (.cells #[.pointer (some ⟨c.cp,0,none⟩)] 249)).heap.size=w.heap.size+1:=Z;rw[hz] at hp h0 m;have bt:w1.cell? (aq w.heap.size 0)=some (aj c.cp):=aA o
 have P:=D.o w1 p s k0 n k1 (b1.trans (hb.mono b1.size)) o hp l h0 m hn;clear hb l h0 m hn o b1 D;go_wp2_with fail;refine P.mono ?_;rintro e bx ⟨own',cM,n1',d6,hm',f,a1,aF,a2,i,rfl,q⟩
 have aR:ay (_):=q;go_wp2_with fail;go_ret;exact⟨own',cM,n1',d6,hm',f,p,a1,aF,a2,i,rfl,aR.o⟩
end
end Go.Proofs.YtpkjkjhanlbcoaaGreat
